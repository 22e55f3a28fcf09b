/- The statement WordKnown: the examples, one by one, and the walk. -/
import Derived.Test.YtkbnciekhllcpaaRows
import Derived.WalkKit
import Derived.ProofKit
import Derived.Deep.QuietTactic
import Derived.BigQuiet
import Derived.OwnWalk
import Derived.Laws.CopyOwn
import Derived.Laws.AppendOwn
import Derived.Laws.OwnMore
import Derived.Laws.AppendOwnNone
import Derived.Deep.Draws
import Derived.Lib.Hide
import Derived.Test.YtkbnciekhllcpaaFields3
import Derived.Test.YtkbnciekhllcpaaWordLaws
namespace Go.Proofs.Ytkbnciekhllcpaa
open Go.RowKit
set_option linter.unusedVariables false
namespace W

theorem x_sub (w : World) : Calls Try.prog 32 #[.int .u32 2147483648, .int .u32 1] w fun e w' => e = .returned (.tuple #[.int .u32 2147483647, .int .i64 3, .bool true]) ∧ w = w' :=
  (wSub_any 2147483648 1 (by decide) (by decide) (by decide) (by decide) w).mono fun e w' ⟨he, hw⟩ => ⟨he.trans (by kernel_rfl), hw⟩

theorem x_com (w : World) : Calls Try.prog 34 #[.int .u32 2147483648] w fun e w' => e = .returned (.tuple #[.int .u32 2147483648, .int .i64 3, .bool true]) ∧ w = w' :=
  (wComplement_any 2147483648 (by decide) (by decide) w).mono fun e w' ⟨he, hw⟩ => ⟨he.trans (by kernel_rfl), hw⟩

theorem x_al (w : World) : Calls Try.prog 36 #[.int .u32 4294967295, .int .u32 1] w fun e w' => e = .returned (.tuple #[.int .u32 0, .int .i64 2]) ∧ w = w' :=
  (wAddLogical_any 4294967295 1 (by decide) (by decide) (by decide) (by decide) w).mono fun e w' ⟨he, hw⟩ => ⟨he.trans (by kernel_rfl), hw⟩

theorem x_sl1 (w : World) : Calls Try.prog 38 #[.int .u32 1, .int .u32 2] w fun e w' => e = .returned (.tuple #[.int .u32 4294967295, .int .i64 1]) ∧ w = w' :=
  (wSubLogical_any 1 2 (by decide) (by decide) (by decide) (by decide) w).mono fun e w' ⟨he, hw⟩ => ⟨he.trans (by kernel_rfl), hw⟩

theorem x_sl2 (w : World) : Calls Try.prog 38 #[.int .u32 2, .int .u32 2] w fun e w' => e = .returned (.tuple #[.int .u32 0, .int .i64 2]) ∧ w = w' :=
  (wSubLogical_any 2 2 (by decide) (by decide) (by decide) (by decide) w).mono fun e w' ⟨he, hw⟩ => ⟨he.trans (by kernel_rfl), hw⟩

theorem x_cl (w : World) : Calls Try.prog 42 #[.int .u32 4294967295, .int .u32 0] w fun e w' => e = .returned (.int .i64 2) ∧ w = w' :=
  (wCompareLogical_any 4294967295 0 w).mono fun e w' ⟨he, hw⟩ => ⟨he.trans (by kernel_rfl), hw⟩

theorem x_te (w : World) : Calls Try.prog 44 #[.int .u32 2147483648] w fun e w' => e = .returned (.int .i64 1) ∧ w = w' :=
  (test_any 2147483648 (by decide) (by decide) w).mono fun e w' ⟨he, hw⟩ => ⟨he.trans (by kernel_rfl), hw⟩

theorem x_mul (w : World) : Calls Try.prog 46 #[.int .u32 4294967294, .int .u32 3] w fun e w' => e = .returned (.tuple #[.int .u32 4294967295, .int .u32 4294967290]) ∧ w = w' :=
  (wMul_any 4294967294 3 (by decide) (by decide) (by decide) (by decide) w).mono fun e w' ⟨he, hw⟩ => ⟨he.trans (by kernel_rfl), hw⟩

theorem x_d1 (w : World) : Calls Try.prog 48 #[.int .u32 4294967295, .int .u32 4294967290, .int .u32 4] w fun e w' => e = .returned (.tuple #[.int .u32 4294967294, .int .u32 4294967295, .bool true]) ∧ w = w' :=
  (wDiv_any 4294967295 4294967290 4 (by decide) (by decide) (by decide) (by decide) (by decide) (by decide) w).mono fun e w' ⟨he, hw⟩ => ⟨he.trans (by kernel_rfl), hw⟩

theorem x_d2 (w : World) : Calls Try.prog 48 #[.int .u32 0, .int .u32 2147483648, .int .u32 1] w fun e w' => e = .returned (.tuple #[.int .u32 0, .int .u32 0, .bool false]) ∧ w = w' :=
  (wDiv_any 0 2147483648 1 (by decide) (by decide) (by decide) (by decide) (by decide) (by decide) w).mono fun e w' ⟨he, hw⟩ => ⟨he.trans (by kernel_rfl), hw⟩

theorem x_l1 (w : World) : Calls Try.prog 50 #[.int .u32 2147483649, .int .i64 1] w fun e w' => e = .returned (.tuple #[.int .u32 2147483650, .int .i64 3, .bool true]) ∧ w = w' :=
  (wShiftLeft_any 2147483649 1 (by decide) (by decide) (by decide) (by decide) w).mono fun e w' ⟨he, hw⟩ => ⟨he.trans (by kernel_rfl), hw⟩

theorem x_l2 (w : World) : Calls Try.prog 50 #[.int .u32 3221225472, .int .i64 1] w fun e w' => e = .returned (.tuple #[.int .u32 2147483648, .int .i64 1, .bool false]) ∧ w = w' :=
  (wShiftLeft_any 3221225472 1 (by decide) (by decide) (by decide) (by decide) w).mono fun e w' ⟨he, hw⟩ => ⟨he.trans (by kernel_rfl), hw⟩

theorem x_l3 (w : World) : Calls Try.prog 50 #[.int .u32 1, .int .i64 64] w fun e w' => e = .returned (.tuple #[.int .u32 1, .int .i64 2, .bool false]) ∧ w = w' :=
  (wShiftLeft_any 1 64 (by decide) (by decide) (by decide) (by decide) w).mono fun e w' ⟨he, hw⟩ => ⟨he.trans (by kernel_rfl), hw⟩

theorem x_r1 (w : World) : Calls Try.prog 52 #[.int .u32 2147483648, .int .i64 31] w fun e w' => e = .returned (.tuple #[.int .u32 4294967295, .int .i64 1]) ∧ w = w' :=
  (wShiftRight_any 2147483648 31 (by decide) (by decide) (by decide) (by decide) w).mono fun e w' ⟨he, hw⟩ => ⟨he.trans (by kernel_rfl), hw⟩

theorem x_r2 (w : World) : Calls Try.prog 52 #[.int .u32 2147483648, .int .i64 63] w fun e w' => e = .returned (.tuple #[.int .u32 4294967295, .int .i64 1]) ∧ w = w' :=
  (wShiftRight_any 2147483648 63 (by decide) (by decide) (by decide) (by decide) w).mono fun e w' ⟨he, hw⟩ => ⟨he.trans (by kernel_rfl), hw⟩

theorem x_lg (w : World) : Calls Try.prog 54 #[.int .u32 2147483648, .int .i64 31, .bool false] w fun e w' => e = .returned (.int .u32 1) ∧ w = w' :=
  (wShiftLogical_any 2147483648 31 false (by decide) (by decide) (by decide) (by decide) w).mono fun e w' ⟨he, hw⟩ => ⟨he.trans (by kernel_rfl), hw⟩

theorem x_ld (w : World) : Calls Try.prog 56 #[.int .u32 0, .int .u32 2147483648, .int .i64 1] w fun e w' => e = .returned (.tuple #[.int .u32 1, .int .u32 0, .int .i64 2, .bool false]) ∧ w = w' :=
  (wShiftLeftDouble_any 0 2147483648 1 (by decide) (by decide) (by decide) (by decide) (by decide) (by decide) w).mono fun e w' ⟨he, hw⟩ => ⟨he.trans (by kernel_rfl), hw⟩

theorem x_rd (w : World) : Calls Try.prog 58 #[.int .u32 2147483648, .int .u32 0, .int .i64 32] w fun e w' => e = .returned (.tuple #[.int .u32 4294967295, .int .u32 2147483648, .int .i64 1]) ∧ w = w' :=
  (wShiftRightDouble_any 2147483648 0 32 (by decide) (by decide) (by decide) (by decide) (by decide) (by decide) w).mono fun e w' ⟨he, hw⟩ => ⟨he.trans (by kernel_rfl), hw⟩

theorem x_gd (w : World) : Calls Try.prog 60 #[.int .u32 1, .int .u32 2147483648, .int .i64 63, .bool true] w fun e w' => e = .returned (.tuple #[.int .u32 0, .int .u32 0]) ∧ w = w' :=
  (wShiftLogicalDouble_any 1 2147483648 63 true (by decide) (by decide) (by decide) (by decide) (by decide) (by decide) w).mono fun e w' ⟨he, hw⟩ => ⟨he.trans (by kernel_rfl), hw⟩

set_option maxRecDepth 100000 in
theorem known_shifts (w : World) : Calls Try.prog 66 #[] w fun e w' => e = .returned (.bool true) ∧ w = w' := by
  go_enter Try.func66, Try.ntmps66
  go_wp2_with fail
  refine (x_l1 _).mono ?_
  rintro e w' ⟨rfl, rfl⟩
  go_wp2_with fail
  refine (x_l2 _).mono ?_
  rintro e w' ⟨rfl, rfl⟩
  go_wp2_with fail
  refine (x_l3 _).mono ?_
  rintro e w' ⟨rfl, rfl⟩
  go_wp2_with fail
  refine (x_r1 _).mono ?_
  rintro e w' ⟨rfl, rfl⟩
  go_wp2_with fail
  refine (x_r2 _).mono ?_
  rintro e w' ⟨rfl, rfl⟩
  go_wp2_with fail
  refine (x_lg _).mono ?_
  rintro e w' ⟨rfl, rfl⟩
  go_wp2_with fail
  refine (x_ld _).mono ?_
  rintro e w' ⟨rfl, rfl⟩
  go_wp2_with fail
  refine (x_rd _).mono ?_
  rintro e w' ⟨rfl, rfl⟩
  go_wp2_with fail
  refine (x_gd _).mono ?_
  rintro e w' ⟨rfl, rfl⟩
  go_wp2
  go_ret
  exact ⟨rfl, rfl⟩
theorem five_at (w : World) : Bytes (w.alloc (.cells #[.int .u8 1, .int .u8 2, .int .u8 3, .int .u8 4, .int .u8 5] 5)) w.heap.size 0 5 (fun j => [1, 2, 3, 4, 5].getD j 0) := by
  have h := rd_new w [1, 2, 3, 4, 5]
  rcases h with h | ⟨B, off, hp, hc⟩
  · simp at h
  · simp at hp
    obtain ⟨rfl, rfl⟩ := hp
    exact hc
theorem fiveB : IsBytes (fun j => ([1, 2, 3, 4, 5] : List Int).getD j 0) 5 := fun j _ => IsB.at (fun x hx => by simp at hx; omega) j
theorem x_f1 (w : World) (B : Nat) (h : Bytes w B 0 5 (fun j => [1, 2, 3, 4, 5].getD j 0)) : Calls Try.prog 22 #[.slice (some ⟨B, 0, none⟩) 5 5, .int .i64 1] w fun e w' => e = .returned (.tuple #[.int .u32 33752069, .bool true]) ∧ w = w' :=
  (wFull_yes B 0 5 5 1 _ w (by decide) (by decide) h fiveB (by decide)).mono fun e w' ⟨he, hw⟩ => ⟨he.trans (by kernel_rfl), hw⟩
theorem x_f2 (w : World) (p : Option Addr) : Calls Try.prog 22 #[.slice p 5 5, .int .i64 2] w fun e w' => e = .returned (.tuple #[.int .u32 0, .bool false]) ∧ w = w' :=
  wFull_no p 5 5 2 w (by decide) (by decide)
theorem x_f3 (w : World) (p : Option Addr) : Calls Try.prog 22 #[.slice p 5 5, .int .i64 (-1)] w fun e w' => e = .returned (.tuple #[.int .u32 0, .bool false]) ∧ w = w' :=
  wFull_no p 5 5 (-1) w (by decide) (by decide)
/-- What the example of PutHalf leaves. -/
def XPut (w : World) (e : Ending) (w' : World) : Prop :=
  ∃ g, e = .returned (.tuple #[.slice (some ⟨g, 0, none⟩) 3 3, .bool true]) ∧ Below w.heap.size w w' ∧ Rd w' (some ⟨g, 0, none⟩) [1, 160, 176]
theorem x_ph (w : World) : Calls Try.prog 24 #[.slice (some ⟨w.heap.size, 0, none⟩) 3 3, .int .i64 1, .int .u32 41136] (w.alloc (.cells #[.int .u8 1, .int .u8 2, .int .u8 3] 5)) (XPut (w.alloc (.cells #[.int .u8 1, .int .u8 2, .int .u8 3] 5))) :=
  (wPutHalf_yes (some ⟨w.heap.size, 0, none⟩) 3 3 1 [1, 2, 3] 41136 _ (by decide) (by decide) (by decide) (by decide) rfl (rd_new w [1, 2, 3]) (by decide)).mono fun e w' ⟨he, hb, hh⟩ =>
    ⟨_, he, hb, ownRd (ownOf w' 0 _ 3 [1, 160, 176] rfl (by decide) (Nat.zero_le _) hh) rfl⟩
theorem x_pf (w : World) (p : Option Addr) : Calls Try.prog 26 #[.slice p 3 3, .int .i64 0, .int .u32 41136] w fun e w' => e = .returned (.tuple #[.slice none 0 0, .bool false]) ∧ Below w.heap.size w w' :=
  (wPutFull_no p 3 3 0 41136 w (by decide) (by decide) (by decide) (by decide)).mono fun e w' h => ⟨h.1, h.2.1⟩

set_option maxRecDepth 100000 in
theorem known_walk (w : World) : Calls Try.prog 17 #[] w fun e w' => e = .returned (.bool true) ∧ Below w.heap.size w w' := by
  go_enter Try.func17, Try.ntmps17
  go_wp2_with fail
  refine (x_f1 _ _ (five_at _)).mono ?_
  rintro e w' ⟨rfl, rfl⟩
  go_wp2_with fail
  refine (x_f2 _ _).mono ?_
  rintro e w' ⟨rfl, rfl⟩
  go_wp2_with fail
  refine (x_f3 _ _).mono ?_
  rintro e w' ⟨rfl, rfl⟩
  have HB0 := Lib.hid (below_new w (.cells #[.int .u8 1, .int .u8 2, .int .u8 3, .int .u8 4, .int .u8 5] 5))
  generalize w.alloc (.cells #[.int .u8 1, .int .u8 2, .int .u8 3, .int .u8 4, .int .u8 5] 5) = wa at *
  go_wp2_with fail
  refine (x_ph wa).mono ?_
  rintro e w2 ⟨g, rfl, hb2, hr2⟩
  have HB2 := Lib.hid (HB0.out.trans (((below_new wa _).trans (hb2.mono (below_new wa _).size)).mono HB0.out.size))
  have HR2 := Lib.hid hr2
  clear hb2 hr2 HB0
  go_wp2_with fail
  refine (x_pf _ _).mono ?_
  rintro e w3 ⟨rfl, hb3⟩
  have hb3' := (below_new w2 _).trans (hb3.mono (below_new w2 _).size)
  have HB3 := Lib.hid (HB2.out.trans (hb3'.mono HB2.out.size))
  have HR3 := Lib.hid (HR2.out.below hb3')
  clear hb3 hb3' HB2 HR2
  go_wp2_with fail
  refine (same_true (some ⟨g, 0, none⟩) (some ⟨w3.heap.size, 0, none⟩) 3 3 [1, 160, 176] _ (by decide) (HR3.out.below (below_new w3 _)) (rd_new w3 [1, 160, 176])).mono ?_
  rintro e w' ⟨rfl, m, rfl⟩
  have hb4 : Below w3.heap.size w3 ((w3.alloc (.cells (bs [1, 160, 176]).toArray 5)).drewN m) := (below_new w3 _).trans ((belowDraw _ m).mono (below_new w3 _).size)
  have HB4 := Lib.hid (HB3.out.trans (hb4.mono HB3.out.size))
  clear HB3 HR3 hb4
  go_wp2_with fail
  refine (x_sub _).mono ?_
  rintro e w' ⟨rfl, rfl⟩
  go_wp2_with fail
  refine (x_com _).mono ?_
  rintro e w' ⟨rfl, rfl⟩
  go_wp2_with fail
  refine (x_al _).mono ?_
  rintro e w' ⟨rfl, rfl⟩
  go_wp2_with fail
  refine (x_sl1 _).mono ?_
  rintro e w' ⟨rfl, rfl⟩
  go_wp2_with fail
  refine (x_sl2 _).mono ?_
  rintro e w' ⟨rfl, rfl⟩
  go_wp2_with fail
  refine (x_cl _).mono ?_
  rintro e w' ⟨rfl, rfl⟩
  go_wp2_with fail
  refine (x_te _).mono ?_
  rintro e w' ⟨rfl, rfl⟩
  go_wp2_with fail
  refine (x_mul _).mono ?_
  rintro e w' ⟨rfl, rfl⟩
  go_wp2_with fail
  refine (x_d1 _).mono ?_
  rintro e w' ⟨rfl, rfl⟩
  go_wp2_with fail
  refine (x_d2 _).mono ?_
  rintro e w' ⟨rfl, rfl⟩
  go_wp2_with fail
  refine (known_shifts _).mono ?_
  rintro e w' ⟨rfl, rfl⟩
  go_wp2_with fail
  refine (works_any _).mono ?_
  rintro e w5 ⟨rfl, _, hb5⟩
  have HB5 := Lib.hid (HB4.out.trans (hb5.mono HB4.out.size))
  clear hb5
  go_wp2
  go_ret
  exact ⟨rfl, HB5.out⟩

end W
end Go.Proofs.Ytkbnciekhllcpaa

/- The helpers of the statements: Size, Make, key, has, bytes. -/
import Derived.Test.YtnnpnklbhghegaaStRCopy
namespace Go.Proofs.Ytnnpnklbhghegaa
open Go.RowKit Go.Shelf
set_option linter.unusedVariables false
namespace E

theorem szE {r : Nat} (h : r < 4) : wrap64 (wrap64 (1 + wrap64 (r : Int)) * 2048) = (((1 + r) * 2048 : Nat) : Int) := by
  match r, h with
  | 0, _ => decide +kernel
  | 1, _ => decide +kernel
  | 2, _ => decide +kernel
  | 3, _ => decide +kernel
theorem lsize_any (z : UInt8) (w : World) : Calls Try.prog 12 #[.int .u8 (z.toNat : Int)] w fun e w' => e = .returned (.int .i64 (((1 + z.toNat % 4) * 2048 : Nat) : Int)) ∧ w = w' := by
  have HS : Hid (wrap64 (wrap64 (1 + wrap64 (Int.tmod (z.toNat : Int) 4)) * 2048) = (((1 + z.toNat % 4) * 2048 : Nat) : Int)) := Lib.hid (by
    rw [Int.tmod_eq_emod_of_nonneg (by omega), show (z.toNat : Int) % 4 = ((z.toNat % 4 : Nat) : Int) by omega]
    exact szE (by omega))
  generalize (((1 + z.toNat % 4) * 2048 : Nat) : Int) = N at *
  generalize (z.toNat : Int) = y at *
  go_enter Try.func12, Try.ntmps12
  go_wp2
  go_ret
  exact ⟨by rw [← HS.out]; rfl, rfl⟩
/-- What Make leaves. -/
def MakePost (w : World) (M : Nat) (e : Ending) (w' : World) : Prop := ∃ a g h, e = .returned (.pointer (some ⟨a, 0, none⟩)) ∧ Sto w' a g h (M * 2048) M (List.replicate (M * 2048) 0) (List.replicate M 0) ∧ w.heap.size ≤ a ∧ w.heap.size ≤ g ∧ w.heap.size ≤ h ∧ Below w.heap.size w w'
theorem make_any (z : UInt8) (w : World) : Calls Try.prog 10 #[.int .u8 (z.toNat : Int)] w (MakePost w (1 + z.toNat % 4)) := by
  obtain ⟨M, hM⟩ : ∃ M, M = 1 + z.toNat % 4 := ⟨_, rfl⟩
  have H0 := Lib.hid (lsize_any z w)
  rw [← hM] at H0 ⊢
  have hok : sizeOk ((M * 2048 : Nat) : Int) = true := by unfold sizeOk; exact decide_eq_true ⟨by omega, by omega, by omega⟩
  have H1 := Lib.hid (new_any ((M * 2048 : Nat) : Int) w hok)
  rw [show (((M * 2048 : Nat) : Int)).toNat = M * 2048 from rfl, show M * 2048 / 2048 = M by omega] at H1
  clear hM hok
  go_enter Try.func10, Try.ntmps10
  go_wp2_with fail
  refine H0.out.mono ?_
  rintro e w1 ⟨rfl, rfl⟩
  go_wp2_with fail
  refine H1.out.mono ?_
  rintro e w1 ⟨a, g, h, rfl, hs, h1, h2, h3, hb⟩
  have HS := Lib.hid hs
  have HB := Lib.hid (And.intro h1 (And.intro h2 (And.intro h3 hb)))
  clear hs h1 h2 h3 hb H0 H1
  go_wp2
  go_ret
  exact ⟨_, _, _, rfl, HS.out, HB.out⟩
theorem key_yes (a g h n m : Nat) (x want : Int) (is : Bool) (bs ks : List UInt8) (w : World) (hx : x ≤ 9223372036854775807) (hst : Sto w a g h n m bs ks) (hk : keyV n ks x = want) (hi : inB n x 1 = is) :
    Calls Try.prog 26 #[.pointer (some ⟨a, 0, none⟩), .int .i64 x, .int .i64 want, .bool is] w (New w (.bool true)) := by
  have H1 := Lib.hid (keyOf_any a g h n m x bs ks w hx hst)
  rw [hk, hi] at H1
  clear hk hi hst
  go_enter Try.func26, Try.ntmps26
  go_wp2_with fail
  refine H1.out.mono ?_
  rintro e w1 ⟨rfl, hb⟩
  have HB := Lib.hid hb
  clear hb
  go_wp2
  go_ret
  exact ⟨by simp, HB.out⟩
theorem conv_sv {w : World} {sv : Value} {l : List UInt8} (h : SvB w sv l) : (Go.convert 29 9 sv).run Try.prog w = .ok (.string ⟨l.toArray⟩) w := by
  obtain ⟨p, c, rfl, hr, _⟩ := h
  exact conv_rd hr
theorem has_yes (a g h n m : Nat) (x k key c : Int) (v : Value) (l bs ks : List UInt8) (w : World) (hx : x ≤ 9223372036854775807) (hst : Sto w a g h n m bs ks) (hv : SvB w v l) (hl : fetL (ftP key) n bs ks x k = l) (hc : codeV (ftP key) n ks x k = c) :
    Calls Try.prog 27 #[.pointer (some ⟨a, 0, none⟩), .int .i64 x, .int .i64 k, .int .i64 key, v, .int .i64 c] w (New w (.bool true)) := by
  have H1 := Lib.hid (fetch_any a g h n m x k key bs ks w hx hst)
  rw [hl, hc] at H1
  have HV := Lib.hid hv
  clear hl hc hst hv
  go_enter Try.func27, Try.ntmps27
  go_wp2_with fail
  refine H1.out.mono ?_
  rintro e w1 ⟨sv, rfl, hh, hb⟩
  have HB := Lib.hid hb
  have c1 := conv_sv hh.svb
  have c2 := conv_sv (HV.out.below hb)
  clear hh hb
  go_wp2
  go_ret
  exact ⟨by simp, HB.out⟩

end E
end Go.Proofs.Ytnnpnklbhghegaa

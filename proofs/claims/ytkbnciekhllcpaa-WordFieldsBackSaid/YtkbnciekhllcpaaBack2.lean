/- The statement WordFieldsBack: the walks where a field of four bytes is put. -/
import Derived.Test.YtkbnciekhllcpaaRows
import Derived.WalkKit
import Derived.ProofKit
import Derived.Deep.QuietTactic
import Derived.BigQuiet
import Derived.OwnWalk
import Derived.Laws.CopyOwn
import Derived.Laws.AppendOwn
import Derived.Laws.OwnMore
import Derived.Laws.AppendOwnNone
import Derived.Deep.Draws
import Derived.Lib.Hide
import Derived.Test.YtkbnciekhllcpaaBack1
namespace Go.Proofs.Ytkbnciekhllcpaa
open Go.RowKit
set_option linter.unusedVariables false
namespace W

set_option maxRecDepth 100000 in
theorem back_both_lt (B off n c k : Nat) (dl el : List Int) (v hv : Int) (w : World) (hn : n ≤ 4096) (hnc : n ≤ c) (hcm : c ≤ 9223372036854775807) (v0 : 0 ≤ v) (v1 : v < 4294967296) (hv0 : 0 ≤ hv) (hv1 : hv < 4294967296) (hk : k + 4 < n)
    (HPF : Hid (∀ W, Below w.heap.size w W → Calls Try.prog 26 #[.slice (some ⟨B, off, none⟩) n c, .int .i64 k, .int .u32 v] W (Put2 W n el)))
    (HF : Hid (∀ W g, Rd W (some ⟨g, 0, none⟩) el → Calls Try.prog 22 #[.slice (some ⟨g, 0, none⟩) n n, .int .i64 k] W fun e w' => e = .returned (.tuple #[.int .u32 v, .bool true]) ∧ W = w'))
    (EF : Hid (∀ W g, Below w.heap.size w W → Rd W (some ⟨g, 0, none⟩) el → EqRd W (some ⟨g, 0, none⟩) (some ⟨B, off, none⟩) k ∧ EqRd W (some ⟨g, k + 4, none⟩) (some ⟨B, off + (k + 4), none⟩) (n - (k + 4))))
    (HPH : Hid (∀ W, Below w.heap.size w W → Calls Try.prog 24 #[.slice (some ⟨B, off, none⟩) n c, .int .i64 k, .int .u32 v] W (Put2 W n dl)))
    (HH : Hid (∀ W g, Rd W (some ⟨g, 0, none⟩) dl → Calls Try.prog 20 #[.slice (some ⟨g, 0, none⟩) n n, .int .i64 k] W fun e w' => e = .returned (.tuple #[.int .u32 hv, .bool true]) ∧ W = w'))
    (EH : Hid (∀ W g, Below w.heap.size w W → Rd W (some ⟨g, 0, none⟩) dl → EqRd W (some ⟨g, 0, none⟩) (some ⟨B, off, none⟩) k ∧ EqRd W (some ⟨g, k + 2, none⟩) (some ⟨B, off + (k + 2), none⟩) (n - (k + 2))))
    (HSG : Hid (∀ W, Calls Try.prog 62 #[.int .u32 hv] W fun e w' => e = .returned (.int .i64 (wrap64 (IntKind.i16.wrap (IntKind.u16.wrap v)))) ∧ W = w')) :
    Calls Try.prog 9 #[.slice (some ⟨B, off, none⟩) n c, .int .i64 k, .int .u32 v] w fun e w' => e = .returned (.bool true) ∧ Below w.heap.size w w' := by
  go_enter Try.func9, Try.ntmps9
  go_wp2_with fail
  refine (works_any _).mono ?_
  rintro e w1 ⟨rfl, _, hb1⟩
  have B1 := Lib.hid hb1; clear hb1
  go_wp2_with fail
  refine (HPF.out _ B1.out).mono ?_
  rintro e w2 ⟨g2, rfl, hle2, hb2, hr2⟩
  have B2 := Lib.hid (B1.out.trans (hb2.mono B1.out.size)); have R2 := Lib.hid hr2; clear hb2 hr2 hle2
  go_wp2_with fail
  refine (HPH.out _ B2.out).mono ?_
  rintro e w3 ⟨g3, rfl, hle3, hb3, hr3⟩
  have B3 := Lib.hid (B2.out.trans (hb3.mono B2.out.size)); have R3 := Lib.hid hr3
  have R2b := Lib.hid (R2.out.below hb3)
  clear hb3 hr3 hle3
  go_wp2_with fail
  refine (HF.out _ _ R2b.out).mono ?_
  rintro e w' ⟨rfl, rfl⟩
  have EA := Lib.hid (EF.out _ _ B3.out R2b.out)
  go_wp2
  go_quiet ((go_at_call 28; exact quietSame (same_eq _ _ _ _ _ _ (by omega) (by first | exact eqDraw EA.out.1 _ | exact eqDraw EA.out.2 _ | exact eqZero _ _ _))))
  go_wp2_with fail
  refine (HH.out _ _ (rdDraw2 R3.out _)).mono ?_
  rintro e w' ⟨rfl, rfl⟩
  have EB := Lib.hid (EH.out _ _ B3.out R3.out)
  go_wp2
  go_quiet ((first | (go_at_call 62; exact quietOf2 (HSG.out _)) | (go_at_call 28; exact quietSame2 (same_eq _ _ _ _ _ _ (by omega) (by first | exact eqDraw EB.out.1 _ | exact eqDraw EB.out.2 _ | exact eqZero _ _ _)))))
  go_wp2
  go_ret
  exact ⟨rfl, belowDraw2 B3.out _ _⟩

set_option maxRecDepth 100000 in
theorem back_both_ec (B off n k : Nat) (dl el : List Int) (v hv : Int) (w : World) (hn : n ≤ 4096) (hcm : n ≤ 9223372036854775807) (v0 : 0 ≤ v) (v1 : v < 4294967296) (hv0 : 0 ≤ hv) (hv1 : hv < 4294967296) (hk : k + 4 ≤ n) (hk2 : n ≤ k + 4)
    (HPF : Hid (∀ W, Below w.heap.size w W → Calls Try.prog 26 #[.slice (some ⟨B, off, none⟩) n n, .int .i64 k, .int .u32 v] W (Put2 W n el)))
    (HF : Hid (∀ W g, Rd W (some ⟨g, 0, none⟩) el → Calls Try.prog 22 #[.slice (some ⟨g, 0, none⟩) n n, .int .i64 k] W fun e w' => e = .returned (.tuple #[.int .u32 v, .bool true]) ∧ W = w'))
    (EF : Hid (∀ W g, Below w.heap.size w W → Rd W (some ⟨g, 0, none⟩) el → EqRd W (some ⟨g, 0, none⟩) (some ⟨B, off, none⟩) k ∧ EqRd W (some ⟨g, k + 4, none⟩) (some ⟨B, off + (k + 4), none⟩) (n - (k + 4))))
    (HPH : Hid (∀ W, Below w.heap.size w W → Calls Try.prog 24 #[.slice (some ⟨B, off, none⟩) n n, .int .i64 k, .int .u32 v] W (Put2 W n dl)))
    (HH : Hid (∀ W g, Rd W (some ⟨g, 0, none⟩) dl → Calls Try.prog 20 #[.slice (some ⟨g, 0, none⟩) n n, .int .i64 k] W fun e w' => e = .returned (.tuple #[.int .u32 hv, .bool true]) ∧ W = w'))
    (EH : Hid (∀ W g, Below w.heap.size w W → Rd W (some ⟨g, 0, none⟩) dl → EqRd W (some ⟨g, 0, none⟩) (some ⟨B, off, none⟩) k ∧ EqRd W (some ⟨g, k + 2, none⟩) (some ⟨B, off + (k + 2), none⟩) (n - (k + 2))))
    (HSG : Hid (∀ W, Calls Try.prog 62 #[.int .u32 hv] W fun e w' => e = .returned (.int .i64 (wrap64 (IntKind.i16.wrap (IntKind.u16.wrap v)))) ∧ W = w')) :
    Calls Try.prog 9 #[.slice (some ⟨B, off, none⟩) n n, .int .i64 k, .int .u32 v] w fun e w' => e = .returned (.bool true) ∧ Below w.heap.size w w' := by
  go_enter Try.func9, Try.ntmps9
  go_wp2_with fail
  refine (works_any _).mono ?_
  rintro e w1 ⟨rfl, _, hb1⟩
  have B1 := Lib.hid hb1; clear hb1
  go_wp2_with fail
  refine (HPF.out _ B1.out).mono ?_
  rintro e w2 ⟨g2, rfl, hle2, hb2, hr2⟩
  have B2 := Lib.hid (B1.out.trans (hb2.mono B1.out.size)); have R2 := Lib.hid hr2; clear hb2 hr2 hle2
  go_wp2_with fail
  refine (HPH.out _ B2.out).mono ?_
  rintro e w3 ⟨g3, rfl, hle3, hb3, hr3⟩
  have B3 := Lib.hid (B2.out.trans (hb3.mono B2.out.size)); have R3 := Lib.hid hr3
  have R2b := Lib.hid (R2.out.below hb3)
  clear hb3 hr3 hle3
  go_wp2_with fail
  refine (HF.out _ _ R2b.out).mono ?_
  rintro e w' ⟨rfl, rfl⟩
  have EA := Lib.hid (EF.out _ _ B3.out R2b.out)
  go_wp2
  go_quiet ((go_at_call 28; exact quietSame (same_eq _ _ _ _ _ _ (by omega) (by first | exact eqDraw EA.out.1 _ | exact eqDraw EA.out.2 _ | exact eqZero _ _ _))))
  go_wp2_with fail
  refine (HH.out _ _ (rdDraw2 R3.out _)).mono ?_
  rintro e w' ⟨rfl, rfl⟩
  have EB := Lib.hid (EH.out _ _ B3.out R3.out)
  go_wp2
  go_quiet ((first | (go_at_call 62; exact quietOf2 (HSG.out _)) | (go_at_call 28; exact quietSame2 (same_eq _ _ _ _ _ _ (by omega) (by first | exact eqDraw EB.out.1 _ | exact eqDraw EB.out.2 _ | exact eqZero _ _ _)))))
  go_wp2
  go_ret
  exact ⟨rfl, belowDraw2 B3.out _ _⟩

set_option maxRecDepth 100000 in
theorem back_both_el (B off n c k : Nat) (dl el : List Int) (v hv : Int) (w : World) (hn : n ≤ 4096) (hnc : n ≤ c) (hcm : c ≤ 9223372036854775807) (v0 : 0 ≤ v) (v1 : v < 4294967296) (hv0 : 0 ≤ hv) (hv1 : hv < 4294967296) (hk : k + 4 = n) (hcn : n < c)
    (HPF : Hid (∀ W, Below w.heap.size w W → Calls Try.prog 26 #[.slice (some ⟨B, off, none⟩) n c, .int .i64 k, .int .u32 v] W (Put2 W n el)))
    (HF : Hid (∀ W g, Rd W (some ⟨g, 0, none⟩) el → Calls Try.prog 22 #[.slice (some ⟨g, 0, none⟩) n n, .int .i64 k] W fun e w' => e = .returned (.tuple #[.int .u32 v, .bool true]) ∧ W = w'))
    (EF : Hid (∀ W g, Below w.heap.size w W → Rd W (some ⟨g, 0, none⟩) el → EqRd W (some ⟨g, 0, none⟩) (some ⟨B, off, none⟩) k ∧ EqRd W (some ⟨g, k + 4, none⟩) (some ⟨B, off + (k + 4), none⟩) (n - (k + 4))))
    (HPH : Hid (∀ W, Below w.heap.size w W → Calls Try.prog 24 #[.slice (some ⟨B, off, none⟩) n c, .int .i64 k, .int .u32 v] W (Put2 W n dl)))
    (HH : Hid (∀ W g, Rd W (some ⟨g, 0, none⟩) dl → Calls Try.prog 20 #[.slice (some ⟨g, 0, none⟩) n n, .int .i64 k] W fun e w' => e = .returned (.tuple #[.int .u32 hv, .bool true]) ∧ W = w'))
    (EH : Hid (∀ W g, Below w.heap.size w W → Rd W (some ⟨g, 0, none⟩) dl → EqRd W (some ⟨g, 0, none⟩) (some ⟨B, off, none⟩) k ∧ EqRd W (some ⟨g, k + 2, none⟩) (some ⟨B, off + (k + 2), none⟩) (n - (k + 2))))
    (HSG : Hid (∀ W, Calls Try.prog 62 #[.int .u32 hv] W fun e w' => e = .returned (.int .i64 (wrap64 (IntKind.i16.wrap (IntKind.u16.wrap v)))) ∧ W = w')) :
    Calls Try.prog 9 #[.slice (some ⟨B, off, none⟩) n c, .int .i64 k, .int .u32 v] w fun e w' => e = .returned (.bool true) ∧ Below w.heap.size w w' := by
  go_enter Try.func9, Try.ntmps9
  go_wp2_with fail
  refine (works_any _).mono ?_
  rintro e w1 ⟨rfl, _, hb1⟩
  have B1 := Lib.hid hb1; clear hb1
  go_wp2_with fail
  refine (HPF.out _ B1.out).mono ?_
  rintro e w2 ⟨g2, rfl, hle2, hb2, hr2⟩
  have B2 := Lib.hid (B1.out.trans (hb2.mono B1.out.size)); have R2 := Lib.hid hr2; clear hb2 hr2 hle2
  go_wp2_with fail
  refine (HPH.out _ B2.out).mono ?_
  rintro e w3 ⟨g3, rfl, hle3, hb3, hr3⟩
  have B3 := Lib.hid (B2.out.trans (hb3.mono B2.out.size)); have R3 := Lib.hid hr3
  have R2b := Lib.hid (R2.out.below hb3)
  clear hb3 hr3 hle3
  go_wp2_with fail
  refine (HF.out _ _ R2b.out).mono ?_
  rintro e w' ⟨rfl, rfl⟩
  have EA := Lib.hid (EF.out _ _ B3.out R2b.out)
  go_wp2
  go_quiet ((go_at_call 28; exact quietSame (same_eq _ _ _ _ _ _ (by omega) (by first | exact eqDraw EA.out.1 _ | exact eqDraw EA.out.2 _ | exact eqZero _ _ _))))
  go_wp2_with fail
  refine (HH.out _ _ (rdDraw2 R3.out _)).mono ?_
  rintro e w' ⟨rfl, rfl⟩
  have EB := Lib.hid (EH.out _ _ B3.out R3.out)
  go_wp2
  go_quiet ((first | (go_at_call 62; exact quietOf2 (HSG.out _)) | (go_at_call 28; exact quietSame2 (same_eq _ _ _ _ _ _ (by omega) (by first | exact eqDraw EB.out.1 _ | exact eqDraw EB.out.2 _ | exact eqZero _ _ _)))))
  go_wp2
  go_ret
  exact ⟨rfl, belowDraw2 B3.out _ _⟩

end W
end Go.Proofs.Ytkbnciekhllcpaa

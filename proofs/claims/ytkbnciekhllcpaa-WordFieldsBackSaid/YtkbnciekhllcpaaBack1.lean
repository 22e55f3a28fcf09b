/- The statement WordFieldsBack: the walks where a field of two bytes is put. -/
import Derived.Test.YtkbnciekhllcpaaRows
import Derived.WalkKit
import Derived.ProofKit
import Derived.Deep.QuietTactic
import Derived.BigQuiet
import Derived.OwnWalk
import Derived.Laws.CopyOwn
import Derived.Laws.AppendOwn
import Derived.Laws.OwnMore
import Derived.Laws.AppendOwnNone
import Derived.Deep.Draws
import Derived.Lib.Hide
import Derived.Test.YtkbnciekhllcpaaFields1
namespace Go.Proofs.Ytkbnciekhllcpaa
open Go.RowKit
set_option linter.unusedVariables false
namespace W

def EqRd (W : World) (q r : Option Addr) (n : Nat) : Prop := ∃ l : List Int, l.length = n ∧ Rd W q l ∧ Rd W r l
theorem same_eq (q r : Option Addr) (n c1 c2 : Nat) (W : World) (hn : n ≤ 9223372036854775807) (h : EqRd W q r n) :
    Calls Try.prog 28 #[.slice q n c1, .slice r n c2] W fun e w' => e = .returned (.bool true) ∧ ∃ m, w' = W.drewN m := by
  obtain ⟨l, hl, h1, h2⟩ := h
  subst hl
  exact same_true q r c1 c2 l W hn h1 h2
theorem quietSame {f : FuncId} {args : Array Value} {W : World} {n : Nat} {v : Value} (h : Calls Try.prog f args (W.drewN n) fun e w' => e = .returned v ∧ ∃ m, w' = (W.drewN n).drewN m) :
    Calls Try.prog f args (W.drewN n) fun e w'' => e = .returned v ∧ ∃ m, w'' = W.drewN m := by
  refine h.mono ?_
  rintro e w' ⟨he, m, rfl⟩
  exact ⟨he, n + m, World.drewN_drewN _ _ _⟩
theorem quietSame2 {f : FuncId} {args : Array Value} {W : World} {a n : Nat} {v : Value} (h : Calls Try.prog f args (W.drewN (a + n)) fun e w' => e = .returned v ∧ ∃ m, w' = (W.drewN (a + n)).drewN m) :
    Calls Try.prog f args (W.drewN (a + n)) fun e w'' => e = .returned v ∧ ∃ m, w'' = W.drewN (a + m) := by
  refine h.mono ?_
  rintro e w' ⟨he, m, rfl⟩
  exact ⟨he, n + m, by rw [World.drewN_drewN, Nat.add_assoc]⟩
theorem quietOf2 {f : FuncId} {args : Array Value} {W : World} {a n : Nat} {v : Value} (h : Calls Try.prog f args (W.drewN (a + n)) fun e w' => e = .returned v ∧ W.drewN (a + n) = w') :
    Calls Try.prog f args (W.drewN (a + n)) fun e w'' => e = .returned v ∧ ∃ m, w'' = W.drewN (a + m) := by
  refine h.mono ?_
  rintro e w' ⟨he, rfl⟩
  exact ⟨he, n, rfl⟩
theorem quietOf1 {f : FuncId} {args : Array Value} {W : World} {n : Nat} {v : Value} (h : Calls Try.prog f args (W.drewN n) fun e w' => e = .returned v ∧ W.drewN n = w') :
    Calls Try.prog f args (W.drewN n) fun e w'' => e = .returned v ∧ ∃ m, w'' = W.drewN m := by
  refine h.mono ?_
  rintro e w' ⟨he, rfl⟩
  exact ⟨he, n, rfl⟩
theorem rdDraw2 {w : World} {p : Option Addr} {l : List Int} (h : Rd w p l) (m : Nat) : Rd (w.drewN m) p l := h.below (belowDraw w m)
theorem eqDraw {W : World} {q r : Option Addr} {n : Nat} (h : EqRd W q r n) (m : Nat) : EqRd (W.drewN m) q r n := by
  obtain ⟨l, hl, h1, h2⟩ := h
  exact ⟨l, hl, rdDraw2 h1 m, rdDraw2 h2 m⟩
theorem belowDraw2 {w W : World} (h : Below w.heap.size w W) (a b : Nat) : Below w.heap.size w ((W.drewN a).drewN b) :=
  (h.trans ((belowDraw W a).mono h.size)).trans ((belowDraw (W.drewN a) b).mono (Nat.le_trans h.size (belowDraw W a).size))
theorem eqZero (W : World) (q r : Option Addr) : EqRd W q r 0 := ⟨[], rfl, .inl rfl, .inl rfl⟩
/-- What the first puts leave, with the row's capacity. -/
def Put2 (w : World) (n : Nat) (xs : List Int) (e : Ending) (w' : World) : Prop :=
  ∃ gd, e = .returned (.tuple #[.slice (some ⟨gd, 0, none⟩) n n, .bool true]) ∧ w.heap.size ≤ gd ∧ Below w.heap.size w w' ∧ Rd w' (some ⟨gd, 0, none⟩) xs

set_option maxRecDepth 100000 in
theorem back_half_lt (B off n c k : Nat) (dl el : List Int) (v hv : Int) (w : World) (hn : n ≤ 4096) (hnc : n ≤ c) (hcm : c ≤ 9223372036854775807) (v0 : 0 ≤ v) (v1 : v < 4294967296) (hv0 : 0 ≤ hv) (hv1 : hv < 4294967296) (hk : k + 2 < n) (hk4 : n < k + 4)
    (HPF : Hid (∀ W, Below w.heap.size w W → Calls Try.prog 26 #[.slice (some ⟨B, off, none⟩) n c, .int .i64 k, .int .u32 v] W fun e w' => e = .returned (.tuple #[.slice none 0 0, .bool false]) ∧ Below W.heap.size W w'))
    (HPH : Hid (∀ W, Below w.heap.size w W → Calls Try.prog 24 #[.slice (some ⟨B, off, none⟩) n c, .int .i64 k, .int .u32 v] W (Put2 W n dl)))
    (HH : Hid (∀ W g, Rd W (some ⟨g, 0, none⟩) dl → Calls Try.prog 20 #[.slice (some ⟨g, 0, none⟩) n n, .int .i64 k] W fun e w' => e = .returned (.tuple #[.int .u32 hv, .bool true]) ∧ W = w'))
    (EH : Hid (∀ W g, Below w.heap.size w W → Rd W (some ⟨g, 0, none⟩) dl → EqRd W (some ⟨g, 0, none⟩) (some ⟨B, off, none⟩) k ∧ EqRd W (some ⟨g, k + 2, none⟩) (some ⟨B, off + (k + 2), none⟩) (n - (k + 2))))
    (HSG : Hid (∀ W, Calls Try.prog 62 #[.int .u32 hv] W fun e w' => e = .returned (.int .i64 (wrap64 (IntKind.i16.wrap (IntKind.u16.wrap v)))) ∧ W = w')) :
    Calls Try.prog 9 #[.slice (some ⟨B, off, none⟩) n c, .int .i64 k, .int .u32 v] w fun e w' => e = .returned (.bool true) ∧ Below w.heap.size w w' := by
  go_enter Try.func9, Try.ntmps9
  go_wp2_with fail
  refine (works_any _).mono ?_
  rintro e w1 ⟨rfl, _, hb1⟩
  have B1 := Lib.hid hb1; clear hb1
  go_wp2_with fail
  refine (HPF.out _ B1.out).mono ?_
  rintro e w2 ⟨rfl, hb2⟩
  have B2 := Lib.hid (B1.out.trans (hb2.mono B1.out.size)); clear hb2
  go_wp2_with fail
  refine (HPH.out _ B2.out).mono ?_
  rintro e w3 ⟨g3, rfl, hle3, hb3, hr3⟩
  have B3 := Lib.hid (B2.out.trans (hb3.mono B2.out.size)); have R3 := Lib.hid hr3
  clear hb3 hr3 hle3
  go_wp2_with fail
  refine (HH.out _ _ R3.out).mono ?_
  rintro e w' ⟨rfl, rfl⟩
  have EB := Lib.hid (EH.out _ _ B3.out R3.out)
  go_wp2
  go_quiet ((first | (go_at_call 62; exact quietOf1 (HSG.out _)) | (go_at_call 28; exact quietSame (same_eq _ _ _ _ _ _ (by omega) (by first | exact eqDraw EB.out.1 _ | exact eqDraw EB.out.2 _ | exact eqZero _ _ _)))))
  go_wp2
  go_ret
  exact ⟨rfl, B3.out.trans ((belowDraw w3 _).mono B3.out.size)⟩

set_option maxRecDepth 100000 in
theorem back_half_ec (B off n k : Nat) (dl el : List Int) (v hv : Int) (w : World) (hn : n ≤ 4096) (hcm : n ≤ 9223372036854775807) (v0 : 0 ≤ v) (v1 : v < 4294967296) (hv0 : 0 ≤ hv) (hv1 : hv < 4294967296) (hk : k + 2 ≤ n) (hk2 : n ≤ k + 2) (hk4 : n < k + 4)
    (HPF : Hid (∀ W, Below w.heap.size w W → Calls Try.prog 26 #[.slice (some ⟨B, off, none⟩) n n, .int .i64 k, .int .u32 v] W fun e w' => e = .returned (.tuple #[.slice none 0 0, .bool false]) ∧ Below W.heap.size W w'))
    (HPH : Hid (∀ W, Below w.heap.size w W → Calls Try.prog 24 #[.slice (some ⟨B, off, none⟩) n n, .int .i64 k, .int .u32 v] W (Put2 W n dl)))
    (HH : Hid (∀ W g, Rd W (some ⟨g, 0, none⟩) dl → Calls Try.prog 20 #[.slice (some ⟨g, 0, none⟩) n n, .int .i64 k] W fun e w' => e = .returned (.tuple #[.int .u32 hv, .bool true]) ∧ W = w'))
    (EH : Hid (∀ W g, Below w.heap.size w W → Rd W (some ⟨g, 0, none⟩) dl → EqRd W (some ⟨g, 0, none⟩) (some ⟨B, off, none⟩) k ∧ EqRd W (some ⟨g, k + 2, none⟩) (some ⟨B, off + (k + 2), none⟩) (n - (k + 2))))
    (HSG : Hid (∀ W, Calls Try.prog 62 #[.int .u32 hv] W fun e w' => e = .returned (.int .i64 (wrap64 (IntKind.i16.wrap (IntKind.u16.wrap v)))) ∧ W = w')) :
    Calls Try.prog 9 #[.slice (some ⟨B, off, none⟩) n n, .int .i64 k, .int .u32 v] w fun e w' => e = .returned (.bool true) ∧ Below w.heap.size w w' := by
  go_enter Try.func9, Try.ntmps9
  go_wp2_with fail
  refine (works_any _).mono ?_
  rintro e w1 ⟨rfl, _, hb1⟩
  have B1 := Lib.hid hb1; clear hb1
  go_wp2_with fail
  refine (HPF.out _ B1.out).mono ?_
  rintro e w2 ⟨rfl, hb2⟩
  have B2 := Lib.hid (B1.out.trans (hb2.mono B1.out.size)); clear hb2
  go_wp2_with fail
  refine (HPH.out _ B2.out).mono ?_
  rintro e w3 ⟨g3, rfl, hle3, hb3, hr3⟩
  have B3 := Lib.hid (B2.out.trans (hb3.mono B2.out.size)); have R3 := Lib.hid hr3
  clear hb3 hr3 hle3
  go_wp2_with fail
  refine (HH.out _ _ R3.out).mono ?_
  rintro e w' ⟨rfl, rfl⟩
  have EB := Lib.hid (EH.out _ _ B3.out R3.out)
  go_wp2
  go_quiet ((first | (go_at_call 62; exact quietOf1 (HSG.out _)) | (go_at_call 28; exact quietSame (same_eq _ _ _ _ _ _ (by omega) (by first | exact eqDraw EB.out.1 _ | exact eqDraw EB.out.2 _ | exact eqZero _ _ _)))))
  go_wp2
  go_ret
  exact ⟨rfl, B3.out.trans ((belowDraw w3 _).mono B3.out.size)⟩

set_option maxRecDepth 100000 in
theorem back_half_el (B off n c k : Nat) (dl el : List Int) (v hv : Int) (w : World) (hn : n ≤ 4096) (hnc : n ≤ c) (hcm : c ≤ 9223372036854775807) (v0 : 0 ≤ v) (v1 : v < 4294967296) (hv0 : 0 ≤ hv) (hv1 : hv < 4294967296) (hk : k + 2 = n) (hcn : n < c) (hk4 : n < k + 4)
    (HPF : Hid (∀ W, Below w.heap.size w W → Calls Try.prog 26 #[.slice (some ⟨B, off, none⟩) n c, .int .i64 k, .int .u32 v] W fun e w' => e = .returned (.tuple #[.slice none 0 0, .bool false]) ∧ Below W.heap.size W w'))
    (HPH : Hid (∀ W, Below w.heap.size w W → Calls Try.prog 24 #[.slice (some ⟨B, off, none⟩) n c, .int .i64 k, .int .u32 v] W (Put2 W n dl)))
    (HH : Hid (∀ W g, Rd W (some ⟨g, 0, none⟩) dl → Calls Try.prog 20 #[.slice (some ⟨g, 0, none⟩) n n, .int .i64 k] W fun e w' => e = .returned (.tuple #[.int .u32 hv, .bool true]) ∧ W = w'))
    (EH : Hid (∀ W g, Below w.heap.size w W → Rd W (some ⟨g, 0, none⟩) dl → EqRd W (some ⟨g, 0, none⟩) (some ⟨B, off, none⟩) k ∧ EqRd W (some ⟨g, k + 2, none⟩) (some ⟨B, off + (k + 2), none⟩) (n - (k + 2))))
    (HSG : Hid (∀ W, Calls Try.prog 62 #[.int .u32 hv] W fun e w' => e = .returned (.int .i64 (wrap64 (IntKind.i16.wrap (IntKind.u16.wrap v)))) ∧ W = w')) :
    Calls Try.prog 9 #[.slice (some ⟨B, off, none⟩) n c, .int .i64 k, .int .u32 v] w fun e w' => e = .returned (.bool true) ∧ Below w.heap.size w w' := by
  go_enter Try.func9, Try.ntmps9
  go_wp2_with fail
  refine (works_any _).mono ?_
  rintro e w1 ⟨rfl, _, hb1⟩
  have B1 := Lib.hid hb1; clear hb1
  go_wp2_with fail
  refine (HPF.out _ B1.out).mono ?_
  rintro e w2 ⟨rfl, hb2⟩
  have B2 := Lib.hid (B1.out.trans (hb2.mono B1.out.size)); clear hb2
  go_wp2_with fail
  refine (HPH.out _ B2.out).mono ?_
  rintro e w3 ⟨g3, rfl, hle3, hb3, hr3⟩
  have B3 := Lib.hid (B2.out.trans (hb3.mono B2.out.size)); have R3 := Lib.hid hr3
  clear hb3 hr3 hle3
  go_wp2_with fail
  refine (HH.out _ _ R3.out).mono ?_
  rintro e w' ⟨rfl, rfl⟩
  have EB := Lib.hid (EH.out _ _ B3.out R3.out)
  go_wp2
  go_quiet ((first | (go_at_call 62; exact quietOf1 (HSG.out _)) | (go_at_call 28; exact quietSame (same_eq _ _ _ _ _ _ (by omega) (by first | exact eqDraw EB.out.1 _ | exact eqDraw EB.out.2 _ | exact eqZero _ _ _)))))
  go_wp2
  go_ret
  exact ⟨rfl, B3.out.trans ((belowDraw w3 _).mono B3.out.size)⟩

end W
end Go.Proofs.Ytkbnciekhllcpaa

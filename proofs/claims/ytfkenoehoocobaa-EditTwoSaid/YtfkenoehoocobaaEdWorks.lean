/- The example that each statement asks for. -/
import Derived.Test.YtfkenoehoocobaaEdEdit
namespace Go.Proofs.Ytfkenoehoocobaa
open Go.RowKit
set_option linter.unusedVariables false
namespace E

/-- What Edit answers, written out. -/
def E4Post (w : World) (l : List UInt8) (cc : Nat) (mk : Int) (code : Nat) (e : Ending) (w' : World) : Prop :=
  ∃ pv cv, e = .returned (.tuple #[.agg #[.slice pv l.length cv, .int .i64 (cc : Int), .int .i64 mk], .int .i64 (code : Int)]) ∧ Hold w' w.heap.size (.slice pv l.length cv) l ∧ Below w.heap.size w w'
theorem EPost.open {w w' : World} {r : List UInt8 × Nat × Int × Nat} {e : Ending} (h : EPost w r e w') : E4Post w r.1 r.2.1 r.2.2.1 r.2.2.2 e w' := by
  obtain ⟨tv, h1, h2, h3⟩ := h
  obtain ⟨pv, cv, rfl, _⟩ := h2.full
  exact ⟨pv, cv, h1, h2, h3⟩
theorem edit4_any (pv sv : Value) (pat src : List UInt8) (w : World) (l : List UInt8) (cc : Nat) (mk : Int) (code : Nat) (hp : SvB w pv pat) (hs : SvB w sv src) (h : edRes pat src = (l, cc, mk, code)) :
    Calls Try.prog 12 #[pv, sv] w (E4Post w l cc mk code) :=
  (edit_any pv sv pat src w hp hs).mono fun e w' h' => by
    rw [h] at h'
    exact h'.open
theorem rd_second (w : World) (o : Obj) (l : List UInt8) : Rd ((w.alloc o).alloc (.cells (bsU l).toArray 5)) (some ⟨w.heap.size + 1, 0, none⟩) l := by
  have h := rd_new (w.alloc o) l 5
  rw [World.size_alloc] at h
  exact h
theorem svb_second (w : World) (o : Obj) (l : List UInt8) (hl : l.length ≤ 1000) : SvB ((w.alloc o).alloc (.cells (bsU l).toArray 5)) (.slice (some ⟨w.heap.size + 1, 0, none⟩) l.length l.length) l := ⟨_, _, rfl, rd_second w o l, Nat.le_refl _, by omega, fun h => by cases h⟩
theorem wk_edit (w : World) : Calls Try.prog 12 #[.slice (some ⟨w.heap.size, 0, none⟩) 6 6, .slice (some ⟨w.heap.size + 1, 0, none⟩) 2 2] ((w.alloc (.cells (bsU [64, 32, 32, 32, 195, 217]).toArray 5)).alloc (.cells (bsU [0, 93]).toArray 5))
    (E4Post ((w.alloc (.cells (bsU [64, 32, 32, 32, 195, 217]).toArray 5)).alloc (.cells (bsU [0, 93]).toArray 5)) [64, 64, 64, 245, 195, 217] 1 3 0) :=
  edit4_any _ _ [64, 32, 32, 32, 195, 217] [0, 93] _ _ _ _ _ ((svb_new w [64, 32, 32, 32, 195, 217] (by simp)).below (below_new _ _)) (svb_second w _ [0, 93] (by simp)) (by decide +kernel)
theorem Hold.up {w : World} {b : Nat} {sv : Value} {l : List UInt8} (h : Hold w b sv l) : SvB w sv l := h.svb
set_option maxRecDepth 100000 in
set_option maxHeartbeats 1000000 in
theorem works_any (w : World) : Calls Try.prog 10 #[] w (New w (.bool true)) := by
  go_enter Try.func10, Try.ntmps10
  go_wp2_with fail
  refine (wk_edit w).mono ?_
  rintro e w1 ⟨pv, cv, rfl, hh, hb⟩
  have HB1 := Lib.hid (bel0 (below2 w _ _) hb)
  have HB2 := Lib.hid (bel0 HB1.out (below2 w1 (.cells #[.slice pv 6 cv, .int .i64 1, .int .i64 3] 26) (.cells (bsU [64, 64, 64, 245, 195, 217]).toArray 5)))
  have HS := Lib.hid (hh.svb.below (below2 w1 (.cells #[.slice pv 6 cv, .int .i64 1, .int .i64 3] 26) (.cells (bsU [64, 64, 64, 245, 195, 217]).toArray 5)))
  have HSM := Lib.hid (svb_second w1 (.cells #[.slice pv 6 cv, .int .i64 1, .int .i64 3] 26) [64, 64, 64, 245, 195, 217] (by simp))
  have hB := (Bx.new w1 26 #[.slice pv 6 cv, .int .i64 1, .int .i64 3]).below (below_new _ (.cells (bsU [64, 64, 64, 245, 195, 217]).toArray 5))
  have HBX := Lib.hid hB
  clear hb hh hB
  go_wp2_with fail
  refine (same_svb HS.out HSM.out).mono ?_
  rintro e w2 ⟨rfl, hb⟩
  have HB3 := Lib.hid (bel0 HB2.out hb)
  obtain ⟨⟨c0, c1, c2⟩, _⟩ := (HBX.out.below hb).three
  clear hb
  go_wp2
  go_ret
  exact ⟨rfl, HB3.out⟩

end E
end Go.Proofs.Ytfkenoehoocobaa

/- The contract of Number: a valid number, whatever the text. -/
import Derived.Test.YtlpekknhaaddcaaDoorPkIs
namespace Go.Proofs.YtlpekknhaaddcaaDoor
open Go.RowKit Go.Shelf
set_option linter.unusedVariables false
namespace E

/-- What Number leaves: a valid number with the sign. -/
def NumPost (w : World) (neg : Bool) (e : Ending) (w' : World) : Prop := ∃ t : ByteArray, e = .returned (.agg #[.bool neg, .string t]) ∧ okL t.data.toList = true ∧ Below w.heap.size w w'
/-- Digits, the first of which is 0 only if it is the only one. -/
def nOk (L : List UInt8) : Prop := (∀ j, j < L.length → isD (gt L j) = true) ∧ (1 < L.length → gt L 0 ≠ 48)
theorem gt_snoc (L : List UInt8) (x : UInt8) (j : Nat) : gt (L ++ [x]) j = if j < L.length then gt L j else if j = L.length then x else 0 := by
  unfold gt
  rw [List.getD_eq_getElem?_getD, List.getD_eq_getElem?_getD]
  by_cases h : j < L.length
  · rw [if_pos h, List.getElem?_append_left h]
  · rw [if_neg h, List.getElem?_append_right (by omega)]
    by_cases h2 : j = L.length
    · rw [if_pos h2, h2]; simp
    · rw [if_neg h2, List.getElem?_eq_none (by simp; omega)]; rfl
theorem nOk_one (x : UInt8) (h : isD x = true) : nOk [x] := ⟨fun j hj => by
  obtain rfl : j = 0 := by simp at hj; exact hj
  exact h, fun h => by simp at h⟩
theorem nOk_snoc {L : List UInt8} {x : UInt8} (hL : nOk L) (hx : isD x = true) (h : ¬ (L.length = 1 ∧ gt L 0 = 48)) : nOk (L ++ [x]) := by
  refine ⟨fun j hj => ?_, fun hl => ?_⟩
  · rw [gt_snoc]
    by_cases h1 : j < L.length
    · rw [if_pos h1]; exact hL.1 j h1
    · rw [if_neg h1, if_pos (by simp at hj; omega)]; exact hx
  · have hl' : 1 ≤ L.length := by simp at hl; omega
    rw [gt_snoc, if_pos (by omega)]
    intro he
    rcases Nat.lt_or_ge 1 L.length with h2 | h2
    · exact hL.2 h2 he
    · exact h ⟨by omega, he⟩
theorem isD_mod (x : UInt8) : isD (UInt8.ofNat (48 + x.toNat % 10)) = true := all256 (p := fun x => isD (UInt8.ofNat (48 + x.toNat % 10)) = true) (by decide +kernel) x
theorem nat_mod (x : UInt8) : ((UInt8.ofNat (48 + x.toNat % 10)).toNat : Int) = 48 + (x.toNat : Int).tmod 10 := all256 (p := fun x => ((UInt8.ofNat (48 + x.toNat % 10)).toNat : Int) = 48 + (x.toNat : Int).tmod 10) (by decide +kernel) x
theorem bel0 {w W W' : World} (h : Below w.heap.size w W) (hb : Below W.heap.size W W') : Below w.heap.size w W' := h.trans (hb.mono h.size)
theorem results_cell1 {fn : Func} {p : Tmp} {ty : TypeId} (h : fn.results = #[.cell p ty]) (tmps : Array Value) (P : Program) (w : World) :
    (results fn tmps).run P w = ((asAddr (tmps.getD p undef)).run P w).andThen fun a w₁ => (loadVar ty a).run P w₁ := by
  simp only [results, h]
  simp [Sem.run_bind, Result.andThen]
end E
end Go.Proofs.YtlpekknhaaddcaaDoor

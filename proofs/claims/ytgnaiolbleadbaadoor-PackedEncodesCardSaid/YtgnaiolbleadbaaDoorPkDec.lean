/- A number that comes in as an argument. -/
import Derived.Test.YtgnaiolbleadbaaDoorPkLaid
import Derived.Lib.SmallJoins
namespace Go.Proofs.YtgnaiolbleadbaaDoor
open Go.RowKit Go.Shelf Go.Joins
set_option linter.unusedVariables false
namespace E

set_option maxRecDepth 100000 in
theorem cellsDec : Tryd.prog.cellsOf 26 = 2 := by kernel_rfl
set_option maxRecDepth 100000 in
theorem dec_of {H : Type} {enc : TypeId × Value → H} {W : World} {r : Reach} {b0 : Nat} {v : Value} {d : DataW H} {ps : List MemPlace} (hv : Value.okWide Tryd.prog W r b0 26 v) (h : DataW.Trod enc Tryd.prog W 0 (fun _ => true) true 26 v d ps) :
    ∃ (b : Bool) (s : ByteArray), v = .agg #[.bool b, .string s] ∧ ps = [] ∧ s.size ≤ 9223372036854775807 := by
  obtain ⟨c0, c1, y0, y1, m, rfl, rfl, rfl, hy0, hy1⟩ := open_agg2 Tryd.underlying26 (by kernel_rfl) cellsDec hv h
  obtain ⟨b, e0, rfl⟩ := DataW.trod_bool Tryd.underlying4 hy0
  obtain ⟨s, e1, rfl, hs⟩ := DataW.trod_string Tryd.underlying9 hy1
  simp at e0 e1
  subst e0 e1
  exact ⟨b, s, rfl, rfl, by unfold maxLen at hs; omega⟩

end E
end Go.Proofs.YtgnaiolbleadbaaDoor

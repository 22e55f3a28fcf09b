/- What a statement's premises give: slices of bytes read as lists; structs of them. -/
import Derived.Test.YtbcncohjjnmdcaaGreatDoorRows
import Derived.ChangeMaps5
import Derived.Lib.SmallJoins
import Derived.OpenShut
import Derived.Test.YtbcncohjjnmdcaaGreatDoorPkA
namespace Go.Proofs.YtbcncohjjnmdcaaGreatDoor
open Go.ChangeShapes Go.WideShapes Go.ChangeAt Go.RowKit Go.ChangeMaps Go.Joins
set_option linter.unusedVariables false
namespace E

theorem own : ownKnob Tryz.prog.godebug = none := by kernel_rfl
theorem laid : laidOutB Tryz.prog = true := by kernel_rfl
/-- A number of the statements: its digits, its sign, its message bytes. -/
def NumV (w : World) (v : Value) (l : List UInt8) (neg : Bool) (m : List UInt8) : Prop := ∃ d t, v = .agg #[d, .bool neg, t] ∧ SvB w d l ∧ SvB w t m
theorem NumV.below {w w' : World} {v : Value} {l m : List UInt8} {neg : Bool} (h : NumV w v l neg m) (hb : Below w.heap.size w w') : NumV w' v l neg m := by
  obtain ⟨d, t, h1, h2, h3⟩ := h
  exact ⟨d, t, h1, h2.below hb, h3.below hb⟩
end E
end Go.Proofs.YtbcncohjjnmdcaaGreatDoor

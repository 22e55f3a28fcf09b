/- Small contracts of the program: what sets registers, the condition code and the code. -/
import Derived.Test.YtbcncohjjnmdcaaGreatDoorRows
import Derived.Test.YtbcncohjjnmdcaaGreatDoorGnMem
namespace Go.Proofs.YtbcncohjjnmdcaaGreatDoor
namespace E
end E
open Go.RowKit Go.Shelf E
set_option linter.unusedVariables false
namespace M

/-- The ending of a call that stops with a code. -/
def Stop (c : Int) : Ending := .panicked [{ v := .iface 101 (.int .i64 c), recovered := false }]
theorem bel_drew (w : World) : Below w.heap.size w w.drew := (Below.refl _ _).drew
theorem Ex.drew {w : World} {E A : Nat} {q : Qn} {R : Nat → Int} {p : Psw} {c : Int} (h : Ex w E A q R p c) : Ex w.drew E A q R p c := h.below (bel_drew w)
theorem kp_drew (w : World) (l : List Nat) : Kp w w.drew l := Kp.bel (bel_drew w)
end M
end Go.Proofs.YtbcncohjjnmdcaaGreatDoor

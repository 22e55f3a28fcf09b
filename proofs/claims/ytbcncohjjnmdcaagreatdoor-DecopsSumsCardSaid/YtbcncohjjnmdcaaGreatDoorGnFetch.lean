/- The program's accesses to storage. -/
import Derived.Test.YtbcncohjjnmdcaaGreatDoorRows
import Derived.Test.YtbcncohjjnmdcaaGreatDoorGnAddr
namespace Go.Proofs.YtbcncohjjnmdcaaGreatDoor
namespace E
end E
open Go.RowKit Go.Shelf E
set_option linter.unusedVariables false
namespace M

/-- The ranges of an instruction's fields. -/
structure QOk (q : Qn) : Prop where
  op : q.op < 256
  r1 : q.r1 < 16
  r2 : q.r2 < 16
  x2 : q.x2 < 16
  b1 : q.b1 < 16
  d1 : q.d1 < 4096
  b2 : q.b2 < 16
  d2 : q.d2 < 4096
  l1 : q.l1 < 256
  l2 : q.l2 < 16
  i2 : q.i2 < 256
/-- The addresses of the operands. -/
def adT (q : Qn) (R : Nat → Int) : Nat := adr R q.d2 q.b2 q.x2
def adF (q : Qn) (R : Nat → Int) : Nat := adr R q.d1 q.b1 0
theorem adT_lt (q : Qn) (R : Nat → Int) : adT q R < 16777216 := adr_lt _ _ _ _
theorem adF_lt (q : Qn) (R : Nat → Int) : adF q R < 16777216 := adr_lt _ _ _ _
/-- A call that returns a value, or stops with a code; memory has only grown. -/
def OrStop (w : World) (v : Value) (c : Int) (e : Ending) (w' : World) : Prop := Below w.heap.size w w' ∧ ((c = 0 ∧ e = .returned v) ∨ (c ≠ 0 ∧ e = Stop c))
end M
end Go.Proofs.YtbcncohjjnmdcaaGreatDoor

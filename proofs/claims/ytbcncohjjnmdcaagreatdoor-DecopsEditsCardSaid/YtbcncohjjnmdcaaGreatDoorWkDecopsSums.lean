/- The walk of the statement DecopsSums. -/
import Derived.Test.YtbcncohjjnmdcaaGreatDoorRows
import Derived.Test.YtbcncohjjnmdcaaGreatDoorGnMem
import Derived.Test.YtbcncohjjnmdcaaGreatDoorWkDecopsNone
namespace Go.Proofs.YtbcncohjjnmdcaaGreatDoor
namespace E
end E
open Go.RowKit Go.Shelf E
set_option linter.unusedVariables false
namespace M

def R23 (x y : Nat) : Nat → Int := fun j => if j = 2 then (x : Int) else if j = 3 then (y : Int) else 0
theorem R23_ok {x y : Nat} (hx : x < 4294967296) (hy : y < 4294967296) : RegOk (R23 x y) := fun n => by
  unfold R23
  split
  · omega
  · split <;> omega
theorem regs_selfZ (x y : Nat) (w : World) : (binOp .eql 28 (.agg #[.int .u32 0, .int .u32 0, .int .u32 (x : Int), .int .u32 (y : Int), .int .u32 0, .int .u32 0, .int .u32 0, .int .u32 0, .int .u32 0, .int .u32 0, .int .u32 0, .int .u32 0, .int .u32 0, .int .u32 0, .int .u32 0, .int .u32 0]) (.agg #[.int .u32 0, .int .u32 0, .int .u32 (x : Int), .int .u32 (y : Int), .int .u32 0, .int .u32 0, .int .u32 0, .int .u32 0, .int .u32 0, .int .u32 0, .int .u32 0, .int .u32 0, .int .u32 0, .int .u32 0, .int .u32 0, .int .u32 0])).run Tryz.prog w = .ok (.bool true) w := regs_self (R23 x y) w
attribute [local go_sem 5000] regs_selfZ
end M
end Go.Proofs.YtbcncohjjnmdcaaGreatDoor

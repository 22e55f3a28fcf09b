/- The contracts of slices.Max and of Multiply. -/
import Derived.Test.YtbcncohjjnmdcaaGreatDoorRows
import Derived.Test.YtbcncohjjnmdcaaGreatDoorDcB
namespace Go.Proofs.YtbcncohjjnmdcaaGreatDoor
open Go.RowKit Go.Shelf
set_option linter.unusedVariables false
namespace E

theorem dVal_15 {bs : List UInt8} (h1 : 1 ≤ bs.length) (h : bs.length ≤ 8) : dVal bs < 1000000000000000 := by
  have h2 := dVal_lt bs h1
  have h3 : (10 : Nat) ^ (2 * bs.length - 1) ≤ 10 ^ 15 := Nat.pow_le_pow_right (by omega) (by omega)
  have h4 : (10 : Nat) ^ 15 = 1000000000000000 := by decide
  omega
end E
end Go.Proofs.YtbcncohjjnmdcaaGreatDoor

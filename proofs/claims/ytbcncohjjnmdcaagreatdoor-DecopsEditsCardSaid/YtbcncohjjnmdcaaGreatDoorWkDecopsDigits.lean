/- The walk of the statement DecopsDigits. -/
import Derived.Test.YtbcncohjjnmdcaaGreatDoorRows
import Derived.Test.YtbcncohjjnmdcaaGreatDoorDpO
namespace Go.Proofs.YtbcncohjjnmdcaaGreatDoor
namespace E
end E
open Go.RowKit Go.Shelf E
set_option linter.unusedVariables false
namespace M

theorem byt_in {l : List UInt8} {a k : Nat} (h : a + k ≤ 2048) : bytL 2048 l (a : Int) (k : Int) = E.subL l a k := by
  unfold bytL
  rw [if_pos (inB_iff.2 ⟨by omega, by omega, by omega⟩)]
  simp
theorem Runs.eqo {q : Qn} {R : Nat → Int} {p : Psw} {n : Nat} {bs ks : List UInt8} {o o' : Out} (h : Runs q R p n bs ks o) (e : o = o') : Runs q R p n bs ks o' := e ▸ h
end M
end Go.Proofs.YtbcncohjjnmdcaaGreatDoor

/- The program: put, the byte at an address, the operand, the pair. -/
import Derived.Test.YtbcncohjjnmdcaaGreatDoorRows
import Derived.Test.YtbcncohjjnmdcaaGreatDoorGnAddr
namespace Go.Proofs.YtbcncohjjnmdcaaGreatDoor
namespace E
end E
open Go.RowKit Go.Shelf E
set_option linter.unusedVariables false
namespace M

/-- What holds around the storing: the execution lies as it did, and nothing has turned but the storage's bytes. -/
def PS (E A : Nat) (q : Qn) (R : Nat → Int) (p : Psw) (c : Int) (g : Nat) (w W : World) : Prop := Kp w W [g] ∧ Ex W E A q R p c
theorem PS.next {E A : Nat} {q : Qn} {R : Nat → Int} {p : Psw} {c : Int} {g : Nat} {w W W' : World} (h : PS E A q R p c g w W) (hk : W.grownBy W' (some g)) (he : E ≠ g) : PS E A q R p c g w W' := ⟨h.1.trans (Kp.of hk (by simp)), h.2.grown hk (fun e => he (Option.some.inj e))⟩
theorem Ex.ne_sto {w : World} {E A g h n m : Nat} {q : Qn} {R : Nat → Int} {p : Psw} {c : Int} {bs ks : List UInt8} (hx : Ex w E A q R p c) (hs : Sto w A g h n m bs ks) : E ≠ A ∧ E ≠ g ∧ E ≠ h := by
  have h1 := Bx.row hx
  exact ⟨h1.ne hs.1.row (by decide), h1.ne hs.2.1 (by decide), h1.ne hs.2.2.1 (by decide)⟩
end M
end Go.Proofs.YtbcncohjjnmdcaaGreatDoor

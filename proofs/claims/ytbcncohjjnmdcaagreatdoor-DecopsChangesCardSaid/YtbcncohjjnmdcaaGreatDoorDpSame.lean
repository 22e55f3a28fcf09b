/- Two slices of equal bytes are the same. -/
import Derived.Test.YtbcncohjjnmdcaaGreatDoorRows
import Derived.Test.YtbcncohjjnmdcaaGreatDoorGnMem
namespace Go.Proofs.YtbcncohjjnmdcaaGreatDoor
open Go.RowKit Go.Shelf
set_option linter.unusedVariables false
namespace E

theorem same_true (p q : Option Addr) (c d : Nat) (l : List UInt8) (w : World) (hp : Rd w p l) (hq : Rd w q l) :
    Calls Tryz.prog 20 #[.slice p l.length c, .slice q l.length d] w fun e w' => e = .returned (.bool true) ∧ w = w' := by
  have h1 := conv_rd (c := c) hp
  have h2 := conv_rd (c := d) hq
  clear hp hq
  generalize (⟨l.toArray⟩ : ByteArray) = s at *
  generalize l.length = n at *
  go_enter Tryz.func20, Tryz.ntmps20
  go_wp2
  go_ret
  exact ⟨by simp, rfl⟩
theorem same_svb {w : World} {u v : Value} {l : List UInt8} (h1 : SvB w u l) (h2 : SvB w v l) : Calls Tryz.prog 20 #[u, v] w fun e w' => e = .returned (.bool true) ∧ w = w' := by
  obtain ⟨p, c, rfl, r1, h3, h4, _⟩ := h1
  obtain ⟨q, d, rfl, r2, _⟩ := h2
  exact same_true p q c d l w r1 r2

end E
end Go.Proofs.YtbcncohjjnmdcaaGreatDoor

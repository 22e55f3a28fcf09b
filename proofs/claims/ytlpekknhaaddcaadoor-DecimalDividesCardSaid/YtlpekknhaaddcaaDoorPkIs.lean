/- The contracts of the helpers of the statements: same, dec, is, not, field. -/
import Derived.Test.YtlpekknhaaddcaaDoorPkDecode
import Derived.Test.YtlpekknhaaddcaaDoorPkEnc2
namespace Go.Proofs.YtlpekknhaaddcaaDoor
open Go.RowKit Go.Shelf
set_option linter.unusedVariables false
namespace E

theorem decode_any (p : Option Addr) (c : Nat) (bs : List UInt8) (w : World) (hr : Rd w p bs) (hg : Sg w) :
    Calls Tryd.prog 67 #[.slice p bs.length c] w (DecPost w bs) := by
  by_cases hl : 1 ≤ bs.length ∧ bs.length ≤ 16
  · exact decode_yes p c bs w hl.1 hl.2 hr hg
  · have ho : dOk bs = false := by unfold dOk; rw [decide_eq_false hl]; rfl
    refine (decode_no p bs.length c w hl).mono ?_
    rintro e w' ⟨rfl, hb⟩
    refine ⟨?_, hb⟩
    unfold dNeg dDig
    rw [ho]
    rfl
theorem rsame_true (p q : Option Addr) (c d : Nat) (l : List UInt8) (w : World) (hp : Rd w p l) (hq : Rd w q l) :
    Calls Tryd.prog 19 #[.slice p l.length c, .slice q l.length d] w fun e w' => e = .returned (.bool true) ∧ w = w' := by
  have h1 := conv_rd (c := c) hp
  have h2 := conv_rd (c := d) hq
  clear hp hq
  generalize (⟨l.toArray⟩ : ByteArray) = s at *
  generalize l.length = n at *
  go_enter Tryd.func19, Tryd.ntmps19
  go_wp2
  go_ret
  exact ⟨by simp, rfl⟩
end E
end Go.Proofs.YtlpekknhaaddcaaDoor

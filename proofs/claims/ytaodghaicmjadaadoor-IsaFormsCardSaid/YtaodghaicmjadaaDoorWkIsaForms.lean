/- The walk of the statement IsaForms: it answers true, and below its own memory nothing turns. -/
import Derived.Test.YtaodghaicmjadaaDoorIsOpen
import Derived.Test.YtaodghaicmjadaaDoorIsROf
namespace Go.Proofs.YtaodghaicmjadaaDoor.isaForms
open Go.RowKit Go.Shelf E
set_option linter.unusedVariables false

set_option maxRecDepth 100000 in
theorem walk (op : Int) (h1 : -9223372036854775808 ≤ op) (h2 : op < 9223372036854775808) (w : World) : Calls Tryd.prog 3 #[.int .i64 op] w (New w (.bool true)) := by
  have HF := Lib.hid (fun W => form_any op W)
  have HG := Lib.hid (fun W => form_ref op W)
  have HL := Lib.hid (fun W => length_any op W)
  have HM := Lib.hid (fun W => rlength_any op W)
  unfold formV at HF HG
  generalize (foO (ixC op) : Int) = x at HF HG
  generalize (ixC op).isSome = b at HF HG
  generalize (lenO op : Int) = n at HL HM
  clear h1 h2
  go_enter Tryd.func3, Tryd.ntmps3
  go_wp2_with fail
  refine (HF.out _).mono ?_
  rintro e w1 ⟨rfl, hb⟩
  have HB1 := Lib.hid hb
  clear hb
  go_wp2_with fail
  refine (HG.out _).mono ?_
  rintro e w2 ⟨rfl, hb⟩
  have HB2 := Lib.hid (bel0 HB1.out hb)
  clear hb HB1
  go_wp2_with fail
  refine (HL.out _).mono ?_
  rintro e w3 ⟨rfl, rfl⟩
  go_wp2_with fail
  refine (HM.out _).mono ?_
  rintro e w4 ⟨rfl, rfl⟩
  go_wp2_with fail
  refine (works_any _).mono ?_
  rintro e w5 ⟨rfl, hb⟩
  have HB5 := Lib.hid (bel0 HB2.out hb)
  clear hb HB2
  go_wp2
  go_ret
  exact ⟨rfl, HB5.out⟩
end Go.Proofs.YtaodghaicmjadaaDoor.isaForms

/- The walk of the statement PswBranches: it answers true, and below its own memory nothing turns. -/
import Derived.Test.YtfobmgoehamnnaaPsRAdm
import Derived.Test.YtfobmgoehamnnaaPsWorks
namespace Go.Proofs.Ytfobmgoehamnnaa.pswBranches
open Go.RowKit E
set_option linter.unusedVariables false

set_option maxRecDepth 100000 in
theorem walk (m c : Int) (w : World) : Calls Try.prog 5 #[.int .i64 m, .int .i64 c] w (New w (.bool true)) := by
  have H1 := Lib.hid (branch_any m c)
  have H2 := Lib.hid (rbranch_any m c)
  generalize brB m c = b at *
  go_enter Try.func5, Try.ntmps5
  go_wp2_with fail
  refine (H1.out _).mono ?_
  rintro e w1 ⟨rfl, hb⟩
  have HB1 := Lib.hid hb
  clear hb H1
  go_wp2_with fail
  refine (H2.out _).mono ?_
  rintro e w2 ⟨rfl, hb⟩
  have HB2 := Lib.hid (bel0 HB1.out hb)
  clear hb H2 HB1
  go_wp2_with fail
  refine (works_any _).mono ?_
  rintro e w3 ⟨rfl, hb⟩
  have HB3 := Lib.hid (bel0 HB2.out hb)
  clear hb HB2
  go_wp2
  go_ret
  exact ⟨rfl, HB3.out⟩

end Go.Proofs.Ytfobmgoehamnnaa.pswBranches

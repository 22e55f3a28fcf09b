/- The walk of the statement DecopsKnows. -/
import Derived.Test.YtbcncohjjnmdcaaGreatDoorRows
import Derived.Test.YtbcncohjjnmdcaaGreatDoorDpWorks
namespace Go.Proofs.YtbcncohjjnmdcaaGreatDoor
namespace E
end E
open Go.RowKit Go.Shelf E
set_option linter.unusedVariables false
namespace M

set_option maxRecDepth 100000 in
theorem wk_knows (x : Int) (w : World) (hsg : Sg w) : Calls Tryz.prog 3 #[.int .i64 x] w (New w (.bool true)) := by
  have H1 := Lib.hid (fun W => knows_any x W)
  have H2 := Lib.hid (fun W => rknows_any x W)
  have HSG := Lib.hid hsg
  clear hsg
  generalize knB x = b at H1 H2
  go_enter Tryz.func3, Tryz.ntmps3
  go_wp2_with fail
  refine (H1.out _).mono ?_
  rintro e w1 ⟨rfl, rfl⟩
  go_wp2_with fail
  refine (H2.out _).mono ?_
  rintro e w2 ⟨rfl, hb⟩
  have HB := Lib.hid hb
  clear hb H1 H2
  go_wp2_with fail
  refine (works_any _ (HSG.out.below HB.out)).mono ?_
  rintro e w3 ⟨rfl, hb⟩
  have HB2 := Lib.hid (bel0 HB.out hb)
  clear hb HB HSG
  go_wp2
  go_ret
  exact ⟨rfl, HB2.out⟩

end M
end Go.Proofs.YtbcncohjjnmdcaaGreatDoor

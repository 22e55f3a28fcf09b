/- The contracts of the makers of closures: writer, digits, figures; of the layouts and of isSize; what the closures of digits and figures yield. -/
import Derived.Test.YtbcncohjjnmdcaaGreatDoorRows
import Derived.Test.YtbcncohjjnmdcaaGreatDoorPkB
namespace Go.Proofs.YtbcncohjjnmdcaaGreatDoor
open Go.RowKit Go.Shelf
set_option linter.unusedVariables false
namespace E
attribute [local go_sem] Oper.semAt_some

theorem zonedLayout_any (w : World) : Calls Tryz.prog 154 #[] w (New w (layV 1 0 2 240)) := by
  go_enter Tryz.func154, Tryz.ntmps154
  go_wp2
  refine bodyPost_ret (results_cell_row rfl _ _ w.heap.size _ _ _ _ rfl (heap_alloc_new w _) Tryz.underlying174 rfl (by kernel_rfl)) rfl ?_
  exact ⟨rfl, below_new _ _⟩
end E
end Go.Proofs.YtbcncohjjnmdcaaGreatDoor

/- What the texts of layer 4 stand on: the contracts of layer 3 that its functions call. -/
import Derived.Test.YtlpekknhaaddcaaDoorPkRef10
import Derived.Test.YtlpekknhaaddcaaDoorPkRef6
import Derived.Test.YtlpekknhaaddcaaDoorPkIs
import Derived.Test.YtlpekknhaaddcaaDoorPkLaid
import Derived.Test.YtlpekknhaaddcaaDoorPkPure
import Derived.Laws.ResultCell
namespace Go.Proofs.YtlpekknhaaddcaaDoor
open Go.RowKit Go.Shelf
set_option linter.unusedVariables false
namespace E

theorem bel_app {wr W W' : World} (h : ApS wr W) (hb : Below W.heap.size W W') : ApS wr W' := bel0 h hb
theorem ApS.mem {w W : World} {o : Obj} (h : ApS w W) : ApS w (W.alloc o) := Below.alloc h (Below.size h) o

end E
end Go.Proofs.YtlpekknhaaddcaaDoor

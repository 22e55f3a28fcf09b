/- What the texts of layer 4 stand on: the contracts of layer 3 that its functions call. -/
import Derived.Test.YtbcncohjjnmdcaaGreatDoorRows
import Derived.ChangeMaps5
import Derived.LaidMore
import Derived.Lay
import Derived.Lib.SmallJoins
import Derived.OpenShut
import Derived.SevenTiedAt
import Derived.Stop.Joined
import Derived.Test.YtbcncohjjnmdcaaGreatDoorPkR
namespace Go.Proofs.YtbcncohjjnmdcaaGreatDoor
open Go.RowKit Go.Shelf
set_option linter.unusedVariables false
namespace E

theorem bel_app {wr W W' : World} (h : ApS wr W) (hb : Below W.heap.size W W') : ApS wr W' := bel0 h hb
end E
end Go.Proofs.YtbcncohjjnmdcaaGreatDoor

/- What a statement's premises give: an instruction, registers, a state, a link, a row of instructions. -/
import Derived.Test.YtbcncohjjnmdcaaGreatDoorRows
import Derived.ChangeMaps5
import Derived.Deep.CutRange
import Derived.Deep.RegionLaw
import Derived.Deep.Slices
import Derived.Laws.MathBits
import Derived.Laws.ResultCell
import Derived.Lib.MakeNoZero
import Derived.Lib.SmallJoins
import Derived.Maps.AppendAt
import Derived.OpenShut
import Derived.RangeFuncBound
import Derived.Recover
import Derived.Shelf.Abstract
import Derived.StillTailTactics
import Derived.WalkLawsBesides
import Derived.Test.YtbcncohjjnmdcaaGreatDoorIsIns
namespace Go.Proofs.YtbcncohjjnmdcaaGreatDoor
open Go.ChangeShapes Go.WideShapes Go.ChangeAt Go.RowKit Go.ChangeMaps Go.Joins Go.Deep E
set_option linter.unusedVariables false
namespace M

theorem u32w {v : Int} (h : (Lit.int .u32 v).wf = true) : 0 ≤ v ∧ v < 4294967296 := by
  simp [Lit.wf, IntKind.min, IntKind.max, IntKind.bits, IntKind.signed] at h; omega
end M
end Go.Proofs.YtbcncohjjnmdcaaGreatDoor

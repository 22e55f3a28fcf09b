/- The program: which action an operation code has. -/
import Derived.Test.YtbcncohjjnmdcaaGreatDoorRows
import Derived.Below
import Derived.BigQuiet
import Derived.Deep.AppendLies
import Derived.Deep.Cut
import Derived.Deep.CutRange
import Derived.Deep.DeepMust
import Derived.Deep.Draws
import Derived.Deep.QuietTactic
import Derived.Deep.RegionHeld
import Derived.Deep.RegionHeld3
import Derived.Deep.RegionLaw
import Derived.IntWalk
import Derived.Laws.AppendOwn
import Derived.Laws.AppendOwnNone
import Derived.Laws.CopyOwn
import Derived.Laws.EntriesVeiled
import Derived.Laws.IdiomStrings
import Derived.Laws.MathBits
import Derived.Laws.OwnMore
import Derived.Laws.ResultCell
import Derived.Lib.Hide
import Derived.Lib.MakeNoZero
import Derived.Lib.SliceRun
import Derived.Lib.Strings
import Derived.LoopIn
import Derived.LoopNIn
import Derived.MapKept
import Derived.Maps.AppendAt
import Derived.OrdersHeld
import Derived.OrdersIn
import Derived.OwnWalk
import Derived.OwnWalkIn
import Derived.ProofKit
import Derived.RangeFuncBound
import Derived.RangeFuncBox
import Derived.RangeFuncCalls
import Derived.RangeFuncLeaves
import Derived.RangeFuncNested
import Derived.Recover
import Derived.RegionIn
import Derived.RegionTactic
import Derived.Scope
import Derived.Shelf.Abstract
import Derived.Shelf.RegionOpen
import Derived.StillTailTactics
import Derived.TacticsIn
import Derived.TacticsInMore
import Derived.WalkKit
import Derived.WalkLawsBesides
import Derived.WalkMore
namespace Go.Proofs.YtbcncohjjnmdcaaGreatDoor
namespace E
end E
open Go.RowKit Go.Shelf E
set_option linter.unusedVariables false
namespace M

/-- A function as a value. -/
def fnV (f : Nat) : Value := .func (.func f) #[] #[]
set_option maxRecDepth 100000 in
theorem action_79 (w : World) : Calls Tryz.prog 28 #[.int .i64 79] w fun e w' => e = .returned (fnV 44) ∧ w = w' := by
  go_enter Tryz.func28, Tryz.ntmps28
  go_wp2
  go_ret
  exact ⟨rfl, rfl⟩
set_option maxRecDepth 100000 in
theorem action_78 (w : World) : Calls Tryz.prog 28 #[.int .i64 78] w fun e w' => e = .returned (fnV 45) ∧ w = w' := by
  go_enter Tryz.func28, Tryz.ntmps28
  go_wp2
  go_ret
  exact ⟨rfl, rfl⟩
set_option maxRecDepth 100000 in
theorem action_242 (w : World) : Calls Tryz.prog 28 #[.int .i64 242] w fun e w' => e = .returned (fnV 46) ∧ w = w' := by
  go_enter Tryz.func28, Tryz.ntmps28
  go_wp2
  go_ret
  exact ⟨rfl, rfl⟩
set_option maxRecDepth 100000 in
theorem action_243 (w : World) : Calls Tryz.prog 28 #[.int .i64 243] w fun e w' => e = .returned (fnV 47) ∧ w = w' := by
  go_enter Tryz.func28, Tryz.ntmps28
  go_wp2
  go_ret
  exact ⟨rfl, rfl⟩
set_option maxRecDepth 100000 in
theorem action_241 (w : World) : Calls Tryz.prog 28 #[.int .i64 241] w fun e w' => e = .returned (fnV 48) ∧ w = w' := by
  go_enter Tryz.func28, Tryz.ntmps28
  go_wp2
  go_ret
  exact ⟨rfl, rfl⟩
set_option maxRecDepth 100000 in
theorem action_248 (w : World) : Calls Tryz.prog 28 #[.int .i64 248] w fun e w' => e = .returned (fnV 49) ∧ w = w' := by
  go_enter Tryz.func28, Tryz.ntmps28
  go_wp2
  go_ret
  exact ⟨rfl, rfl⟩
set_option maxRecDepth 100000 in
theorem action_250 (w : World) : Calls Tryz.prog 28 #[.int .i64 250] w fun e w' => e = .returned (fnV 50) ∧ w = w' := by
  go_enter Tryz.func28, Tryz.ntmps28
  go_wp2
  go_ret
  exact ⟨rfl, rfl⟩
set_option maxRecDepth 100000 in
theorem action_251 (w : World) : Calls Tryz.prog 28 #[.int .i64 251] w fun e w' => e = .returned (fnV 51) ∧ w = w' := by
  go_enter Tryz.func28, Tryz.ntmps28
  go_wp2
  go_ret
  exact ⟨rfl, rfl⟩
set_option maxRecDepth 100000 in
theorem action_249 (w : World) : Calls Tryz.prog 28 #[.int .i64 249] w fun e w' => e = .returned (fnV 52) ∧ w = w' := by
  go_enter Tryz.func28, Tryz.ntmps28
  go_wp2
  go_ret
  exact ⟨rfl, rfl⟩
set_option maxRecDepth 100000 in
theorem action_252 (w : World) : Calls Tryz.prog 28 #[.int .i64 252] w fun e w' => e = .returned (fnV 53) ∧ w = w' := by
  go_enter Tryz.func28, Tryz.ntmps28
  go_wp2
  go_ret
  exact ⟨rfl, rfl⟩
set_option maxRecDepth 100000 in
theorem action_253 (w : World) : Calls Tryz.prog 28 #[.int .i64 253] w fun e w' => e = .returned (fnV 54) ∧ w = w' := by
  go_enter Tryz.func28, Tryz.ntmps28
  go_wp2
  go_ret
  exact ⟨rfl, rfl⟩
set_option maxRecDepth 100000 in
theorem action_240 (w : World) : Calls Tryz.prog 28 #[.int .i64 240] w fun e w' => e = .returned (fnV 55) ∧ w = w' := by
  go_enter Tryz.func28, Tryz.ntmps28
  go_wp2
  go_ret
  exact ⟨rfl, rfl⟩
set_option maxRecDepth 100000 in
theorem action_222 (w : World) : Calls Tryz.prog 28 #[.int .i64 222] w fun e w' => e = .returned (fnV 56) ∧ w = w' := by
  go_enter Tryz.func28, Tryz.ntmps28
  go_wp2
  go_ret
  exact ⟨rfl, rfl⟩
set_option maxRecDepth 100000 in
theorem action_223 (w : World) : Calls Tryz.prog 28 #[.int .i64 223] w fun e w' => e = .returned (fnV 57) ∧ w = w' := by
  go_enter Tryz.func28, Tryz.ntmps28
  go_wp2
  go_ret
  exact ⟨rfl, rfl⟩

end M
end Go.Proofs.YtbcncohjjnmdcaaGreatDoor

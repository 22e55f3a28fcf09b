/- The program: which action an operation code has. -/
import Derived.Test.YtfopjnfphlkcgaaGreatRows
import Derived.Deep.CutRange
import Derived.Deep.RegionHeld
import Derived.IntWalk
import Derived.Laws.EntriesVeiled
import Derived.Laws.ResultCell
import Derived.Lib.SliceRun
import Derived.Lib.Strings
import Derived.LoopIn
import Derived.LoopNIn
import Derived.OrdersHeld
import Derived.OrdersIn
import Derived.OwnWalkIn
import Derived.RangeFuncBound
import Derived.RangeFuncBox
import Derived.RangeFuncCalls
import Derived.RangeFuncLeaves
import Derived.RangeFuncNested
import Derived.Recover
import Derived.RegionIn
import Derived.RegionTactic
import Derived.Scope
import Derived.Shelf.Abstract
import Derived.Shelf.RegionOpen
import Derived.StillTailTactics
import Derived.TacticsIn
import Derived.TacticsInMore
import Derived.WalkLawsBesides
import Derived.WalkMore
import Derived.Test.YtfopjnfphlkcgaaGreatPkA
namespace Go.Proofs.YtfopjnfphlkcgaaGreat
open Go.RowKit Go.Shelf E
set_option linter.unusedVariables false
namespace M

/-- A function as a value. -/
def fnV (f : Nat) : Value := .func (.func f) #[] #[]
set_option maxRecDepth 100000 in
theorem action_24 (w : World) : Calls Tryz.prog 29 #[.int .i64 24] w fun e w' => e = .returned (fnV 51) ∧ w = w' := by
  go_enter Tryz.func29, Tryz.ntmps29
  go_wp2
  go_ret
  exact ⟨rfl, rfl⟩
set_option maxRecDepth 100000 in
theorem action_88 (w : World) : Calls Tryz.prog 29 #[.int .i64 88] w fun e w' => e = .returned (fnV 51) ∧ w = w' := by
  go_enter Tryz.func29, Tryz.ntmps29
  go_wp2
  go_ret
  exact ⟨rfl, rfl⟩
set_option maxRecDepth 100000 in
theorem action_72 (w : World) : Calls Tryz.prog 29 #[.int .i64 72] w fun e w' => e = .returned (fnV 51) ∧ w = w' := by
  go_enter Tryz.func29, Tryz.ntmps29
  go_wp2
  go_ret
  exact ⟨rfl, rfl⟩
set_option maxRecDepth 100000 in
theorem action_18 (w : World) : Calls Tryz.prog 29 #[.int .i64 18] w fun e w' => e = .returned (fnV 52) ∧ w = w' := by
  go_enter Tryz.func29, Tryz.ntmps29
  go_wp2
  go_ret
  exact ⟨rfl, rfl⟩
set_option maxRecDepth 100000 in
theorem action_19 (w : World) : Calls Tryz.prog 29 #[.int .i64 19] w fun e w' => e = .returned (fnV 52) ∧ w = w' := by
  go_enter Tryz.func29, Tryz.ntmps29
  go_wp2
  go_ret
  exact ⟨rfl, rfl⟩
set_option maxRecDepth 100000 in
theorem action_16 (w : World) : Calls Tryz.prog 29 #[.int .i64 16] w fun e w' => e = .returned (fnV 52) ∧ w = w' := by
  go_enter Tryz.func29, Tryz.ntmps29
  go_wp2
  go_ret
  exact ⟨rfl, rfl⟩
set_option maxRecDepth 100000 in
theorem action_17 (w : World) : Calls Tryz.prog 29 #[.int .i64 17] w fun e w' => e = .returned (fnV 52) ∧ w = w' := by
  go_enter Tryz.func29, Tryz.ntmps29
  go_wp2
  go_ret
  exact ⟨rfl, rfl⟩
set_option maxRecDepth 100000 in
theorem action_26 (w : World) : Calls Tryz.prog 29 #[.int .i64 26] w fun e w' => e = .returned (fnV 53) ∧ w = w' := by
  go_enter Tryz.func29, Tryz.ntmps29
  go_wp2
  go_ret
  exact ⟨rfl, rfl⟩
set_option maxRecDepth 100000 in
theorem action_90 (w : World) : Calls Tryz.prog 29 #[.int .i64 90] w fun e w' => e = .returned (fnV 53) ∧ w = w' := by
  go_enter Tryz.func29, Tryz.ntmps29
  go_wp2
  go_ret
  exact ⟨rfl, rfl⟩
set_option maxRecDepth 100000 in
theorem action_74 (w : World) : Calls Tryz.prog 29 #[.int .i64 74] w fun e w' => e = .returned (fnV 53) ∧ w = w' := by
  go_enter Tryz.func29, Tryz.ntmps29
  go_wp2
  go_ret
  exact ⟨rfl, rfl⟩
set_option maxRecDepth 100000 in
theorem action_27 (w : World) : Calls Tryz.prog 29 #[.int .i64 27] w fun e w' => e = .returned (fnV 53) ∧ w = w' := by
  go_enter Tryz.func29, Tryz.ntmps29
  go_wp2
  go_ret
  exact ⟨rfl, rfl⟩
set_option maxRecDepth 100000 in
theorem action_91 (w : World) : Calls Tryz.prog 29 #[.int .i64 91] w fun e w' => e = .returned (fnV 53) ∧ w = w' := by
  go_enter Tryz.func29, Tryz.ntmps29
  go_wp2
  go_ret
  exact ⟨rfl, rfl⟩
set_option maxRecDepth 100000 in
theorem action_75 (w : World) : Calls Tryz.prog 29 #[.int .i64 75] w fun e w' => e = .returned (fnV 53) ∧ w = w' := by
  go_enter Tryz.func29, Tryz.ntmps29
  go_wp2
  go_ret
  exact ⟨rfl, rfl⟩
set_option maxRecDepth 100000 in
theorem action_30 (w : World) : Calls Tryz.prog 29 #[.int .i64 30] w fun e w' => e = .returned (fnV 53) ∧ w = w' := by
  go_enter Tryz.func29, Tryz.ntmps29
  go_wp2
  go_ret
  exact ⟨rfl, rfl⟩
set_option maxRecDepth 100000 in
theorem action_94 (w : World) : Calls Tryz.prog 29 #[.int .i64 94] w fun e w' => e = .returned (fnV 53) ∧ w = w' := by
  go_enter Tryz.func29, Tryz.ntmps29
  go_wp2
  go_ret
  exact ⟨rfl, rfl⟩
set_option maxRecDepth 100000 in
theorem action_31 (w : World) : Calls Tryz.prog 29 #[.int .i64 31] w fun e w' => e = .returned (fnV 53) ∧ w = w' := by
  go_enter Tryz.func29, Tryz.ntmps29
  go_wp2
  go_ret
  exact ⟨rfl, rfl⟩
set_option maxRecDepth 100000 in
theorem action_95 (w : World) : Calls Tryz.prog 29 #[.int .i64 95] w fun e w' => e = .returned (fnV 53) ∧ w = w' := by
  go_enter Tryz.func29, Tryz.ntmps29
  go_wp2
  go_ret
  exact ⟨rfl, rfl⟩
set_option maxRecDepth 100000 in
theorem action_25 (w : World) : Calls Tryz.prog 29 #[.int .i64 25] w fun e w' => e = .returned (fnV 54) ∧ w = w' := by
  go_enter Tryz.func29, Tryz.ntmps29
  go_wp2
  go_ret
  exact ⟨rfl, rfl⟩
set_option maxRecDepth 100000 in
theorem action_89 (w : World) : Calls Tryz.prog 29 #[.int .i64 89] w fun e w' => e = .returned (fnV 54) ∧ w = w' := by
  go_enter Tryz.func29, Tryz.ntmps29
  go_wp2
  go_ret
  exact ⟨rfl, rfl⟩
set_option maxRecDepth 100000 in
theorem action_73 (w : World) : Calls Tryz.prog 29 #[.int .i64 73] w fun e w' => e = .returned (fnV 54) ∧ w = w' := by
  go_enter Tryz.func29, Tryz.ntmps29
  go_wp2
  go_ret
  exact ⟨rfl, rfl⟩
set_option maxRecDepth 100000 in
theorem action_21 (w : World) : Calls Tryz.prog 29 #[.int .i64 21] w fun e w' => e = .returned (fnV 54) ∧ w = w' := by
  go_enter Tryz.func29, Tryz.ntmps29
  go_wp2
  go_ret
  exact ⟨rfl, rfl⟩
set_option maxRecDepth 100000 in
theorem action_85 (w : World) : Calls Tryz.prog 29 #[.int .i64 85] w fun e w' => e = .returned (fnV 54) ∧ w = w' := by
  go_enter Tryz.func29, Tryz.ntmps29
  go_wp2
  go_ret
  exact ⟨rfl, rfl⟩
set_option maxRecDepth 100000 in
theorem action_20 (w : World) : Calls Tryz.prog 29 #[.int .i64 20] w fun e w' => e = .returned (fnV 55) ∧ w = w' := by
  go_enter Tryz.func29, Tryz.ntmps29
  go_wp2
  go_ret
  exact ⟨rfl, rfl⟩
set_option maxRecDepth 100000 in
theorem action_84 (w : World) : Calls Tryz.prog 29 #[.int .i64 84] w fun e w' => e = .returned (fnV 55) ∧ w = w' := by
  go_enter Tryz.func29, Tryz.ntmps29
  go_wp2
  go_ret
  exact ⟨rfl, rfl⟩
set_option maxRecDepth 100000 in
theorem action_22 (w : World) : Calls Tryz.prog 29 #[.int .i64 22] w fun e w' => e = .returned (fnV 55) ∧ w = w' := by
  go_enter Tryz.func29, Tryz.ntmps29
  go_wp2
  go_ret
  exact ⟨rfl, rfl⟩
set_option maxRecDepth 100000 in
theorem action_86 (w : World) : Calls Tryz.prog 29 #[.int .i64 86] w fun e w' => e = .returned (fnV 55) ∧ w = w' := by
  go_enter Tryz.func29, Tryz.ntmps29
  go_wp2
  go_ret
  exact ⟨rfl, rfl⟩
set_option maxRecDepth 100000 in
theorem action_23 (w : World) : Calls Tryz.prog 29 #[.int .i64 23] w fun e w' => e = .returned (fnV 55) ∧ w = w' := by
  go_enter Tryz.func29, Tryz.ntmps29
  go_wp2
  go_ret
  exact ⟨rfl, rfl⟩
set_option maxRecDepth 100000 in
theorem action_87 (w : World) : Calls Tryz.prog 29 #[.int .i64 87] w fun e w' => e = .returned (fnV 55) ∧ w = w' := by
  go_enter Tryz.func29, Tryz.ntmps29
  go_wp2
  go_ret
  exact ⟨rfl, rfl⟩
set_option maxRecDepth 100000 in
theorem action_28 (w : World) : Calls Tryz.prog 29 #[.int .i64 28] w fun e w' => e = .returned (fnV 56) ∧ w = w' := by
  go_enter Tryz.func29, Tryz.ntmps29
  go_wp2
  go_ret
  exact ⟨rfl, rfl⟩
set_option maxRecDepth 100000 in
theorem action_92 (w : World) : Calls Tryz.prog 29 #[.int .i64 92] w fun e w' => e = .returned (fnV 56) ∧ w = w' := by
  go_enter Tryz.func29, Tryz.ntmps29
  go_wp2
  go_ret
  exact ⟨rfl, rfl⟩
set_option maxRecDepth 100000 in
theorem action_76 (w : World) : Calls Tryz.prog 29 #[.int .i64 76] w fun e w' => e = .returned (fnV 57) ∧ w = w' := by
  go_enter Tryz.func29, Tryz.ntmps29
  go_wp2
  go_ret
  exact ⟨rfl, rfl⟩
set_option maxRecDepth 100000 in
theorem action_29 (w : World) : Calls Tryz.prog 29 #[.int .i64 29] w fun e w' => e = .returned (fnV 58) ∧ w = w' := by
  go_enter Tryz.func29, Tryz.ntmps29
  go_wp2
  go_ret
  exact ⟨rfl, rfl⟩
set_option maxRecDepth 100000 in
theorem action_93 (w : World) : Calls Tryz.prog 29 #[.int .i64 93] w fun e w' => e = .returned (fnV 58) ∧ w = w' := by
  go_enter Tryz.func29, Tryz.ntmps29
  go_wp2
  go_ret
  exact ⟨rfl, rfl⟩
set_option maxRecDepth 100000 in
theorem action_139 (w : World) : Calls Tryz.prog 29 #[.int .i64 139] w fun e w' => e = .returned (fnV 59) ∧ w = w' := by
  go_enter Tryz.func29, Tryz.ntmps29
  go_wp2
  go_ret
  exact ⟨rfl, rfl⟩
set_option maxRecDepth 100000 in
theorem action_138 (w : World) : Calls Tryz.prog 29 #[.int .i64 138] w fun e w' => e = .returned (fnV 59) ∧ w = w' := by
  go_enter Tryz.func29, Tryz.ntmps29
  go_wp2
  go_ret
  exact ⟨rfl, rfl⟩
set_option maxRecDepth 100000 in
theorem action_137 (w : World) : Calls Tryz.prog 29 #[.int .i64 137] w fun e w' => e = .returned (fnV 59) ∧ w = w' := by
  go_enter Tryz.func29, Tryz.ntmps29
  go_wp2
  go_ret
  exact ⟨rfl, rfl⟩
set_option maxRecDepth 100000 in
theorem action_136 (w : World) : Calls Tryz.prog 29 #[.int .i64 136] w fun e w' => e = .returned (fnV 59) ∧ w = w' := by
  go_enter Tryz.func29, Tryz.ntmps29
  go_wp2
  go_ret
  exact ⟨rfl, rfl⟩
set_option maxRecDepth 100000 in
theorem action_143 (w : World) : Calls Tryz.prog 29 #[.int .i64 143] w fun e w' => e = .returned (fnV 60) ∧ w = w' := by
  go_enter Tryz.func29, Tryz.ntmps29
  go_wp2
  go_ret
  exact ⟨rfl, rfl⟩
set_option maxRecDepth 100000 in
theorem action_142 (w : World) : Calls Tryz.prog 29 #[.int .i64 142] w fun e w' => e = .returned (fnV 60) ∧ w = w' := by
  go_enter Tryz.func29, Tryz.ntmps29
  go_wp2
  go_ret
  exact ⟨rfl, rfl⟩
set_option maxRecDepth 100000 in
theorem action_141 (w : World) : Calls Tryz.prog 29 #[.int .i64 141] w fun e w' => e = .returned (fnV 60) ∧ w = w' := by
  go_enter Tryz.func29, Tryz.ntmps29
  go_wp2
  go_ret
  exact ⟨rfl, rfl⟩
set_option maxRecDepth 100000 in
theorem action_140 (w : World) : Calls Tryz.prog 29 #[.int .i64 140] w fun e w' => e = .returned (fnV 60) ∧ w = w' := by
  go_enter Tryz.func29, Tryz.ntmps29
  go_wp2
  go_ret
  exact ⟨rfl, rfl⟩
set_option maxRecDepth 100000 in
theorem action_65 (w : World) : Calls Tryz.prog 29 #[.int .i64 65] w fun e w' => e = .returned (fnV 61) ∧ w = w' := by
  go_enter Tryz.func29, Tryz.ntmps29
  go_wp2
  go_ret
  exact ⟨rfl, rfl⟩
set_option maxRecDepth 100000 in
theorem action_4 (w : World) : Calls Tryz.prog 29 #[.int .i64 4] w fun e w' => e = .returned (fnV 62) ∧ w = w' := by
  go_enter Tryz.func29, Tryz.ntmps29
  go_wp2
  go_ret
  exact ⟨rfl, rfl⟩
set_option maxRecDepth 100000 in
theorem action_80 (w : World) : Calls Tryz.prog 29 #[.int .i64 80] w fun e w' => e = .returned (fnV 63) ∧ w = w' := by
  go_enter Tryz.func29, Tryz.ntmps29
  go_wp2
  go_ret
  exact ⟨rfl, rfl⟩
set_option maxRecDepth 100000 in
theorem action_64 (w : World) : Calls Tryz.prog 29 #[.int .i64 64] w fun e w' => e = .returned (fnV 63) ∧ w = w' := by
  go_enter Tryz.func29, Tryz.ntmps29
  go_wp2
  go_ret
  exact ⟨rfl, rfl⟩
set_option maxRecDepth 100000 in
theorem action_66 (w : World) : Calls Tryz.prog 29 #[.int .i64 66] w fun e w' => e = .returned (fnV 63) ∧ w = w' := by
  go_enter Tryz.func29, Tryz.ntmps29
  go_wp2
  go_ret
  exact ⟨rfl, rfl⟩
set_option maxRecDepth 100000 in
theorem action_67 (w : World) : Calls Tryz.prog 29 #[.int .i64 67] w fun e w' => e = .returned (fnV 64) ∧ w = w' := by
  go_enter Tryz.func29, Tryz.ntmps29
  go_wp2
  go_ret
  exact ⟨rfl, rfl⟩
set_option maxRecDepth 100000 in
theorem action_152 (w : World) : Calls Tryz.prog 29 #[.int .i64 152] w fun e w' => e = .returned (fnV 65) ∧ w = w' := by
  go_enter Tryz.func29, Tryz.ntmps29
  go_wp2
  go_ret
  exact ⟨rfl, rfl⟩
set_option maxRecDepth 100000 in
theorem action_144 (w : World) : Calls Tryz.prog 29 #[.int .i64 144] w fun e w' => e = .returned (fnV 66) ∧ w = w' := by
  go_enter Tryz.func29, Tryz.ntmps29
  go_wp2
  go_ret
  exact ⟨rfl, rfl⟩
set_option maxRecDepth 100000 in
theorem action_146 (w : World) : Calls Tryz.prog 29 #[.int .i64 146] w fun e w' => e = .returned (fnV 67) ∧ w = w' := by
  go_enter Tryz.func29, Tryz.ntmps29
  go_wp2
  go_ret
  exact ⟨rfl, rfl⟩
set_option maxRecDepth 100000 in
theorem action_148 (w : World) : Calls Tryz.prog 29 #[.int .i64 148] w fun e w' => e = .returned (fnV 68) ∧ w = w' := by
  go_enter Tryz.func29, Tryz.ntmps29
  go_wp2
  go_ret
  exact ⟨rfl, rfl⟩
set_option maxRecDepth 100000 in
theorem action_150 (w : World) : Calls Tryz.prog 29 #[.int .i64 150] w fun e w' => e = .returned (fnV 68) ∧ w = w' := by
  go_enter Tryz.func29, Tryz.ntmps29
  go_wp2
  go_ret
  exact ⟨rfl, rfl⟩
set_option maxRecDepth 100000 in
theorem action_151 (w : World) : Calls Tryz.prog 29 #[.int .i64 151] w fun e w' => e = .returned (fnV 68) ∧ w = w' := by
  go_enter Tryz.func29, Tryz.ntmps29
  go_wp2
  go_ret
  exact ⟨rfl, rfl⟩
set_option maxRecDepth 100000 in
theorem action_149 (w : World) : Calls Tryz.prog 29 #[.int .i64 149] w fun e w' => e = .returned (fnV 69) ∧ w = w' := by
  go_enter Tryz.func29, Tryz.ntmps29
  go_wp2
  go_ret
  exact ⟨rfl, rfl⟩
set_option maxRecDepth 100000 in
theorem action_145 (w : World) : Calls Tryz.prog 29 #[.int .i64 145] w fun e w' => e = .returned (fnV 69) ∧ w = w' := by
  go_enter Tryz.func29, Tryz.ntmps29
  go_wp2
  go_ret
  exact ⟨rfl, rfl⟩
set_option maxRecDepth 100000 in
theorem action_147 (w : World) : Calls Tryz.prog 29 #[.int .i64 147] w fun e w' => e = .returned (fnV 70) ∧ w = w' := by
  go_enter Tryz.func29, Tryz.ntmps29
  go_wp2
  go_ret
  exact ⟨rfl, rfl⟩
set_option maxRecDepth 100000 in
theorem action_210 (w : World) : Calls Tryz.prog 29 #[.int .i64 210] w fun e w' => e = .returned (fnV 71) ∧ w = w' := by
  go_enter Tryz.func29, Tryz.ntmps29
  go_wp2
  go_ret
  exact ⟨rfl, rfl⟩
set_option maxRecDepth 100000 in
theorem action_209 (w : World) : Calls Tryz.prog 29 #[.int .i64 209] w fun e w' => e = .returned (fnV 71) ∧ w = w' := by
  go_enter Tryz.func29, Tryz.ntmps29
  go_wp2
  go_ret
  exact ⟨rfl, rfl⟩
set_option maxRecDepth 100000 in
theorem action_211 (w : World) : Calls Tryz.prog 29 #[.int .i64 211] w fun e w' => e = .returned (fnV 71) ∧ w = w' := by
  go_enter Tryz.func29, Tryz.ntmps29
  go_wp2
  go_ret
  exact ⟨rfl, rfl⟩
set_option maxRecDepth 100000 in
theorem action_212 (w : World) : Calls Tryz.prog 29 #[.int .i64 212] w fun e w' => e = .returned (fnV 71) ∧ w = w' := by
  go_enter Tryz.func29, Tryz.ntmps29
  go_wp2
  go_ret
  exact ⟨rfl, rfl⟩
set_option maxRecDepth 100000 in
theorem action_214 (w : World) : Calls Tryz.prog 29 #[.int .i64 214] w fun e w' => e = .returned (fnV 71) ∧ w = w' := by
  go_enter Tryz.func29, Tryz.ntmps29
  go_wp2
  go_ret
  exact ⟨rfl, rfl⟩
set_option maxRecDepth 100000 in
theorem action_215 (w : World) : Calls Tryz.prog 29 #[.int .i64 215] w fun e w' => e = .returned (fnV 71) ∧ w = w' := by
  go_enter Tryz.func29, Tryz.ntmps29
  go_wp2
  go_ret
  exact ⟨rfl, rfl⟩
set_option maxRecDepth 100000 in
theorem action_213 (w : World) : Calls Tryz.prog 29 #[.int .i64 213] w fun e w' => e = .returned (fnV 72) ∧ w = w' := by
  go_enter Tryz.func29, Tryz.ntmps29
  go_wp2
  go_ret
  exact ⟨rfl, rfl⟩
set_option maxRecDepth 100000 in
theorem action_220 (w : World) : Calls Tryz.prog 29 #[.int .i64 220] w fun e w' => e = .returned (fnV 73) ∧ w = w' := by
  go_enter Tryz.func29, Tryz.ntmps29
  go_wp2
  go_ret
  exact ⟨rfl, rfl⟩
set_option maxRecDepth 100000 in
theorem action_221 (w : World) : Calls Tryz.prog 29 #[.int .i64 221] w fun e w' => e = .returned (fnV 74) ∧ w = w' := by
  go_enter Tryz.func29, Tryz.ntmps29
  go_wp2
  go_ret
  exact ⟨rfl, rfl⟩
set_option maxRecDepth 100000 in
theorem action_7 (w : World) : Calls Tryz.prog 29 #[.int .i64 7] w fun e w' => e = .returned (fnV 75) ∧ w = w' := by
  go_enter Tryz.func29, Tryz.ntmps29
  go_wp2
  go_ret
  exact ⟨rfl, rfl⟩
set_option maxRecDepth 100000 in
theorem action_71 (w : World) : Calls Tryz.prog 29 #[.int .i64 71] w fun e w' => e = .returned (fnV 75) ∧ w = w' := by
  go_enter Tryz.func29, Tryz.ntmps29
  go_wp2
  go_ret
  exact ⟨rfl, rfl⟩
set_option maxRecDepth 100000 in
theorem action_5 (w : World) : Calls Tryz.prog 29 #[.int .i64 5] w fun e w' => e = .returned (fnV 75) ∧ w = w' := by
  go_enter Tryz.func29, Tryz.ntmps29
  go_wp2
  go_ret
  exact ⟨rfl, rfl⟩
set_option maxRecDepth 100000 in
theorem action_69 (w : World) : Calls Tryz.prog 29 #[.int .i64 69] w fun e w' => e = .returned (fnV 75) ∧ w = w' := by
  go_enter Tryz.func29, Tryz.ntmps29
  go_wp2
  go_ret
  exact ⟨rfl, rfl⟩
set_option maxRecDepth 100000 in
theorem action_6 (w : World) : Calls Tryz.prog 29 #[.int .i64 6] w fun e w' => e = .returned (fnV 75) ∧ w = w' := by
  go_enter Tryz.func29, Tryz.ntmps29
  go_wp2
  go_ret
  exact ⟨rfl, rfl⟩
set_option maxRecDepth 100000 in
theorem action_70 (w : World) : Calls Tryz.prog 29 #[.int .i64 70] w fun e w' => e = .returned (fnV 75) ∧ w = w' := by
  go_enter Tryz.func29, Tryz.ntmps29
  go_wp2
  go_ret
  exact ⟨rfl, rfl⟩
set_option maxRecDepth 100000 in
theorem action_134 (w : World) : Calls Tryz.prog 29 #[.int .i64 134] w fun e w' => e = .returned (fnV 75) ∧ w = w' := by
  go_enter Tryz.func29, Tryz.ntmps29
  go_wp2
  go_ret
  exact ⟨rfl, rfl⟩
set_option maxRecDepth 100000 in
theorem action_135 (w : World) : Calls Tryz.prog 29 #[.int .i64 135] w fun e w' => e = .returned (fnV 75) ∧ w = w' := by
  go_enter Tryz.func29, Tryz.ntmps29
  go_wp2
  go_ret
  exact ⟨rfl, rfl⟩

end M
end Go.Proofs.YtfopjnfphlkcgaaGreat

/- The program: an operation code that is none of a general instruction; the deferred function. -/
import Derived.Test.YtfopjnfphlkcgaaGreatRows
import Derived.Deep.CutRange
import Derived.Laws.ResultCell
import Derived.Recover
import Derived.StillTailTactics
import Derived.WalkLawsBesides
import Derived.Test.YtfopjnfphlkcgaaGreatIsIns
import Derived.Test.YtfopjnfphlkcgaaGreatStA
namespace Go.Proofs.YtfopjnfphlkcgaaGreat
namespace E
end E
open Go.RowKit Go.Shelf E
set_option linter.unusedVariables false
namespace M

theorem assert_yes (v : Value) (w : World) : (Instr.typeAssert (.iface 3 v) 20 3 true).run Tryz.prog w = .ok (.tuple #[v, .bool true]) w := by kernel_rfl
theorem assert_nil (w : World) : (Instr.typeAssert .nilIface 20 3 true).run Tryz.prog w = .ok (.tuple #[.int .i64 0, .bool false]) w := by kernel_rfl
set_option maxRecDepth 100000 in
theorem catch_panicking (P : Addr) (x c : Int) (older : List PanicEntry) (w : World) (hc : w.cell? P = some (.int .i64 x)) (hz : w.frozen? P = false) :
    CallsD Tryz.prog 81 #[.pointer (some P)] (.panicking ({ v := .iface 3 (.int .i64 c), recovered := false } :: older)) w fun e u' w' =>
      e = .returned (.tuple #[]) ∧ u' = .panicking ({ v := .iface 3 (.int .i64 c), recovered := true } :: older) ∧ w' = w.setCell P (.int .i64 c) := by
  refine callsD_of_wpS Tryz.func81 rfl fun c₀ cs hu => ?_
  apply wpS_seq
  apply wpS_region
  simp [wpOpsS, assert_yes, go_sem, recoverD, hu, Tryz.ntmps81, Exit.thenS]
  apply wpS_seq
  apply wpS_region
  simp [wpOpsS, go_sem, Exit.thenS]
  refine wpS_cond (t := true) (by simp [Act.eval, Array.replicate]) ?_
  simp only [if_true]
  apply wpS_region
  simp [wpOpsS, go_sem, hc, hz, bodyPostS, results, Tryz.results81]
set_option maxRecDepth 100000 in
theorem catch_idle (P : Addr) (w : World) :
    CallsD Tryz.prog 81 #[.pointer (some P)] .returning w fun e u' w' => e = .returned (.tuple #[]) ∧ u' = .returning ∧ w' = w := by
  refine callsD_of_wpS Tryz.func81 rfl fun c₀ cs hu => ?_
  apply wpS_seq
  apply wpS_region
  simp [wpOpsS, assert_nil, go_sem, recoverD, hu, Tryz.ntmps81, Exit.thenS]
  apply wpS_seq
  apply wpS_region
  simp [wpOpsS, go_sem, Exit.thenS]
  refine wpS_cond (t := false) (by simp [Act.eval, Array.replicate]) ?_
  simp only [Bool.false_eq_true, if_false]
  refine wpS_of_wp (wp_skip ?_)
  cases c₀
  simp_all [bodyPostS, results, Tryz.results81]

end M
end Go.Proofs.YtfopjnfphlkcgaaGreat

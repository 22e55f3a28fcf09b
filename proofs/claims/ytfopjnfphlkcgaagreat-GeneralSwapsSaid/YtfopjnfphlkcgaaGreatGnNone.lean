/- The program: an operation code that is none of a general instruction; the deferred function. -/
import Derived.Test.YtfopjnfphlkcgaaGreatRows
import Derived.Deep.CutRange
import Derived.Laws.ResultCell
import Derived.Recover
import Derived.StillTailTactics
import Derived.WalkLawsBesides
import Derived.Test.YtfopjnfphlkcgaaGreatIsIns
import Derived.Test.YtfopjnfphlkcgaaGreatStA
namespace Go.Proofs.YtfopjnfphlkcgaaGreat
open Go.RowKit Go.Shelf E
set_option linter.unusedVariables false
namespace M

/-- The codes of the general instructions, as the program groups them. -/
def opsL : List Nat := [24, 88, 72, 18, 19, 16, 17, 26, 90, 74, 27, 91, 75, 30, 94, 31, 95, 25, 89, 73, 21, 85, 20, 84, 22, 86, 23, 87, 28, 92, 76, 29, 93, 139, 138, 137, 136, 143, 142, 141, 140, 65, 4, 80, 64, 66, 67, 152, 144, 146, 148, 150, 151, 149, 145, 147, 210, 209, 211, 212, 214, 215, 213, 220, 221, 7, 71, 5, 69, 6, 70, 134, 135]
set_option maxRecDepth 100000 in
set_option maxHeartbeats 2000000 in
theorem action_none (x : Int) (w : World) (hx : ∀ o ∈ opsL, x ≠ (o : Int)) : Calls Tryz.prog 29 #[.int .i64 x] w fun e w' => e = .returned .nilFunc ∧ w = w' := by
  have n24 : (x == 24) = false := by simpa using hx 24 (by decide)
  have n88 : (x == 88) = false := by simpa using hx 88 (by decide)
  have n72 : (x == 72) = false := by simpa using hx 72 (by decide)
  have n18 : (x == 18) = false := by simpa using hx 18 (by decide)
  have n19 : (x == 19) = false := by simpa using hx 19 (by decide)
  have n16 : (x == 16) = false := by simpa using hx 16 (by decide)
  have n17 : (x == 17) = false := by simpa using hx 17 (by decide)
  have n26 : (x == 26) = false := by simpa using hx 26 (by decide)
  have n90 : (x == 90) = false := by simpa using hx 90 (by decide)
  have n74 : (x == 74) = false := by simpa using hx 74 (by decide)
  have n27 : (x == 27) = false := by simpa using hx 27 (by decide)
  have n91 : (x == 91) = false := by simpa using hx 91 (by decide)
  have n75 : (x == 75) = false := by simpa using hx 75 (by decide)
  have n30 : (x == 30) = false := by simpa using hx 30 (by decide)
  have n94 : (x == 94) = false := by simpa using hx 94 (by decide)
  have n31 : (x == 31) = false := by simpa using hx 31 (by decide)
  have n95 : (x == 95) = false := by simpa using hx 95 (by decide)
  have n25 : (x == 25) = false := by simpa using hx 25 (by decide)
  have n89 : (x == 89) = false := by simpa using hx 89 (by decide)
  have n73 : (x == 73) = false := by simpa using hx 73 (by decide)
  have n21 : (x == 21) = false := by simpa using hx 21 (by decide)
  have n85 : (x == 85) = false := by simpa using hx 85 (by decide)
  have n20 : (x == 20) = false := by simpa using hx 20 (by decide)
  have n84 : (x == 84) = false := by simpa using hx 84 (by decide)
  have n22 : (x == 22) = false := by simpa using hx 22 (by decide)
  have n86 : (x == 86) = false := by simpa using hx 86 (by decide)
  have n23 : (x == 23) = false := by simpa using hx 23 (by decide)
  have n87 : (x == 87) = false := by simpa using hx 87 (by decide)
  have n28 : (x == 28) = false := by simpa using hx 28 (by decide)
  have n92 : (x == 92) = false := by simpa using hx 92 (by decide)
  have n76 : (x == 76) = false := by simpa using hx 76 (by decide)
  have n29 : (x == 29) = false := by simpa using hx 29 (by decide)
  have n93 : (x == 93) = false := by simpa using hx 93 (by decide)
  have n139 : (x == 139) = false := by simpa using hx 139 (by decide)
  have n138 : (x == 138) = false := by simpa using hx 138 (by decide)
  have n137 : (x == 137) = false := by simpa using hx 137 (by decide)
  have n136 : (x == 136) = false := by simpa using hx 136 (by decide)
  have n143 : (x == 143) = false := by simpa using hx 143 (by decide)
  have n142 : (x == 142) = false := by simpa using hx 142 (by decide)
  have n141 : (x == 141) = false := by simpa using hx 141 (by decide)
  have n140 : (x == 140) = false := by simpa using hx 140 (by decide)
  have n65 : (x == 65) = false := by simpa using hx 65 (by decide)
  have n4 : (x == 4) = false := by simpa using hx 4 (by decide)
  have n80 : (x == 80) = false := by simpa using hx 80 (by decide)
  have n64 : (x == 64) = false := by simpa using hx 64 (by decide)
  have n66 : (x == 66) = false := by simpa using hx 66 (by decide)
  have n67 : (x == 67) = false := by simpa using hx 67 (by decide)
  have n152 : (x == 152) = false := by simpa using hx 152 (by decide)
  have n144 : (x == 144) = false := by simpa using hx 144 (by decide)
  have n146 : (x == 146) = false := by simpa using hx 146 (by decide)
  have n148 : (x == 148) = false := by simpa using hx 148 (by decide)
  have n150 : (x == 150) = false := by simpa using hx 150 (by decide)
  have n151 : (x == 151) = false := by simpa using hx 151 (by decide)
  have n149 : (x == 149) = false := by simpa using hx 149 (by decide)
  have n145 : (x == 145) = false := by simpa using hx 145 (by decide)
  have n147 : (x == 147) = false := by simpa using hx 147 (by decide)
  have n210 : (x == 210) = false := by simpa using hx 210 (by decide)
  have n209 : (x == 209) = false := by simpa using hx 209 (by decide)
  have n211 : (x == 211) = false := by simpa using hx 211 (by decide)
  have n212 : (x == 212) = false := by simpa using hx 212 (by decide)
  have n214 : (x == 214) = false := by simpa using hx 214 (by decide)
  have n215 : (x == 215) = false := by simpa using hx 215 (by decide)
  have n213 : (x == 213) = false := by simpa using hx 213 (by decide)
  have n220 : (x == 220) = false := by simpa using hx 220 (by decide)
  have n221 : (x == 221) = false := by simpa using hx 221 (by decide)
  have n7 : (x == 7) = false := by simpa using hx 7 (by decide)
  have n71 : (x == 71) = false := by simpa using hx 71 (by decide)
  have n5 : (x == 5) = false := by simpa using hx 5 (by decide)
  have n69 : (x == 69) = false := by simpa using hx 69 (by decide)
  have n6 : (x == 6) = false := by simpa using hx 6 (by decide)
  have n70 : (x == 70) = false := by simpa using hx 70 (by decide)
  have n134 : (x == 134) = false := by simpa using hx 134 (by decide)
  have n135 : (x == 135) = false := by simpa using hx 135 (by decide)
  clear hx
  go_enter Tryz.func29, Tryz.ntmps29
  go_wp2
  go_ret
  exact ⟨rfl, rfl⟩
theorem assert_yes (v : Value) (w : World) : (Instr.typeAssert (.iface 3 v) 20 3 true).run Tryz.prog w = .ok (.tuple #[v, .bool true]) w := by kernel_rfl
theorem assert_nil (w : World) : (Instr.typeAssert .nilIface 20 3 true).run Tryz.prog w = .ok (.tuple #[.int .i64 0, .bool false]) w := by kernel_rfl
set_option maxRecDepth 100000 in
theorem catch_panicking (P : Addr) (x c : Int) (older : List PanicEntry) (w : World) (hc : w.cell? P = some (.int .i64 x)) (hz : w.frozen? P = false) :
    CallsD Tryz.prog 81 #[.pointer (some P)] (.panicking ({ v := .iface 3 (.int .i64 c), recovered := false } :: older)) w fun e u' w' =>
      e = .returned (.tuple #[]) ∧ u' = .panicking ({ v := .iface 3 (.int .i64 c), recovered := true } :: older) ∧ w' = w.setCell P (.int .i64 c) := by
  refine callsD_of_wpS Tryz.func81 rfl fun c₀ cs hu => ?_
  apply wpS_seq
  apply wpS_region
  simp [wpOpsS, assert_yes, go_sem, recoverD, hu, Tryz.ntmps81, Exit.thenS]
  apply wpS_seq
  apply wpS_region
  simp [wpOpsS, go_sem, Exit.thenS]
  refine wpS_cond (t := true) (by simp [Act.eval, Array.replicate]) ?_
  simp only [if_true]
  apply wpS_region
  simp [wpOpsS, go_sem, hc, hz, bodyPostS, results, Tryz.results81]
set_option maxRecDepth 100000 in
theorem catch_idle (P : Addr) (w : World) :
    CallsD Tryz.prog 81 #[.pointer (some P)] .returning w fun e u' w' => e = .returned (.tuple #[]) ∧ u' = .returning ∧ w' = w := by
  refine callsD_of_wpS Tryz.func81 rfl fun c₀ cs hu => ?_
  apply wpS_seq
  apply wpS_region
  simp [wpOpsS, assert_nil, go_sem, recoverD, hu, Tryz.ntmps81, Exit.thenS]
  apply wpS_seq
  apply wpS_region
  simp [wpOpsS, go_sem, Exit.thenS]
  refine wpS_cond (t := false) (by simp [Act.eval, Array.replicate]) ?_
  simp only [Bool.false_eq_true, if_false]
  refine wpS_of_wp (wp_skip ?_)
  cases c₀
  simp_all [bodyPostS, results, Tryz.results81]

end M
end Go.Proofs.YtfopjnfphlkcgaaGreat

/- The program: which action an operation code has. -/
import Derived.Test.YtbcncohjjnmdcaaGreatDoorRows
import Derived.Test.YtbcncohjjnmdcaaGreatDoorGnMem
namespace Go.Proofs.YtbcncohjjnmdcaaGreatDoor
namespace E
end E
open Go.RowKit Go.Shelf E
set_option linter.unusedVariables false
namespace M

/-- A function as a value. -/
def fnV (f : Nat) : Value := .func (.func f) #[] #[]
set_option maxRecDepth 100000 in
theorem action_79 (w : World) : Calls Tryz.prog 28 #[.int .i64 79] w fun e w' => e = .returned (fnV 44) ∧ w = w' := by
  go_enter Tryz.func28, Tryz.ntmps28
  go_wp2
  go_ret
  exact ⟨rfl, rfl⟩
set_option maxRecDepth 100000 in
theorem action_78 (w : World) : Calls Tryz.prog 28 #[.int .i64 78] w fun e w' => e = .returned (fnV 45) ∧ w = w' := by
  go_enter Tryz.func28, Tryz.ntmps28
  go_wp2
  go_ret
  exact ⟨rfl, rfl⟩
set_option maxRecDepth 100000 in
theorem action_242 (w : World) : Calls Tryz.prog 28 #[.int .i64 242] w fun e w' => e = .returned (fnV 46) ∧ w = w' := by
  go_enter Tryz.func28, Tryz.ntmps28
  go_wp2
  go_ret
  exact ⟨rfl, rfl⟩
set_option maxRecDepth 100000 in
theorem action_243 (w : World) : Calls Tryz.prog 28 #[.int .i64 243] w fun e w' => e = .returned (fnV 47) ∧ w = w' := by
  go_enter Tryz.func28, Tryz.ntmps28
  go_wp2
  go_ret
  exact ⟨rfl, rfl⟩
set_option maxRecDepth 100000 in
theorem action_241 (w : World) : Calls Tryz.prog 28 #[.int .i64 241] w fun e w' => e = .returned (fnV 48) ∧ w = w' := by
  go_enter Tryz.func28, Tryz.ntmps28
  go_wp2
  go_ret
  exact ⟨rfl, rfl⟩
set_option maxRecDepth 100000 in
theorem action_248 (w : World) : Calls Tryz.prog 28 #[.int .i64 248] w fun e w' => e = .returned (fnV 49) ∧ w = w' := by
  go_enter Tryz.func28, Tryz.ntmps28
  go_wp2
  go_ret
  exact ⟨rfl, rfl⟩
set_option maxRecDepth 100000 in
theorem action_250 (w : World) : Calls Tryz.prog 28 #[.int .i64 250] w fun e w' => e = .returned (fnV 50) ∧ w = w' := by
  go_enter Tryz.func28, Tryz.ntmps28
  go_wp2
  go_ret
  exact ⟨rfl, rfl⟩
set_option maxRecDepth 100000 in
theorem action_251 (w : World) : Calls Tryz.prog 28 #[.int .i64 251] w fun e w' => e = .returned (fnV 51) ∧ w = w' := by
  go_enter Tryz.func28, Tryz.ntmps28
  go_wp2
  go_ret
  exact ⟨rfl, rfl⟩
set_option maxRecDepth 100000 in
theorem action_249 (w : World) : Calls Tryz.prog 28 #[.int .i64 249] w fun e w' => e = .returned (fnV 52) ∧ w = w' := by
  go_enter Tryz.func28, Tryz.ntmps28
  go_wp2
  go_ret
  exact ⟨rfl, rfl⟩
set_option maxRecDepth 100000 in
theorem action_252 (w : World) : Calls Tryz.prog 28 #[.int .i64 252] w fun e w' => e = .returned (fnV 53) ∧ w = w' := by
  go_enter Tryz.func28, Tryz.ntmps28
  go_wp2
  go_ret
  exact ⟨rfl, rfl⟩
set_option maxRecDepth 100000 in
theorem action_253 (w : World) : Calls Tryz.prog 28 #[.int .i64 253] w fun e w' => e = .returned (fnV 54) ∧ w = w' := by
  go_enter Tryz.func28, Tryz.ntmps28
  go_wp2
  go_ret
  exact ⟨rfl, rfl⟩
set_option maxRecDepth 100000 in
theorem action_240 (w : World) : Calls Tryz.prog 28 #[.int .i64 240] w fun e w' => e = .returned (fnV 55) ∧ w = w' := by
  go_enter Tryz.func28, Tryz.ntmps28
  go_wp2
  go_ret
  exact ⟨rfl, rfl⟩
set_option maxRecDepth 100000 in
theorem action_222 (w : World) : Calls Tryz.prog 28 #[.int .i64 222] w fun e w' => e = .returned (fnV 56) ∧ w = w' := by
  go_enter Tryz.func28, Tryz.ntmps28
  go_wp2
  go_ret
  exact ⟨rfl, rfl⟩
set_option maxRecDepth 100000 in
theorem action_223 (w : World) : Calls Tryz.prog 28 #[.int .i64 223] w fun e w' => e = .returned (fnV 57) ∧ w = w' := by
  go_enter Tryz.func28, Tryz.ntmps28
  go_wp2
  go_ret
  exact ⟨rfl, rfl⟩

end M
end Go.Proofs.YtbcncohjjnmdcaaGreatDoor
namespace Go.Proofs.YtbcncohjjnmdcaaGreatDoor
namespace E
end E
open Go.RowKit Go.Shelf E
set_option linter.unusedVariables false
namespace M

/-- The codes of the decimal instructions, as the program groups them. -/
def opsL : List Nat := [79, 78, 242, 243, 241, 248, 250, 251, 249, 252, 253, 240, 222, 223]
set_option maxRecDepth 100000 in
set_option maxHeartbeats 2000000 in
theorem action_none (x : Int) (w : World) (hx : ∀ o ∈ opsL, x ≠ (o : Int)) : Calls Tryz.prog 28 #[.int .i64 x] w fun e w' => e = .returned .nilFunc ∧ w = w' := by
  have n79 : (x == 79) = false := by simpa using hx 79 (by decide)
  have n78 : (x == 78) = false := by simpa using hx 78 (by decide)
  have n242 : (x == 242) = false := by simpa using hx 242 (by decide)
  have n243 : (x == 243) = false := by simpa using hx 243 (by decide)
  have n241 : (x == 241) = false := by simpa using hx 241 (by decide)
  have n248 : (x == 248) = false := by simpa using hx 248 (by decide)
  have n250 : (x == 250) = false := by simpa using hx 250 (by decide)
  have n251 : (x == 251) = false := by simpa using hx 251 (by decide)
  have n249 : (x == 249) = false := by simpa using hx 249 (by decide)
  have n252 : (x == 252) = false := by simpa using hx 252 (by decide)
  have n253 : (x == 253) = false := by simpa using hx 253 (by decide)
  have n240 : (x == 240) = false := by simpa using hx 240 (by decide)
  have n222 : (x == 222) = false := by simpa using hx 222 (by decide)
  have n223 : (x == 223) = false := by simpa using hx 223 (by decide)
  clear hx
  go_enter Tryz.func28, Tryz.ntmps28
  go_wp2
  go_ret
  exact ⟨rfl, rfl⟩
theorem assert_yes (v : Value) (w : World) : (Instr.typeAssert (.iface 101 v) 20 101 true).run Tryz.prog w = .ok (.tuple #[v, .bool true]) w := by kernel_rfl
theorem assert_nil (w : World) : (Instr.typeAssert .nilIface 20 101 true).run Tryz.prog w = .ok (.tuple #[.int .i64 0, .bool false]) w := by kernel_rfl
theorem wpS_block_n {P : Program} {Q : Exit → Act → List Frame → World → Prop} {a : Act} {cs : List Frame} {w : World} {id : Nat} {c : Code} (h : c.wpS P (fun e a cs w => e = .normal ∧ Q .normal a cs w) a cs w) : (Code.block id c).wpS P Q a cs w := by
  intro b k hb hr
  obtain ⟨e, a₁, cs₁, w₁, ⟨rfl, hq⟩, harr⟩ := h b (.inBlock id :: k) hb hr
  exact ⟨.normal, a₁, cs₁, w₁, hq, .head step_block (Steps.trans harr (.one step_inBlock))⟩
set_option maxRecDepth 100000 in
theorem catch_panicking (P : Addr) (x c : Int) (older : List PanicEntry) (w : World) (hc : w.cell? P = some (.int .i64 x)) (hz : w.frozen? P = false) :
    CallsD Tryz.prog 63 #[.pointer (some P)] (.panicking ({ v := .iface 101 (.int .i64 c), recovered := false } :: older)) w fun e u' w' =>
      e = .returned (.tuple #[]) ∧ u' = .panicking ({ v := .iface 101 (.int .i64 c), recovered := true } :: older) ∧ w' = w.setCell P (.int .i64 c) := by
  refine callsD_of_wpS Tryz.func63 rfl fun c₀ cs hu => ?_
  apply wpS_seq
  apply wpS_region
  simp [wpOpsS, go_sem, recoverD, hu, Tryz.ntmps63, Exit.thenS]
  apply wpS_block_n
  apply wpS_seq
  apply wpS_region
  simp [wpOpsS, assert_yes, go_sem, Exit.thenS]
  refine wpS_cond (t := true) (by simp [Act.eval, Array.replicate]) ?_
  simp only [if_true]
  apply wpS_seq
  apply wpS_region
  simp [wpOpsS, go_sem, Exit.thenS]
  apply wpS_region
  simp [wpOpsS, go_sem, hc, hz, bodyPostS, results, Tryz.results63]
set_option maxRecDepth 100000 in
theorem catch_idle (P : Addr) (w : World) :
    CallsD Tryz.prog 63 #[.pointer (some P)] .returning w fun e u' w' => e = .returned (.tuple #[]) ∧ u' = .returning ∧ w' = w := by
  refine callsD_of_wpS Tryz.func63 rfl fun c₀ cs hu => ?_
  apply wpS_seq
  apply wpS_region
  simp [wpOpsS, go_sem, recoverD, hu, Tryz.ntmps63, Exit.thenS]
  apply wpS_block_n
  apply wpS_seq
  apply wpS_region
  simp [wpOpsS, assert_nil, go_sem, Exit.thenS]
  refine wpS_cond (t := false) (by simp [Act.eval, Array.replicate]) ?_
  simp only [Bool.false_eq_true, if_false]
  refine wpS_of_wp (wp_skip ?_)
  cases c₀
  simp_all [bodyPostS, results, Tryz.results63]

end M
end Go.Proofs.YtbcncohjjnmdcaaGreatDoor

/- The walk of the statement PswAdmits: it answers true, and below its own memory nothing turns. -/
import Derived.Test.YtfobmgoehamnnaaPsRAdm
import Derived.Test.YtfobmgoehamnnaaPsAsk
import Derived.Deep.RegionHeld3
namespace Go.Proofs.Ytfobmgoehamnnaa.pswAdmits
open Go.RowKit E
set_option linter.unusedVariables false

set_option maxRecDepth 100000 in
set_option maxHeartbeats 1000000 in
theorem walk (Q : Psw) (cl co ch : Int) (w : World) : Calls Try.prog 6 #[.agg #[.int .i64 Q.m, .int .i64 Q.k, .bool Q.ma, .bool Q.wa, .bool Q.pr, .int .i64 Q.co, .int .i64 Q.il, .int .i64 Q.cc, .int .i64 Q.pg, .int .i64 Q.ad], .agg #[.int .i64 cl, .int .i64 co, .int .i64 ch]] w (New w (.bool true)) := by
  have H1 := Lib.hid (adm_any Q cl co ch)
  have H2 := Lib.hid (radm_any Q cl co ch)
  have HB := Lib.hid (ask_start w Q cl co ch)
  have HW := Lib.hid (below2 w (.cells #[.int .i64 Q.m, .int .i64 Q.k, .bool Q.ma, .bool Q.wa, .bool Q.pr, .int .i64 Q.co, .int .i64 Q.il, .int .i64 Q.cc, .int .i64 Q.pg, .int .i64 Q.ad] 23) (.cells #[.int .i64 cl, .int .i64 co, .int .i64 ch] 35))
  generalize adB Q cl co ch = R at *
  go_enter Try.func6, Try.ntmps6
  go_upto_region 1 with fail
  refine wp_region_noPanic ?_
  refine wp_region_held_drew (S := fun W => ((W.cell? ⟨w.heap.size, 0, none⟩ = some (.int .i64 Q.m) ∧ W.cell? ⟨w.heap.size, 1, none⟩ = some (.int .i64 Q.k) ∧ W.cell? ⟨w.heap.size, 2, none⟩ = some (.bool Q.ma) ∧ W.cell? ⟨w.heap.size, 3, none⟩ = some (.bool Q.wa) ∧ W.cell? ⟨w.heap.size, 4, none⟩ = some (.bool Q.pr) ∧ W.cell? ⟨w.heap.size, 5, none⟩ = some (.int .i64 Q.co) ∧ W.cell? ⟨w.heap.size, 6, none⟩ = some (.int .i64 Q.il) ∧ W.cell? ⟨w.heap.size, 7, none⟩ = some (.int .i64 Q.cc) ∧ W.cell? ⟨w.heap.size, 8, none⟩ = some (.int .i64 Q.pg) ∧ W.cell? ⟨w.heap.size, 9, none⟩ = some (.int .i64 Q.ad)) ∧ W.cell? ⟨w.heap.size + 1, 0, none⟩ = some (.int .i64 cl) ∧ W.cell? ⟨w.heap.size + 1, 1, none⟩ = some (.int .i64 co) ∧ W.cell? ⟨w.heap.size + 1, 2, none⟩ = some (.int .i64 ch)) ∧ Below ((w.alloc (.cells #[.int .i64 Q.m, .int .i64 Q.k, .bool Q.ma, .bool Q.wa, .bool Q.pr, .int .i64 Q.co, .int .i64 Q.il, .int .i64 Q.cc, .int .i64 Q.pg, .int .i64 Q.ad] 23)).alloc (.cells #[.int .i64 cl, .int .i64 co, .int .i64 ch] 35)).heap.size ((w.alloc (.cells #[.int .i64 Q.m, .int .i64 Q.k, .bool Q.ma, .bool Q.wa, .bool Q.pr, .int .i64 Q.co, .int .i64 Q.il, .int .i64 Q.cc, .int .i64 Q.pg, .int .i64 Q.ad] 23)).alloc (.cells #[.int .i64 cl, .int .i64 co, .int .i64 ch] 35)) W) (by kernel_rfl) (ca_of HB.out.1 HB.out.2 (Below.refl _ _).drew) (fun k0 => ?_)
  show wpAnyH _ _ _ _ _ 21 #[false, false, false, false, false, false, false, false, false, false, false, false, false, false, false, false, false, false, false, false, false] _ _
  refine wpAnyH_take (i := 0) (oi := { dst := some 5, op := Go.Op.load 23 (Go.Operand.tmp 2), type := 23, pos := "law.go:59", after := #[], guard := none }) (v := .agg #[.int .i64 Q.m, .int .i64 Q.k, .bool Q.ma, .bool Q.wa, .bool Q.pr, .int .i64 Q.co, .int .i64 Q.il, .int .i64 Q.cc, .int .i64 Q.pg, .int .i64 Q.ad]) rfl (by kernel_rfl) (by kernel_rfl) (by kernel_rfl) (fun _ _ _ h => h) (Or.inl ⟨by rfl, fun W hSw => by (try dsimp only at hSw); go_simp⟩) k0 ?_
  try simp only [Act.put, List.setIfInBounds_toArray, List.set_cons_zero, List.set_cons_succ]
  refine wpAnyH_take (i := 1) (oi := { dst := some 6, op := Go.Op.fieldAddr 35 (Go.Operand.tmp 3) 0, type := 0, pos := "law.go:59", after := #[], guard := none }) (v := .pointer (some ⟨w.heap.size + 1, 0, none⟩)) rfl (by kernel_rfl) (by kernel_rfl) (by kernel_rfl) (fun _ _ _ h => h) (Or.inl ⟨by rfl, fun W hSw => by (try dsimp only at hSw); go_simp⟩) k0 ?_
  try simp only [Act.put, List.setIfInBounds_toArray, List.set_cons_zero, List.set_cons_succ]
  refine wpAnyH_take (i := 2) (oi := { dst := some 7, op := Go.Op.load 3 (Go.Operand.tmp 6), type := 3, pos := "law.go:59", after := #[{ on := 1, ground := Go.Ground.data }], guard := none }) (v := .int .i64 cl) rfl (by kernel_rfl) (by kernel_rfl) (by kernel_rfl) (fun _ _ _ h => h) (Or.inl ⟨by rfl, fun W hSw => by (try dsimp only at hSw); go_simp⟩) k0 ?_
  try simp only [Act.put, List.setIfInBounds_toArray, List.set_cons_zero, List.set_cons_succ]
  refine wpAnyH_take (i := 3) (oi := { dst := some 8, op := Go.Op.fieldAddr 35 (Go.Operand.tmp 3) 1, type := 0, pos := "law.go:59", after := #[], guard := none }) (v := .pointer (some ⟨w.heap.size + 1, 1, none⟩)) rfl (by kernel_rfl) (by kernel_rfl) (by kernel_rfl) (fun _ _ _ h => h) (Or.inl ⟨by rfl, fun W hSw => by (try dsimp only at hSw); go_simp⟩) k0 ?_
  try simp only [Act.put, List.setIfInBounds_toArray, List.set_cons_zero, List.set_cons_succ]
  refine wpAnyH_take (i := 4) (oi := { dst := some 9, op := Go.Op.load 3 (Go.Operand.tmp 8), type := 3, pos := "law.go:59", after := #[{ on := 3, ground := Go.Ground.data }], guard := none }) (v := .int .i64 co) rfl (by kernel_rfl) (by kernel_rfl) (by kernel_rfl) (fun _ _ _ h => h) (Or.inl ⟨by rfl, fun W hSw => by (try dsimp only at hSw); go_simp⟩) k0 ?_
  try simp only [Act.put, List.setIfInBounds_toArray, List.set_cons_zero, List.set_cons_succ]
  refine wpAnyH_take (i := 5) (oi := { dst := some 10, op := Go.Op.fieldAddr 35 (Go.Operand.tmp 3) 2, type := 0, pos := "law.go:59", after := #[], guard := none }) (v := .pointer (some ⟨w.heap.size + 1, 2, none⟩)) rfl (by kernel_rfl) (by kernel_rfl) (by kernel_rfl) (fun _ _ _ h => h) (Or.inl ⟨by rfl, fun W hSw => by (try dsimp only at hSw); go_simp⟩) k0 ?_
  try simp only [Act.put, List.setIfInBounds_toArray, List.set_cons_zero, List.set_cons_succ]
  refine wpAnyH_take (i := 6) (oi := { dst := some 11, op := Go.Op.load 3 (Go.Operand.tmp 10), type := 3, pos := "law.go:59", after := #[{ on := 5, ground := Go.Ground.data }], guard := none }) (v := .int .i64 ch) rfl (by kernel_rfl) (by kernel_rfl) (by kernel_rfl) (fun _ _ _ h => h) (Or.inl ⟨by rfl, fun W hSw => by (try dsimp only at hSw); go_simp⟩) k0 ?_
  try simp only [Act.put, List.setIfInBounds_toArray, List.set_cons_zero, List.set_cons_succ]
  refine wpAnyH_take (i := 8) (oi := { dst := some 13, op := Go.Op.load 23 (Go.Operand.tmp 2), type := 23, pos := "law.go:59", after := #[], guard := none }) (v := .agg #[.int .i64 Q.m, .int .i64 Q.k, .bool Q.ma, .bool Q.wa, .bool Q.pr, .int .i64 Q.co, .int .i64 Q.il, .int .i64 Q.cc, .int .i64 Q.pg, .int .i64 Q.ad]) rfl (by kernel_rfl) (by kernel_rfl) (by kernel_rfl) (fun _ _ _ h => h) (Or.inl ⟨by rfl, fun W hSw => by (try dsimp only at hSw); go_simp⟩) k0 ?_
  try simp only [Act.put, List.setIfInBounds_toArray, List.set_cons_zero, List.set_cons_succ]
  refine wpAnyH_take (i := 9) (oi := { dst := some 14, op := Go.Op.fieldAddr 35 (Go.Operand.tmp 3) 0, type := 0, pos := "law.go:59", after := #[], guard := none }) (v := .pointer (some ⟨w.heap.size + 1, 0, none⟩)) rfl (by kernel_rfl) (by kernel_rfl) (by kernel_rfl) (fun _ _ _ h => h) (Or.inl ⟨by rfl, fun W hSw => by (try dsimp only at hSw); go_simp⟩) k0 ?_
  try simp only [Act.put, List.setIfInBounds_toArray, List.set_cons_zero, List.set_cons_succ]
  refine wpAnyH_take (i := 10) (oi := { dst := some 15, op := Go.Op.load 3 (Go.Operand.tmp 14), type := 3, pos := "law.go:59", after := #[{ on := 9, ground := Go.Ground.data }], guard := none }) (v := .int .i64 cl) rfl (by kernel_rfl) (by kernel_rfl) (by kernel_rfl) (fun _ _ _ h => h) (Or.inl ⟨by rfl, fun W hSw => by (try dsimp only at hSw); go_simp⟩) k0 ?_
  try simp only [Act.put, List.setIfInBounds_toArray, List.set_cons_zero, List.set_cons_succ]
  refine wpAnyH_take (i := 11) (oi := { dst := some 16, op := Go.Op.fieldAddr 35 (Go.Operand.tmp 3) 1, type := 0, pos := "law.go:59", after := #[], guard := none }) (v := .pointer (some ⟨w.heap.size + 1, 1, none⟩)) rfl (by kernel_rfl) (by kernel_rfl) (by kernel_rfl) (fun _ _ _ h => h) (Or.inl ⟨by rfl, fun W hSw => by (try dsimp only at hSw); go_simp⟩) k0 ?_
  try simp only [Act.put, List.setIfInBounds_toArray, List.set_cons_zero, List.set_cons_succ]
  refine wpAnyH_take (i := 12) (oi := { dst := some 17, op := Go.Op.load 3 (Go.Operand.tmp 16), type := 3, pos := "law.go:59", after := #[{ on := 11, ground := Go.Ground.data }], guard := none }) (v := .int .i64 co) rfl (by kernel_rfl) (by kernel_rfl) (by kernel_rfl) (fun _ _ _ h => h) (Or.inl ⟨by rfl, fun W hSw => by (try dsimp only at hSw); go_simp⟩) k0 ?_
  try simp only [Act.put, List.setIfInBounds_toArray, List.set_cons_zero, List.set_cons_succ]
  refine wpAnyH_take (i := 13) (oi := { dst := some 18, op := Go.Op.fieldAddr 35 (Go.Operand.tmp 3) 2, type := 0, pos := "law.go:59", after := #[], guard := none }) (v := .pointer (some ⟨w.heap.size + 1, 2, none⟩)) rfl (by kernel_rfl) (by kernel_rfl) (by kernel_rfl) (fun _ _ _ h => h) (Or.inl ⟨by rfl, fun W hSw => by (try dsimp only at hSw); go_simp⟩) k0 ?_
  try simp only [Act.put, List.setIfInBounds_toArray, List.set_cons_zero, List.set_cons_succ]
  refine wpAnyH_take (i := 14) (oi := { dst := some 19, op := Go.Op.load 3 (Go.Operand.tmp 18), type := 3, pos := "law.go:59", after := #[{ on := 13, ground := Go.Ground.data }], guard := none }) (v := .int .i64 ch) rfl (by kernel_rfl) (by kernel_rfl) (by kernel_rfl) (fun _ _ _ h => h) (Or.inl ⟨by rfl, fun W hSw => by (try dsimp only at hSw); go_simp⟩) k0 ?_
  try simp only [Act.put, List.setIfInBounds_toArray, List.set_cons_zero, List.set_cons_succ]
  refine wpAnyH_ready (rs := [7]) (by kernel_rfl) (by simp) ?_
  refine AllReadyH.cons (o := { dst := some 12, op := Go.Op.call { callee := Go.Callee.value (Go.Operand.func 22), args := #[Go.Operand.tmp 5, Go.Operand.tmp 7, Go.Operand.tmp 9, Go.Operand.tmp 11], argTypes := #[23, 3, 3, 3] }, type := 4, pos := "law.go:59", after := #[{ on := 0, ground := Go.Ground.data }, { on := 2, ground := Go.Ground.data }, { on := 4, ground := Go.Ground.data }, { on := 6, ground := Go.Ground.data }], guard := none }) rfl (fun K hK => ?_) AllReadyH.nil
  go_simp
  go_at_call 22
  refine (H1.out _).mono ?_
  rintro e x1 ⟨rfl, hb1⟩
  go_wp2_with fail
  refine hK.out _ _ (ca_next k0 hb1) (fun k1 => ?_)
  clear hK K
  try simp only [List.setIfInBounds_toArray, List.set_cons_zero, List.set_cons_succ]
  refine wpAnyH_ready (rs := [15]) (by kernel_rfl) (by simp) ?_
  refine AllReadyH.cons (o := { dst := some 20, op := Go.Op.call { callee := Go.Callee.value (Go.Operand.func 23), args := #[Go.Operand.tmp 13, Go.Operand.tmp 15, Go.Operand.tmp 17, Go.Operand.tmp 19], argTypes := #[23, 3, 3, 3] }, type := 4, pos := "law.go:59", after := #[{ on := 8, ground := Go.Ground.data }, { on := 10, ground := Go.Ground.data }, { on := 12, ground := Go.Ground.data }, { on := 14, ground := Go.Ground.data }, { on := 7, ground := Go.Ground.chain }], guard := none }) rfl (fun K hK => ?_) AllReadyH.nil
  go_simp
  go_at_call 23
  refine (H2.out _).mono ?_
  rintro e x2 ⟨rfl, hb2⟩
  go_wp2_with fail
  refine hK.out _ _ (ca_next k1 hb2) (fun k2 => ?_)
  clear hK K
  try simp only [List.setIfInBounds_toArray, List.set_cons_zero, List.set_cons_succ]
  refine wpAnyH_take (i := 16) (oi := { dst := some 21, op := Go.Op.binOp Go.BinOp.eql 4 (Go.Operand.tmp 12) (Go.Operand.tmp 20) 4, type := 4, pos := "law.go:59", after := #[{ on := 7, ground := Go.Ground.data }, { on := 15, ground := Go.Ground.data }], guard := none }) (v := .bool true) rfl (by kernel_rfl) (by kernel_rfl) (by kernel_rfl) (fun _ _ _ h => h) (Or.inl ⟨by rfl, fun W hSw => by (try dsimp only at hSw); go_simp⟩) k2 ?_
  try simp only [Act.put, List.setIfInBounds_toArray, List.set_cons_zero, List.set_cons_succ]
  refine wpAnyH_take (i := 17) (oi := { dst := some 22, op := Go.Op.move (Go.Operand.tmp 21), type := 4, pos := "law.go:59", after := #[{ on := 16, ground := Go.Ground.data }, { on := 15, ground := Go.Ground.chain }], guard := none }) (v := .bool true) rfl (by kernel_rfl) (by kernel_rfl) (by kernel_rfl) (fun _ _ _ h => h) (Or.inl ⟨by rfl, fun W hSw => by (try dsimp only at hSw); go_simp⟩) k2 ?_
  try simp only [Act.put, List.setIfInBounds_toArray, List.set_cons_zero, List.set_cons_succ]
  refine wpAnyH_ready (rs := [18]) (by kernel_rfl) (by simp) ?_
  refine AllReadyH.cons (o := { dst := some 23, op := Go.Op.call { callee := Go.Callee.value (Go.Operand.func 17), args := #[], argTypes := #[] }, type := 4, pos := "law.go:59", after := #[{ on := 17, ground := Go.Ground.chain }, { on := 17, ground := Go.Ground.guard }], guard := some (17, true) }) rfl (fun K hK => ?_) AllReadyH.nil
  go_simp
  go_at_call 17
  refine (works_any _).mono ?_
  rintro e x3 ⟨rfl, hb3⟩
  go_wp2_with fail
  refine hK.out _ _ (ca_next k2 hb3) (fun k3 => ?_)
  clear hK K
  try simp only [List.setIfInBounds_toArray, List.set_cons_zero, List.set_cons_succ]
  refine wpAnyH_take (i := 19) (oi := { dst := some 24, op := Go.Op.pick (Go.Operand.tmp 22) (Go.Operand.tmp 23) (Go.Operand.const (Go.Value.bool false)), type := 4, pos := "law.go:59", after := #[{ on := 17, ground := Go.Ground.data }, { on := 18, ground := Go.Ground.data }], guard := none }) (v := .bool true) rfl (by kernel_rfl) (by kernel_rfl) (by kernel_rfl) (fun _ _ _ h => h) (Or.inl ⟨by rfl, fun W hSw => by (try dsimp only at hSw); go_simp⟩) k3 ?_
  try simp only [Act.put, List.setIfInBounds_toArray, List.set_cons_zero, List.set_cons_succ]
  refine wpAnyH_take (i := 20) (oi := { dst := some 4, op := Go.Op.assign (Go.Operand.tmp 24), type := 4, pos := "law.go:59", after := #[{ on := 19, ground := Go.Ground.data }, { on := 18, ground := Go.Ground.chain }, { on := 0, ground := Go.Ground.phase }, { on := 1, ground := Go.Ground.phase }, { on := 2, ground := Go.Ground.phase }, { on := 3, ground := Go.Ground.phase }, { on := 4, ground := Go.Ground.phase }, { on := 5, ground := Go.Ground.phase }, { on := 6, ground := Go.Ground.phase }, { on := 7, ground := Go.Ground.phase }, { on := 8, ground := Go.Ground.phase }, { on := 9, ground := Go.Ground.phase }, { on := 10, ground := Go.Ground.phase }, { on := 11, ground := Go.Ground.phase }, { on := 12, ground := Go.Ground.phase }, { on := 13, ground := Go.Ground.phase }, { on := 14, ground := Go.Ground.phase }, { on := 15, ground := Go.Ground.phase }, { on := 16, ground := Go.Ground.phase }, { on := 17, ground := Go.Ground.phase }, { on := 18, ground := Go.Ground.phase }, { on := 19, ground := Go.Ground.phase }], guard := none }) (v := .bool true) rfl (by kernel_rfl) (by kernel_rfl) (by kernel_rfl) (fun _ _ _ h => h) (Or.inl ⟨by rfl, fun W hSw => by (try dsimp only at hSw); go_simp⟩) k3 ?_
  try simp only [Act.put, List.setIfInBounds_toArray, List.set_cons_zero, List.set_cons_succ]
  refine wpAnyH_done (by kernel_rfl) ?_ _
  refine NoPanic.normal ?_
  have HBF := Lib.hid (bel0 HW.out k3.2)
  go_wp2
  go_ret
  exact ⟨rfl, HBF.out⟩

end Go.Proofs.Ytfobmgoehamnnaa.pswAdmits

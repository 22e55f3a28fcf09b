/- The given answers' byte of flags. -/
import Derived.Test.YtijkbenbjdeocaaDoorCcRef
namespace Go.Proofs.YtijkbenbjdeocaaDoor
open Go.RowKit
set_option linter.unusedVariables false
namespace E

theorem fl_bd (b : Bool) (v : Int) (h : 0 ≤ v) : 0 ≤ fl b v ∧ fl b v ≤ v := by cases b <;> simp [fl, h]
set_option maxRecDepth 100000 in
set_option maxHeartbeats 1000000 in
theorem rflags_any (Q : Cw) (w : World) (hf : Fb w) : Calls Tryd.prog 31 #[Q.v] w (New w (.int .i64 (flI Q))) := by
  have HA0 : Hid (IntKind.i64.wrap (fl Q.cd 128 + fl Q.cc 64) = fl Q.cd 128 + fl Q.cc 64) := Lib.hid (by
    have f0 := fl_bd Q.cd 128 (by decide); have f1 := fl_bd Q.cc 64 (by decide); have f2 := fl_bd Q.sl 32 (by decide); have f3 := fl_bd Q.sk 16 (by decide); have f4 := fl_bd Q.pc 8 (by decide)
    exact wrap_i64s (by omega) (by omega))
  have HA1 : Hid (IntKind.i64.wrap (fl Q.cd 128 + fl Q.cc 64 + fl Q.sl 32) = fl Q.cd 128 + fl Q.cc 64 + fl Q.sl 32) := Lib.hid (by
    have f0 := fl_bd Q.cd 128 (by decide); have f1 := fl_bd Q.cc 64 (by decide); have f2 := fl_bd Q.sl 32 (by decide); have f3 := fl_bd Q.sk 16 (by decide); have f4 := fl_bd Q.pc 8 (by decide)
    exact wrap_i64s (by omega) (by omega))
  have HA2 : Hid (IntKind.i64.wrap (fl Q.cd 128 + fl Q.cc 64 + fl Q.sl 32 + fl Q.sk 16) = fl Q.cd 128 + fl Q.cc 64 + fl Q.sl 32 + fl Q.sk 16) := Lib.hid (by
    have f0 := fl_bd Q.cd 128 (by decide); have f1 := fl_bd Q.cc 64 (by decide); have f2 := fl_bd Q.sl 32 (by decide); have f3 := fl_bd Q.sk 16 (by decide); have f4 := fl_bd Q.pc 8 (by decide)
    exact wrap_i64s (by omega) (by omega))
  have HA3 : Hid (IntKind.i64.wrap (fl Q.cd 128 + fl Q.cc 64 + fl Q.sl 32 + fl Q.sk 16 + fl Q.pc 8) = fl Q.cd 128 + fl Q.cc 64 + fl Q.sl 32 + fl Q.sk 16 + fl Q.pc 8) := Lib.hid (by
    have f0 := fl_bd Q.cd 128 (by decide); have f1 := fl_bd Q.cc 64 (by decide); have f2 := fl_bd Q.sl 32 (by decide); have f3 := fl_bd Q.sk 16 (by decide); have f4 := fl_bd Q.pc 8 (by decide)
    exact wrap_i64s (by omega) (by omega))
  have H0 : Hid (Ck w w.heap.size Q (w.alloc (.cells #[.int .i64 Q.o, .int .i64 Q.a, .bool Q.cd, .bool Q.cc, .bool Q.sl, .bool Q.sk, .bool Q.pc, .int .i64 Q.n] 26)).drew) := Lib.hid ((Ck.mk (below_new _ _) (Bx.new _ _ _) (hf.below (below_new _ _))).next (bel_drew _))
  clear hf
  unfold Cw.v flI
  go_enter Tryd.func31, Tryd.ntmps31
  go_wp2_with fail
  generalize hE : w.heap.size = E at H0 ⊢
  clear hE
  refine wp_region_held_drew (S := Ck w E Q) (by kernel_rfl) H0.out (fun k0 => ?_)
  show wpAnyH _ _ _ _ _ 20 #[false, false, false, false, false, false, false, false, false, false, false, false, false, false, false, false, false, false, false, false] _ _
  refine wpAnyH_take (i := 0) (oi := { dst := some 3, op := Go.Op.fieldAddr 26 (Go.Operand.tmp 1) 2, type := 0, pos := "ref.go:62", after := #[], guard := none }) (v := .pointer (some ⟨E, 2, none⟩)) rfl (by kernel_rfl) (by kernel_rfl) (by kernel_rfl) (fun _ _ _ h => h) (Or.inl ⟨by rfl, fun W hSw => by (try dsimp only at hSw); go_simp⟩) k0 ?_
  try simp only [Act.put, List.setIfInBounds_toArray, List.set_cons_zero, List.set_cons_succ]
  refine wpAnyH_take (i := 1) (oi := { dst := some 4, op := Go.Op.load 4 (Go.Operand.tmp 3), type := 4, pos := "ref.go:62", after := #[{ on := 0, ground := Go.Ground.data }], guard := none }) (v := .bool Q.cd) rfl (by kernel_rfl) (by kernel_rfl) (by kernel_rfl) (fun _ _ _ h => h) (Or.inl ⟨by rfl, fun W hSw => by have cq := hSw.c2; clear hSw; go_simp⟩) k0 ?_
  try simp only [Act.put, List.setIfInBounds_toArray, List.set_cons_zero, List.set_cons_succ]
  refine wpAnyH_take (i := 3) (oi := { dst := some 6, op := Go.Op.fieldAddr 26 (Go.Operand.tmp 1) 3, type := 0, pos := "ref.go:62", after := #[], guard := none }) (v := .pointer (some ⟨E, 3, none⟩)) rfl (by kernel_rfl) (by kernel_rfl) (by kernel_rfl) (fun _ _ _ h => h) (Or.inl ⟨by rfl, fun W hSw => by (try dsimp only at hSw); go_simp⟩) k0 ?_
  try simp only [Act.put, List.setIfInBounds_toArray, List.set_cons_zero, List.set_cons_succ]
  refine wpAnyH_take (i := 4) (oi := { dst := some 7, op := Go.Op.load 4 (Go.Operand.tmp 6), type := 4, pos := "ref.go:62", after := #[{ on := 3, ground := Go.Ground.data }], guard := none }) (v := .bool Q.cc) rfl (by kernel_rfl) (by kernel_rfl) (by kernel_rfl) (fun _ _ _ h => h) (Or.inl ⟨by rfl, fun W hSw => by have cq := hSw.c3; clear hSw; go_simp⟩) k0 ?_
  try simp only [Act.put, List.setIfInBounds_toArray, List.set_cons_zero, List.set_cons_succ]
  refine wpAnyH_take (i := 7) (oi := { dst := some 10, op := Go.Op.fieldAddr 26 (Go.Operand.tmp 1) 4, type := 0, pos := "ref.go:62", after := #[], guard := none }) (v := .pointer (some ⟨E, 4, none⟩)) rfl (by kernel_rfl) (by kernel_rfl) (by kernel_rfl) (fun _ _ _ h => h) (Or.inl ⟨by rfl, fun W hSw => by (try dsimp only at hSw); go_simp⟩) k0 ?_
  try simp only [Act.put, List.setIfInBounds_toArray, List.set_cons_zero, List.set_cons_succ]
  refine wpAnyH_take (i := 8) (oi := { dst := some 11, op := Go.Op.load 4 (Go.Operand.tmp 10), type := 4, pos := "ref.go:62", after := #[{ on := 7, ground := Go.Ground.data }], guard := none }) (v := .bool Q.sl) rfl (by kernel_rfl) (by kernel_rfl) (by kernel_rfl) (fun _ _ _ h => h) (Or.inl ⟨by rfl, fun W hSw => by have cq := hSw.c4; clear hSw; go_simp⟩) k0 ?_
  try simp only [Act.put, List.setIfInBounds_toArray, List.set_cons_zero, List.set_cons_succ]
  refine wpAnyH_take (i := 11) (oi := { dst := some 14, op := Go.Op.fieldAddr 26 (Go.Operand.tmp 1) 5, type := 0, pos := "ref.go:62", after := #[], guard := none }) (v := .pointer (some ⟨E, 5, none⟩)) rfl (by kernel_rfl) (by kernel_rfl) (by kernel_rfl) (fun _ _ _ h => h) (Or.inl ⟨by rfl, fun W hSw => by (try dsimp only at hSw); go_simp⟩) k0 ?_
  try simp only [Act.put, List.setIfInBounds_toArray, List.set_cons_zero, List.set_cons_succ]
  refine wpAnyH_take (i := 12) (oi := { dst := some 15, op := Go.Op.load 4 (Go.Operand.tmp 14), type := 4, pos := "ref.go:62", after := #[{ on := 11, ground := Go.Ground.data }], guard := none }) (v := .bool Q.sk) rfl (by kernel_rfl) (by kernel_rfl) (by kernel_rfl) (fun _ _ _ h => h) (Or.inl ⟨by rfl, fun W hSw => by have cq := hSw.c5; clear hSw; go_simp⟩) k0 ?_
  try simp only [Act.put, List.setIfInBounds_toArray, List.set_cons_zero, List.set_cons_succ]
  refine wpAnyH_take (i := 15) (oi := { dst := some 18, op := Go.Op.fieldAddr 26 (Go.Operand.tmp 1) 6, type := 0, pos := "ref.go:62", after := #[], guard := none }) (v := .pointer (some ⟨E, 6, none⟩)) rfl (by kernel_rfl) (by kernel_rfl) (by kernel_rfl) (fun _ _ _ h => h) (Or.inl ⟨by rfl, fun W hSw => by (try dsimp only at hSw); go_simp⟩) k0 ?_
  try simp only [Act.put, List.setIfInBounds_toArray, List.set_cons_zero, List.set_cons_succ]
  refine wpAnyH_take (i := 16) (oi := { dst := some 19, op := Go.Op.load 4 (Go.Operand.tmp 18), type := 4, pos := "ref.go:62", after := #[{ on := 15, ground := Go.Ground.data }], guard := none }) (v := .bool Q.pc) rfl (by kernel_rfl) (by kernel_rfl) (by kernel_rfl) (fun _ _ _ h => h) (Or.inl ⟨by rfl, fun W hSw => by have cq := hSw.c6; clear hSw; go_simp⟩) k0 ?_
  try simp only [Act.put, List.setIfInBounds_toArray, List.set_cons_zero, List.set_cons_succ]
  refine wpAnyH_ready (rs := [2]) (by kernel_rfl) (by simp) ?_
  refine AllReadyH.cons (o := { dst := some 5, op := Go.Op.call { callee := Go.Callee.value (Go.Operand.func 39), args := #[Go.Operand.tmp 4, Go.Operand.const (Go.Value.int Go.IntKind.i64 128)], argTypes := #[4, 3] }, type := 3, pos := "ref.go:62", after := #[{ on := 1, ground := Go.Ground.data }], guard := none }) rfl (fun K hK => ?_) AllReadyH.nil
  go_simp
  go_at_call 39
  refine (flag_any Q.cd 128 _).mono ?_
  rintro e x9 ⟨rfl, rfl⟩
  go_wp2_with fail
  refine hK.out _ _ k0 (fun k1 => ?_)
  clear hK K
  try simp only [List.setIfInBounds_toArray, List.set_cons_zero, List.set_cons_succ]
  refine wpAnyH_ready (rs := [5]) (by kernel_rfl) (by simp) ?_
  refine AllReadyH.cons (o := { dst := some 8, op := Go.Op.call { callee := Go.Callee.value (Go.Operand.func 39), args := #[Go.Operand.tmp 7, Go.Operand.const (Go.Value.int Go.IntKind.i64 64)], argTypes := #[4, 3] }, type := 3, pos := "ref.go:62", after := #[{ on := 4, ground := Go.Ground.data }, { on := 2, ground := Go.Ground.chain }], guard := none }) rfl (fun K hK => ?_) AllReadyH.nil
  go_simp
  go_at_call 39
  refine (flag_any Q.cc 64 _).mono ?_
  rintro e x9 ⟨rfl, rfl⟩
  go_wp2_with fail
  refine hK.out _ _ k1 (fun k2 => ?_)
  clear hK K
  try simp only [List.setIfInBounds_toArray, List.set_cons_zero, List.set_cons_succ]
  refine wpAnyH_take (i := 6) (oi := { dst := some 9, op := Go.Op.binOp Go.BinOp.add 3 (Go.Operand.tmp 5) (Go.Operand.tmp 8) 3, type := 3, pos := "ref.go:62", after := #[{ on := 2, ground := Go.Ground.data }, { on := 5, ground := Go.Ground.data }], guard := none }) (v := .int .i64 (fl Q.cd 128 + fl Q.cc 64)) rfl (by kernel_rfl) (by kernel_rfl) (by kernel_rfl) (fun _ _ _ h => h) (Or.inl ⟨by rfl, fun W hSw => by clear hSw; go_simp; exact HA0.out⟩) k2 ?_
  try simp only [Act.put, List.setIfInBounds_toArray, List.set_cons_zero, List.set_cons_succ]
  refine wpAnyH_ready (rs := [9]) (by kernel_rfl) (by simp) ?_
  refine AllReadyH.cons (o := { dst := some 12, op := Go.Op.call { callee := Go.Callee.value (Go.Operand.func 39), args := #[Go.Operand.tmp 11, Go.Operand.const (Go.Value.int Go.IntKind.i64 32)], argTypes := #[4, 3] }, type := 3, pos := "ref.go:62", after := #[{ on := 8, ground := Go.Ground.data }, { on := 5, ground := Go.Ground.chain }], guard := none }) rfl (fun K hK => ?_) AllReadyH.nil
  go_simp
  go_at_call 39
  refine (flag_any Q.sl 32 _).mono ?_
  rintro e x9 ⟨rfl, rfl⟩
  go_wp2_with fail
  refine hK.out _ _ k2 (fun k3 => ?_)
  clear hK K
  try simp only [List.setIfInBounds_toArray, List.set_cons_zero, List.set_cons_succ]
  refine wpAnyH_take (i := 10) (oi := { dst := some 13, op := Go.Op.binOp Go.BinOp.add 3 (Go.Operand.tmp 9) (Go.Operand.tmp 12) 3, type := 3, pos := "ref.go:62", after := #[{ on := 6, ground := Go.Ground.data }, { on := 9, ground := Go.Ground.data }], guard := none }) (v := .int .i64 (fl Q.cd 128 + fl Q.cc 64 + fl Q.sl 32)) rfl (by kernel_rfl) (by kernel_rfl) (by kernel_rfl) (fun _ _ _ h => h) (Or.inl ⟨by rfl, fun W hSw => by clear hSw; go_simp; exact HA1.out⟩) k3 ?_
  try simp only [Act.put, List.setIfInBounds_toArray, List.set_cons_zero, List.set_cons_succ]
  refine wpAnyH_ready (rs := [13]) (by kernel_rfl) (by simp) ?_
  refine AllReadyH.cons (o := { dst := some 16, op := Go.Op.call { callee := Go.Callee.value (Go.Operand.func 39), args := #[Go.Operand.tmp 15, Go.Operand.const (Go.Value.int Go.IntKind.i64 16)], argTypes := #[4, 3] }, type := 3, pos := "ref.go:62", after := #[{ on := 12, ground := Go.Ground.data }, { on := 9, ground := Go.Ground.chain }], guard := none }) rfl (fun K hK => ?_) AllReadyH.nil
  go_simp
  go_at_call 39
  refine (flag_any Q.sk 16 _).mono ?_
  rintro e x9 ⟨rfl, rfl⟩
  go_wp2_with fail
  refine hK.out _ _ k3 (fun k4 => ?_)
  clear hK K
  try simp only [List.setIfInBounds_toArray, List.set_cons_zero, List.set_cons_succ]
  refine wpAnyH_take (i := 14) (oi := { dst := some 17, op := Go.Op.binOp Go.BinOp.add 3 (Go.Operand.tmp 13) (Go.Operand.tmp 16) 3, type := 3, pos := "ref.go:62", after := #[{ on := 10, ground := Go.Ground.data }, { on := 13, ground := Go.Ground.data }], guard := none }) (v := .int .i64 (fl Q.cd 128 + fl Q.cc 64 + fl Q.sl 32 + fl Q.sk 16)) rfl (by kernel_rfl) (by kernel_rfl) (by kernel_rfl) (fun _ _ _ h => h) (Or.inl ⟨by rfl, fun W hSw => by clear hSw; go_simp; exact HA2.out⟩) k4 ?_
  try simp only [Act.put, List.setIfInBounds_toArray, List.set_cons_zero, List.set_cons_succ]
  refine wpAnyH_ready (rs := [17]) (by kernel_rfl) (by simp) ?_
  refine AllReadyH.cons (o := { dst := some 20, op := Go.Op.call { callee := Go.Callee.value (Go.Operand.func 39), args := #[Go.Operand.tmp 19, Go.Operand.const (Go.Value.int Go.IntKind.i64 8)], argTypes := #[4, 3] }, type := 3, pos := "ref.go:62", after := #[{ on := 16, ground := Go.Ground.data }, { on := 13, ground := Go.Ground.chain }], guard := none }) rfl (fun K hK => ?_) AllReadyH.nil
  go_simp
  go_at_call 39
  refine (flag_any Q.pc 8 _).mono ?_
  rintro e x9 ⟨rfl, rfl⟩
  go_wp2_with fail
  refine hK.out _ _ k4 (fun k5 => ?_)
  clear hK K
  try simp only [List.setIfInBounds_toArray, List.set_cons_zero, List.set_cons_succ]
  refine wpAnyH_take (i := 18) (oi := { dst := some 21, op := Go.Op.binOp Go.BinOp.add 3 (Go.Operand.tmp 17) (Go.Operand.tmp 20) 3, type := 3, pos := "ref.go:62", after := #[{ on := 14, ground := Go.Ground.data }, { on := 17, ground := Go.Ground.data }], guard := none }) (v := .int .i64 (fl Q.cd 128 + fl Q.cc 64 + fl Q.sl 32 + fl Q.sk 16 + fl Q.pc 8)) rfl (by kernel_rfl) (by kernel_rfl) (by kernel_rfl) (fun _ _ _ h => h) (Or.inl ⟨by rfl, fun W hSw => by clear hSw; go_simp; exact HA3.out⟩) k5 ?_
  try simp only [Act.put, List.setIfInBounds_toArray, List.set_cons_zero, List.set_cons_succ]
  refine wpAnyH_take (i := 19) (oi := { dst := some 2, op := Go.Op.assign (Go.Operand.tmp 21), type := 3, pos := "ref.go:62", after := #[{ on := 18, ground := Go.Ground.data }, { on := 17, ground := Go.Ground.chain }, { on := 0, ground := Go.Ground.phase }, { on := 1, ground := Go.Ground.phase }, { on := 2, ground := Go.Ground.phase }, { on := 3, ground := Go.Ground.phase }, { on := 4, ground := Go.Ground.phase }, { on := 5, ground := Go.Ground.phase }, { on := 6, ground := Go.Ground.phase }, { on := 7, ground := Go.Ground.phase }, { on := 8, ground := Go.Ground.phase }, { on := 9, ground := Go.Ground.phase }, { on := 10, ground := Go.Ground.phase }, { on := 11, ground := Go.Ground.phase }, { on := 12, ground := Go.Ground.phase }, { on := 13, ground := Go.Ground.phase }, { on := 14, ground := Go.Ground.phase }, { on := 15, ground := Go.Ground.phase }, { on := 16, ground := Go.Ground.phase }, { on := 17, ground := Go.Ground.phase }, { on := 18, ground := Go.Ground.phase }], guard := none }) (v := .int .i64 (fl Q.cd 128 + fl Q.cc 64 + fl Q.sl 32 + fl Q.sk 16 + fl Q.pc 8)) rfl (by kernel_rfl) (by kernel_rfl) (by kernel_rfl) (fun _ _ _ h => h) (Or.inl ⟨by rfl, fun W hSw => by (try dsimp only at hSw); go_simp⟩) k5 ?_
  try simp only [Act.put, List.setIfInBounds_toArray, List.set_cons_zero, List.set_cons_succ]
  refine wpAnyH_done (by kernel_rfl) ?_ _
  refine id ?_
  go_wp2
  go_ret
  exact ⟨rfl, k5.bel⟩
end E
end Go.Proofs.YtijkbenbjdeocaaDoor

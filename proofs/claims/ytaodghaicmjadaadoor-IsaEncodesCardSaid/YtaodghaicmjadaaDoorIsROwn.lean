/- Own of the given answers: formats. -/
import Derived.Test.YtaodghaicmjadaaDoorIsROwnB
namespace Go.Proofs.YtaodghaicmjadaaDoor
open Go.RowKit Go.Shelf
set_option linter.unusedVariables false
namespace E

set_option maxRecDepth 100000 in
set_option maxHeartbeats 400000 in
theorem own_1 (Q : Ins) (hf : Q.fo = 1) (w : World) : Calls Tryd.prog 38 #[Q.val] w (New w (ownQ 1 Q).val) := by
  obtain ⟨w2, w3, A, R, B, e2, e3, eA, eR, eB, A2, R2, W2, A0, R0, B0, HB3, HNE⟩ := own_start Q w
  unfold Ins.cs Ins.zero at e2
  unfold Ins.cs Ins.hd at e3
  dsimp only at e2 e3
  rw [hf] at e2 e3
  have HE3 := Lib.hid e3
  have HA := Lib.hid A0
  have HB := Lib.hid B0
  have HR := Lib.hid R0
  have HW := Lib.hid HB3
  have HF := Lib.hid hf
  obtain ⟨a0, a1, a2, a3, a4, a5, a6, a7, a8, a9, a10, a11⟩ := bx_cells A0
  have x0 := (bx_cells A2).1
  have x1 := (bx_cells A2).2.1
  rw [hf] at x1
  obtain ⟨b0, b1, b2, b3, b4, b5, b6, b7, b8, b9, b10, b11, f0, f1, f2, f3, f4, f5, f6, f7, f8, f9, f10, f11⟩ := bx_full B0
  rw [hf] at a1
  have y1 := a1
  rw [← e3] at y1
  generalize hV : (ownQ 1 Q).val = V
  have HV := Lib.hid hV
  unfold Ins.val
  rw [hf]
  clear A0 R0 B0 HB3 hf hV A2 R2 W2 e3
  go_enter Tryd.func38, Tryd.ntmps38
  go_wp2_with fail
  rw [HE3.out]
  clear a0 a1 a2 a3 a4 a5 a6 a7 a8 a9 a10 a11 x0 x1 y1
  refine only_wp ?_
  refine wp_region_held_drew (S := fun Y => Bx Y A 28 Q.cs) (by kernel_rfl) (HA.out.below (Below.refl _ _).drew) (fun k0 => ?_)
  show wpAnyH _ _ _ _ _ 8 #[false, false, false, false, false, false, false, false] _ _
  refine wpAnyH_take (i := 0) (oi := { dst := some 13, op := Go.Op.fieldAddr 28 (Go.Operand.tmp 1) 2, type := 0, pos := "ref.go:138", after := #[], guard := none }) (v := .pointer (some ⟨A, 2, none⟩)) rfl (by kernel_rfl) (by kernel_rfl) (by kernel_rfl) (fun _ _ _ h => h) (Or.inl ⟨by rfl, fun W hSw => by (try dsimp only at hSw); go_simp⟩) k0 ?_
  try simp only [Act.put, List.setIfInBounds_toArray, List.set_cons_zero, List.set_cons_succ]
  refine wpAnyH_take (i := 1) (oi := { dst := some 14, op := Go.Op.load 3 (Go.Operand.tmp 13), type := 3, pos := "ref.go:138", after := #[{ on := 0, ground := Go.Ground.data }], guard := none }) (v := .int .i64 Q.r1) rfl (by kernel_rfl) (by kernel_rfl) (by kernel_rfl) (fun _ _ _ h => h) (Or.inl ⟨by rfl, fun W hSw => by obtain ⟨c0, c1, c2, c3, c4, c5, c6, c7, c8, c9, c10, c11⟩ := bx_cells hSw; clear hSw; go_simp⟩) k0 ?_
  try simp only [Act.put, List.setIfInBounds_toArray, List.set_cons_zero, List.set_cons_succ]
  refine wpAnyH_take (i := 2) (oi := { dst := some 15, op := Go.Op.fieldAddr 28 (Go.Operand.tmp 1) 3, type := 0, pos := "ref.go:138", after := #[{ on := 5, ground := Go.Ground.gcOnly Go.Departure.lateStores }], guard := none }) (v := .pointer (some ⟨A, 3, none⟩)) rfl (by kernel_rfl) (by kernel_rfl) (by kernel_rfl) (fun _ _ _ h => h) (Or.inl ⟨by rfl, fun W hSw => by (try dsimp only at hSw); go_simp⟩) k0 ?_
  try simp only [Act.put, List.setIfInBounds_toArray, List.set_cons_zero, List.set_cons_succ]
  refine wpAnyH_take (i := 3) (oi := { dst := some 16, op := Go.Op.load 3 (Go.Operand.tmp 15), type := 3, pos := "ref.go:138", after := #[{ on := 2, ground := Go.Ground.data }, { on := 5, ground := Go.Ground.gcOnly Go.Departure.lateStores }], guard := none }) (v := .int .i64 Q.r2) rfl (by kernel_rfl) (by kernel_rfl) (by kernel_rfl) (fun _ _ _ h => h) (Or.inl ⟨by rfl, fun W hSw => by obtain ⟨c0, c1, c2, c3, c4, c5, c6, c7, c8, c9, c10, c11⟩ := bx_cells hSw; clear hSw; go_simp⟩) k0 ?_
  try simp only [Act.put, List.setIfInBounds_toArray, List.set_cons_zero, List.set_cons_succ]
  refine wpAnyH_take (i := 4) (oi := { dst := some 17, op := Go.Op.fieldAddr 28 (Go.Operand.tmp 3) 2, type := 0, pos := "ref.go:138", after := #[{ on := 0, ground := Go.Ground.phase }, { on := 1, ground := Go.Ground.phase }, { on := 2, ground := Go.Ground.textOnly Go.Departure.lateStores }, { on := 3, ground := Go.Ground.textOnly Go.Departure.lateStores }], guard := none }) (v := .pointer (some ⟨B, 2, none⟩)) rfl (by kernel_rfl) (by kernel_rfl) (by kernel_rfl) (fun _ _ _ h => h) (Or.inl ⟨by rfl, fun W hSw => by (try dsimp only at hSw); go_simp⟩) k0 ?_
  try simp only [Act.put, List.setIfInBounds_toArray, List.set_cons_zero, List.set_cons_succ]
  refine wpAnyH_ready (rs := [5]) (by kernel_rfl) (by simp) ?_
  refine AllReadyH.cons (o := { dst := none, op := Go.Op.store 3 (Go.Operand.tmp 17) (Go.Operand.tmp 14), type := 0, pos := "ref.go:138", after := #[{ on := 4, ground := Go.Ground.data }, { on := 1, ground := Go.Ground.data }, { on := 0, ground := Go.Ground.phase }, { on := 1, ground := Go.Ground.phase }, { on := 2, ground := Go.Ground.textOnly Go.Departure.lateStores }, { on := 3, ground := Go.Ground.textOnly Go.Departure.lateStores }], guard := none }) rfl (fun K hK => ?_) AllReadyH.nil
  go_simp
  refine hK.out _ ((w3.drew.setCell ⟨B, 2, none⟩ (.int .i64 Q.r1))) (k0.far (p := ⟨B, 2, none⟩) HNE.out.1 (.int .i64 Q.r1)) (fun k1 => ?_)
  clear hK K
  try simp only [List.setIfInBounds_toArray, List.set_cons_zero, List.set_cons_succ]
  refine wpAnyH_take (i := 6) (oi := { dst := some 18, op := Go.Op.fieldAddr 28 (Go.Operand.tmp 3) 3, type := 0, pos := "ref.go:138", after := #[{ on := 0, ground := Go.Ground.phase }, { on := 1, ground := Go.Ground.phase }, { on := 2, ground := Go.Ground.phase }, { on := 3, ground := Go.Ground.phase }, { on := 4, ground := Go.Ground.phase }, { on := 5, ground := Go.Ground.phase }], guard := none }) (v := .pointer (some ⟨B, 3, none⟩)) rfl (by kernel_rfl) (by kernel_rfl) (by kernel_rfl) (fun _ _ _ h => h) (Or.inl ⟨by rfl, fun W hSw => by (try dsimp only at hSw); go_simp⟩) k1 ?_
  try simp only [Act.put, List.setIfInBounds_toArray, List.set_cons_zero, List.set_cons_succ]
  refine wpAnyH_ready (rs := [7]) (by kernel_rfl) (by simp) ?_
  refine AllReadyH.cons (o := { dst := none, op := Go.Op.store 3 (Go.Operand.tmp 18) (Go.Operand.tmp 16), type := 0, pos := "ref.go:138", after := #[{ on := 6, ground := Go.Ground.data }, { on := 3, ground := Go.Ground.data }, { on := 5, ground := Go.Ground.chain }, { on := 0, ground := Go.Ground.phase }, { on := 1, ground := Go.Ground.phase }, { on := 2, ground := Go.Ground.phase }, { on := 3, ground := Go.Ground.phase }, { on := 4, ground := Go.Ground.phase }, { on := 5, ground := Go.Ground.phase }], guard := none }) rfl (fun K hK => ?_) AllReadyH.nil
  go_simp
  refine hK.out _ (((w3.drew.setCell ⟨B, 2, none⟩ (.int .i64 Q.r1)).setCell ⟨B, 3, none⟩ (.int .i64 Q.r2))) (k1.far (p := ⟨B, 3, none⟩) HNE.out.1 (.int .i64 Q.r2)) (fun k2 => ?_)
  clear hK K
  try simp only [List.setIfInBounds_toArray, List.set_cons_zero, List.set_cons_succ]
  refine wpAnyH_done (by kernel_rfl) ?_ _
  refine onlyN_normal ?_
  clear b0 b1 b2 b3 b4 b5 b6 b7 b8 b9 b10 b11 f0 f1 f2 f3 f4 f5 f6 f7 f8 f9 f10 f11
  obtain ⟨w4, hw4⟩ : ∃ w4, w4 = ((w3.drew.setCell ⟨B, 2, none⟩ (.int .i64 Q.r1)).setCell ⟨B, 3, none⟩ (.int .i64 Q.r2)) := ⟨_, rfl⟩
  rw [← hw4]
  have B4 : Bx w4 B 28 (ownQ 1 Q).cs := by rw [hw4]; exact (bx_put (bx_put (HB.out.below (Below.refl _ _).drew) 2 (by decide) Q.r1) 3 (by decide) Q.r2)
  have HVV := HV.out
  clear HV
  generalize ownQ 1 Q = P at B4 HVV
  have HV := Lib.hid HVV
  have R4 : Bx w4 R 28 Ins.zero.cs := by rw [hw4]; exact (((HR.out.below (Below.refl _ _).drew).far (p := ⟨B, 2, none⟩) HNE.out.2.1 (.int .i64 Q.r1)).far (p := ⟨B, 3, none⟩) HNE.out.2.1 (.int .i64 Q.r2))
  have W4 : Below w.heap.size w w4 := by rw [hw4]; exact ((HW.out.drew.setCell (p := ⟨B, 2, none⟩) HNE.out.2.2.2 (.int .i64 Q.r1)).setCell (p := ⟨B, 3, none⟩) HNE.out.2.2.2 (.int .i64 Q.r2))
  obtain ⟨b0, b1, b2, b3, b4, b5, b6, b7, b8, b9, b10, b11⟩ := bx_cells B4
  obtain ⟨r0, r1, r2, r3, r4, r5, r6, r7, r8, r9, r10, r11, f0, f1, f2, f3, f4, f5, f6, f7, f8, f9, f10, f11⟩ := bx_zero R4
  have HR4 := Lib.hid R4
  have HW4 := Lib.hid W4
  clear B4 R4 W4 hw4 HVV k0 k1 k2
  go_wp2
  exact bodyPost_ret (results_c rfl rfl (load_ins (put12_at HR4.out P))) rfl ⟨by rw [← HV.out], put12_below HW4.out HNE.out.2.2.1 P⟩
set_option maxRecDepth 100000 in
set_option maxHeartbeats 400000 in
theorem own_2 (Q : Ins) (hf : Q.fo = 2) (w : World) : Calls Tryd.prog 38 #[Q.val] w (New w (ownQ 2 Q).val) := by
  obtain ⟨w2, w3, A, R, B, e2, e3, eA, eR, eB, A2, R2, W2, A0, R0, B0, HB3, HNE⟩ := own_start Q w
  unfold Ins.cs Ins.zero at e2
  unfold Ins.cs Ins.hd at e3
  dsimp only at e2 e3
  rw [hf] at e2 e3
  have HE3 := Lib.hid e3
  have HA := Lib.hid A0
  have HB := Lib.hid B0
  have HR := Lib.hid R0
  have HW := Lib.hid HB3
  have HF := Lib.hid hf
  obtain ⟨a0, a1, a2, a3, a4, a5, a6, a7, a8, a9, a10, a11⟩ := bx_cells A0
  have x0 := (bx_cells A2).1
  have x1 := (bx_cells A2).2.1
  rw [hf] at x1
  obtain ⟨b0, b1, b2, b3, b4, b5, b6, b7, b8, b9, b10, b11, f0, f1, f2, f3, f4, f5, f6, f7, f8, f9, f10, f11⟩ := bx_full B0
  rw [hf] at a1
  have y1 := a1
  rw [← e3] at y1
  generalize hV : (ownQ 2 Q).val = V
  have HV := Lib.hid hV
  unfold Ins.val
  rw [hf]
  clear A0 R0 B0 HB3 hf hV A2 R2 W2 e3
  go_enter Tryd.func38, Tryd.ntmps38
  go_wp2_with fail
  rw [HE3.out]
  clear a0 a1 a2 a3 a4 a5 a6 a7 a8 a9 a10 a11 x0 x1 y1
  refine only_wp ?_
  refine wp_region_held_drew (S := fun Y => Bx Y A 28 Q.cs) (by kernel_rfl) (HA.out.below (Below.refl _ _).drew) (fun k0 => ?_)
  show wpAnyH _ _ _ _ _ 16 #[false, false, false, false, false, false, false, false, false, false, false, false, false, false, false, false] _ _
  refine wpAnyH_take (i := 0) (oi := { dst := some 31, op := Go.Op.fieldAddr 28 (Go.Operand.tmp 1) 2, type := 0, pos := "ref.go:144", after := #[], guard := none }) (v := .pointer (some ⟨A, 2, none⟩)) rfl (by kernel_rfl) (by kernel_rfl) (by kernel_rfl) (fun _ _ _ h => h) (Or.inl ⟨by rfl, fun W hSw => by (try dsimp only at hSw); go_simp⟩) k0 ?_
  try simp only [Act.put, List.setIfInBounds_toArray, List.set_cons_zero, List.set_cons_succ]
  refine wpAnyH_take (i := 1) (oi := { dst := some 32, op := Go.Op.load 3 (Go.Operand.tmp 31), type := 3, pos := "ref.go:144", after := #[{ on := 0, ground := Go.Ground.data }], guard := none }) (v := .int .i64 Q.r1) rfl (by kernel_rfl) (by kernel_rfl) (by kernel_rfl) (fun _ _ _ h => h) (Or.inl ⟨by rfl, fun W hSw => by obtain ⟨c0, c1, c2, c3, c4, c5, c6, c7, c8, c9, c10, c11⟩ := bx_cells hSw; clear hSw; go_simp⟩) k0 ?_
  try simp only [Act.put, List.setIfInBounds_toArray, List.set_cons_zero, List.set_cons_succ]
  refine wpAnyH_take (i := 2) (oi := { dst := some 33, op := Go.Op.fieldAddr 28 (Go.Operand.tmp 1) 4, type := 0, pos := "ref.go:144", after := #[{ on := 9, ground := Go.Ground.gcOnly Go.Departure.lateStores }], guard := none }) (v := .pointer (some ⟨A, 4, none⟩)) rfl (by kernel_rfl) (by kernel_rfl) (by kernel_rfl) (fun _ _ _ h => h) (Or.inl ⟨by rfl, fun W hSw => by (try dsimp only at hSw); go_simp⟩) k0 ?_
  try simp only [Act.put, List.setIfInBounds_toArray, List.set_cons_zero, List.set_cons_succ]
  refine wpAnyH_take (i := 3) (oi := { dst := some 34, op := Go.Op.load 3 (Go.Operand.tmp 33), type := 3, pos := "ref.go:144", after := #[{ on := 2, ground := Go.Ground.data }, { on := 9, ground := Go.Ground.gcOnly Go.Departure.lateStores }], guard := none }) (v := .int .i64 Q.x2) rfl (by kernel_rfl) (by kernel_rfl) (by kernel_rfl) (fun _ _ _ h => h) (Or.inl ⟨by rfl, fun W hSw => by obtain ⟨c0, c1, c2, c3, c4, c5, c6, c7, c8, c9, c10, c11⟩ := bx_cells hSw; clear hSw; go_simp⟩) k0 ?_
  try simp only [Act.put, List.setIfInBounds_toArray, List.set_cons_zero, List.set_cons_succ]
  refine wpAnyH_take (i := 4) (oi := { dst := some 35, op := Go.Op.fieldAddr 28 (Go.Operand.tmp 1) 7, type := 0, pos := "ref.go:144", after := #[{ on := 11, ground := Go.Ground.gcOnly Go.Departure.lateStores }], guard := none }) (v := .pointer (some ⟨A, 7, none⟩)) rfl (by kernel_rfl) (by kernel_rfl) (by kernel_rfl) (fun _ _ _ h => h) (Or.inl ⟨by rfl, fun W hSw => by (try dsimp only at hSw); go_simp⟩) k0 ?_
  try simp only [Act.put, List.setIfInBounds_toArray, List.set_cons_zero, List.set_cons_succ]
  refine wpAnyH_take (i := 5) (oi := { dst := some 36, op := Go.Op.load 3 (Go.Operand.tmp 35), type := 3, pos := "ref.go:144", after := #[{ on := 4, ground := Go.Ground.data }, { on := 11, ground := Go.Ground.gcOnly Go.Departure.lateStores }], guard := none }) (v := .int .i64 Q.b2) rfl (by kernel_rfl) (by kernel_rfl) (by kernel_rfl) (fun _ _ _ h => h) (Or.inl ⟨by rfl, fun W hSw => by obtain ⟨c0, c1, c2, c3, c4, c5, c6, c7, c8, c9, c10, c11⟩ := bx_cells hSw; clear hSw; go_simp⟩) k0 ?_
  try simp only [Act.put, List.setIfInBounds_toArray, List.set_cons_zero, List.set_cons_succ]
  refine wpAnyH_take (i := 6) (oi := { dst := some 37, op := Go.Op.fieldAddr 28 (Go.Operand.tmp 1) 8, type := 0, pos := "ref.go:144", after := #[{ on := 13, ground := Go.Ground.gcOnly Go.Departure.lateStores }], guard := none }) (v := .pointer (some ⟨A, 8, none⟩)) rfl (by kernel_rfl) (by kernel_rfl) (by kernel_rfl) (fun _ _ _ h => h) (Or.inl ⟨by rfl, fun W hSw => by (try dsimp only at hSw); go_simp⟩) k0 ?_
  try simp only [Act.put, List.setIfInBounds_toArray, List.set_cons_zero, List.set_cons_succ]
  refine wpAnyH_take (i := 7) (oi := { dst := some 38, op := Go.Op.load 3 (Go.Operand.tmp 37), type := 3, pos := "ref.go:144", after := #[{ on := 6, ground := Go.Ground.data }, { on := 13, ground := Go.Ground.gcOnly Go.Departure.lateStores }], guard := none }) (v := .int .i64 Q.d2) rfl (by kernel_rfl) (by kernel_rfl) (by kernel_rfl) (fun _ _ _ h => h) (Or.inl ⟨by rfl, fun W hSw => by obtain ⟨c0, c1, c2, c3, c4, c5, c6, c7, c8, c9, c10, c11⟩ := bx_cells hSw; clear hSw; go_simp⟩) k0 ?_
  try simp only [Act.put, List.setIfInBounds_toArray, List.set_cons_zero, List.set_cons_succ]
  refine wpAnyH_take (i := 8) (oi := { dst := some 39, op := Go.Op.fieldAddr 28 (Go.Operand.tmp 3) 2, type := 0, pos := "ref.go:144", after := #[{ on := 0, ground := Go.Ground.phase }, { on := 1, ground := Go.Ground.phase }, { on := 2, ground := Go.Ground.textOnly Go.Departure.lateStores }, { on := 3, ground := Go.Ground.textOnly Go.Departure.lateStores }, { on := 4, ground := Go.Ground.textOnly Go.Departure.lateStores }, { on := 5, ground := Go.Ground.textOnly Go.Departure.lateStores }, { on := 6, ground := Go.Ground.textOnly Go.Departure.lateStores }, { on := 7, ground := Go.Ground.textOnly Go.Departure.lateStores }], guard := none }) (v := .pointer (some ⟨B, 2, none⟩)) rfl (by kernel_rfl) (by kernel_rfl) (by kernel_rfl) (fun _ _ _ h => h) (Or.inl ⟨by rfl, fun W hSw => by (try dsimp only at hSw); go_simp⟩) k0 ?_
  try simp only [Act.put, List.setIfInBounds_toArray, List.set_cons_zero, List.set_cons_succ]
  refine wpAnyH_ready (rs := [9]) (by kernel_rfl) (by simp) ?_
  refine AllReadyH.cons (o := { dst := none, op := Go.Op.store 3 (Go.Operand.tmp 39) (Go.Operand.tmp 32), type := 0, pos := "ref.go:144", after := #[{ on := 8, ground := Go.Ground.data }, { on := 1, ground := Go.Ground.data }, { on := 0, ground := Go.Ground.phase }, { on := 1, ground := Go.Ground.phase }, { on := 2, ground := Go.Ground.textOnly Go.Departure.lateStores }, { on := 3, ground := Go.Ground.textOnly Go.Departure.lateStores }, { on := 4, ground := Go.Ground.textOnly Go.Departure.lateStores }, { on := 5, ground := Go.Ground.textOnly Go.Departure.lateStores }, { on := 6, ground := Go.Ground.textOnly Go.Departure.lateStores }, { on := 7, ground := Go.Ground.textOnly Go.Departure.lateStores }], guard := none }) rfl (fun K hK => ?_) AllReadyH.nil
  go_simp
  refine hK.out _ ((w3.drew.setCell ⟨B, 2, none⟩ (.int .i64 Q.r1))) (k0.far (p := ⟨B, 2, none⟩) HNE.out.1 (.int .i64 Q.r1)) (fun k1 => ?_)
  clear hK K
  try simp only [List.setIfInBounds_toArray, List.set_cons_zero, List.set_cons_succ]
  refine wpAnyH_take (i := 10) (oi := { dst := some 40, op := Go.Op.fieldAddr 28 (Go.Operand.tmp 3) 4, type := 0, pos := "ref.go:144", after := #[{ on := 0, ground := Go.Ground.phase }, { on := 1, ground := Go.Ground.phase }, { on := 2, ground := Go.Ground.phase }, { on := 3, ground := Go.Ground.phase }, { on := 4, ground := Go.Ground.textOnly Go.Departure.lateStores }, { on := 5, ground := Go.Ground.textOnly Go.Departure.lateStores }, { on := 6, ground := Go.Ground.textOnly Go.Departure.lateStores }, { on := 7, ground := Go.Ground.textOnly Go.Departure.lateStores }, { on := 8, ground := Go.Ground.phase }, { on := 9, ground := Go.Ground.phase }], guard := none }) (v := .pointer (some ⟨B, 4, none⟩)) rfl (by kernel_rfl) (by kernel_rfl) (by kernel_rfl) (fun _ _ _ h => h) (Or.inl ⟨by rfl, fun W hSw => by (try dsimp only at hSw); go_simp⟩) k1 ?_
  try simp only [Act.put, List.setIfInBounds_toArray, List.set_cons_zero, List.set_cons_succ]
  refine wpAnyH_ready (rs := [11]) (by kernel_rfl) (by simp) ?_
  refine AllReadyH.cons (o := { dst := none, op := Go.Op.store 3 (Go.Operand.tmp 40) (Go.Operand.tmp 34), type := 0, pos := "ref.go:144", after := #[{ on := 10, ground := Go.Ground.data }, { on := 3, ground := Go.Ground.data }, { on := 9, ground := Go.Ground.chain }, { on := 0, ground := Go.Ground.phase }, { on := 1, ground := Go.Ground.phase }, { on := 2, ground := Go.Ground.phase }, { on := 3, ground := Go.Ground.phase }, { on := 4, ground := Go.Ground.textOnly Go.Departure.lateStores }, { on := 5, ground := Go.Ground.textOnly Go.Departure.lateStores }, { on := 6, ground := Go.Ground.textOnly Go.Departure.lateStores }, { on := 7, ground := Go.Ground.textOnly Go.Departure.lateStores }, { on := 8, ground := Go.Ground.phase }, { on := 9, ground := Go.Ground.phase }], guard := none }) rfl (fun K hK => ?_) AllReadyH.nil
  go_simp
  refine hK.out _ (((w3.drew.setCell ⟨B, 2, none⟩ (.int .i64 Q.r1)).setCell ⟨B, 4, none⟩ (.int .i64 Q.x2))) (k1.far (p := ⟨B, 4, none⟩) HNE.out.1 (.int .i64 Q.x2)) (fun k2 => ?_)
  clear hK K
  try simp only [List.setIfInBounds_toArray, List.set_cons_zero, List.set_cons_succ]
  refine wpAnyH_take (i := 12) (oi := { dst := some 41, op := Go.Op.fieldAddr 28 (Go.Operand.tmp 3) 7, type := 0, pos := "ref.go:144", after := #[{ on := 0, ground := Go.Ground.phase }, { on := 1, ground := Go.Ground.phase }, { on := 2, ground := Go.Ground.phase }, { on := 3, ground := Go.Ground.phase }, { on := 4, ground := Go.Ground.phase }, { on := 5, ground := Go.Ground.phase }, { on := 6, ground := Go.Ground.textOnly Go.Departure.lateStores }, { on := 7, ground := Go.Ground.textOnly Go.Departure.lateStores }, { on := 8, ground := Go.Ground.phase }, { on := 9, ground := Go.Ground.phase }, { on := 10, ground := Go.Ground.phase }, { on := 11, ground := Go.Ground.phase }], guard := none }) (v := .pointer (some ⟨B, 7, none⟩)) rfl (by kernel_rfl) (by kernel_rfl) (by kernel_rfl) (fun _ _ _ h => h) (Or.inl ⟨by rfl, fun W hSw => by (try dsimp only at hSw); go_simp⟩) k2 ?_
  try simp only [Act.put, List.setIfInBounds_toArray, List.set_cons_zero, List.set_cons_succ]
  refine wpAnyH_ready (rs := [13]) (by kernel_rfl) (by simp) ?_
  refine AllReadyH.cons (o := { dst := none, op := Go.Op.store 3 (Go.Operand.tmp 41) (Go.Operand.tmp 36), type := 0, pos := "ref.go:144", after := #[{ on := 12, ground := Go.Ground.data }, { on := 5, ground := Go.Ground.data }, { on := 11, ground := Go.Ground.chain }, { on := 0, ground := Go.Ground.phase }, { on := 1, ground := Go.Ground.phase }, { on := 2, ground := Go.Ground.phase }, { on := 3, ground := Go.Ground.phase }, { on := 4, ground := Go.Ground.phase }, { on := 5, ground := Go.Ground.phase }, { on := 6, ground := Go.Ground.textOnly Go.Departure.lateStores }, { on := 7, ground := Go.Ground.textOnly Go.Departure.lateStores }, { on := 8, ground := Go.Ground.phase }, { on := 9, ground := Go.Ground.phase }, { on := 10, ground := Go.Ground.phase }, { on := 11, ground := Go.Ground.phase }], guard := none }) rfl (fun K hK => ?_) AllReadyH.nil
  go_simp
  refine hK.out _ ((((w3.drew.setCell ⟨B, 2, none⟩ (.int .i64 Q.r1)).setCell ⟨B, 4, none⟩ (.int .i64 Q.x2)).setCell ⟨B, 7, none⟩ (.int .i64 Q.b2))) (k2.far (p := ⟨B, 7, none⟩) HNE.out.1 (.int .i64 Q.b2)) (fun k3 => ?_)
  clear hK K
  try simp only [List.setIfInBounds_toArray, List.set_cons_zero, List.set_cons_succ]
  refine wpAnyH_take (i := 14) (oi := { dst := some 42, op := Go.Op.fieldAddr 28 (Go.Operand.tmp 3) 8, type := 0, pos := "ref.go:144", after := #[{ on := 0, ground := Go.Ground.phase }, { on := 1, ground := Go.Ground.phase }, { on := 2, ground := Go.Ground.phase }, { on := 3, ground := Go.Ground.phase }, { on := 4, ground := Go.Ground.phase }, { on := 5, ground := Go.Ground.phase }, { on := 6, ground := Go.Ground.phase }, { on := 7, ground := Go.Ground.phase }, { on := 8, ground := Go.Ground.phase }, { on := 9, ground := Go.Ground.phase }, { on := 10, ground := Go.Ground.phase }, { on := 11, ground := Go.Ground.phase }, { on := 12, ground := Go.Ground.phase }, { on := 13, ground := Go.Ground.phase }], guard := none }) (v := .pointer (some ⟨B, 8, none⟩)) rfl (by kernel_rfl) (by kernel_rfl) (by kernel_rfl) (fun _ _ _ h => h) (Or.inl ⟨by rfl, fun W hSw => by (try dsimp only at hSw); go_simp⟩) k3 ?_
  try simp only [Act.put, List.setIfInBounds_toArray, List.set_cons_zero, List.set_cons_succ]
  refine wpAnyH_ready (rs := [15]) (by kernel_rfl) (by simp) ?_
  refine AllReadyH.cons (o := { dst := none, op := Go.Op.store 3 (Go.Operand.tmp 42) (Go.Operand.tmp 38), type := 0, pos := "ref.go:144", after := #[{ on := 14, ground := Go.Ground.data }, { on := 7, ground := Go.Ground.data }, { on := 13, ground := Go.Ground.chain }, { on := 0, ground := Go.Ground.phase }, { on := 1, ground := Go.Ground.phase }, { on := 2, ground := Go.Ground.phase }, { on := 3, ground := Go.Ground.phase }, { on := 4, ground := Go.Ground.phase }, { on := 5, ground := Go.Ground.phase }, { on := 6, ground := Go.Ground.phase }, { on := 7, ground := Go.Ground.phase }, { on := 8, ground := Go.Ground.phase }, { on := 9, ground := Go.Ground.phase }, { on := 10, ground := Go.Ground.phase }, { on := 11, ground := Go.Ground.phase }, { on := 12, ground := Go.Ground.phase }, { on := 13, ground := Go.Ground.phase }], guard := none }) rfl (fun K hK => ?_) AllReadyH.nil
  go_simp
  refine hK.out _ (((((w3.drew.setCell ⟨B, 2, none⟩ (.int .i64 Q.r1)).setCell ⟨B, 4, none⟩ (.int .i64 Q.x2)).setCell ⟨B, 7, none⟩ (.int .i64 Q.b2)).setCell ⟨B, 8, none⟩ (.int .i64 Q.d2))) (k3.far (p := ⟨B, 8, none⟩) HNE.out.1 (.int .i64 Q.d2)) (fun k4 => ?_)
  clear hK K
  try simp only [List.setIfInBounds_toArray, List.set_cons_zero, List.set_cons_succ]
  refine wpAnyH_done (by kernel_rfl) ?_ _
  refine onlyN_normal ?_
  clear b0 b1 b2 b3 b4 b5 b6 b7 b8 b9 b10 b11 f0 f1 f2 f3 f4 f5 f6 f7 f8 f9 f10 f11
  obtain ⟨w4, hw4⟩ : ∃ w4, w4 = ((((w3.drew.setCell ⟨B, 2, none⟩ (.int .i64 Q.r1)).setCell ⟨B, 4, none⟩ (.int .i64 Q.x2)).setCell ⟨B, 7, none⟩ (.int .i64 Q.b2)).setCell ⟨B, 8, none⟩ (.int .i64 Q.d2)) := ⟨_, rfl⟩
  rw [← hw4]
  have B4 : Bx w4 B 28 (ownQ 2 Q).cs := by rw [hw4]; exact (bx_put (bx_put (bx_put (bx_put (HB.out.below (Below.refl _ _).drew) 2 (by decide) Q.r1) 4 (by decide) Q.x2) 7 (by decide) Q.b2) 8 (by decide) Q.d2)
  have HVV := HV.out
  clear HV
  generalize ownQ 2 Q = P at B4 HVV
  have HV := Lib.hid HVV
  have R4 : Bx w4 R 28 Ins.zero.cs := by rw [hw4]; exact (((((HR.out.below (Below.refl _ _).drew).far (p := ⟨B, 2, none⟩) HNE.out.2.1 (.int .i64 Q.r1)).far (p := ⟨B, 4, none⟩) HNE.out.2.1 (.int .i64 Q.x2)).far (p := ⟨B, 7, none⟩) HNE.out.2.1 (.int .i64 Q.b2)).far (p := ⟨B, 8, none⟩) HNE.out.2.1 (.int .i64 Q.d2))
  have W4 : Below w.heap.size w w4 := by rw [hw4]; exact ((((HW.out.drew.setCell (p := ⟨B, 2, none⟩) HNE.out.2.2.2 (.int .i64 Q.r1)).setCell (p := ⟨B, 4, none⟩) HNE.out.2.2.2 (.int .i64 Q.x2)).setCell (p := ⟨B, 7, none⟩) HNE.out.2.2.2 (.int .i64 Q.b2)).setCell (p := ⟨B, 8, none⟩) HNE.out.2.2.2 (.int .i64 Q.d2))
  obtain ⟨b0, b1, b2, b3, b4, b5, b6, b7, b8, b9, b10, b11⟩ := bx_cells B4
  obtain ⟨r0, r1, r2, r3, r4, r5, r6, r7, r8, r9, r10, r11, f0, f1, f2, f3, f4, f5, f6, f7, f8, f9, f10, f11⟩ := bx_zero R4
  have HR4 := Lib.hid R4
  have HW4 := Lib.hid W4
  clear B4 R4 W4 hw4 HVV k0 k1 k2 k3 k4
  go_wp2
  exact bodyPost_ret (results_c rfl rfl (load_ins (put12_at HR4.out P))) rfl ⟨by rw [← HV.out], put12_below HW4.out HNE.out.2.2.1 P⟩
set_option maxRecDepth 100000 in
set_option maxHeartbeats 400000 in
theorem own_3 (Q : Ins) (hf : Q.fo = 3) (w : World) : Calls Tryd.prog 38 #[Q.val] w (New w (ownQ 3 Q).val) := by
  obtain ⟨w2, w3, A, R, B, e2, e3, eA, eR, eB, A2, R2, W2, A0, R0, B0, HB3, HNE⟩ := own_start Q w
  unfold Ins.cs Ins.zero at e2
  unfold Ins.cs Ins.hd at e3
  dsimp only at e2 e3
  rw [hf] at e2 e3
  have HE3 := Lib.hid e3
  have HA := Lib.hid A0
  have HB := Lib.hid B0
  have HR := Lib.hid R0
  have HW := Lib.hid HB3
  have HF := Lib.hid hf
  obtain ⟨a0, a1, a2, a3, a4, a5, a6, a7, a8, a9, a10, a11⟩ := bx_cells A0
  have x0 := (bx_cells A2).1
  have x1 := (bx_cells A2).2.1
  rw [hf] at x1
  obtain ⟨b0, b1, b2, b3, b4, b5, b6, b7, b8, b9, b10, b11, f0, f1, f2, f3, f4, f5, f6, f7, f8, f9, f10, f11⟩ := bx_full B0
  rw [hf] at a1
  have y1 := a1
  rw [← e3] at y1
  generalize hV : (ownQ 3 Q).val = V
  have HV := Lib.hid hV
  unfold Ins.val
  rw [hf]
  clear A0 R0 B0 HB3 hf hV A2 R2 W2 e3
  go_enter Tryd.func38, Tryd.ntmps38
  go_wp2_with fail
  rw [HE3.out]
  clear a0 a1 a2 a3 a4 a5 a6 a7 a8 a9 a10 a11 x0 x1 y1
  refine only_wp ?_
  refine wp_region_held_drew (S := fun Y => Bx Y A 28 Q.cs) (by kernel_rfl) (HA.out.below (Below.refl _ _).drew) (fun k0 => ?_)
  show wpAnyH _ _ _ _ _ 16 #[false, false, false, false, false, false, false, false, false, false, false, false, false, false, false, false] _ _
  refine wpAnyH_take (i := 0) (oi := { dst := some 45, op := Go.Op.fieldAddr 28 (Go.Operand.tmp 1) 2, type := 0, pos := "ref.go:146", after := #[], guard := none }) (v := .pointer (some ⟨A, 2, none⟩)) rfl (by kernel_rfl) (by kernel_rfl) (by kernel_rfl) (fun _ _ _ h => h) (Or.inl ⟨by rfl, fun W hSw => by (try dsimp only at hSw); go_simp⟩) k0 ?_
  try simp only [Act.put, List.setIfInBounds_toArray, List.set_cons_zero, List.set_cons_succ]
  refine wpAnyH_take (i := 1) (oi := { dst := some 46, op := Go.Op.load 3 (Go.Operand.tmp 45), type := 3, pos := "ref.go:146", after := #[{ on := 0, ground := Go.Ground.data }], guard := none }) (v := .int .i64 Q.r1) rfl (by kernel_rfl) (by kernel_rfl) (by kernel_rfl) (fun _ _ _ h => h) (Or.inl ⟨by rfl, fun W hSw => by obtain ⟨c0, c1, c2, c3, c4, c5, c6, c7, c8, c9, c10, c11⟩ := bx_cells hSw; clear hSw; go_simp⟩) k0 ?_
  try simp only [Act.put, List.setIfInBounds_toArray, List.set_cons_zero, List.set_cons_succ]
  refine wpAnyH_take (i := 2) (oi := { dst := some 47, op := Go.Op.fieldAddr 28 (Go.Operand.tmp 1) 3, type := 0, pos := "ref.go:146", after := #[{ on := 9, ground := Go.Ground.gcOnly Go.Departure.lateStores }], guard := none }) (v := .pointer (some ⟨A, 3, none⟩)) rfl (by kernel_rfl) (by kernel_rfl) (by kernel_rfl) (fun _ _ _ h => h) (Or.inl ⟨by rfl, fun W hSw => by (try dsimp only at hSw); go_simp⟩) k0 ?_
  try simp only [Act.put, List.setIfInBounds_toArray, List.set_cons_zero, List.set_cons_succ]
  refine wpAnyH_take (i := 3) (oi := { dst := some 48, op := Go.Op.load 3 (Go.Operand.tmp 47), type := 3, pos := "ref.go:146", after := #[{ on := 2, ground := Go.Ground.data }, { on := 9, ground := Go.Ground.gcOnly Go.Departure.lateStores }], guard := none }) (v := .int .i64 Q.r2) rfl (by kernel_rfl) (by kernel_rfl) (by kernel_rfl) (fun _ _ _ h => h) (Or.inl ⟨by rfl, fun W hSw => by obtain ⟨c0, c1, c2, c3, c4, c5, c6, c7, c8, c9, c10, c11⟩ := bx_cells hSw; clear hSw; go_simp⟩) k0 ?_
  try simp only [Act.put, List.setIfInBounds_toArray, List.set_cons_zero, List.set_cons_succ]
  refine wpAnyH_take (i := 4) (oi := { dst := some 49, op := Go.Op.fieldAddr 28 (Go.Operand.tmp 1) 7, type := 0, pos := "ref.go:146", after := #[{ on := 11, ground := Go.Ground.gcOnly Go.Departure.lateStores }], guard := none }) (v := .pointer (some ⟨A, 7, none⟩)) rfl (by kernel_rfl) (by kernel_rfl) (by kernel_rfl) (fun _ _ _ h => h) (Or.inl ⟨by rfl, fun W hSw => by (try dsimp only at hSw); go_simp⟩) k0 ?_
  try simp only [Act.put, List.setIfInBounds_toArray, List.set_cons_zero, List.set_cons_succ]
  refine wpAnyH_take (i := 5) (oi := { dst := some 50, op := Go.Op.load 3 (Go.Operand.tmp 49), type := 3, pos := "ref.go:146", after := #[{ on := 4, ground := Go.Ground.data }, { on := 11, ground := Go.Ground.gcOnly Go.Departure.lateStores }], guard := none }) (v := .int .i64 Q.b2) rfl (by kernel_rfl) (by kernel_rfl) (by kernel_rfl) (fun _ _ _ h => h) (Or.inl ⟨by rfl, fun W hSw => by obtain ⟨c0, c1, c2, c3, c4, c5, c6, c7, c8, c9, c10, c11⟩ := bx_cells hSw; clear hSw; go_simp⟩) k0 ?_
  try simp only [Act.put, List.setIfInBounds_toArray, List.set_cons_zero, List.set_cons_succ]
  refine wpAnyH_take (i := 6) (oi := { dst := some 51, op := Go.Op.fieldAddr 28 (Go.Operand.tmp 1) 8, type := 0, pos := "ref.go:146", after := #[{ on := 13, ground := Go.Ground.gcOnly Go.Departure.lateStores }], guard := none }) (v := .pointer (some ⟨A, 8, none⟩)) rfl (by kernel_rfl) (by kernel_rfl) (by kernel_rfl) (fun _ _ _ h => h) (Or.inl ⟨by rfl, fun W hSw => by (try dsimp only at hSw); go_simp⟩) k0 ?_
  try simp only [Act.put, List.setIfInBounds_toArray, List.set_cons_zero, List.set_cons_succ]
  refine wpAnyH_take (i := 7) (oi := { dst := some 52, op := Go.Op.load 3 (Go.Operand.tmp 51), type := 3, pos := "ref.go:146", after := #[{ on := 6, ground := Go.Ground.data }, { on := 13, ground := Go.Ground.gcOnly Go.Departure.lateStores }], guard := none }) (v := .int .i64 Q.d2) rfl (by kernel_rfl) (by kernel_rfl) (by kernel_rfl) (fun _ _ _ h => h) (Or.inl ⟨by rfl, fun W hSw => by obtain ⟨c0, c1, c2, c3, c4, c5, c6, c7, c8, c9, c10, c11⟩ := bx_cells hSw; clear hSw; go_simp⟩) k0 ?_
  try simp only [Act.put, List.setIfInBounds_toArray, List.set_cons_zero, List.set_cons_succ]
  refine wpAnyH_take (i := 8) (oi := { dst := some 53, op := Go.Op.fieldAddr 28 (Go.Operand.tmp 3) 2, type := 0, pos := "ref.go:146", after := #[{ on := 0, ground := Go.Ground.phase }, { on := 1, ground := Go.Ground.phase }, { on := 2, ground := Go.Ground.textOnly Go.Departure.lateStores }, { on := 3, ground := Go.Ground.textOnly Go.Departure.lateStores }, { on := 4, ground := Go.Ground.textOnly Go.Departure.lateStores }, { on := 5, ground := Go.Ground.textOnly Go.Departure.lateStores }, { on := 6, ground := Go.Ground.textOnly Go.Departure.lateStores }, { on := 7, ground := Go.Ground.textOnly Go.Departure.lateStores }], guard := none }) (v := .pointer (some ⟨B, 2, none⟩)) rfl (by kernel_rfl) (by kernel_rfl) (by kernel_rfl) (fun _ _ _ h => h) (Or.inl ⟨by rfl, fun W hSw => by (try dsimp only at hSw); go_simp⟩) k0 ?_
  try simp only [Act.put, List.setIfInBounds_toArray, List.set_cons_zero, List.set_cons_succ]
  refine wpAnyH_ready (rs := [9]) (by kernel_rfl) (by simp) ?_
  refine AllReadyH.cons (o := { dst := none, op := Go.Op.store 3 (Go.Operand.tmp 53) (Go.Operand.tmp 46), type := 0, pos := "ref.go:146", after := #[{ on := 8, ground := Go.Ground.data }, { on := 1, ground := Go.Ground.data }, { on := 0, ground := Go.Ground.phase }, { on := 1, ground := Go.Ground.phase }, { on := 2, ground := Go.Ground.textOnly Go.Departure.lateStores }, { on := 3, ground := Go.Ground.textOnly Go.Departure.lateStores }, { on := 4, ground := Go.Ground.textOnly Go.Departure.lateStores }, { on := 5, ground := Go.Ground.textOnly Go.Departure.lateStores }, { on := 6, ground := Go.Ground.textOnly Go.Departure.lateStores }, { on := 7, ground := Go.Ground.textOnly Go.Departure.lateStores }], guard := none }) rfl (fun K hK => ?_) AllReadyH.nil
  go_simp
  refine hK.out _ ((w3.drew.setCell ⟨B, 2, none⟩ (.int .i64 Q.r1))) (k0.far (p := ⟨B, 2, none⟩) HNE.out.1 (.int .i64 Q.r1)) (fun k1 => ?_)
  clear hK K
  try simp only [List.setIfInBounds_toArray, List.set_cons_zero, List.set_cons_succ]
  refine wpAnyH_take (i := 10) (oi := { dst := some 54, op := Go.Op.fieldAddr 28 (Go.Operand.tmp 3) 3, type := 0, pos := "ref.go:146", after := #[{ on := 0, ground := Go.Ground.phase }, { on := 1, ground := Go.Ground.phase }, { on := 2, ground := Go.Ground.phase }, { on := 3, ground := Go.Ground.phase }, { on := 4, ground := Go.Ground.textOnly Go.Departure.lateStores }, { on := 5, ground := Go.Ground.textOnly Go.Departure.lateStores }, { on := 6, ground := Go.Ground.textOnly Go.Departure.lateStores }, { on := 7, ground := Go.Ground.textOnly Go.Departure.lateStores }, { on := 8, ground := Go.Ground.phase }, { on := 9, ground := Go.Ground.phase }], guard := none }) (v := .pointer (some ⟨B, 3, none⟩)) rfl (by kernel_rfl) (by kernel_rfl) (by kernel_rfl) (fun _ _ _ h => h) (Or.inl ⟨by rfl, fun W hSw => by (try dsimp only at hSw); go_simp⟩) k1 ?_
  try simp only [Act.put, List.setIfInBounds_toArray, List.set_cons_zero, List.set_cons_succ]
  refine wpAnyH_ready (rs := [11]) (by kernel_rfl) (by simp) ?_
  refine AllReadyH.cons (o := { dst := none, op := Go.Op.store 3 (Go.Operand.tmp 54) (Go.Operand.tmp 48), type := 0, pos := "ref.go:146", after := #[{ on := 10, ground := Go.Ground.data }, { on := 3, ground := Go.Ground.data }, { on := 9, ground := Go.Ground.chain }, { on := 0, ground := Go.Ground.phase }, { on := 1, ground := Go.Ground.phase }, { on := 2, ground := Go.Ground.phase }, { on := 3, ground := Go.Ground.phase }, { on := 4, ground := Go.Ground.textOnly Go.Departure.lateStores }, { on := 5, ground := Go.Ground.textOnly Go.Departure.lateStores }, { on := 6, ground := Go.Ground.textOnly Go.Departure.lateStores }, { on := 7, ground := Go.Ground.textOnly Go.Departure.lateStores }, { on := 8, ground := Go.Ground.phase }, { on := 9, ground := Go.Ground.phase }], guard := none }) rfl (fun K hK => ?_) AllReadyH.nil
  go_simp
  refine hK.out _ (((w3.drew.setCell ⟨B, 2, none⟩ (.int .i64 Q.r1)).setCell ⟨B, 3, none⟩ (.int .i64 Q.r2))) (k1.far (p := ⟨B, 3, none⟩) HNE.out.1 (.int .i64 Q.r2)) (fun k2 => ?_)
  clear hK K
  try simp only [List.setIfInBounds_toArray, List.set_cons_zero, List.set_cons_succ]
  refine wpAnyH_take (i := 12) (oi := { dst := some 55, op := Go.Op.fieldAddr 28 (Go.Operand.tmp 3) 7, type := 0, pos := "ref.go:146", after := #[{ on := 0, ground := Go.Ground.phase }, { on := 1, ground := Go.Ground.phase }, { on := 2, ground := Go.Ground.phase }, { on := 3, ground := Go.Ground.phase }, { on := 4, ground := Go.Ground.phase }, { on := 5, ground := Go.Ground.phase }, { on := 6, ground := Go.Ground.textOnly Go.Departure.lateStores }, { on := 7, ground := Go.Ground.textOnly Go.Departure.lateStores }, { on := 8, ground := Go.Ground.phase }, { on := 9, ground := Go.Ground.phase }, { on := 10, ground := Go.Ground.phase }, { on := 11, ground := Go.Ground.phase }], guard := none }) (v := .pointer (some ⟨B, 7, none⟩)) rfl (by kernel_rfl) (by kernel_rfl) (by kernel_rfl) (fun _ _ _ h => h) (Or.inl ⟨by rfl, fun W hSw => by (try dsimp only at hSw); go_simp⟩) k2 ?_
  try simp only [Act.put, List.setIfInBounds_toArray, List.set_cons_zero, List.set_cons_succ]
  refine wpAnyH_ready (rs := [13]) (by kernel_rfl) (by simp) ?_
  refine AllReadyH.cons (o := { dst := none, op := Go.Op.store 3 (Go.Operand.tmp 55) (Go.Operand.tmp 50), type := 0, pos := "ref.go:146", after := #[{ on := 12, ground := Go.Ground.data }, { on := 5, ground := Go.Ground.data }, { on := 11, ground := Go.Ground.chain }, { on := 0, ground := Go.Ground.phase }, { on := 1, ground := Go.Ground.phase }, { on := 2, ground := Go.Ground.phase }, { on := 3, ground := Go.Ground.phase }, { on := 4, ground := Go.Ground.phase }, { on := 5, ground := Go.Ground.phase }, { on := 6, ground := Go.Ground.textOnly Go.Departure.lateStores }, { on := 7, ground := Go.Ground.textOnly Go.Departure.lateStores }, { on := 8, ground := Go.Ground.phase }, { on := 9, ground := Go.Ground.phase }, { on := 10, ground := Go.Ground.phase }, { on := 11, ground := Go.Ground.phase }], guard := none }) rfl (fun K hK => ?_) AllReadyH.nil
  go_simp
  refine hK.out _ ((((w3.drew.setCell ⟨B, 2, none⟩ (.int .i64 Q.r1)).setCell ⟨B, 3, none⟩ (.int .i64 Q.r2)).setCell ⟨B, 7, none⟩ (.int .i64 Q.b2))) (k2.far (p := ⟨B, 7, none⟩) HNE.out.1 (.int .i64 Q.b2)) (fun k3 => ?_)
  clear hK K
  try simp only [List.setIfInBounds_toArray, List.set_cons_zero, List.set_cons_succ]
  refine wpAnyH_take (i := 14) (oi := { dst := some 56, op := Go.Op.fieldAddr 28 (Go.Operand.tmp 3) 8, type := 0, pos := "ref.go:146", after := #[{ on := 0, ground := Go.Ground.phase }, { on := 1, ground := Go.Ground.phase }, { on := 2, ground := Go.Ground.phase }, { on := 3, ground := Go.Ground.phase }, { on := 4, ground := Go.Ground.phase }, { on := 5, ground := Go.Ground.phase }, { on := 6, ground := Go.Ground.phase }, { on := 7, ground := Go.Ground.phase }, { on := 8, ground := Go.Ground.phase }, { on := 9, ground := Go.Ground.phase }, { on := 10, ground := Go.Ground.phase }, { on := 11, ground := Go.Ground.phase }, { on := 12, ground := Go.Ground.phase }, { on := 13, ground := Go.Ground.phase }], guard := none }) (v := .pointer (some ⟨B, 8, none⟩)) rfl (by kernel_rfl) (by kernel_rfl) (by kernel_rfl) (fun _ _ _ h => h) (Or.inl ⟨by rfl, fun W hSw => by (try dsimp only at hSw); go_simp⟩) k3 ?_
  try simp only [Act.put, List.setIfInBounds_toArray, List.set_cons_zero, List.set_cons_succ]
  refine wpAnyH_ready (rs := [15]) (by kernel_rfl) (by simp) ?_
  refine AllReadyH.cons (o := { dst := none, op := Go.Op.store 3 (Go.Operand.tmp 56) (Go.Operand.tmp 52), type := 0, pos := "ref.go:146", after := #[{ on := 14, ground := Go.Ground.data }, { on := 7, ground := Go.Ground.data }, { on := 13, ground := Go.Ground.chain }, { on := 0, ground := Go.Ground.phase }, { on := 1, ground := Go.Ground.phase }, { on := 2, ground := Go.Ground.phase }, { on := 3, ground := Go.Ground.phase }, { on := 4, ground := Go.Ground.phase }, { on := 5, ground := Go.Ground.phase }, { on := 6, ground := Go.Ground.phase }, { on := 7, ground := Go.Ground.phase }, { on := 8, ground := Go.Ground.phase }, { on := 9, ground := Go.Ground.phase }, { on := 10, ground := Go.Ground.phase }, { on := 11, ground := Go.Ground.phase }, { on := 12, ground := Go.Ground.phase }, { on := 13, ground := Go.Ground.phase }], guard := none }) rfl (fun K hK => ?_) AllReadyH.nil
  go_simp
  refine hK.out _ (((((w3.drew.setCell ⟨B, 2, none⟩ (.int .i64 Q.r1)).setCell ⟨B, 3, none⟩ (.int .i64 Q.r2)).setCell ⟨B, 7, none⟩ (.int .i64 Q.b2)).setCell ⟨B, 8, none⟩ (.int .i64 Q.d2))) (k3.far (p := ⟨B, 8, none⟩) HNE.out.1 (.int .i64 Q.d2)) (fun k4 => ?_)
  clear hK K
  try simp only [List.setIfInBounds_toArray, List.set_cons_zero, List.set_cons_succ]
  refine wpAnyH_done (by kernel_rfl) ?_ _
  refine onlyN_normal ?_
  clear b0 b1 b2 b3 b4 b5 b6 b7 b8 b9 b10 b11 f0 f1 f2 f3 f4 f5 f6 f7 f8 f9 f10 f11
  obtain ⟨w4, hw4⟩ : ∃ w4, w4 = ((((w3.drew.setCell ⟨B, 2, none⟩ (.int .i64 Q.r1)).setCell ⟨B, 3, none⟩ (.int .i64 Q.r2)).setCell ⟨B, 7, none⟩ (.int .i64 Q.b2)).setCell ⟨B, 8, none⟩ (.int .i64 Q.d2)) := ⟨_, rfl⟩
  rw [← hw4]
  have B4 : Bx w4 B 28 (ownQ 3 Q).cs := by rw [hw4]; exact (bx_put (bx_put (bx_put (bx_put (HB.out.below (Below.refl _ _).drew) 2 (by decide) Q.r1) 3 (by decide) Q.r2) 7 (by decide) Q.b2) 8 (by decide) Q.d2)
  have HVV := HV.out
  clear HV
  generalize ownQ 3 Q = P at B4 HVV
  have HV := Lib.hid HVV
  have R4 : Bx w4 R 28 Ins.zero.cs := by rw [hw4]; exact (((((HR.out.below (Below.refl _ _).drew).far (p := ⟨B, 2, none⟩) HNE.out.2.1 (.int .i64 Q.r1)).far (p := ⟨B, 3, none⟩) HNE.out.2.1 (.int .i64 Q.r2)).far (p := ⟨B, 7, none⟩) HNE.out.2.1 (.int .i64 Q.b2)).far (p := ⟨B, 8, none⟩) HNE.out.2.1 (.int .i64 Q.d2))
  have W4 : Below w.heap.size w w4 := by rw [hw4]; exact ((((HW.out.drew.setCell (p := ⟨B, 2, none⟩) HNE.out.2.2.2 (.int .i64 Q.r1)).setCell (p := ⟨B, 3, none⟩) HNE.out.2.2.2 (.int .i64 Q.r2)).setCell (p := ⟨B, 7, none⟩) HNE.out.2.2.2 (.int .i64 Q.b2)).setCell (p := ⟨B, 8, none⟩) HNE.out.2.2.2 (.int .i64 Q.d2))
  obtain ⟨b0, b1, b2, b3, b4, b5, b6, b7, b8, b9, b10, b11⟩ := bx_cells B4
  obtain ⟨r0, r1, r2, r3, r4, r5, r6, r7, r8, r9, r10, r11, f0, f1, f2, f3, f4, f5, f6, f7, f8, f9, f10, f11⟩ := bx_zero R4
  have HR4 := Lib.hid R4
  have HW4 := Lib.hid W4
  clear B4 R4 W4 hw4 HVV k0 k1 k2 k3 k4
  go_wp2
  exact bodyPost_ret (results_c rfl rfl (load_ins (put12_at HR4.out P))) rfl ⟨by rw [← HV.out], put12_below HW4.out HNE.out.2.2.1 P⟩
set_option maxRecDepth 100000 in
set_option maxHeartbeats 400000 in
theorem own_4 (Q : Ins) (hf : Q.fo = 4) (w : World) : Calls Tryd.prog 38 #[Q.val] w (New w (ownQ 4 Q).val) := by
  obtain ⟨w2, w3, A, R, B, e2, e3, eA, eR, eB, A2, R2, W2, A0, R0, B0, HB3, HNE⟩ := own_start Q w
  unfold Ins.cs Ins.zero at e2
  unfold Ins.cs Ins.hd at e3
  dsimp only at e2 e3
  rw [hf] at e2 e3
  have HE3 := Lib.hid e3
  have HA := Lib.hid A0
  have HB := Lib.hid B0
  have HR := Lib.hid R0
  have HW := Lib.hid HB3
  have HF := Lib.hid hf
  obtain ⟨a0, a1, a2, a3, a4, a5, a6, a7, a8, a9, a10, a11⟩ := bx_cells A0
  have x0 := (bx_cells A2).1
  have x1 := (bx_cells A2).2.1
  rw [hf] at x1
  obtain ⟨b0, b1, b2, b3, b4, b5, b6, b7, b8, b9, b10, b11, f0, f1, f2, f3, f4, f5, f6, f7, f8, f9, f10, f11⟩ := bx_full B0
  rw [hf] at a1
  have y1 := a1
  rw [← e3] at y1
  generalize hV : (ownQ 4 Q).val = V
  have HV := Lib.hid hV
  unfold Ins.val
  rw [hf]
  clear A0 R0 B0 HB3 hf hV A2 R2 W2 e3
  go_enter Tryd.func38, Tryd.ntmps38
  go_wp2_with fail
  rw [HE3.out]
  clear a0 a1 a2 a3 a4 a5 a6 a7 a8 a9 a10 a11 x0 x1 y1
  refine only_wp ?_
  refine wp_region_held_drew (S := fun Y => Bx Y A 28 Q.cs) (by kernel_rfl) (HA.out.below (Below.refl _ _).drew) (fun k0 => ?_)
  show wpAnyH _ _ _ _ _ 12 #[false, false, false, false, false, false, false, false, false, false, false, false] _ _
  refine wpAnyH_take (i := 0) (oi := { dst := some 59, op := Go.Op.fieldAddr 28 (Go.Operand.tmp 1) 11, type := 0, pos := "ref.go:148", after := #[], guard := none }) (v := .pointer (some ⟨A, 11, none⟩)) rfl (by kernel_rfl) (by kernel_rfl) (by kernel_rfl) (fun _ _ _ h => h) (Or.inl ⟨by rfl, fun W hSw => by (try dsimp only at hSw); go_simp⟩) k0 ?_
  try simp only [Act.put, List.setIfInBounds_toArray, List.set_cons_zero, List.set_cons_succ]
  refine wpAnyH_take (i := 1) (oi := { dst := some 60, op := Go.Op.load 3 (Go.Operand.tmp 59), type := 3, pos := "ref.go:148", after := #[{ on := 0, ground := Go.Ground.data }], guard := none }) (v := .int .i64 Q.i2) rfl (by kernel_rfl) (by kernel_rfl) (by kernel_rfl) (fun _ _ _ h => h) (Or.inl ⟨by rfl, fun W hSw => by obtain ⟨c0, c1, c2, c3, c4, c5, c6, c7, c8, c9, c10, c11⟩ := bx_cells hSw; clear hSw; go_simp⟩) k0 ?_
  try simp only [Act.put, List.setIfInBounds_toArray, List.set_cons_zero, List.set_cons_succ]
  refine wpAnyH_take (i := 2) (oi := { dst := some 61, op := Go.Op.fieldAddr 28 (Go.Operand.tmp 1) 5, type := 0, pos := "ref.go:148", after := #[{ on := 7, ground := Go.Ground.gcOnly Go.Departure.lateStores }], guard := none }) (v := .pointer (some ⟨A, 5, none⟩)) rfl (by kernel_rfl) (by kernel_rfl) (by kernel_rfl) (fun _ _ _ h => h) (Or.inl ⟨by rfl, fun W hSw => by (try dsimp only at hSw); go_simp⟩) k0 ?_
  try simp only [Act.put, List.setIfInBounds_toArray, List.set_cons_zero, List.set_cons_succ]
  refine wpAnyH_take (i := 3) (oi := { dst := some 62, op := Go.Op.load 3 (Go.Operand.tmp 61), type := 3, pos := "ref.go:148", after := #[{ on := 2, ground := Go.Ground.data }, { on := 7, ground := Go.Ground.gcOnly Go.Departure.lateStores }], guard := none }) (v := .int .i64 Q.b1) rfl (by kernel_rfl) (by kernel_rfl) (by kernel_rfl) (fun _ _ _ h => h) (Or.inl ⟨by rfl, fun W hSw => by obtain ⟨c0, c1, c2, c3, c4, c5, c6, c7, c8, c9, c10, c11⟩ := bx_cells hSw; clear hSw; go_simp⟩) k0 ?_
  try simp only [Act.put, List.setIfInBounds_toArray, List.set_cons_zero, List.set_cons_succ]
  refine wpAnyH_take (i := 4) (oi := { dst := some 63, op := Go.Op.fieldAddr 28 (Go.Operand.tmp 1) 6, type := 0, pos := "ref.go:148", after := #[{ on := 9, ground := Go.Ground.gcOnly Go.Departure.lateStores }], guard := none }) (v := .pointer (some ⟨A, 6, none⟩)) rfl (by kernel_rfl) (by kernel_rfl) (by kernel_rfl) (fun _ _ _ h => h) (Or.inl ⟨by rfl, fun W hSw => by (try dsimp only at hSw); go_simp⟩) k0 ?_
  try simp only [Act.put, List.setIfInBounds_toArray, List.set_cons_zero, List.set_cons_succ]
  refine wpAnyH_take (i := 5) (oi := { dst := some 64, op := Go.Op.load 3 (Go.Operand.tmp 63), type := 3, pos := "ref.go:148", after := #[{ on := 4, ground := Go.Ground.data }, { on := 9, ground := Go.Ground.gcOnly Go.Departure.lateStores }], guard := none }) (v := .int .i64 Q.d1) rfl (by kernel_rfl) (by kernel_rfl) (by kernel_rfl) (fun _ _ _ h => h) (Or.inl ⟨by rfl, fun W hSw => by obtain ⟨c0, c1, c2, c3, c4, c5, c6, c7, c8, c9, c10, c11⟩ := bx_cells hSw; clear hSw; go_simp⟩) k0 ?_
  try simp only [Act.put, List.setIfInBounds_toArray, List.set_cons_zero, List.set_cons_succ]
  refine wpAnyH_take (i := 6) (oi := { dst := some 65, op := Go.Op.fieldAddr 28 (Go.Operand.tmp 3) 11, type := 0, pos := "ref.go:148", after := #[{ on := 0, ground := Go.Ground.phase }, { on := 1, ground := Go.Ground.phase }, { on := 2, ground := Go.Ground.textOnly Go.Departure.lateStores }, { on := 3, ground := Go.Ground.textOnly Go.Departure.lateStores }, { on := 4, ground := Go.Ground.textOnly Go.Departure.lateStores }, { on := 5, ground := Go.Ground.textOnly Go.Departure.lateStores }], guard := none }) (v := .pointer (some ⟨B, 11, none⟩)) rfl (by kernel_rfl) (by kernel_rfl) (by kernel_rfl) (fun _ _ _ h => h) (Or.inl ⟨by rfl, fun W hSw => by (try dsimp only at hSw); go_simp⟩) k0 ?_
  try simp only [Act.put, List.setIfInBounds_toArray, List.set_cons_zero, List.set_cons_succ]
  refine wpAnyH_ready (rs := [7]) (by kernel_rfl) (by simp) ?_
  refine AllReadyH.cons (o := { dst := none, op := Go.Op.store 3 (Go.Operand.tmp 65) (Go.Operand.tmp 60), type := 0, pos := "ref.go:148", after := #[{ on := 6, ground := Go.Ground.data }, { on := 1, ground := Go.Ground.data }, { on := 0, ground := Go.Ground.phase }, { on := 1, ground := Go.Ground.phase }, { on := 2, ground := Go.Ground.textOnly Go.Departure.lateStores }, { on := 3, ground := Go.Ground.textOnly Go.Departure.lateStores }, { on := 4, ground := Go.Ground.textOnly Go.Departure.lateStores }, { on := 5, ground := Go.Ground.textOnly Go.Departure.lateStores }], guard := none }) rfl (fun K hK => ?_) AllReadyH.nil
  go_simp
  refine hK.out _ ((w3.drew.setCell ⟨B, 11, none⟩ (.int .i64 Q.i2))) (k0.far (p := ⟨B, 11, none⟩) HNE.out.1 (.int .i64 Q.i2)) (fun k1 => ?_)
  clear hK K
  try simp only [List.setIfInBounds_toArray, List.set_cons_zero, List.set_cons_succ]
  refine wpAnyH_take (i := 8) (oi := { dst := some 66, op := Go.Op.fieldAddr 28 (Go.Operand.tmp 3) 5, type := 0, pos := "ref.go:148", after := #[{ on := 0, ground := Go.Ground.phase }, { on := 1, ground := Go.Ground.phase }, { on := 2, ground := Go.Ground.phase }, { on := 3, ground := Go.Ground.phase }, { on := 4, ground := Go.Ground.textOnly Go.Departure.lateStores }, { on := 5, ground := Go.Ground.textOnly Go.Departure.lateStores }, { on := 6, ground := Go.Ground.phase }, { on := 7, ground := Go.Ground.phase }], guard := none }) (v := .pointer (some ⟨B, 5, none⟩)) rfl (by kernel_rfl) (by kernel_rfl) (by kernel_rfl) (fun _ _ _ h => h) (Or.inl ⟨by rfl, fun W hSw => by (try dsimp only at hSw); go_simp⟩) k1 ?_
  try simp only [Act.put, List.setIfInBounds_toArray, List.set_cons_zero, List.set_cons_succ]
  refine wpAnyH_ready (rs := [9]) (by kernel_rfl) (by simp) ?_
  refine AllReadyH.cons (o := { dst := none, op := Go.Op.store 3 (Go.Operand.tmp 66) (Go.Operand.tmp 62), type := 0, pos := "ref.go:148", after := #[{ on := 8, ground := Go.Ground.data }, { on := 3, ground := Go.Ground.data }, { on := 7, ground := Go.Ground.chain }, { on := 0, ground := Go.Ground.phase }, { on := 1, ground := Go.Ground.phase }, { on := 2, ground := Go.Ground.phase }, { on := 3, ground := Go.Ground.phase }, { on := 4, ground := Go.Ground.textOnly Go.Departure.lateStores }, { on := 5, ground := Go.Ground.textOnly Go.Departure.lateStores }, { on := 6, ground := Go.Ground.phase }, { on := 7, ground := Go.Ground.phase }], guard := none }) rfl (fun K hK => ?_) AllReadyH.nil
  go_simp
  refine hK.out _ (((w3.drew.setCell ⟨B, 11, none⟩ (.int .i64 Q.i2)).setCell ⟨B, 5, none⟩ (.int .i64 Q.b1))) (k1.far (p := ⟨B, 5, none⟩) HNE.out.1 (.int .i64 Q.b1)) (fun k2 => ?_)
  clear hK K
  try simp only [List.setIfInBounds_toArray, List.set_cons_zero, List.set_cons_succ]
  refine wpAnyH_take (i := 10) (oi := { dst := some 67, op := Go.Op.fieldAddr 28 (Go.Operand.tmp 3) 6, type := 0, pos := "ref.go:148", after := #[{ on := 0, ground := Go.Ground.phase }, { on := 1, ground := Go.Ground.phase }, { on := 2, ground := Go.Ground.phase }, { on := 3, ground := Go.Ground.phase }, { on := 4, ground := Go.Ground.phase }, { on := 5, ground := Go.Ground.phase }, { on := 6, ground := Go.Ground.phase }, { on := 7, ground := Go.Ground.phase }, { on := 8, ground := Go.Ground.phase }, { on := 9, ground := Go.Ground.phase }], guard := none }) (v := .pointer (some ⟨B, 6, none⟩)) rfl (by kernel_rfl) (by kernel_rfl) (by kernel_rfl) (fun _ _ _ h => h) (Or.inl ⟨by rfl, fun W hSw => by (try dsimp only at hSw); go_simp⟩) k2 ?_
  try simp only [Act.put, List.setIfInBounds_toArray, List.set_cons_zero, List.set_cons_succ]
  refine wpAnyH_ready (rs := [11]) (by kernel_rfl) (by simp) ?_
  refine AllReadyH.cons (o := { dst := none, op := Go.Op.store 3 (Go.Operand.tmp 67) (Go.Operand.tmp 64), type := 0, pos := "ref.go:148", after := #[{ on := 10, ground := Go.Ground.data }, { on := 5, ground := Go.Ground.data }, { on := 9, ground := Go.Ground.chain }, { on := 0, ground := Go.Ground.phase }, { on := 1, ground := Go.Ground.phase }, { on := 2, ground := Go.Ground.phase }, { on := 3, ground := Go.Ground.phase }, { on := 4, ground := Go.Ground.phase }, { on := 5, ground := Go.Ground.phase }, { on := 6, ground := Go.Ground.phase }, { on := 7, ground := Go.Ground.phase }, { on := 8, ground := Go.Ground.phase }, { on := 9, ground := Go.Ground.phase }], guard := none }) rfl (fun K hK => ?_) AllReadyH.nil
  go_simp
  refine hK.out _ ((((w3.drew.setCell ⟨B, 11, none⟩ (.int .i64 Q.i2)).setCell ⟨B, 5, none⟩ (.int .i64 Q.b1)).setCell ⟨B, 6, none⟩ (.int .i64 Q.d1))) (k2.far (p := ⟨B, 6, none⟩) HNE.out.1 (.int .i64 Q.d1)) (fun k3 => ?_)
  clear hK K
  try simp only [List.setIfInBounds_toArray, List.set_cons_zero, List.set_cons_succ]
  refine wpAnyH_done (by kernel_rfl) ?_ _
  refine onlyN_normal ?_
  clear b0 b1 b2 b3 b4 b5 b6 b7 b8 b9 b10 b11 f0 f1 f2 f3 f4 f5 f6 f7 f8 f9 f10 f11
  obtain ⟨w4, hw4⟩ : ∃ w4, w4 = (((w3.drew.setCell ⟨B, 11, none⟩ (.int .i64 Q.i2)).setCell ⟨B, 5, none⟩ (.int .i64 Q.b1)).setCell ⟨B, 6, none⟩ (.int .i64 Q.d1)) := ⟨_, rfl⟩
  rw [← hw4]
  have B4 : Bx w4 B 28 (ownQ 4 Q).cs := by rw [hw4]; exact (bx_put (bx_put (bx_put (HB.out.below (Below.refl _ _).drew) 11 (by decide) Q.i2) 5 (by decide) Q.b1) 6 (by decide) Q.d1)
  have HVV := HV.out
  clear HV
  generalize ownQ 4 Q = P at B4 HVV
  have HV := Lib.hid HVV
  have R4 : Bx w4 R 28 Ins.zero.cs := by rw [hw4]; exact ((((HR.out.below (Below.refl _ _).drew).far (p := ⟨B, 11, none⟩) HNE.out.2.1 (.int .i64 Q.i2)).far (p := ⟨B, 5, none⟩) HNE.out.2.1 (.int .i64 Q.b1)).far (p := ⟨B, 6, none⟩) HNE.out.2.1 (.int .i64 Q.d1))
  have W4 : Below w.heap.size w w4 := by rw [hw4]; exact (((HW.out.drew.setCell (p := ⟨B, 11, none⟩) HNE.out.2.2.2 (.int .i64 Q.i2)).setCell (p := ⟨B, 5, none⟩) HNE.out.2.2.2 (.int .i64 Q.b1)).setCell (p := ⟨B, 6, none⟩) HNE.out.2.2.2 (.int .i64 Q.d1))
  obtain ⟨b0, b1, b2, b3, b4, b5, b6, b7, b8, b9, b10, b11⟩ := bx_cells B4
  obtain ⟨r0, r1, r2, r3, r4, r5, r6, r7, r8, r9, r10, r11, f0, f1, f2, f3, f4, f5, f6, f7, f8, f9, f10, f11⟩ := bx_zero R4
  have HR4 := Lib.hid R4
  have HW4 := Lib.hid W4
  clear B4 R4 W4 hw4 HVV k0 k1 k2 k3
  go_wp2
  exact bodyPost_ret (results_c rfl rfl (load_ins (put12_at HR4.out P))) rfl ⟨by rw [← HV.out], put12_below HW4.out HNE.out.2.2.1 P⟩
set_option maxRecDepth 100000 in
set_option maxHeartbeats 400000 in
theorem own_7 (Q : Ins) (hf : Q.fo = 7) (w : World) : Calls Tryd.prog 38 #[Q.val] w (New w (ownQ 7 Q).val) := by
  obtain ⟨w2, w3, A, R, B, e2, e3, eA, eR, eB, A2, R2, W2, A0, R0, B0, HB3, HNE⟩ := own_start Q w
  unfold Ins.cs Ins.zero at e2
  unfold Ins.cs Ins.hd at e3
  dsimp only at e2 e3
  rw [hf] at e2 e3
  have HE3 := Lib.hid e3
  have HA := Lib.hid A0
  have HB := Lib.hid B0
  have HR := Lib.hid R0
  have HW := Lib.hid HB3
  have HF := Lib.hid hf
  obtain ⟨a0, a1, a2, a3, a4, a5, a6, a7, a8, a9, a10, a11⟩ := bx_cells A0
  have x0 := (bx_cells A2).1
  have x1 := (bx_cells A2).2.1
  rw [hf] at x1
  obtain ⟨b0, b1, b2, b3, b4, b5, b6, b7, b8, b9, b10, b11, f0, f1, f2, f3, f4, f5, f6, f7, f8, f9, f10, f11⟩ := bx_full B0
  rw [hf] at a1
  have y1 := a1
  rw [← e3] at y1
  generalize hV : (ownQ 7 Q).val = V
  have HV := Lib.hid hV
  unfold Ins.val
  rw [hf]
  have R4 : Bx (w2.alloc (.cells #[.int .i64 Q.op, .int .i64 7, .int .i64 0, .int .i64 0, .int .i64 0, .int .i64 0, .int .i64 0, .int .i64 0, .int .i64 0, .int .i64 0, .int .i64 0, .int .i64 Q.i2] 28)) R 28 Ins.zero.cs := R2.below (below_new w2 _)
  have W4 : Below w.heap.size w (w2.alloc (.cells #[.int .i64 Q.op, .int .i64 7, .int .i64 0, .int .i64 0, .int .i64 0, .int .i64 0, .int .i64 0, .int .i64 0, .int .i64 0, .int .i64 0, .int .i64 0, .int .i64 Q.i2] 28)) := bel0 W2 (below_new w2 _)
  obtain ⟨r0, r1, r2, r3, r4, r5, r6, r7, r8, r9, r10, r11, g0, g1, g2, g3, g4, g5, g6, g7, g8, g9, g10, g11⟩ := bx_zero R4
  have HR4 := Lib.hid R4
  have HW4 := Lib.hid W4
  rw [← e3] at a11
  clear a0 a1 a2 a3 a4 a5 a6 a7 a8 a9 a10 b0 b1 b2 b3 b4 b5 b6 b7 b8 b9 b10 b11 f0 f1 f2 f3 f4 f5 f6 f7 f8 f9 f10 f11 R2 W2 R4 W4 A0 R0 B0 HB3 hf hV A2 e3
  go_enter Tryd.func38, Tryd.ntmps38
  go_wp2
  have HVV := HV.out
  rw [show ownQ 7 Q = (⟨Q.op, Q.fo, 0, 0, 0, 0, 0, 0, 0, 0, 0, Q.i2⟩ : Ins) from rfl, HF.out] at HVV
  exact bodyPost_ret (results_c rfl rfl (load_ins (put12_at HR4.out ⟨Q.op, 7, 0, 0, 0, 0, 0, 0, 0, 0, 0, Q.i2⟩))) rfl ⟨by rw [← HVV], put12_below HW4.out HNE.out.2.2.1 ⟨Q.op, 7, 0, 0, 0, 0, 0, 0, 0, 0, 0, Q.i2⟩⟩
set_option maxRecDepth 100000 in
set_option maxHeartbeats 400000 in
theorem own_8 (Q : Ins) (hf : Q.fo = 8) (w : World) : Calls Tryd.prog 38 #[Q.val] w (New w (ownQ 8 Q).val) := by
  obtain ⟨w2, w3, A, R, B, e2, e3, eA, eR, eB, A2, R2, W2, A0, R0, B0, HB3, HNE⟩ := own_start Q w
  unfold Ins.cs Ins.zero at e2
  unfold Ins.cs Ins.hd at e3
  dsimp only at e2 e3
  rw [hf] at e2 e3
  have HE3 := Lib.hid e3
  have HA := Lib.hid A0
  have HB := Lib.hid B0
  have HR := Lib.hid R0
  have HW := Lib.hid HB3
  have HF := Lib.hid hf
  obtain ⟨a0, a1, a2, a3, a4, a5, a6, a7, a8, a9, a10, a11⟩ := bx_cells A0
  have x0 := (bx_cells A2).1
  have x1 := (bx_cells A2).2.1
  rw [hf] at x1
  obtain ⟨b0, b1, b2, b3, b4, b5, b6, b7, b8, b9, b10, b11, f0, f1, f2, f3, f4, f5, f6, f7, f8, f9, f10, f11⟩ := bx_full B0
  rw [hf] at a1
  have y1 := a1
  rw [← e3] at y1
  generalize hV : (ownQ 8 Q).val = V
  have HV := Lib.hid hV
  unfold Ins.val
  rw [hf]
  have R4 : Bx (w2.alloc (.cells #[.int .i64 Q.op, .int .i64 8, .int .i64 Q.r1, .int .i64 0, .int .i64 0, .int .i64 0, .int .i64 0, .int .i64 0, .int .i64 0, .int .i64 0, .int .i64 0, .int .i64 0] 28)) R 28 Ins.zero.cs := R2.below (below_new w2 _)
  have W4 : Below w.heap.size w (w2.alloc (.cells #[.int .i64 Q.op, .int .i64 8, .int .i64 Q.r1, .int .i64 0, .int .i64 0, .int .i64 0, .int .i64 0, .int .i64 0, .int .i64 0, .int .i64 0, .int .i64 0, .int .i64 0] 28)) := bel0 W2 (below_new w2 _)
  obtain ⟨r0, r1, r2, r3, r4, r5, r6, r7, r8, r9, r10, r11, g0, g1, g2, g3, g4, g5, g6, g7, g8, g9, g10, g11⟩ := bx_zero R4
  have HR4 := Lib.hid R4
  have HW4 := Lib.hid W4
  rw [← e3] at a2
  clear a0 a1 a3 a4 a5 a6 a7 a8 a9 a10 a11 b0 b1 b2 b3 b4 b5 b6 b7 b8 b9 b10 b11 f0 f1 f2 f3 f4 f5 f6 f7 f8 f9 f10 f11 R2 W2 R4 W4 A0 R0 B0 HB3 hf hV A2 e3
  go_enter Tryd.func38, Tryd.ntmps38
  go_wp2
  have HVV := HV.out
  rw [show ownQ 8 Q = (⟨Q.op, Q.fo, Q.r1, 0, 0, 0, 0, 0, 0, 0, 0, 0⟩ : Ins) from rfl, HF.out] at HVV
  exact bodyPost_ret (results_c rfl rfl (load_ins (put12_at HR4.out ⟨Q.op, 8, Q.r1, 0, 0, 0, 0, 0, 0, 0, 0, 0⟩))) rfl ⟨by rw [← HVV], put12_below HW4.out HNE.out.2.2.1 ⟨Q.op, 8, Q.r1, 0, 0, 0, 0, 0, 0, 0, 0, 0⟩⟩
set_option maxRecDepth 100000 in
set_option maxHeartbeats 400000 in
theorem own_9 (Q : Ins) (hf : Q.fo = 9) (w : World) : Calls Tryd.prog 38 #[Q.val] w (New w (ownQ 9 Q).val) := by
  obtain ⟨w2, w3, A, R, B, e2, e3, eA, eR, eB, A2, R2, W2, A0, R0, B0, HB3, HNE⟩ := own_start Q w
  unfold Ins.cs Ins.zero at e2
  unfold Ins.cs Ins.hd at e3
  dsimp only at e2 e3
  rw [hf] at e2 e3
  have HE3 := Lib.hid e3
  have HA := Lib.hid A0
  have HB := Lib.hid B0
  have HR := Lib.hid R0
  have HW := Lib.hid HB3
  have HF := Lib.hid hf
  obtain ⟨a0, a1, a2, a3, a4, a5, a6, a7, a8, a9, a10, a11⟩ := bx_cells A0
  have x0 := (bx_cells A2).1
  have x1 := (bx_cells A2).2.1
  rw [hf] at x1
  obtain ⟨b0, b1, b2, b3, b4, b5, b6, b7, b8, b9, b10, b11, f0, f1, f2, f3, f4, f5, f6, f7, f8, f9, f10, f11⟩ := bx_full B0
  rw [hf] at a1
  have y1 := a1
  rw [← e3] at y1
  generalize hV : (ownQ 9 Q).val = V
  have HV := Lib.hid hV
  unfold Ins.val
  rw [hf]
  clear A0 R0 B0 HB3 hf hV A2 R2 W2 e3
  go_enter Tryd.func38, Tryd.ntmps38
  go_wp2_with fail
  rw [HE3.out]
  clear a0 a1 a2 a3 a4 a5 a6 a7 a8 a9 a10 a11 x0 x1 y1
  refine only_wp ?_
  refine wp_region_held_drew (S := fun Y => Bx Y A 28 Q.cs) (by kernel_rfl) (HA.out.below (Below.refl _ _).drew) (fun k0 => ?_)
  show wpAnyH _ _ _ _ _ 8 #[false, false, false, false, false, false, false, false] _ _
  refine wpAnyH_take (i := 0) (oi := { dst := some 70, op := Go.Op.fieldAddr 28 (Go.Operand.tmp 1) 5, type := 0, pos := "ref.go:150", after := #[], guard := none }) (v := .pointer (some ⟨A, 5, none⟩)) rfl (by kernel_rfl) (by kernel_rfl) (by kernel_rfl) (fun _ _ _ h => h) (Or.inl ⟨by rfl, fun W hSw => by (try dsimp only at hSw); go_simp⟩) k0 ?_
  try simp only [Act.put, List.setIfInBounds_toArray, List.set_cons_zero, List.set_cons_succ]
  refine wpAnyH_take (i := 1) (oi := { dst := some 71, op := Go.Op.load 3 (Go.Operand.tmp 70), type := 3, pos := "ref.go:150", after := #[{ on := 0, ground := Go.Ground.data }], guard := none }) (v := .int .i64 Q.b1) rfl (by kernel_rfl) (by kernel_rfl) (by kernel_rfl) (fun _ _ _ h => h) (Or.inl ⟨by rfl, fun W hSw => by obtain ⟨c0, c1, c2, c3, c4, c5, c6, c7, c8, c9, c10, c11⟩ := bx_cells hSw; clear hSw; go_simp⟩) k0 ?_
  try simp only [Act.put, List.setIfInBounds_toArray, List.set_cons_zero, List.set_cons_succ]
  refine wpAnyH_take (i := 2) (oi := { dst := some 72, op := Go.Op.fieldAddr 28 (Go.Operand.tmp 1) 6, type := 0, pos := "ref.go:150", after := #[{ on := 5, ground := Go.Ground.gcOnly Go.Departure.lateStores }], guard := none }) (v := .pointer (some ⟨A, 6, none⟩)) rfl (by kernel_rfl) (by kernel_rfl) (by kernel_rfl) (fun _ _ _ h => h) (Or.inl ⟨by rfl, fun W hSw => by (try dsimp only at hSw); go_simp⟩) k0 ?_
  try simp only [Act.put, List.setIfInBounds_toArray, List.set_cons_zero, List.set_cons_succ]
  refine wpAnyH_take (i := 3) (oi := { dst := some 73, op := Go.Op.load 3 (Go.Operand.tmp 72), type := 3, pos := "ref.go:150", after := #[{ on := 2, ground := Go.Ground.data }, { on := 5, ground := Go.Ground.gcOnly Go.Departure.lateStores }], guard := none }) (v := .int .i64 Q.d1) rfl (by kernel_rfl) (by kernel_rfl) (by kernel_rfl) (fun _ _ _ h => h) (Or.inl ⟨by rfl, fun W hSw => by obtain ⟨c0, c1, c2, c3, c4, c5, c6, c7, c8, c9, c10, c11⟩ := bx_cells hSw; clear hSw; go_simp⟩) k0 ?_
  try simp only [Act.put, List.setIfInBounds_toArray, List.set_cons_zero, List.set_cons_succ]
  refine wpAnyH_take (i := 4) (oi := { dst := some 74, op := Go.Op.fieldAddr 28 (Go.Operand.tmp 3) 5, type := 0, pos := "ref.go:150", after := #[{ on := 0, ground := Go.Ground.phase }, { on := 1, ground := Go.Ground.phase }, { on := 2, ground := Go.Ground.textOnly Go.Departure.lateStores }, { on := 3, ground := Go.Ground.textOnly Go.Departure.lateStores }], guard := none }) (v := .pointer (some ⟨B, 5, none⟩)) rfl (by kernel_rfl) (by kernel_rfl) (by kernel_rfl) (fun _ _ _ h => h) (Or.inl ⟨by rfl, fun W hSw => by (try dsimp only at hSw); go_simp⟩) k0 ?_
  try simp only [Act.put, List.setIfInBounds_toArray, List.set_cons_zero, List.set_cons_succ]
  refine wpAnyH_ready (rs := [5]) (by kernel_rfl) (by simp) ?_
  refine AllReadyH.cons (o := { dst := none, op := Go.Op.store 3 (Go.Operand.tmp 74) (Go.Operand.tmp 71), type := 0, pos := "ref.go:150", after := #[{ on := 4, ground := Go.Ground.data }, { on := 1, ground := Go.Ground.data }, { on := 0, ground := Go.Ground.phase }, { on := 1, ground := Go.Ground.phase }, { on := 2, ground := Go.Ground.textOnly Go.Departure.lateStores }, { on := 3, ground := Go.Ground.textOnly Go.Departure.lateStores }], guard := none }) rfl (fun K hK => ?_) AllReadyH.nil
  go_simp
  refine hK.out _ ((w3.drew.setCell ⟨B, 5, none⟩ (.int .i64 Q.b1))) (k0.far (p := ⟨B, 5, none⟩) HNE.out.1 (.int .i64 Q.b1)) (fun k1 => ?_)
  clear hK K
  try simp only [List.setIfInBounds_toArray, List.set_cons_zero, List.set_cons_succ]
  refine wpAnyH_take (i := 6) (oi := { dst := some 75, op := Go.Op.fieldAddr 28 (Go.Operand.tmp 3) 6, type := 0, pos := "ref.go:150", after := #[{ on := 0, ground := Go.Ground.phase }, { on := 1, ground := Go.Ground.phase }, { on := 2, ground := Go.Ground.phase }, { on := 3, ground := Go.Ground.phase }, { on := 4, ground := Go.Ground.phase }, { on := 5, ground := Go.Ground.phase }], guard := none }) (v := .pointer (some ⟨B, 6, none⟩)) rfl (by kernel_rfl) (by kernel_rfl) (by kernel_rfl) (fun _ _ _ h => h) (Or.inl ⟨by rfl, fun W hSw => by (try dsimp only at hSw); go_simp⟩) k1 ?_
  try simp only [Act.put, List.setIfInBounds_toArray, List.set_cons_zero, List.set_cons_succ]
  refine wpAnyH_ready (rs := [7]) (by kernel_rfl) (by simp) ?_
  refine AllReadyH.cons (o := { dst := none, op := Go.Op.store 3 (Go.Operand.tmp 75) (Go.Operand.tmp 73), type := 0, pos := "ref.go:150", after := #[{ on := 6, ground := Go.Ground.data }, { on := 3, ground := Go.Ground.data }, { on := 5, ground := Go.Ground.chain }, { on := 0, ground := Go.Ground.phase }, { on := 1, ground := Go.Ground.phase }, { on := 2, ground := Go.Ground.phase }, { on := 3, ground := Go.Ground.phase }, { on := 4, ground := Go.Ground.phase }, { on := 5, ground := Go.Ground.phase }], guard := none }) rfl (fun K hK => ?_) AllReadyH.nil
  go_simp
  refine hK.out _ (((w3.drew.setCell ⟨B, 5, none⟩ (.int .i64 Q.b1)).setCell ⟨B, 6, none⟩ (.int .i64 Q.d1))) (k1.far (p := ⟨B, 6, none⟩) HNE.out.1 (.int .i64 Q.d1)) (fun k2 => ?_)
  clear hK K
  try simp only [List.setIfInBounds_toArray, List.set_cons_zero, List.set_cons_succ]
  refine wpAnyH_done (by kernel_rfl) ?_ _
  refine onlyN_normal ?_
  clear b0 b1 b2 b3 b4 b5 b6 b7 b8 b9 b10 b11 f0 f1 f2 f3 f4 f5 f6 f7 f8 f9 f10 f11
  obtain ⟨w4, hw4⟩ : ∃ w4, w4 = ((w3.drew.setCell ⟨B, 5, none⟩ (.int .i64 Q.b1)).setCell ⟨B, 6, none⟩ (.int .i64 Q.d1)) := ⟨_, rfl⟩
  rw [← hw4]
  have B4 : Bx w4 B 28 (ownQ 9 Q).cs := by rw [hw4]; exact (bx_put (bx_put (HB.out.below (Below.refl _ _).drew) 5 (by decide) Q.b1) 6 (by decide) Q.d1)
  have HVV := HV.out
  clear HV
  generalize ownQ 9 Q = P at B4 HVV
  have HV := Lib.hid HVV
  have R4 : Bx w4 R 28 Ins.zero.cs := by rw [hw4]; exact (((HR.out.below (Below.refl _ _).drew).far (p := ⟨B, 5, none⟩) HNE.out.2.1 (.int .i64 Q.b1)).far (p := ⟨B, 6, none⟩) HNE.out.2.1 (.int .i64 Q.d1))
  have W4 : Below w.heap.size w w4 := by rw [hw4]; exact ((HW.out.drew.setCell (p := ⟨B, 5, none⟩) HNE.out.2.2.2 (.int .i64 Q.b1)).setCell (p := ⟨B, 6, none⟩) HNE.out.2.2.2 (.int .i64 Q.d1))
  obtain ⟨b0, b1, b2, b3, b4, b5, b6, b7, b8, b9, b10, b11⟩ := bx_cells B4
  obtain ⟨r0, r1, r2, r3, r4, r5, r6, r7, r8, r9, r10, r11, f0, f1, f2, f3, f4, f5, f6, f7, f8, f9, f10, f11⟩ := bx_zero R4
  have HR4 := Lib.hid R4
  have HW4 := Lib.hid W4
  clear B4 R4 W4 hw4 HVV k0 k1 k2
  go_wp2
  exact bodyPost_ret (results_c rfl rfl (load_ins (put12_at HR4.out P))) rfl ⟨by rw [← HV.out], put12_below HW4.out HNE.out.2.2.1 P⟩
end E
end Go.Proofs.YtaodghaicmjadaaDoor

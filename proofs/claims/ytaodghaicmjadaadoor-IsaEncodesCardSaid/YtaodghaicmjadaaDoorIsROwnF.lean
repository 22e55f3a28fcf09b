/- Own of the given answers: formats. -/
import Derived.Test.YtaodghaicmjadaaDoorIsROwnB
namespace Go.Proofs.YtaodghaicmjadaaDoor
open Go.RowKit Go.Shelf
set_option linter.unusedVariables false
namespace E

theorem bx_some {w : World} {g : Nat} {t : TypeId} {P : Ins} (h : Bx w g t P.cs) (k : Nat) (hk : k < 12) : ∃ u, w.cell? ⟨g, k, none⟩ = some u := ⟨_, (h.cell k).trans (Ins.cell P k hk)⟩
set_option maxRecDepth 100000 in
set_option maxHeartbeats 6000000 in
theorem own_6 (Q : Ins) (hf : Q.fo = 6) (w : World) : Calls Tryd.prog 38 #[Q.val] w (New w (ownQ 6 Q).val) := by
  obtain ⟨w2, w3, A, R, B, e2, e3, eA, eR, eB, A2, R2, W2, A0, R0, B0, HB3, HNE⟩ := own_start Q w
  unfold Ins.cs Ins.zero at e2
  unfold Ins.cs Ins.hd at e3
  dsimp only at e2 e3
  rw [hf] at e2 e3
  have HE3 := Lib.hid e3
  have HA := Lib.hid A0
  have HB := Lib.hid B0
  have HR := Lib.hid R0
  have HW := Lib.hid HB3
  have HF := Lib.hid hf
  obtain ⟨a0, a1, a2, a3, a4, a5, a6, a7, a8, a9, a10, a11⟩ := bx_cells A0
  have x0 := (bx_cells A2).1
  have x1 := (bx_cells A2).2.1
  rw [hf] at x1
  obtain ⟨b0, b1, b2, b3, b4, b5, b6, b7, b8, b9, b10, b11, f0, f1, f2, f3, f4, f5, f6, f7, f8, f9, f10, f11⟩ := bx_full B0
  rw [hf] at a1
  have y1 := a1
  rw [← e3] at y1
  generalize hV : (ownQ 6 Q).val = V
  have HV := Lib.hid hV
  unfold Ins.val
  rw [hf]
  clear A0 R0 B0 HB3 hf hV A2 R2 W2 e3
  go_enter Tryd.func38, Tryd.ntmps38
  go_wp2_with fail
  rw [HE3.out]
  clear a0 a1 a2 a3 a4 a5 a6 a7 a8 a9 a10 a11 x0 x1 y1
  clear b0 b1 b2 b3 b4 b5 b6 b7 b8 b9 b10 b11 f0 f1 f2 f3 f4 f5 f6 f7 f8 f9 f10 f11
  refine only_wp ?_
  refine wp_region_held_drew (S := fun Y => Bx Y A 28 Q.cs) (by kernel_rfl) (HA.out.below (Below.refl _ _).drew) (fun k0 => ?_)
  obtain ⟨v0, hv0⟩ : ∃ x, x = w3.drew := ⟨_, rfl⟩
  rw [← hv0] at k0 ⊢
  have HX0 := Lib.hid (show Bx v0 B 28 Q.hd.cs from by rw [hv0]; exact HB.out.below (Below.refl _ _).drew)
  have HY0 := Lib.hid (show Bx v0 R 28 Ins.zero.cs from by rw [hv0]; exact HR.out.below (Below.refl _ _).drew)
  have HZ0 := Lib.hid (show Below w.heap.size w v0 from by rw [hv0]; exact HW.out.drew)
  clear hv0
  show wpAnyH _ _ _ _ _ 24 #[false, false, false, false, false, false, false, false, false, false, false, false, false, false, false, false, false, false, false, false, false, false, false, false] _ _
  refine wpAnyH_take (i := 0) (oi := { dst := some 95, op := Go.Op.fieldAddr 28 (Go.Operand.tmp 1) 9, type := 0, pos := "ref.go:154", after := #[], guard := none }) (v := .pointer (some ⟨A, 9, none⟩)) rfl (by kernel_rfl) (by kernel_rfl) (by kernel_rfl) (fun _ _ _ h => h) (Or.inl ⟨by rfl, fun W hSw => by (try dsimp only at hSw); go_simp⟩) k0 ?_
  try simp only [Act.put, List.setIfInBounds_toArray, List.set_cons_zero, List.set_cons_succ]
  refine wpAnyH_take (i := 1) (oi := { dst := some 96, op := Go.Op.load 3 (Go.Operand.tmp 95), type := 3, pos := "ref.go:154", after := #[{ on := 0, ground := Go.Ground.data }], guard := none }) (v := .int .i64 Q.l1) rfl (by kernel_rfl) (by kernel_rfl) (by kernel_rfl) (fun _ _ _ h => h) (Or.inl ⟨by rfl, fun W hSw => by obtain ⟨c0, c1, c2, c3, c4, c5, c6, c7, c8, c9, c10, c11⟩ := bx_cells hSw; clear hSw; go_simp⟩) k0 ?_
  try simp only [Act.put, List.setIfInBounds_toArray, List.set_cons_zero, List.set_cons_succ]
  refine wpAnyH_take (i := 2) (oi := { dst := some 97, op := Go.Op.fieldAddr 28 (Go.Operand.tmp 1) 10, type := 0, pos := "ref.go:154", after := #[{ on := 13, ground := Go.Ground.gcOnly Go.Departure.lateStores }], guard := none }) (v := .pointer (some ⟨A, 10, none⟩)) rfl (by kernel_rfl) (by kernel_rfl) (by kernel_rfl) (fun _ _ _ h => h) (Or.inl ⟨by rfl, fun W hSw => by (try dsimp only at hSw); go_simp⟩) k0 ?_
  try simp only [Act.put, List.setIfInBounds_toArray, List.set_cons_zero, List.set_cons_succ]
  refine wpAnyH_take (i := 3) (oi := { dst := some 98, op := Go.Op.load 3 (Go.Operand.tmp 97), type := 3, pos := "ref.go:154", after := #[{ on := 2, ground := Go.Ground.data }, { on := 13, ground := Go.Ground.gcOnly Go.Departure.lateStores }], guard := none }) (v := .int .i64 Q.l2) rfl (by kernel_rfl) (by kernel_rfl) (by kernel_rfl) (fun _ _ _ h => h) (Or.inl ⟨by rfl, fun W hSw => by obtain ⟨c0, c1, c2, c3, c4, c5, c6, c7, c8, c9, c10, c11⟩ := bx_cells hSw; clear hSw; go_simp⟩) k0 ?_
  try simp only [Act.put, List.setIfInBounds_toArray, List.set_cons_zero, List.set_cons_succ]
  refine wpAnyH_take (i := 4) (oi := { dst := some 99, op := Go.Op.fieldAddr 28 (Go.Operand.tmp 1) 5, type := 0, pos := "ref.go:154", after := #[{ on := 15, ground := Go.Ground.gcOnly Go.Departure.lateStores }], guard := none }) (v := .pointer (some ⟨A, 5, none⟩)) rfl (by kernel_rfl) (by kernel_rfl) (by kernel_rfl) (fun _ _ _ h => h) (Or.inl ⟨by rfl, fun W hSw => by (try dsimp only at hSw); go_simp⟩) k0 ?_
  try simp only [Act.put, List.setIfInBounds_toArray, List.set_cons_zero, List.set_cons_succ]
  refine wpAnyH_take (i := 5) (oi := { dst := some 100, op := Go.Op.load 3 (Go.Operand.tmp 99), type := 3, pos := "ref.go:154", after := #[{ on := 4, ground := Go.Ground.data }, { on := 15, ground := Go.Ground.gcOnly Go.Departure.lateStores }], guard := none }) (v := .int .i64 Q.b1) rfl (by kernel_rfl) (by kernel_rfl) (by kernel_rfl) (fun _ _ _ h => h) (Or.inl ⟨by rfl, fun W hSw => by obtain ⟨c0, c1, c2, c3, c4, c5, c6, c7, c8, c9, c10, c11⟩ := bx_cells hSw; clear hSw; go_simp⟩) k0 ?_
  try simp only [Act.put, List.setIfInBounds_toArray, List.set_cons_zero, List.set_cons_succ]
  refine wpAnyH_take (i := 6) (oi := { dst := some 101, op := Go.Op.fieldAddr 28 (Go.Operand.tmp 1) 6, type := 0, pos := "ref.go:154", after := #[{ on := 17, ground := Go.Ground.gcOnly Go.Departure.lateStores }], guard := none }) (v := .pointer (some ⟨A, 6, none⟩)) rfl (by kernel_rfl) (by kernel_rfl) (by kernel_rfl) (fun _ _ _ h => h) (Or.inl ⟨by rfl, fun W hSw => by (try dsimp only at hSw); go_simp⟩) k0 ?_
  try simp only [Act.put, List.setIfInBounds_toArray, List.set_cons_zero, List.set_cons_succ]
  refine wpAnyH_take (i := 7) (oi := { dst := some 102, op := Go.Op.load 3 (Go.Operand.tmp 101), type := 3, pos := "ref.go:154", after := #[{ on := 6, ground := Go.Ground.data }, { on := 17, ground := Go.Ground.gcOnly Go.Departure.lateStores }], guard := none }) (v := .int .i64 Q.d1) rfl (by kernel_rfl) (by kernel_rfl) (by kernel_rfl) (fun _ _ _ h => h) (Or.inl ⟨by rfl, fun W hSw => by obtain ⟨c0, c1, c2, c3, c4, c5, c6, c7, c8, c9, c10, c11⟩ := bx_cells hSw; clear hSw; go_simp⟩) k0 ?_
  try simp only [Act.put, List.setIfInBounds_toArray, List.set_cons_zero, List.set_cons_succ]
  refine wpAnyH_take (i := 8) (oi := { dst := some 103, op := Go.Op.fieldAddr 28 (Go.Operand.tmp 1) 7, type := 0, pos := "ref.go:154", after := #[{ on := 19, ground := Go.Ground.gcOnly Go.Departure.lateStores }], guard := none }) (v := .pointer (some ⟨A, 7, none⟩)) rfl (by kernel_rfl) (by kernel_rfl) (by kernel_rfl) (fun _ _ _ h => h) (Or.inl ⟨by rfl, fun W hSw => by (try dsimp only at hSw); go_simp⟩) k0 ?_
  try simp only [Act.put, List.setIfInBounds_toArray, List.set_cons_zero, List.set_cons_succ]
  refine wpAnyH_take (i := 9) (oi := { dst := some 104, op := Go.Op.load 3 (Go.Operand.tmp 103), type := 3, pos := "ref.go:154", after := #[{ on := 8, ground := Go.Ground.data }, { on := 19, ground := Go.Ground.gcOnly Go.Departure.lateStores }], guard := none }) (v := .int .i64 Q.b2) rfl (by kernel_rfl) (by kernel_rfl) (by kernel_rfl) (fun _ _ _ h => h) (Or.inl ⟨by rfl, fun W hSw => by obtain ⟨c0, c1, c2, c3, c4, c5, c6, c7, c8, c9, c10, c11⟩ := bx_cells hSw; clear hSw; go_simp⟩) k0 ?_
  try simp only [Act.put, List.setIfInBounds_toArray, List.set_cons_zero, List.set_cons_succ]
  refine wpAnyH_take (i := 10) (oi := { dst := some 105, op := Go.Op.fieldAddr 28 (Go.Operand.tmp 1) 8, type := 0, pos := "ref.go:154", after := #[{ on := 21, ground := Go.Ground.gcOnly Go.Departure.lateStores }], guard := none }) (v := .pointer (some ⟨A, 8, none⟩)) rfl (by kernel_rfl) (by kernel_rfl) (by kernel_rfl) (fun _ _ _ h => h) (Or.inl ⟨by rfl, fun W hSw => by (try dsimp only at hSw); go_simp⟩) k0 ?_
  try simp only [Act.put, List.setIfInBounds_toArray, List.set_cons_zero, List.set_cons_succ]
  refine wpAnyH_take (i := 11) (oi := { dst := some 106, op := Go.Op.load 3 (Go.Operand.tmp 105), type := 3, pos := "ref.go:154", after := #[{ on := 10, ground := Go.Ground.data }, { on := 21, ground := Go.Ground.gcOnly Go.Departure.lateStores }], guard := none }) (v := .int .i64 Q.d2) rfl (by kernel_rfl) (by kernel_rfl) (by kernel_rfl) (fun _ _ _ h => h) (Or.inl ⟨by rfl, fun W hSw => by obtain ⟨c0, c1, c2, c3, c4, c5, c6, c7, c8, c9, c10, c11⟩ := bx_cells hSw; clear hSw; go_simp⟩) k0 ?_
  try simp only [Act.put, List.setIfInBounds_toArray, List.set_cons_zero, List.set_cons_succ]
  refine wpAnyH_take (i := 12) (oi := { dst := some 107, op := Go.Op.fieldAddr 28 (Go.Operand.tmp 3) 9, type := 0, pos := "ref.go:154", after := #[{ on := 0, ground := Go.Ground.phase }, { on := 1, ground := Go.Ground.phase }, { on := 2, ground := Go.Ground.textOnly Go.Departure.lateStores }, { on := 3, ground := Go.Ground.textOnly Go.Departure.lateStores }, { on := 4, ground := Go.Ground.textOnly Go.Departure.lateStores }, { on := 5, ground := Go.Ground.textOnly Go.Departure.lateStores }, { on := 6, ground := Go.Ground.textOnly Go.Departure.lateStores }, { on := 7, ground := Go.Ground.textOnly Go.Departure.lateStores }, { on := 8, ground := Go.Ground.textOnly Go.Departure.lateStores }, { on := 9, ground := Go.Ground.textOnly Go.Departure.lateStores }, { on := 10, ground := Go.Ground.textOnly Go.Departure.lateStores }, { on := 11, ground := Go.Ground.textOnly Go.Departure.lateStores }], guard := none }) (v := .pointer (some ⟨B, 9, none⟩)) rfl (by kernel_rfl) (by kernel_rfl) (by kernel_rfl) (fun _ _ _ h => h) (Or.inl ⟨by rfl, fun W hSw => by (try dsimp only at hSw); go_simp⟩) k0 ?_
  try simp only [Act.put, List.setIfInBounds_toArray, List.set_cons_zero, List.set_cons_succ]
  refine wpAnyH_ready (rs := [13]) (by kernel_rfl) (by simp) ?_
  refine AllReadyH.cons (o := { dst := none, op := Go.Op.store 3 (Go.Operand.tmp 107) (Go.Operand.tmp 96), type := 0, pos := "ref.go:154", after := #[{ on := 12, ground := Go.Ground.data }, { on := 1, ground := Go.Ground.data }, { on := 0, ground := Go.Ground.phase }, { on := 1, ground := Go.Ground.phase }, { on := 2, ground := Go.Ground.textOnly Go.Departure.lateStores }, { on := 3, ground := Go.Ground.textOnly Go.Departure.lateStores }, { on := 4, ground := Go.Ground.textOnly Go.Departure.lateStores }, { on := 5, ground := Go.Ground.textOnly Go.Departure.lateStores }, { on := 6, ground := Go.Ground.textOnly Go.Departure.lateStores }, { on := 7, ground := Go.Ground.textOnly Go.Departure.lateStores }, { on := 8, ground := Go.Ground.textOnly Go.Departure.lateStores }, { on := 9, ground := Go.Ground.textOnly Go.Departure.lateStores }, { on := 10, ground := Go.Ground.textOnly Go.Departure.lateStores }, { on := 11, ground := Go.Ground.textOnly Go.Departure.lateStores }], guard := none }) rfl (fun K hK => ?_) AllReadyH.nil
  obtain ⟨u, hu⟩ := bx_some HX0.out 9 (by decide)
  have hfr := HX0.out.frozen 9
  go_simp
  refine hK.out _ (v0.setCell ⟨B, 9, none⟩ (.int .i64 Q.l1)) (k0.far (p := ⟨B, 9, none⟩) HNE.out.1 (.int .i64 Q.l1)) (fun k1 => ?_)
  obtain ⟨v1, hv1⟩ : ∃ x, x = v0.setCell ⟨B, 9, none⟩ (.int .i64 Q.l1) := ⟨_, rfl⟩
  rw [← hv1] at k1 ⊢
  have HX1 := Lib.hid (show Bx v1 B 28 (Q.hd.set 9 Q.l1).cs from by rw [hv1]; exact bx_put HX0.out 9 (by decide) _)
  have HY1 := Lib.hid (show Bx v1 R 28 Ins.zero.cs from by rw [hv1]; exact HY0.out.far (p := ⟨B, 9, none⟩) HNE.out.2.1 _)
  have HZ1 := Lib.hid (show Below w.heap.size w v1 from by rw [hv1]; exact HZ0.out.setCell (p := ⟨B, 9, none⟩) HNE.out.2.2.2 _)
  clear hu hfr hv1
  clear hK K
  try simp only [List.setIfInBounds_toArray, List.set_cons_zero, List.set_cons_succ]
  refine wpAnyH_take (i := 14) (oi := { dst := some 108, op := Go.Op.fieldAddr 28 (Go.Operand.tmp 3) 10, type := 0, pos := "ref.go:154", after := #[{ on := 0, ground := Go.Ground.phase }, { on := 1, ground := Go.Ground.phase }, { on := 2, ground := Go.Ground.phase }, { on := 3, ground := Go.Ground.phase }, { on := 4, ground := Go.Ground.textOnly Go.Departure.lateStores }, { on := 5, ground := Go.Ground.textOnly Go.Departure.lateStores }, { on := 6, ground := Go.Ground.textOnly Go.Departure.lateStores }, { on := 7, ground := Go.Ground.textOnly Go.Departure.lateStores }, { on := 8, ground := Go.Ground.textOnly Go.Departure.lateStores }, { on := 9, ground := Go.Ground.textOnly Go.Departure.lateStores }, { on := 10, ground := Go.Ground.textOnly Go.Departure.lateStores }, { on := 11, ground := Go.Ground.textOnly Go.Departure.lateStores }, { on := 12, ground := Go.Ground.phase }, { on := 13, ground := Go.Ground.phase }], guard := none }) (v := .pointer (some ⟨B, 10, none⟩)) rfl (by kernel_rfl) (by kernel_rfl) (by kernel_rfl) (fun _ _ _ h => h) (Or.inl ⟨by rfl, fun W hSw => by (try dsimp only at hSw); go_simp⟩) k1 ?_
  try simp only [Act.put, List.setIfInBounds_toArray, List.set_cons_zero, List.set_cons_succ]
  refine wpAnyH_ready (rs := [15]) (by kernel_rfl) (by simp) ?_
  refine AllReadyH.cons (o := { dst := none, op := Go.Op.store 3 (Go.Operand.tmp 108) (Go.Operand.tmp 98), type := 0, pos := "ref.go:154", after := #[{ on := 14, ground := Go.Ground.data }, { on := 3, ground := Go.Ground.data }, { on := 13, ground := Go.Ground.chain }, { on := 0, ground := Go.Ground.phase }, { on := 1, ground := Go.Ground.phase }, { on := 2, ground := Go.Ground.phase }, { on := 3, ground := Go.Ground.phase }, { on := 4, ground := Go.Ground.textOnly Go.Departure.lateStores }, { on := 5, ground := Go.Ground.textOnly Go.Departure.lateStores }, { on := 6, ground := Go.Ground.textOnly Go.Departure.lateStores }, { on := 7, ground := Go.Ground.textOnly Go.Departure.lateStores }, { on := 8, ground := Go.Ground.textOnly Go.Departure.lateStores }, { on := 9, ground := Go.Ground.textOnly Go.Departure.lateStores }, { on := 10, ground := Go.Ground.textOnly Go.Departure.lateStores }, { on := 11, ground := Go.Ground.textOnly Go.Departure.lateStores }, { on := 12, ground := Go.Ground.phase }, { on := 13, ground := Go.Ground.phase }], guard := none }) rfl (fun K hK => ?_) AllReadyH.nil
  obtain ⟨u, hu⟩ := bx_some HX1.out 10 (by decide)
  have hfr := HX1.out.frozen 10
  go_simp
  refine hK.out _ (v1.setCell ⟨B, 10, none⟩ (.int .i64 Q.l2)) (k1.far (p := ⟨B, 10, none⟩) HNE.out.1 (.int .i64 Q.l2)) (fun k2 => ?_)
  obtain ⟨v2, hv2⟩ : ∃ x, x = v1.setCell ⟨B, 10, none⟩ (.int .i64 Q.l2) := ⟨_, rfl⟩
  rw [← hv2] at k2 ⊢
  have HX2 := Lib.hid (show Bx v2 B 28 ((Q.hd.set 9 Q.l1).set 10 Q.l2).cs from by rw [hv2]; exact bx_put HX1.out 10 (by decide) _)
  have HY2 := Lib.hid (show Bx v2 R 28 Ins.zero.cs from by rw [hv2]; exact HY1.out.far (p := ⟨B, 10, none⟩) HNE.out.2.1 _)
  have HZ2 := Lib.hid (show Below w.heap.size w v2 from by rw [hv2]; exact HZ1.out.setCell (p := ⟨B, 10, none⟩) HNE.out.2.2.2 _)
  clear hu hfr hv2
  clear hK K
  try simp only [List.setIfInBounds_toArray, List.set_cons_zero, List.set_cons_succ]
  refine wpAnyH_take (i := 16) (oi := { dst := some 109, op := Go.Op.fieldAddr 28 (Go.Operand.tmp 3) 5, type := 0, pos := "ref.go:154", after := #[{ on := 0, ground := Go.Ground.phase }, { on := 1, ground := Go.Ground.phase }, { on := 2, ground := Go.Ground.phase }, { on := 3, ground := Go.Ground.phase }, { on := 4, ground := Go.Ground.phase }, { on := 5, ground := Go.Ground.phase }, { on := 6, ground := Go.Ground.textOnly Go.Departure.lateStores }, { on := 7, ground := Go.Ground.textOnly Go.Departure.lateStores }, { on := 8, ground := Go.Ground.textOnly Go.Departure.lateStores }, { on := 9, ground := Go.Ground.textOnly Go.Departure.lateStores }, { on := 10, ground := Go.Ground.textOnly Go.Departure.lateStores }, { on := 11, ground := Go.Ground.textOnly Go.Departure.lateStores }, { on := 12, ground := Go.Ground.phase }, { on := 13, ground := Go.Ground.phase }, { on := 14, ground := Go.Ground.phase }, { on := 15, ground := Go.Ground.phase }], guard := none }) (v := .pointer (some ⟨B, 5, none⟩)) rfl (by kernel_rfl) (by kernel_rfl) (by kernel_rfl) (fun _ _ _ h => h) (Or.inl ⟨by rfl, fun W hSw => by (try dsimp only at hSw); go_simp⟩) k2 ?_
  try simp only [Act.put, List.setIfInBounds_toArray, List.set_cons_zero, List.set_cons_succ]
  refine wpAnyH_ready (rs := [17]) (by kernel_rfl) (by simp) ?_
  refine AllReadyH.cons (o := { dst := none, op := Go.Op.store 3 (Go.Operand.tmp 109) (Go.Operand.tmp 100), type := 0, pos := "ref.go:154", after := #[{ on := 16, ground := Go.Ground.data }, { on := 5, ground := Go.Ground.data }, { on := 15, ground := Go.Ground.chain }, { on := 0, ground := Go.Ground.phase }, { on := 1, ground := Go.Ground.phase }, { on := 2, ground := Go.Ground.phase }, { on := 3, ground := Go.Ground.phase }, { on := 4, ground := Go.Ground.phase }, { on := 5, ground := Go.Ground.phase }, { on := 6, ground := Go.Ground.textOnly Go.Departure.lateStores }, { on := 7, ground := Go.Ground.textOnly Go.Departure.lateStores }, { on := 8, ground := Go.Ground.textOnly Go.Departure.lateStores }, { on := 9, ground := Go.Ground.textOnly Go.Departure.lateStores }, { on := 10, ground := Go.Ground.textOnly Go.Departure.lateStores }, { on := 11, ground := Go.Ground.textOnly Go.Departure.lateStores }, { on := 12, ground := Go.Ground.phase }, { on := 13, ground := Go.Ground.phase }, { on := 14, ground := Go.Ground.phase }, { on := 15, ground := Go.Ground.phase }], guard := none }) rfl (fun K hK => ?_) AllReadyH.nil
  obtain ⟨u, hu⟩ := bx_some HX2.out 5 (by decide)
  have hfr := HX2.out.frozen 5
  go_simp
  refine hK.out _ (v2.setCell ⟨B, 5, none⟩ (.int .i64 Q.b1)) (k2.far (p := ⟨B, 5, none⟩) HNE.out.1 (.int .i64 Q.b1)) (fun k3 => ?_)
  obtain ⟨v3, hv3⟩ : ∃ x, x = v2.setCell ⟨B, 5, none⟩ (.int .i64 Q.b1) := ⟨_, rfl⟩
  rw [← hv3] at k3 ⊢
  have HX3 := Lib.hid (show Bx v3 B 28 (((Q.hd.set 9 Q.l1).set 10 Q.l2).set 5 Q.b1).cs from by rw [hv3]; exact bx_put HX2.out 5 (by decide) _)
  have HY3 := Lib.hid (show Bx v3 R 28 Ins.zero.cs from by rw [hv3]; exact HY2.out.far (p := ⟨B, 5, none⟩) HNE.out.2.1 _)
  have HZ3 := Lib.hid (show Below w.heap.size w v3 from by rw [hv3]; exact HZ2.out.setCell (p := ⟨B, 5, none⟩) HNE.out.2.2.2 _)
  clear hu hfr hv3
  clear hK K
  try simp only [List.setIfInBounds_toArray, List.set_cons_zero, List.set_cons_succ]
  refine wpAnyH_take (i := 18) (oi := { dst := some 110, op := Go.Op.fieldAddr 28 (Go.Operand.tmp 3) 6, type := 0, pos := "ref.go:154", after := #[{ on := 0, ground := Go.Ground.phase }, { on := 1, ground := Go.Ground.phase }, { on := 2, ground := Go.Ground.phase }, { on := 3, ground := Go.Ground.phase }, { on := 4, ground := Go.Ground.phase }, { on := 5, ground := Go.Ground.phase }, { on := 6, ground := Go.Ground.phase }, { on := 7, ground := Go.Ground.phase }, { on := 8, ground := Go.Ground.textOnly Go.Departure.lateStores }, { on := 9, ground := Go.Ground.textOnly Go.Departure.lateStores }, { on := 10, ground := Go.Ground.textOnly Go.Departure.lateStores }, { on := 11, ground := Go.Ground.textOnly Go.Departure.lateStores }, { on := 12, ground := Go.Ground.phase }, { on := 13, ground := Go.Ground.phase }, { on := 14, ground := Go.Ground.phase }, { on := 15, ground := Go.Ground.phase }, { on := 16, ground := Go.Ground.phase }, { on := 17, ground := Go.Ground.phase }], guard := none }) (v := .pointer (some ⟨B, 6, none⟩)) rfl (by kernel_rfl) (by kernel_rfl) (by kernel_rfl) (fun _ _ _ h => h) (Or.inl ⟨by rfl, fun W hSw => by (try dsimp only at hSw); go_simp⟩) k3 ?_
  try simp only [Act.put, List.setIfInBounds_toArray, List.set_cons_zero, List.set_cons_succ]
  refine wpAnyH_ready (rs := [19]) (by kernel_rfl) (by simp) ?_
  refine AllReadyH.cons (o := { dst := none, op := Go.Op.store 3 (Go.Operand.tmp 110) (Go.Operand.tmp 102), type := 0, pos := "ref.go:154", after := #[{ on := 18, ground := Go.Ground.data }, { on := 7, ground := Go.Ground.data }, { on := 17, ground := Go.Ground.chain }, { on := 0, ground := Go.Ground.phase }, { on := 1, ground := Go.Ground.phase }, { on := 2, ground := Go.Ground.phase }, { on := 3, ground := Go.Ground.phase }, { on := 4, ground := Go.Ground.phase }, { on := 5, ground := Go.Ground.phase }, { on := 6, ground := Go.Ground.phase }, { on := 7, ground := Go.Ground.phase }, { on := 8, ground := Go.Ground.textOnly Go.Departure.lateStores }, { on := 9, ground := Go.Ground.textOnly Go.Departure.lateStores }, { on := 10, ground := Go.Ground.textOnly Go.Departure.lateStores }, { on := 11, ground := Go.Ground.textOnly Go.Departure.lateStores }, { on := 12, ground := Go.Ground.phase }, { on := 13, ground := Go.Ground.phase }, { on := 14, ground := Go.Ground.phase }, { on := 15, ground := Go.Ground.phase }, { on := 16, ground := Go.Ground.phase }, { on := 17, ground := Go.Ground.phase }], guard := none }) rfl (fun K hK => ?_) AllReadyH.nil
  obtain ⟨u, hu⟩ := bx_some HX3.out 6 (by decide)
  have hfr := HX3.out.frozen 6
  go_simp
  refine hK.out _ (v3.setCell ⟨B, 6, none⟩ (.int .i64 Q.d1)) (k3.far (p := ⟨B, 6, none⟩) HNE.out.1 (.int .i64 Q.d1)) (fun k4 => ?_)
  obtain ⟨v4, hv4⟩ : ∃ x, x = v3.setCell ⟨B, 6, none⟩ (.int .i64 Q.d1) := ⟨_, rfl⟩
  rw [← hv4] at k4 ⊢
  have HX4 := Lib.hid (show Bx v4 B 28 ((((Q.hd.set 9 Q.l1).set 10 Q.l2).set 5 Q.b1).set 6 Q.d1).cs from by rw [hv4]; exact bx_put HX3.out 6 (by decide) _)
  have HY4 := Lib.hid (show Bx v4 R 28 Ins.zero.cs from by rw [hv4]; exact HY3.out.far (p := ⟨B, 6, none⟩) HNE.out.2.1 _)
  have HZ4 := Lib.hid (show Below w.heap.size w v4 from by rw [hv4]; exact HZ3.out.setCell (p := ⟨B, 6, none⟩) HNE.out.2.2.2 _)
  clear hu hfr hv4
  clear hK K
  try simp only [List.setIfInBounds_toArray, List.set_cons_zero, List.set_cons_succ]
  refine wpAnyH_take (i := 20) (oi := { dst := some 111, op := Go.Op.fieldAddr 28 (Go.Operand.tmp 3) 7, type := 0, pos := "ref.go:154", after := #[{ on := 0, ground := Go.Ground.phase }, { on := 1, ground := Go.Ground.phase }, { on := 2, ground := Go.Ground.phase }, { on := 3, ground := Go.Ground.phase }, { on := 4, ground := Go.Ground.phase }, { on := 5, ground := Go.Ground.phase }, { on := 6, ground := Go.Ground.phase }, { on := 7, ground := Go.Ground.phase }, { on := 8, ground := Go.Ground.phase }, { on := 9, ground := Go.Ground.phase }, { on := 10, ground := Go.Ground.textOnly Go.Departure.lateStores }, { on := 11, ground := Go.Ground.textOnly Go.Departure.lateStores }, { on := 12, ground := Go.Ground.phase }, { on := 13, ground := Go.Ground.phase }, { on := 14, ground := Go.Ground.phase }, { on := 15, ground := Go.Ground.phase }, { on := 16, ground := Go.Ground.phase }, { on := 17, ground := Go.Ground.phase }, { on := 18, ground := Go.Ground.phase }, { on := 19, ground := Go.Ground.phase }], guard := none }) (v := .pointer (some ⟨B, 7, none⟩)) rfl (by kernel_rfl) (by kernel_rfl) (by kernel_rfl) (fun _ _ _ h => h) (Or.inl ⟨by rfl, fun W hSw => by (try dsimp only at hSw); go_simp⟩) k4 ?_
  try simp only [Act.put, List.setIfInBounds_toArray, List.set_cons_zero, List.set_cons_succ]
  refine wpAnyH_ready (rs := [21]) (by kernel_rfl) (by simp) ?_
  refine AllReadyH.cons (o := { dst := none, op := Go.Op.store 3 (Go.Operand.tmp 111) (Go.Operand.tmp 104), type := 0, pos := "ref.go:154", after := #[{ on := 20, ground := Go.Ground.data }, { on := 9, ground := Go.Ground.data }, { on := 19, ground := Go.Ground.chain }, { on := 0, ground := Go.Ground.phase }, { on := 1, ground := Go.Ground.phase }, { on := 2, ground := Go.Ground.phase }, { on := 3, ground := Go.Ground.phase }, { on := 4, ground := Go.Ground.phase }, { on := 5, ground := Go.Ground.phase }, { on := 6, ground := Go.Ground.phase }, { on := 7, ground := Go.Ground.phase }, { on := 8, ground := Go.Ground.phase }, { on := 9, ground := Go.Ground.phase }, { on := 10, ground := Go.Ground.textOnly Go.Departure.lateStores }, { on := 11, ground := Go.Ground.textOnly Go.Departure.lateStores }, { on := 12, ground := Go.Ground.phase }, { on := 13, ground := Go.Ground.phase }, { on := 14, ground := Go.Ground.phase }, { on := 15, ground := Go.Ground.phase }, { on := 16, ground := Go.Ground.phase }, { on := 17, ground := Go.Ground.phase }, { on := 18, ground := Go.Ground.phase }, { on := 19, ground := Go.Ground.phase }], guard := none }) rfl (fun K hK => ?_) AllReadyH.nil
  obtain ⟨u, hu⟩ := bx_some HX4.out 7 (by decide)
  have hfr := HX4.out.frozen 7
  go_simp
  refine hK.out _ (v4.setCell ⟨B, 7, none⟩ (.int .i64 Q.b2)) (k4.far (p := ⟨B, 7, none⟩) HNE.out.1 (.int .i64 Q.b2)) (fun k5 => ?_)
  obtain ⟨v5, hv5⟩ : ∃ x, x = v4.setCell ⟨B, 7, none⟩ (.int .i64 Q.b2) := ⟨_, rfl⟩
  rw [← hv5] at k5 ⊢
  have HX5 := Lib.hid (show Bx v5 B 28 (((((Q.hd.set 9 Q.l1).set 10 Q.l2).set 5 Q.b1).set 6 Q.d1).set 7 Q.b2).cs from by rw [hv5]; exact bx_put HX4.out 7 (by decide) _)
  have HY5 := Lib.hid (show Bx v5 R 28 Ins.zero.cs from by rw [hv5]; exact HY4.out.far (p := ⟨B, 7, none⟩) HNE.out.2.1 _)
  have HZ5 := Lib.hid (show Below w.heap.size w v5 from by rw [hv5]; exact HZ4.out.setCell (p := ⟨B, 7, none⟩) HNE.out.2.2.2 _)
  clear hu hfr hv5
  clear hK K
  try simp only [List.setIfInBounds_toArray, List.set_cons_zero, List.set_cons_succ]
  refine wpAnyH_take (i := 22) (oi := { dst := some 112, op := Go.Op.fieldAddr 28 (Go.Operand.tmp 3) 8, type := 0, pos := "ref.go:154", after := #[{ on := 0, ground := Go.Ground.phase }, { on := 1, ground := Go.Ground.phase }, { on := 2, ground := Go.Ground.phase }, { on := 3, ground := Go.Ground.phase }, { on := 4, ground := Go.Ground.phase }, { on := 5, ground := Go.Ground.phase }, { on := 6, ground := Go.Ground.phase }, { on := 7, ground := Go.Ground.phase }, { on := 8, ground := Go.Ground.phase }, { on := 9, ground := Go.Ground.phase }, { on := 10, ground := Go.Ground.phase }, { on := 11, ground := Go.Ground.phase }, { on := 12, ground := Go.Ground.phase }, { on := 13, ground := Go.Ground.phase }, { on := 14, ground := Go.Ground.phase }, { on := 15, ground := Go.Ground.phase }, { on := 16, ground := Go.Ground.phase }, { on := 17, ground := Go.Ground.phase }, { on := 18, ground := Go.Ground.phase }, { on := 19, ground := Go.Ground.phase }, { on := 20, ground := Go.Ground.phase }, { on := 21, ground := Go.Ground.phase }], guard := none }) (v := .pointer (some ⟨B, 8, none⟩)) rfl (by kernel_rfl) (by kernel_rfl) (by kernel_rfl) (fun _ _ _ h => h) (Or.inl ⟨by rfl, fun W hSw => by (try dsimp only at hSw); go_simp⟩) k5 ?_
  try simp only [Act.put, List.setIfInBounds_toArray, List.set_cons_zero, List.set_cons_succ]
  refine wpAnyH_ready (rs := [23]) (by kernel_rfl) (by simp) ?_
  refine AllReadyH.cons (o := { dst := none, op := Go.Op.store 3 (Go.Operand.tmp 112) (Go.Operand.tmp 106), type := 0, pos := "ref.go:154", after := #[{ on := 22, ground := Go.Ground.data }, { on := 11, ground := Go.Ground.data }, { on := 21, ground := Go.Ground.chain }, { on := 0, ground := Go.Ground.phase }, { on := 1, ground := Go.Ground.phase }, { on := 2, ground := Go.Ground.phase }, { on := 3, ground := Go.Ground.phase }, { on := 4, ground := Go.Ground.phase }, { on := 5, ground := Go.Ground.phase }, { on := 6, ground := Go.Ground.phase }, { on := 7, ground := Go.Ground.phase }, { on := 8, ground := Go.Ground.phase }, { on := 9, ground := Go.Ground.phase }, { on := 10, ground := Go.Ground.phase }, { on := 11, ground := Go.Ground.phase }, { on := 12, ground := Go.Ground.phase }, { on := 13, ground := Go.Ground.phase }, { on := 14, ground := Go.Ground.phase }, { on := 15, ground := Go.Ground.phase }, { on := 16, ground := Go.Ground.phase }, { on := 17, ground := Go.Ground.phase }, { on := 18, ground := Go.Ground.phase }, { on := 19, ground := Go.Ground.phase }, { on := 20, ground := Go.Ground.phase }, { on := 21, ground := Go.Ground.phase }], guard := none }) rfl (fun K hK => ?_) AllReadyH.nil
  obtain ⟨u, hu⟩ := bx_some HX5.out 8 (by decide)
  have hfr := HX5.out.frozen 8
  go_simp
  refine hK.out _ (v5.setCell ⟨B, 8, none⟩ (.int .i64 Q.d2)) (k5.far (p := ⟨B, 8, none⟩) HNE.out.1 (.int .i64 Q.d2)) (fun k6 => ?_)
  obtain ⟨v6, hv6⟩ : ∃ x, x = v5.setCell ⟨B, 8, none⟩ (.int .i64 Q.d2) := ⟨_, rfl⟩
  rw [← hv6] at k6 ⊢
  have HX6 := Lib.hid (show Bx v6 B 28 ((((((Q.hd.set 9 Q.l1).set 10 Q.l2).set 5 Q.b1).set 6 Q.d1).set 7 Q.b2).set 8 Q.d2).cs from by rw [hv6]; exact bx_put HX5.out 8 (by decide) _)
  have HY6 := Lib.hid (show Bx v6 R 28 Ins.zero.cs from by rw [hv6]; exact HY5.out.far (p := ⟨B, 8, none⟩) HNE.out.2.1 _)
  have HZ6 := Lib.hid (show Below w.heap.size w v6 from by rw [hv6]; exact HZ5.out.setCell (p := ⟨B, 8, none⟩) HNE.out.2.2.2 _)
  clear hu hfr hv6
  clear hK K
  try simp only [List.setIfInBounds_toArray, List.set_cons_zero, List.set_cons_succ]
  refine wpAnyH_done (by kernel_rfl) ?_ _
  refine onlyN_normal ?_
  have B4 : Bx v6 B 28 (ownQ 6 Q).cs := HX6.out
  have R4 := HY6.out
  have W4 := HZ6.out
  have HVV := HV.out
  clear HV
  generalize ownQ 6 Q = P at B4 HVV
  have HV := Lib.hid HVV
  obtain ⟨b0, b1, b2, b3, b4, b5, b6, b7, b8, b9, b10, b11⟩ := bx_cells B4
  obtain ⟨r0, r1, r2, r3, r4, r5, r6, r7, r8, r9, r10, r11, f0, f1, f2, f3, f4, f5, f6, f7, f8, f9, f10, f11⟩ := bx_zero R4
  have HR4 := Lib.hid R4
  have HW4 := Lib.hid W4
  clear B4 R4 W4 HVV k0 k1 k2 k3 k4 k5 k6
  go_wp2
  exact bodyPost_ret (results_c rfl rfl (load_ins (put12_at HR4.out P))) rfl ⟨by rw [← HV.out], put12_below HW4.out HNE.out.2.2.1 P⟩
end E
end Go.Proofs.YtaodghaicmjadaaDoor

/- Instructions: the fields of the formats RR to RS. -/
import Derived.Test.YtbcncohjjnmdcaaGreatDoorRows
import Derived.Test.YtbcncohjjnmdcaaGreatDoorIsFld
namespace Go.Proofs.YtbcncohjjnmdcaaGreatDoor
open Go.RowKit Go.Shelf
set_option linter.unusedVariables false
namespace E
set_option maxRecDepth 100000 in
set_option maxHeartbeats 2000000 in
theorem fieldsRR : FieldsAt 1 := by
  intro l J Jx base Bi B W hY hD hbW hB hBi hne bi cf h0
  obtain ⟨W3, hW3⟩ : ∃ W3, W3 = ((W.alloc (.cells #[.func (.yield l) #[] #[]] 131)).alloc (.cells #[.int .i64 0] 3)).alloc (.cells #[halfV W.heap.size] 132) := ⟨_, rfl⟩
  have hg3 : W.grownBy W3 none := by
    rw [hW3]
    exact grown_of8 (((below_new W _).alloc (by simp) _).alloc (by simp; omega) _) none
  have hfx : Fx l W.heap.size (W.heap.size + 1 + 1) Bi B W3 := by
    rw [hW3]
    exact ⟨((Boxed.new W _ _).alloc _).alloc _, boxed_new38 W _ _ _ _, ((bi.alloc _).alloc _).alloc _⟩
  have hu : Boxed W3 (W.heap.size + 1) 3 (.int .i64 0) := by
    rw [hW3]
    exact (boxed_new28 W _ _ _).alloc _
  have cf3 : W3.cell? ⟨B, 1, none⟩ = some (.int .i64 1) := by
    rw [hW3]
    exact Lib.cell?_alloc_some _ (Lib.cell?_alloc_some _ (Lib.cell?_alloc_some _ cf))
  have hnum : base ≤ W.heap.size ∧ B < base ∧ Bi < base ∧ Bi ≠ B := ⟨hbW, hB, hBi, hne⟩
  have HNUM := Lib.hid hnum
  have HUB := Lib.hid (show ¬ W.heap.size + 1 = B by omega)
  have HY := Lib.hid hY
  have HD := Lib.hid hD
  have HU0L := Lib.hid (show base ≤ W.heap.size + 1 by omega)
  have HW3 := Lib.hid hW3
  have hX0 : Fx l W.heap.size (W.heap.size + 1 + 1) Bi B W3.drew := hfx.drew
  have HX0 := Lib.hid hX0
  have hU0 : Boxed W3.drew (W.heap.size + 1) 3 (.int .i64 0) := hu.kept (grown_drewN W3 1 none) (by simp)
  have HU0 := Lib.hid hU0
  have hJ0 : J [] W3.drew := hD _ _ _ (hD _ _ _ h0 hg3) (grown_drewN W3 1 none)
  have HJ0 := Lib.hid hJ0
  have HNB := Lib.hid (fun (X Y : World) (hk : Kb base Bi B X Y) (hx : Fx l W.heap.size (W.heap.size + 1 + 1) Bi B X) => hx.next hk (by omega) (by omega) (by omega) (.inl (by omega)) (.inl (by omega)))
  have HNU := Lib.hid (fun (X Y : World) (hk : Kb base Bi (W.heap.size + 1) X Y) (hx : Fx l W.heap.size (W.heap.size + 1 + 1) Bi B X) => hx.next hk (by omega) (by omega) (by omega) (.inl (by omega)) (.inl (by omega)))
  have HH := Lib.hid (fun (pre : List (Addr × Nat)) (k : Nat) (X : World) (hk : k < 12) (hp : PfF 1 B (pre ++ [(⟨B, k, none⟩, 4)])) (hj : J pre X) (hx : Fx l W.heap.size (W.heap.size + 1 + 1) Bi B X) => half_any l W.heap.size pre (⟨B, k, none⟩, 4) J Jx (Kb base Bi B) X rfl hx.1 (fun hj => hY _ _ _ ⟨hp, .inl ⟨k, hk, rfl⟩⟩ hj) hj)
  have HW := Lib.hid (fun (pre : List (Addr × Nat)) (k : Nat) (X : World) (hk : k < 12) (hp : PfF 1 B (pre ++ [(⟨B, k, none⟩, 8)])) (hj : J pre X) (hx : Fx l W.heap.size (W.heap.size + 1 + 1) Bi B X) => whole_any l W.heap.size pre (⟨B, k, none⟩, 8) J Jx (Kb base Bi B) X rfl hx.1 (fun hj => hY _ _ _ ⟨hp, .inl ⟨k, hk, rfl⟩⟩ hj) hj)
  have HHU := Lib.hid (fun (pre : List (Addr × Nat)) (X : World) (hu : Boxed X (W.heap.size + 1) 3 (.int .i64 0)) (hp : PfF 1 B (pre ++ [(⟨W.heap.size + 1, 0, none⟩, 4)])) (hj : J pre X) (hx : Fx l W.heap.size (W.heap.size + 1 + 1) Bi B X) => half_any l W.heap.size pre (⟨W.heap.size + 1, 0, none⟩, 4) J Jx (Kb base Bi (W.heap.size + 1)) X rfl hx.1 (fun hj => hY _ _ _ ⟨hp, .inr ⟨W.heap.size + 1, by omega, rfl, hu⟩⟩ hj) hj)
  have HWU := Lib.hid (fun (pre : List (Addr × Nat)) (X : World) (hu : Boxed X (W.heap.size + 1) 3 (.int .i64 0)) (hp : PfF 1 B (pre ++ [(⟨W.heap.size + 1, 0, none⟩, 8)])) (hj : J pre X) (hx : Fx l W.heap.size (W.heap.size + 1 + 1) Bi B X) => whole_any l W.heap.size pre (⟨W.heap.size + 1, 0, none⟩, 8) J Jx (Kb base Bi (W.heap.size + 1)) X rfl hx.1 (fun hj => hY _ _ _ ⟨hp, .inr ⟨W.heap.size + 1, by omega, rfl, hu⟩⟩ hj) hj)
  have HF := Lib.hid (fun (pre : List (Addr × Nat)) (X : World) (hp1 : PfF 1 B (pre ++ [(⟨B, 5, none⟩, 4)])) (hp2 : PfF 1 B ((pre ++ [(⟨B, 5, none⟩, 4)]) ++ [(⟨B, 6, none⟩, 12)])) (hj : J pre X) (hx : Fx l W.heap.size (W.heap.size + 1 + 1) Bi B X) => first_any (PfF 1 B) l J Jx base Bi B W.heap.size (W.heap.size + 1 + 1) pre X hY hD hbW (by omega) hne hx.2.1 hx.2.2 hx.1 hj hp1 hp2)
  have HSC := Lib.hid (fun (pre : List (Addr × Nat)) (X : World) (hp1 : PfF 1 B (pre ++ [(⟨B, 7, none⟩, 4)])) (hp2 : PfF 1 B ((pre ++ [(⟨B, 7, none⟩, 4)]) ++ [(⟨B, 8, none⟩, 12)])) (hj : J pre X) (hx : Fx l W.heap.size (W.heap.size + 1 + 1) Bi B X) => second_any (PfF 1 B) l J Jx base Bi B W.heap.size (W.heap.size + 1 + 1) pre X hY hD hbW (by omega) hne hx.2.1 hx.2.2 hx.1 hj hp1 hp2)
  have ci0 := hfx.2.2.cell
  have ch0 := hfx.2.1.cell
  have hi3 : W3.cell? ⟨Bi, 0, none⟩ = some (.pointer (some ⟨B, 0, none⟩)) := ci0
  unfold halfV at ch0 hW3
  clear hY hD hg3 hfx hu hnum hX0 hU0 hJ0 h0 bi cf hbW hB hBi hne HW3
  go_enter Tryz.func120, Tryz.ntmps120
  rw [hW3] at cf3 ci0 ch0 hi3
  go_wp2_with fail
  rw [← hW3]
  clear cf3 ci0 ch0 hi3 hW3
  refine only_wp ?_
  refine wp_region_held_drew (S := Fx l W.heap.size (W.heap.size + 1 + 1) Bi B) (by kernel_rfl) HX0.out (fun k0 => ?_)
  show wpAnyH _ _ _ _ _ 12 #[false, false, false, false, false, false, false, false, false, false, false, false] _ _
  refine wpAnyH_take (i := 0) (oi := ⟨some 18, _, _, _, _, _⟩) (v := .func (.func 121) #[] #[.pointer (some ⟨W.heap.size, 0, none⟩)]) rfl (by kernel_rfl) (by kernel_rfl) (by kernel_rfl) (fun _ _ _ h => h) (Or.inl ⟨by rfl, fun W hSw => by obtain ⟨s1, s2, s3⟩ := hSw; have c1 := s2.cell; have c2 := s3.cell; unfold halfV at c1; clear s1 s2 s3; go_simp⟩) k0 ?_
  try simp only [Act.put, List.setIfInBounds_toArray, List.set_cons_zero, List.set_cons_succ]
  refine wpAnyH_take (i := 1) (oi := ⟨some 19, _, _, _, _, _⟩) (v := .pointer (some ⟨B, 0, none⟩)) rfl (by kernel_rfl) (by kernel_rfl) (by kernel_rfl) (fun _ _ _ h => h) (Or.inl ⟨by rfl, fun W hSw => by obtain ⟨s1, s2, s3⟩ := hSw; have c1 := s2.cell; have c2 := s3.cell; unfold halfV at c1; clear s1 s2 s3; go_simp⟩) k0 ?_
  try simp only [Act.put, List.setIfInBounds_toArray, List.set_cons_zero, List.set_cons_succ]
  refine wpAnyH_take (i := 2) (oi := ⟨some 20, _, _, _, _, _⟩) (v := .pointer (some ⟨B, 0, none⟩)) rfl (by kernel_rfl) (by kernel_rfl) (by kernel_rfl) (fun _ _ _ h => h) (Or.inl ⟨by rfl, fun W hSw => by clear hSw; go_simp⟩) k0 ?_
  try simp only [Act.put, List.setIfInBounds_toArray, List.set_cons_zero, List.set_cons_succ]
  refine wpAnyH_take (i := 3) (oi := ⟨some 21, _, _, _, _, _⟩) (v := .pointer (some ⟨B, 2, none⟩)) rfl (by kernel_rfl) (by kernel_rfl) (by kernel_rfl) (fun _ _ _ h => h) (Or.inl ⟨by rfl, fun W hSw => by clear hSw; go_simp⟩) k0 ?_
  try simp only [Act.put, List.setIfInBounds_toArray, List.set_cons_zero, List.set_cons_succ]
  refine wpAnyH_ready (rs := [4]) (by kernel_rfl) (by simp) ?_
  refine AllReadyH.cons (o := ⟨some 22, _, _, _, _, _⟩) rfl (fun K hK => ?_) AllReadyH.nil
  go_simp
  refine ((HH.out _ 2 _ (by omega) (by have := HUB.out; simp [PfF, kd, fldsT]) HJ0.out HX0.out)).mono ?_
  rintro e w1 hor
  rcases hor with ⟨hk0, ⟨rfl, hj0⟩ | ⟨rfl, hj0⟩⟩
  · have HX1 := Lib.hid (HNB.out _ _ hk0 HX0.out)
    have HJ1 := Lib.hid hj0
    clear hj0 hk0
    go_wp2_with fail
    refine hK.out _ _ HX1.out (fun k1 => ?_)
    clear hK K
    try simp only [List.setIfInBounds_toArray, List.set_cons_zero, List.set_cons_succ]
    refine wpAnyH_take (i := 5) (oi := ⟨some 23, _, _, _, _, _⟩) (v := .bool true) rfl (by kernel_rfl) (by kernel_rfl) (by kernel_rfl) (fun _ _ _ h => h) (Or.inl ⟨by rfl, fun W hSw => by clear hSw; go_simp⟩) k1 ?_
    try simp only [Act.put, List.setIfInBounds_toArray, List.set_cons_zero, List.set_cons_succ]
    refine wpAnyH_take (i := 6) (oi := ⟨some 24, _, _, _, _, _⟩) (v := .func (.func 121) #[] #[.pointer (some ⟨W.heap.size, 0, none⟩)]) rfl (by kernel_rfl) (by kernel_rfl) (by kernel_rfl) (fun _ _ _ h => h) (Or.inl ⟨by rfl, fun W hSw => by obtain ⟨s1, s2, s3⟩ := hSw; have c1 := s2.cell; have c2 := s3.cell; unfold halfV at c1; clear s1 s2 s3; go_simp⟩) k1 ?_
    try simp only [Act.put, List.setIfInBounds_toArray, List.set_cons_zero, List.set_cons_succ]
    refine wpAnyH_take (i := 7) (oi := ⟨some 25, _, _, _, _, _⟩) (v := .pointer (some ⟨B, 0, none⟩)) rfl (by kernel_rfl) (by kernel_rfl) (by kernel_rfl) (fun _ _ _ h => h) (Or.inl ⟨by rfl, fun W hSw => by obtain ⟨s1, s2, s3⟩ := hSw; have c1 := s2.cell; have c2 := s3.cell; unfold halfV at c1; clear s1 s2 s3; go_simp⟩) k1 ?_
    try simp only [Act.put, List.setIfInBounds_toArray, List.set_cons_zero, List.set_cons_succ]
    refine wpAnyH_take (i := 8) (oi := ⟨some 26, _, _, _, _, _⟩) (v := .pointer (some ⟨B, 0, none⟩)) rfl (by kernel_rfl) (by kernel_rfl) (by kernel_rfl) (fun _ _ _ h => h) (Or.inl ⟨by rfl, fun W hSw => by clear hSw; go_simp⟩) k1 ?_
    try simp only [Act.put, List.setIfInBounds_toArray, List.set_cons_zero, List.set_cons_succ]
    refine wpAnyH_take (i := 9) (oi := ⟨some 27, _, _, _, _, _⟩) (v := .pointer (some ⟨B, 3, none⟩)) rfl (by kernel_rfl) (by kernel_rfl) (by kernel_rfl) (fun _ _ _ h => h) (Or.inl ⟨by rfl, fun W hSw => by clear hSw; go_simp⟩) k1 ?_
    try simp only [Act.put, List.setIfInBounds_toArray, List.set_cons_zero, List.set_cons_succ]
    refine wpAnyH_ready (rs := [10]) (by kernel_rfl) (by simp) ?_
    refine AllReadyH.cons (o := ⟨some 28, _, _, _, _, _⟩) rfl (fun K hK => ?_) AllReadyH.nil
    go_simp
    refine ((HH.out _ 3 _ (by omega) (by have := HUB.out; simp [PfF, kd, fldsT]) HJ1.out HX1.out)).mono ?_
    rintro e w2 hor
    rcases hor with ⟨hk1, ⟨rfl, hj1⟩ | ⟨rfl, hj1⟩⟩
    · have HX2 := Lib.hid (HNB.out _ _ hk1 HX1.out)
      have HJ2 := Lib.hid hj1
      clear hj1 hk1
      go_wp2_with fail
      refine hK.out _ _ HX2.out (fun k2 => ?_)
      clear hK K
      try simp only [List.setIfInBounds_toArray, List.set_cons_zero, List.set_cons_succ]
      refine wpAnyH_take (i := 11) (oi := ⟨some 29, _, _, _, _, _⟩) (v := .bool true) rfl (by kernel_rfl) (by kernel_rfl) (by kernel_rfl) (fun _ _ _ h => h) (Or.inl ⟨by rfl, fun W hSw => by clear hSw; go_simp⟩) k2 ?_
      try simp only [Act.put, List.setIfInBounds_toArray, List.set_cons_zero, List.set_cons_succ]
      refine wpAnyH_done (by kernel_rfl) ?_ _
      refine onlyN_normal ?_
      go_wp2
      go_end0
      exact ⟨⟨_, rfl⟩, .inl ⟨_, ⟨_, HU0L.out, rfl⟩, HJ2.out⟩⟩
    · have HX2 := Lib.hid (HNB.out _ _ hk1 HX1.out)
      have HJ2 := Lib.hid hj1
      clear hj1 hk1
      go_wp2_with fail
      refine hK.out _ _ HX2.out (fun k2 => ?_)
      clear hK K
      try simp only [List.setIfInBounds_toArray, List.set_cons_zero, List.set_cons_succ]
      refine wpAnyH_take (i := 11) (oi := ⟨some 29, _, _, _, _, _⟩) (v := .bool false) rfl (by kernel_rfl) (by kernel_rfl) (by kernel_rfl) (fun _ _ _ h => h) (Or.inl ⟨by rfl, fun W hSw => by clear hSw; go_simp⟩) k2 ?_
      try simp only [Act.put, List.setIfInBounds_toArray, List.set_cons_zero, List.set_cons_succ]
      refine wpAnyH_done (by kernel_rfl) ?_ _
      refine onlyN_normal ?_
      go_wp2
      go_end0
      exact ⟨⟨_, rfl⟩, .inr HJ2.out⟩
  · have HX1 := Lib.hid (HNB.out _ _ hk0 HX0.out)
    have HJ1 := Lib.hid hj0
    clear hj0 hk0
    go_wp2_with fail
    refine hK.out _ _ HX1.out (fun k1 => ?_)
    clear hK K
    try simp only [List.setIfInBounds_toArray, List.set_cons_zero, List.set_cons_succ]
    refine wpAnyH_take (i := 5) (oi := ⟨some 23, _, _, _, _, _⟩) (v := .bool false) rfl (by kernel_rfl) (by kernel_rfl) (by kernel_rfl) (fun _ _ _ h => h) (Or.inl ⟨by rfl, fun W hSw => by clear hSw; go_simp⟩) k1 ?_
    try simp only [Act.put, List.setIfInBounds_toArray, List.set_cons_zero, List.set_cons_succ]
    refine wpAnyH_take (i := 6) (oi := ⟨some 24, _, _, _, _, _⟩) (v := undef) rfl (by kernel_rfl) (by kernel_rfl) (by kernel_rfl) (fun _ _ _ h => h) (Or.inr ⟨by rfl, rfl⟩) k1 ?_
    try simp only [Act.put, List.setIfInBounds_toArray, List.set_cons_zero, List.set_cons_succ]
    refine wpAnyH_take (i := 7) (oi := ⟨some 25, _, _, _, _, _⟩) (v := undef) rfl (by kernel_rfl) (by kernel_rfl) (by kernel_rfl) (fun _ _ _ h => h) (Or.inr ⟨by rfl, rfl⟩) k1 ?_
    try simp only [Act.put, List.setIfInBounds_toArray, List.set_cons_zero, List.set_cons_succ]
    refine wpAnyH_take (i := 8) (oi := ⟨some 26, _, _, _, _, _⟩) (v := undef) rfl (by kernel_rfl) (by kernel_rfl) (by kernel_rfl) (fun _ _ _ h => h) (Or.inr ⟨by rfl, rfl⟩) k1 ?_
    try simp only [Act.put, List.setIfInBounds_toArray, List.set_cons_zero, List.set_cons_succ]
    refine wpAnyH_take (i := 9) (oi := ⟨some 27, _, _, _, _, _⟩) (v := undef) rfl (by kernel_rfl) (by kernel_rfl) (by kernel_rfl) (fun _ _ _ h => h) (Or.inr ⟨by rfl, rfl⟩) k1 ?_
    try simp only [Act.put, List.setIfInBounds_toArray, List.set_cons_zero, List.set_cons_succ]
    refine wpAnyH_take (i := 10) (oi := ⟨some 28, _, _, _, _, _⟩) (v := undef) rfl (by kernel_rfl) (by kernel_rfl) (by kernel_rfl) (fun _ _ _ h => h) (Or.inr ⟨by rfl, rfl⟩) k1 ?_
    try simp only [Act.put, List.setIfInBounds_toArray, List.set_cons_zero, List.set_cons_succ]
    refine wpAnyH_take (i := 11) (oi := ⟨some 29, _, _, _, _, _⟩) (v := .bool false) rfl (by kernel_rfl) (by kernel_rfl) (by kernel_rfl) (fun _ _ _ h => h) (Or.inl ⟨by rfl, fun W hSw => by clear hSw; go_simp⟩) k1 ?_
    try simp only [Act.put, List.setIfInBounds_toArray, List.set_cons_zero, List.set_cons_succ]
    refine wpAnyH_done (by kernel_rfl) ?_ _
    refine onlyN_normal ?_
    go_wp2
    go_end0
    exact ⟨⟨_, rfl⟩, .inr HJ1.out⟩

set_option maxRecDepth 100000 in
set_option maxHeartbeats 2000000 in
theorem fieldsRR1 : FieldsAt 8 := by
  intro l J Jx base Bi B W hY hD hbW hB hBi hne bi cf h0
  obtain ⟨W3, hW3⟩ : ∃ W3, W3 = ((W.alloc (.cells #[.func (.yield l) #[] #[]] 131)).alloc (.cells #[.int .i64 0] 3)).alloc (.cells #[halfV W.heap.size] 132) := ⟨_, rfl⟩
  have hg3 : W.grownBy W3 none := by
    rw [hW3]
    exact grown_of8 (((below_new W _).alloc (by simp) _).alloc (by simp; omega) _) none
  have hfx : Fx l W.heap.size (W.heap.size + 1 + 1) Bi B W3 := by
    rw [hW3]
    exact ⟨((Boxed.new W _ _).alloc _).alloc _, boxed_new38 W _ _ _ _, ((bi.alloc _).alloc _).alloc _⟩
  have hu : Boxed W3 (W.heap.size + 1) 3 (.int .i64 0) := by
    rw [hW3]
    exact (boxed_new28 W _ _ _).alloc _
  have cf3 : W3.cell? ⟨B, 1, none⟩ = some (.int .i64 8) := by
    rw [hW3]
    exact Lib.cell?_alloc_some _ (Lib.cell?_alloc_some _ (Lib.cell?_alloc_some _ cf))
  have hnum : base ≤ W.heap.size ∧ B < base ∧ Bi < base ∧ Bi ≠ B := ⟨hbW, hB, hBi, hne⟩
  have HNUM := Lib.hid hnum
  have HUB := Lib.hid (show ¬ W.heap.size + 1 = B by omega)
  have HY := Lib.hid hY
  have HD := Lib.hid hD
  have HU0L := Lib.hid (show base ≤ W.heap.size + 1 by omega)
  have HW3 := Lib.hid hW3
  have hX0 : Fx l W.heap.size (W.heap.size + 1 + 1) Bi B W3.drew := hfx.drew
  have HX0 := Lib.hid hX0
  have hU0 : Boxed W3.drew (W.heap.size + 1) 3 (.int .i64 0) := hu.kept (grown_drewN W3 1 none) (by simp)
  have HU0 := Lib.hid hU0
  have hJ0 : J [] W3.drew := hD _ _ _ (hD _ _ _ h0 hg3) (grown_drewN W3 1 none)
  have HJ0 := Lib.hid hJ0
  have HNB := Lib.hid (fun (X Y : World) (hk : Kb base Bi B X Y) (hx : Fx l W.heap.size (W.heap.size + 1 + 1) Bi B X) => hx.next hk (by omega) (by omega) (by omega) (.inl (by omega)) (.inl (by omega)))
  have HNU := Lib.hid (fun (X Y : World) (hk : Kb base Bi (W.heap.size + 1) X Y) (hx : Fx l W.heap.size (W.heap.size + 1 + 1) Bi B X) => hx.next hk (by omega) (by omega) (by omega) (.inl (by omega)) (.inl (by omega)))
  have HH := Lib.hid (fun (pre : List (Addr × Nat)) (k : Nat) (X : World) (hk : k < 12) (hp : PfF 8 B (pre ++ [(⟨B, k, none⟩, 4)])) (hj : J pre X) (hx : Fx l W.heap.size (W.heap.size + 1 + 1) Bi B X) => half_any l W.heap.size pre (⟨B, k, none⟩, 4) J Jx (Kb base Bi B) X rfl hx.1 (fun hj => hY _ _ _ ⟨hp, .inl ⟨k, hk, rfl⟩⟩ hj) hj)
  have HW := Lib.hid (fun (pre : List (Addr × Nat)) (k : Nat) (X : World) (hk : k < 12) (hp : PfF 8 B (pre ++ [(⟨B, k, none⟩, 8)])) (hj : J pre X) (hx : Fx l W.heap.size (W.heap.size + 1 + 1) Bi B X) => whole_any l W.heap.size pre (⟨B, k, none⟩, 8) J Jx (Kb base Bi B) X rfl hx.1 (fun hj => hY _ _ _ ⟨hp, .inl ⟨k, hk, rfl⟩⟩ hj) hj)
  have HHU := Lib.hid (fun (pre : List (Addr × Nat)) (X : World) (hu : Boxed X (W.heap.size + 1) 3 (.int .i64 0)) (hp : PfF 8 B (pre ++ [(⟨W.heap.size + 1, 0, none⟩, 4)])) (hj : J pre X) (hx : Fx l W.heap.size (W.heap.size + 1 + 1) Bi B X) => half_any l W.heap.size pre (⟨W.heap.size + 1, 0, none⟩, 4) J Jx (Kb base Bi (W.heap.size + 1)) X rfl hx.1 (fun hj => hY _ _ _ ⟨hp, .inr ⟨W.heap.size + 1, by omega, rfl, hu⟩⟩ hj) hj)
  have HWU := Lib.hid (fun (pre : List (Addr × Nat)) (X : World) (hu : Boxed X (W.heap.size + 1) 3 (.int .i64 0)) (hp : PfF 8 B (pre ++ [(⟨W.heap.size + 1, 0, none⟩, 8)])) (hj : J pre X) (hx : Fx l W.heap.size (W.heap.size + 1 + 1) Bi B X) => whole_any l W.heap.size pre (⟨W.heap.size + 1, 0, none⟩, 8) J Jx (Kb base Bi (W.heap.size + 1)) X rfl hx.1 (fun hj => hY _ _ _ ⟨hp, .inr ⟨W.heap.size + 1, by omega, rfl, hu⟩⟩ hj) hj)
  have HF := Lib.hid (fun (pre : List (Addr × Nat)) (X : World) (hp1 : PfF 8 B (pre ++ [(⟨B, 5, none⟩, 4)])) (hp2 : PfF 8 B ((pre ++ [(⟨B, 5, none⟩, 4)]) ++ [(⟨B, 6, none⟩, 12)])) (hj : J pre X) (hx : Fx l W.heap.size (W.heap.size + 1 + 1) Bi B X) => first_any (PfF 8 B) l J Jx base Bi B W.heap.size (W.heap.size + 1 + 1) pre X hY hD hbW (by omega) hne hx.2.1 hx.2.2 hx.1 hj hp1 hp2)
  have HSC := Lib.hid (fun (pre : List (Addr × Nat)) (X : World) (hp1 : PfF 8 B (pre ++ [(⟨B, 7, none⟩, 4)])) (hp2 : PfF 8 B ((pre ++ [(⟨B, 7, none⟩, 4)]) ++ [(⟨B, 8, none⟩, 12)])) (hj : J pre X) (hx : Fx l W.heap.size (W.heap.size + 1 + 1) Bi B X) => second_any (PfF 8 B) l J Jx base Bi B W.heap.size (W.heap.size + 1 + 1) pre X hY hD hbW (by omega) hne hx.2.1 hx.2.2 hx.1 hj hp1 hp2)
  have ci0 := hfx.2.2.cell
  have ch0 := hfx.2.1.cell
  have hi3 : W3.cell? ⟨Bi, 0, none⟩ = some (.pointer (some ⟨B, 0, none⟩)) := ci0
  unfold halfV at ch0 hW3
  clear hY hD hg3 hfx hu hnum hX0 hU0 hJ0 h0 bi cf hbW hB hBi hne HW3
  go_enter Tryz.func120, Tryz.ntmps120
  rw [hW3] at cf3 ci0 ch0 hi3
  go_wp2_with fail
  rw [← hW3]
  clear cf3 ci0 ch0 hi3 hW3
  refine only_wp ?_
  refine wp_region_held_drew (S := Fx l W.heap.size (W.heap.size + 1 + 1) Bi B) (by kernel_rfl) HX0.out (fun k0 => ?_)
  show wpAnyH _ _ _ _ _ 9 #[false, false, false, false, false, false, false, false, false] _ _
  refine wpAnyH_take (i := 0) (oi := ⟨some 32, _, _, _, _, _⟩) (v := .func (.func 121) #[] #[.pointer (some ⟨W.heap.size, 0, none⟩)]) rfl (by kernel_rfl) (by kernel_rfl) (by kernel_rfl) (fun _ _ _ h => h) (Or.inl ⟨by rfl, fun W hSw => by obtain ⟨s1, s2, s3⟩ := hSw; have c1 := s2.cell; have c2 := s3.cell; unfold halfV at c1; clear s1 s2 s3; go_simp⟩) k0 ?_
  try simp only [Act.put, List.setIfInBounds_toArray, List.set_cons_zero, List.set_cons_succ]
  refine wpAnyH_take (i := 1) (oi := ⟨some 33, _, _, _, _, _⟩) (v := .pointer (some ⟨B, 0, none⟩)) rfl (by kernel_rfl) (by kernel_rfl) (by kernel_rfl) (fun _ _ _ h => h) (Or.inl ⟨by rfl, fun W hSw => by obtain ⟨s1, s2, s3⟩ := hSw; have c1 := s2.cell; have c2 := s3.cell; unfold halfV at c1; clear s1 s2 s3; go_simp⟩) k0 ?_
  try simp only [Act.put, List.setIfInBounds_toArray, List.set_cons_zero, List.set_cons_succ]
  refine wpAnyH_take (i := 2) (oi := ⟨some 34, _, _, _, _, _⟩) (v := .pointer (some ⟨B, 0, none⟩)) rfl (by kernel_rfl) (by kernel_rfl) (by kernel_rfl) (fun _ _ _ h => h) (Or.inl ⟨by rfl, fun W hSw => by clear hSw; go_simp⟩) k0 ?_
  try simp only [Act.put, List.setIfInBounds_toArray, List.set_cons_zero, List.set_cons_succ]
  refine wpAnyH_take (i := 3) (oi := ⟨some 35, _, _, _, _, _⟩) (v := .pointer (some ⟨B, 2, none⟩)) rfl (by kernel_rfl) (by kernel_rfl) (by kernel_rfl) (fun _ _ _ h => h) (Or.inl ⟨by rfl, fun W hSw => by clear hSw; go_simp⟩) k0 ?_
  try simp only [Act.put, List.setIfInBounds_toArray, List.set_cons_zero, List.set_cons_succ]
  refine wpAnyH_ready (rs := [4]) (by kernel_rfl) (by simp) ?_
  refine AllReadyH.cons (o := ⟨some 36, _, _, _, _, _⟩) rfl (fun K hK => ?_) AllReadyH.nil
  go_simp
  refine ((HH.out _ 2 _ (by omega) (by have := HUB.out; simp [PfF, kd, fldsT]) HJ0.out HX0.out)).mono ?_
  rintro e w1 hor
  rcases hor with ⟨hk0, ⟨rfl, hj0⟩ | ⟨rfl, hj0⟩⟩
  · have HX1 := Lib.hid (HNB.out _ _ hk0 HX0.out)
    have HU1 := Lib.hid (hk0.boxed HU0.out (by have := HNUM.out; omega) (.inl (by have := HNUM.out; omega)))
    have HJ1 := Lib.hid hj0
    clear hj0 hk0
    go_wp2_with fail
    refine hK.out _ _ HX1.out (fun k1 => ?_)
    clear hK K
    try simp only [List.setIfInBounds_toArray, List.set_cons_zero, List.set_cons_succ]
    refine wpAnyH_take (i := 5) (oi := ⟨some 37, _, _, _, _, _⟩) (v := .bool true) rfl (by kernel_rfl) (by kernel_rfl) (by kernel_rfl) (fun _ _ _ h => h) (Or.inl ⟨by rfl, fun W hSw => by clear hSw; go_simp⟩) k1 ?_
    try simp only [Act.put, List.setIfInBounds_toArray, List.set_cons_zero, List.set_cons_succ]
    refine wpAnyH_take (i := 6) (oi := ⟨some 38, _, _, _, _, _⟩) (v := .func (.func 121) #[] #[.pointer (some ⟨W.heap.size, 0, none⟩)]) rfl (by kernel_rfl) (by kernel_rfl) (by kernel_rfl) (fun _ _ _ h => h) (Or.inl ⟨by rfl, fun W hSw => by obtain ⟨s1, s2, s3⟩ := hSw; have c1 := s2.cell; have c2 := s3.cell; unfold halfV at c1; clear s1 s2 s3; go_simp⟩) k1 ?_
    try simp only [Act.put, List.setIfInBounds_toArray, List.set_cons_zero, List.set_cons_succ]
    refine wpAnyH_ready (rs := [7]) (by kernel_rfl) (by simp) ?_
    refine AllReadyH.cons (o := ⟨some 39, _, _, _, _, _⟩) rfl (fun K hK => ?_) AllReadyH.nil
    go_simp
    refine ((HHU.out _ _ HU1.out (by have := HUB.out; simp [PfF, kd, fldsT, this]) HJ1.out HX1.out)).mono ?_
    rintro e w2 hor
    rcases hor with ⟨hk1, ⟨rfl, hj1⟩ | ⟨rfl, hj1⟩⟩
    · have HX2 := Lib.hid (HNU.out _ _ hk1 HX1.out)
      have HJ2 := Lib.hid hj1
      clear hj1 hk1
      go_wp2_with fail
      refine hK.out _ _ HX2.out (fun k2 => ?_)
      clear hK K
      try simp only [List.setIfInBounds_toArray, List.set_cons_zero, List.set_cons_succ]
      refine wpAnyH_take (i := 8) (oi := ⟨some 40, _, _, _, _, _⟩) (v := .bool true) rfl (by kernel_rfl) (by kernel_rfl) (by kernel_rfl) (fun _ _ _ h => h) (Or.inl ⟨by rfl, fun W hSw => by clear hSw; go_simp⟩) k2 ?_
      try simp only [Act.put, List.setIfInBounds_toArray, List.set_cons_zero, List.set_cons_succ]
      refine wpAnyH_done (by kernel_rfl) ?_ _
      refine onlyN_normal ?_
      go_wp2
      go_end0
      exact ⟨⟨_, rfl⟩, .inl ⟨_, ⟨_, HU0L.out, rfl⟩, HJ2.out⟩⟩
    · have HX2 := Lib.hid (HNU.out _ _ hk1 HX1.out)
      have HJ2 := Lib.hid hj1
      clear hj1 hk1
      go_wp2_with fail
      refine hK.out _ _ HX2.out (fun k2 => ?_)
      clear hK K
      try simp only [List.setIfInBounds_toArray, List.set_cons_zero, List.set_cons_succ]
      refine wpAnyH_take (i := 8) (oi := ⟨some 40, _, _, _, _, _⟩) (v := .bool false) rfl (by kernel_rfl) (by kernel_rfl) (by kernel_rfl) (fun _ _ _ h => h) (Or.inl ⟨by rfl, fun W hSw => by clear hSw; go_simp⟩) k2 ?_
      try simp only [Act.put, List.setIfInBounds_toArray, List.set_cons_zero, List.set_cons_succ]
      refine wpAnyH_done (by kernel_rfl) ?_ _
      refine onlyN_normal ?_
      go_wp2
      go_end0
      exact ⟨⟨_, rfl⟩, .inr HJ2.out⟩
  · have HX1 := Lib.hid (HNB.out _ _ hk0 HX0.out)
    have HU1 := Lib.hid (hk0.boxed HU0.out (by have := HNUM.out; omega) (.inl (by have := HNUM.out; omega)))
    have HJ1 := Lib.hid hj0
    clear hj0 hk0
    go_wp2_with fail
    refine hK.out _ _ HX1.out (fun k1 => ?_)
    clear hK K
    try simp only [List.setIfInBounds_toArray, List.set_cons_zero, List.set_cons_succ]
    refine wpAnyH_take (i := 5) (oi := ⟨some 37, _, _, _, _, _⟩) (v := .bool false) rfl (by kernel_rfl) (by kernel_rfl) (by kernel_rfl) (fun _ _ _ h => h) (Or.inl ⟨by rfl, fun W hSw => by clear hSw; go_simp⟩) k1 ?_
    try simp only [Act.put, List.setIfInBounds_toArray, List.set_cons_zero, List.set_cons_succ]
    refine wpAnyH_take (i := 6) (oi := ⟨some 38, _, _, _, _, _⟩) (v := undef) rfl (by kernel_rfl) (by kernel_rfl) (by kernel_rfl) (fun _ _ _ h => h) (Or.inr ⟨by rfl, rfl⟩) k1 ?_
    try simp only [Act.put, List.setIfInBounds_toArray, List.set_cons_zero, List.set_cons_succ]
    refine wpAnyH_take (i := 7) (oi := ⟨some 39, _, _, _, _, _⟩) (v := undef) rfl (by kernel_rfl) (by kernel_rfl) (by kernel_rfl) (fun _ _ _ h => h) (Or.inr ⟨by rfl, rfl⟩) k1 ?_
    try simp only [Act.put, List.setIfInBounds_toArray, List.set_cons_zero, List.set_cons_succ]
    refine wpAnyH_take (i := 8) (oi := ⟨some 40, _, _, _, _, _⟩) (v := .bool false) rfl (by kernel_rfl) (by kernel_rfl) (by kernel_rfl) (fun _ _ _ h => h) (Or.inl ⟨by rfl, fun W hSw => by clear hSw; go_simp⟩) k1 ?_
    try simp only [Act.put, List.setIfInBounds_toArray, List.set_cons_zero, List.set_cons_succ]
    refine wpAnyH_done (by kernel_rfl) ?_ _
    refine onlyN_normal ?_
    go_wp2
    go_end0
    exact ⟨⟨_, rfl⟩, .inr HJ1.out⟩

set_option maxRecDepth 100000 in
set_option maxHeartbeats 2000000 in
theorem fieldsRRI : FieldsAt 7 := by
  intro l J Jx base Bi B W hY hD hbW hB hBi hne bi cf h0
  obtain ⟨W3, hW3⟩ : ∃ W3, W3 = ((W.alloc (.cells #[.func (.yield l) #[] #[]] 131)).alloc (.cells #[.int .i64 0] 3)).alloc (.cells #[halfV W.heap.size] 132) := ⟨_, rfl⟩
  have hg3 : W.grownBy W3 none := by
    rw [hW3]
    exact grown_of8 (((below_new W _).alloc (by simp) _).alloc (by simp; omega) _) none
  have hfx : Fx l W.heap.size (W.heap.size + 1 + 1) Bi B W3 := by
    rw [hW3]
    exact ⟨((Boxed.new W _ _).alloc _).alloc _, boxed_new38 W _ _ _ _, ((bi.alloc _).alloc _).alloc _⟩
  have hu : Boxed W3 (W.heap.size + 1) 3 (.int .i64 0) := by
    rw [hW3]
    exact (boxed_new28 W _ _ _).alloc _
  have cf3 : W3.cell? ⟨B, 1, none⟩ = some (.int .i64 7) := by
    rw [hW3]
    exact Lib.cell?_alloc_some _ (Lib.cell?_alloc_some _ (Lib.cell?_alloc_some _ cf))
  have hnum : base ≤ W.heap.size ∧ B < base ∧ Bi < base ∧ Bi ≠ B := ⟨hbW, hB, hBi, hne⟩
  have HNUM := Lib.hid hnum
  have HUB := Lib.hid (show ¬ W.heap.size + 1 = B by omega)
  have HY := Lib.hid hY
  have HD := Lib.hid hD
  have HU0L := Lib.hid (show base ≤ W.heap.size + 1 by omega)
  have HW3 := Lib.hid hW3
  have hX0 : Fx l W.heap.size (W.heap.size + 1 + 1) Bi B W3 := hfx
  have HX0 := Lib.hid hX0
  have hU0 : Boxed W3 (W.heap.size + 1) 3 (.int .i64 0) := hu
  have HU0 := Lib.hid hU0
  have hJ0 : J [] W3 := hD _ _ _ h0 hg3
  have HJ0 := Lib.hid hJ0
  have HNB := Lib.hid (fun (X Y : World) (hk : Kb base Bi B X Y) (hx : Fx l W.heap.size (W.heap.size + 1 + 1) Bi B X) => hx.next hk (by omega) (by omega) (by omega) (.inl (by omega)) (.inl (by omega)))
  have HNU := Lib.hid (fun (X Y : World) (hk : Kb base Bi (W.heap.size + 1) X Y) (hx : Fx l W.heap.size (W.heap.size + 1 + 1) Bi B X) => hx.next hk (by omega) (by omega) (by omega) (.inl (by omega)) (.inl (by omega)))
  have HH := Lib.hid (fun (pre : List (Addr × Nat)) (k : Nat) (X : World) (hk : k < 12) (hp : PfF 7 B (pre ++ [(⟨B, k, none⟩, 4)])) (hj : J pre X) (hx : Fx l W.heap.size (W.heap.size + 1 + 1) Bi B X) => half_any l W.heap.size pre (⟨B, k, none⟩, 4) J Jx (Kb base Bi B) X rfl hx.1 (fun hj => hY _ _ _ ⟨hp, .inl ⟨k, hk, rfl⟩⟩ hj) hj)
  have HW := Lib.hid (fun (pre : List (Addr × Nat)) (k : Nat) (X : World) (hk : k < 12) (hp : PfF 7 B (pre ++ [(⟨B, k, none⟩, 8)])) (hj : J pre X) (hx : Fx l W.heap.size (W.heap.size + 1 + 1) Bi B X) => whole_any l W.heap.size pre (⟨B, k, none⟩, 8) J Jx (Kb base Bi B) X rfl hx.1 (fun hj => hY _ _ _ ⟨hp, .inl ⟨k, hk, rfl⟩⟩ hj) hj)
  have HHU := Lib.hid (fun (pre : List (Addr × Nat)) (X : World) (hu : Boxed X (W.heap.size + 1) 3 (.int .i64 0)) (hp : PfF 7 B (pre ++ [(⟨W.heap.size + 1, 0, none⟩, 4)])) (hj : J pre X) (hx : Fx l W.heap.size (W.heap.size + 1 + 1) Bi B X) => half_any l W.heap.size pre (⟨W.heap.size + 1, 0, none⟩, 4) J Jx (Kb base Bi (W.heap.size + 1)) X rfl hx.1 (fun hj => hY _ _ _ ⟨hp, .inr ⟨W.heap.size + 1, by omega, rfl, hu⟩⟩ hj) hj)
  have HWU := Lib.hid (fun (pre : List (Addr × Nat)) (X : World) (hu : Boxed X (W.heap.size + 1) 3 (.int .i64 0)) (hp : PfF 7 B (pre ++ [(⟨W.heap.size + 1, 0, none⟩, 8)])) (hj : J pre X) (hx : Fx l W.heap.size (W.heap.size + 1 + 1) Bi B X) => whole_any l W.heap.size pre (⟨W.heap.size + 1, 0, none⟩, 8) J Jx (Kb base Bi (W.heap.size + 1)) X rfl hx.1 (fun hj => hY _ _ _ ⟨hp, .inr ⟨W.heap.size + 1, by omega, rfl, hu⟩⟩ hj) hj)
  have HF := Lib.hid (fun (pre : List (Addr × Nat)) (X : World) (hp1 : PfF 7 B (pre ++ [(⟨B, 5, none⟩, 4)])) (hp2 : PfF 7 B ((pre ++ [(⟨B, 5, none⟩, 4)]) ++ [(⟨B, 6, none⟩, 12)])) (hj : J pre X) (hx : Fx l W.heap.size (W.heap.size + 1 + 1) Bi B X) => first_any (PfF 7 B) l J Jx base Bi B W.heap.size (W.heap.size + 1 + 1) pre X hY hD hbW (by omega) hne hx.2.1 hx.2.2 hx.1 hj hp1 hp2)
  have HSC := Lib.hid (fun (pre : List (Addr × Nat)) (X : World) (hp1 : PfF 7 B (pre ++ [(⟨B, 7, none⟩, 4)])) (hp2 : PfF 7 B ((pre ++ [(⟨B, 7, none⟩, 4)]) ++ [(⟨B, 8, none⟩, 12)])) (hj : J pre X) (hx : Fx l W.heap.size (W.heap.size + 1 + 1) Bi B X) => second_any (PfF 7 B) l J Jx base Bi B W.heap.size (W.heap.size + 1 + 1) pre X hY hD hbW (by omega) hne hx.2.1 hx.2.2 hx.1 hj hp1 hp2)
  have ci0 := hfx.2.2.cell
  have ch0 := hfx.2.1.cell
  have hi3 : W3.cell? ⟨Bi, 0, none⟩ = some (.pointer (some ⟨B, 0, none⟩)) := ci0
  unfold halfV at ch0 hW3
  clear hY hD hg3 hfx hu hnum hX0 hU0 hJ0 h0 bi cf hbW hB hBi hne HW3
  go_enter Tryz.func120, Tryz.ntmps120
  rw [hW3] at cf3 ci0 ch0 hi3
  go_wp2_with fail
  rw [← hW3]
  clear cf3 ci0 ch0 hi3 hW3
  go_wp2_with fail
  refine ((HW.out _ 11 _ (by omega) (by have := HUB.out; simp [PfF, kd, fldsT]) HJ0.out HX0.out)).mono ?_
  rintro e w1 hor
  rcases hor with ⟨hk0, ⟨rfl, hj0⟩ | ⟨rfl, hj0⟩⟩
  · have HX1 := Lib.hid (HNB.out _ _ hk0 HX0.out)
    have HJ1 := Lib.hid hj0
    clear hj0 hk0
    have ci1 := HX1.out.2.2.cell
    go_wp2
    go_end0
    exact ⟨⟨_, rfl⟩, .inl ⟨_, ⟨_, HU0L.out, rfl⟩, HJ1.out⟩⟩
  · have HX1 := Lib.hid (HNB.out _ _ hk0 HX0.out)
    have HJ1 := Lib.hid hj0
    clear hj0 hk0
    go_wp2
    go_end0
    exact ⟨⟨_, rfl⟩, .inr HJ1.out⟩

end E
end Go.Proofs.YtbcncohjjnmdcaaGreatDoor
namespace Go.Proofs.YtbcncohjjnmdcaaGreatDoor
open Go.RowKit Go.Shelf
set_option linter.unusedVariables false
namespace E
set_option maxRecDepth 100000 in
set_option maxHeartbeats 2000000 in
theorem fieldsRX : FieldsAt 2 := by
  intro l J Jx base Bi B W hY hD hbW hB hBi hne bi cf h0
  obtain ⟨W3, hW3⟩ : ∃ W3, W3 = ((W.alloc (.cells #[.func (.yield l) #[] #[]] 131)).alloc (.cells #[.int .i64 0] 3)).alloc (.cells #[halfV W.heap.size] 132) := ⟨_, rfl⟩
  have hg3 : W.grownBy W3 none := by
    rw [hW3]
    exact grown_of8 (((below_new W _).alloc (by simp) _).alloc (by simp; omega) _) none
  have hfx : Fx l W.heap.size (W.heap.size + 1 + 1) Bi B W3 := by
    rw [hW3]
    exact ⟨((Boxed.new W _ _).alloc _).alloc _, boxed_new38 W _ _ _ _, ((bi.alloc _).alloc _).alloc _⟩
  have hu : Boxed W3 (W.heap.size + 1) 3 (.int .i64 0) := by
    rw [hW3]
    exact (boxed_new28 W _ _ _).alloc _
  have cf3 : W3.cell? ⟨B, 1, none⟩ = some (.int .i64 2) := by
    rw [hW3]
    exact Lib.cell?_alloc_some _ (Lib.cell?_alloc_some _ (Lib.cell?_alloc_some _ cf))
  have hnum : base ≤ W.heap.size ∧ B < base ∧ Bi < base ∧ Bi ≠ B := ⟨hbW, hB, hBi, hne⟩
  have HNUM := Lib.hid hnum
  have HUB := Lib.hid (show ¬ W.heap.size + 1 = B by omega)
  have HY := Lib.hid hY
  have HD := Lib.hid hD
  have HU0L := Lib.hid (show base ≤ W.heap.size + 1 by omega)
  have HW3 := Lib.hid hW3
  have hX0 : Fx l W.heap.size (W.heap.size + 1 + 1) Bi B W3.drew := hfx.drew
  have HX0 := Lib.hid hX0
  have hU0 : Boxed W3.drew (W.heap.size + 1) 3 (.int .i64 0) := hu.kept (grown_drewN W3 1 none) (by simp)
  have HU0 := Lib.hid hU0
  have hJ0 : J [] W3.drew := hD _ _ _ (hD _ _ _ h0 hg3) (grown_drewN W3 1 none)
  have HJ0 := Lib.hid hJ0
  have HNB := Lib.hid (fun (X Y : World) (hk : Kb base Bi B X Y) (hx : Fx l W.heap.size (W.heap.size + 1 + 1) Bi B X) => hx.next hk (by omega) (by omega) (by omega) (.inl (by omega)) (.inl (by omega)))
  have HNU := Lib.hid (fun (X Y : World) (hk : Kb base Bi (W.heap.size + 1) X Y) (hx : Fx l W.heap.size (W.heap.size + 1 + 1) Bi B X) => hx.next hk (by omega) (by omega) (by omega) (.inl (by omega)) (.inl (by omega)))
  have HH := Lib.hid (fun (pre : List (Addr × Nat)) (k : Nat) (X : World) (hk : k < 12) (hp : PfF 2 B (pre ++ [(⟨B, k, none⟩, 4)])) (hj : J pre X) (hx : Fx l W.heap.size (W.heap.size + 1 + 1) Bi B X) => half_any l W.heap.size pre (⟨B, k, none⟩, 4) J Jx (Kb base Bi B) X rfl hx.1 (fun hj => hY _ _ _ ⟨hp, .inl ⟨k, hk, rfl⟩⟩ hj) hj)
  have HW := Lib.hid (fun (pre : List (Addr × Nat)) (k : Nat) (X : World) (hk : k < 12) (hp : PfF 2 B (pre ++ [(⟨B, k, none⟩, 8)])) (hj : J pre X) (hx : Fx l W.heap.size (W.heap.size + 1 + 1) Bi B X) => whole_any l W.heap.size pre (⟨B, k, none⟩, 8) J Jx (Kb base Bi B) X rfl hx.1 (fun hj => hY _ _ _ ⟨hp, .inl ⟨k, hk, rfl⟩⟩ hj) hj)
  have HHU := Lib.hid (fun (pre : List (Addr × Nat)) (X : World) (hu : Boxed X (W.heap.size + 1) 3 (.int .i64 0)) (hp : PfF 2 B (pre ++ [(⟨W.heap.size + 1, 0, none⟩, 4)])) (hj : J pre X) (hx : Fx l W.heap.size (W.heap.size + 1 + 1) Bi B X) => half_any l W.heap.size pre (⟨W.heap.size + 1, 0, none⟩, 4) J Jx (Kb base Bi (W.heap.size + 1)) X rfl hx.1 (fun hj => hY _ _ _ ⟨hp, .inr ⟨W.heap.size + 1, by omega, rfl, hu⟩⟩ hj) hj)
  have HWU := Lib.hid (fun (pre : List (Addr × Nat)) (X : World) (hu : Boxed X (W.heap.size + 1) 3 (.int .i64 0)) (hp : PfF 2 B (pre ++ [(⟨W.heap.size + 1, 0, none⟩, 8)])) (hj : J pre X) (hx : Fx l W.heap.size (W.heap.size + 1 + 1) Bi B X) => whole_any l W.heap.size pre (⟨W.heap.size + 1, 0, none⟩, 8) J Jx (Kb base Bi (W.heap.size + 1)) X rfl hx.1 (fun hj => hY _ _ _ ⟨hp, .inr ⟨W.heap.size + 1, by omega, rfl, hu⟩⟩ hj) hj)
  have HF := Lib.hid (fun (pre : List (Addr × Nat)) (X : World) (hp1 : PfF 2 B (pre ++ [(⟨B, 5, none⟩, 4)])) (hp2 : PfF 2 B ((pre ++ [(⟨B, 5, none⟩, 4)]) ++ [(⟨B, 6, none⟩, 12)])) (hj : J pre X) (hx : Fx l W.heap.size (W.heap.size + 1 + 1) Bi B X) => first_any (PfF 2 B) l J Jx base Bi B W.heap.size (W.heap.size + 1 + 1) pre X hY hD hbW (by omega) hne hx.2.1 hx.2.2 hx.1 hj hp1 hp2)
  have HSC := Lib.hid (fun (pre : List (Addr × Nat)) (X : World) (hp1 : PfF 2 B (pre ++ [(⟨B, 7, none⟩, 4)])) (hp2 : PfF 2 B ((pre ++ [(⟨B, 7, none⟩, 4)]) ++ [(⟨B, 8, none⟩, 12)])) (hj : J pre X) (hx : Fx l W.heap.size (W.heap.size + 1 + 1) Bi B X) => second_any (PfF 2 B) l J Jx base Bi B W.heap.size (W.heap.size + 1 + 1) pre X hY hD hbW (by omega) hne hx.2.1 hx.2.2 hx.1 hj hp1 hp2)
  have ci0 := hfx.2.2.cell
  have ch0 := hfx.2.1.cell
  have hi3 : W3.cell? ⟨Bi, 0, none⟩ = some (.pointer (some ⟨B, 0, none⟩)) := ci0
  unfold halfV at ch0 hW3
  clear hY hD hg3 hfx hu hnum hX0 hU0 hJ0 h0 bi cf hbW hB hBi hne HW3
  go_enter Tryz.func120, Tryz.ntmps120
  rw [hW3] at cf3 ci0 ch0 hi3
  go_wp2_with fail
  rw [← hW3]
  clear cf3 ci0 ch0 hi3 hW3
  refine only_wp ?_
  refine wp_region_held_drew (S := Fx l W.heap.size (W.heap.size + 1 + 1) Bi B) (by kernel_rfl) HX0.out (fun k0 => ?_)
  show wpAnyH _ _ _ _ _ 16 #[false, false, false, false, false, false, false, false, false, false, false, false, false, false, false, false] _ _
  refine wpAnyH_take (i := 0) (oi := ⟨some 50, _, _, _, _, _⟩) (v := .func (.func 121) #[] #[.pointer (some ⟨W.heap.size, 0, none⟩)]) rfl (by kernel_rfl) (by kernel_rfl) (by kernel_rfl) (fun _ _ _ h => h) (Or.inl ⟨by rfl, fun W hSw => by obtain ⟨s1, s2, s3⟩ := hSw; have c1 := s2.cell; have c2 := s3.cell; unfold halfV at c1; clear s1 s2 s3; go_simp⟩) k0 ?_
  try simp only [Act.put, List.setIfInBounds_toArray, List.set_cons_zero, List.set_cons_succ]
  refine wpAnyH_take (i := 1) (oi := ⟨some 51, _, _, _, _, _⟩) (v := .pointer (some ⟨B, 0, none⟩)) rfl (by kernel_rfl) (by kernel_rfl) (by kernel_rfl) (fun _ _ _ h => h) (Or.inl ⟨by rfl, fun W hSw => by obtain ⟨s1, s2, s3⟩ := hSw; have c1 := s2.cell; have c2 := s3.cell; unfold halfV at c1; clear s1 s2 s3; go_simp⟩) k0 ?_
  try simp only [Act.put, List.setIfInBounds_toArray, List.set_cons_zero, List.set_cons_succ]
  refine wpAnyH_take (i := 2) (oi := ⟨some 52, _, _, _, _, _⟩) (v := .pointer (some ⟨B, 0, none⟩)) rfl (by kernel_rfl) (by kernel_rfl) (by kernel_rfl) (fun _ _ _ h => h) (Or.inl ⟨by rfl, fun W hSw => by clear hSw; go_simp⟩) k0 ?_
  try simp only [Act.put, List.setIfInBounds_toArray, List.set_cons_zero, List.set_cons_succ]
  refine wpAnyH_take (i := 3) (oi := ⟨some 53, _, _, _, _, _⟩) (v := .pointer (some ⟨B, 2, none⟩)) rfl (by kernel_rfl) (by kernel_rfl) (by kernel_rfl) (fun _ _ _ h => h) (Or.inl ⟨by rfl, fun W hSw => by clear hSw; go_simp⟩) k0 ?_
  try simp only [Act.put, List.setIfInBounds_toArray, List.set_cons_zero, List.set_cons_succ]
  refine wpAnyH_ready (rs := [4]) (by kernel_rfl) (by simp) ?_
  refine AllReadyH.cons (o := ⟨some 54, _, _, _, _, _⟩) rfl (fun K hK => ?_) AllReadyH.nil
  go_simp
  refine ((HH.out _ 2 _ (by omega) (by have := HUB.out; simp [PfF, kd, fldsT]) HJ0.out HX0.out)).mono ?_
  rintro e w1 hor
  rcases hor with ⟨hk0, ⟨rfl, hj0⟩ | ⟨rfl, hj0⟩⟩
  · have HX1 := Lib.hid (HNB.out _ _ hk0 HX0.out)
    have HJ1 := Lib.hid hj0
    clear hj0 hk0
    go_wp2_with fail
    refine hK.out _ _ HX1.out (fun k1 => ?_)
    clear hK K
    try simp only [List.setIfInBounds_toArray, List.set_cons_zero, List.set_cons_succ]
    refine wpAnyH_take (i := 5) (oi := ⟨some 55, _, _, _, _, _⟩) (v := .bool true) rfl (by kernel_rfl) (by kernel_rfl) (by kernel_rfl) (fun _ _ _ h => h) (Or.inl ⟨by rfl, fun W hSw => by clear hSw; go_simp⟩) k1 ?_
    try simp only [Act.put, List.setIfInBounds_toArray, List.set_cons_zero, List.set_cons_succ]
    refine wpAnyH_take (i := 6) (oi := ⟨some 56, _, _, _, _, _⟩) (v := .func (.func 121) #[] #[.pointer (some ⟨W.heap.size, 0, none⟩)]) rfl (by kernel_rfl) (by kernel_rfl) (by kernel_rfl) (fun _ _ _ h => h) (Or.inl ⟨by rfl, fun W hSw => by obtain ⟨s1, s2, s3⟩ := hSw; have c1 := s2.cell; have c2 := s3.cell; unfold halfV at c1; clear s1 s2 s3; go_simp⟩) k1 ?_
    try simp only [Act.put, List.setIfInBounds_toArray, List.set_cons_zero, List.set_cons_succ]
    refine wpAnyH_take (i := 7) (oi := ⟨some 57, _, _, _, _, _⟩) (v := .pointer (some ⟨B, 0, none⟩)) rfl (by kernel_rfl) (by kernel_rfl) (by kernel_rfl) (fun _ _ _ h => h) (Or.inl ⟨by rfl, fun W hSw => by obtain ⟨s1, s2, s3⟩ := hSw; have c1 := s2.cell; have c2 := s3.cell; unfold halfV at c1; clear s1 s2 s3; go_simp⟩) k1 ?_
    try simp only [Act.put, List.setIfInBounds_toArray, List.set_cons_zero, List.set_cons_succ]
    refine wpAnyH_take (i := 8) (oi := ⟨some 58, _, _, _, _, _⟩) (v := .pointer (some ⟨B, 0, none⟩)) rfl (by kernel_rfl) (by kernel_rfl) (by kernel_rfl) (fun _ _ _ h => h) (Or.inl ⟨by rfl, fun W hSw => by clear hSw; go_simp⟩) k1 ?_
    try simp only [Act.put, List.setIfInBounds_toArray, List.set_cons_zero, List.set_cons_succ]
    refine wpAnyH_take (i := 9) (oi := ⟨some 59, _, _, _, _, _⟩) (v := .pointer (some ⟨B, 4, none⟩)) rfl (by kernel_rfl) (by kernel_rfl) (by kernel_rfl) (fun _ _ _ h => h) (Or.inl ⟨by rfl, fun W hSw => by clear hSw; go_simp⟩) k1 ?_
    try simp only [Act.put, List.setIfInBounds_toArray, List.set_cons_zero, List.set_cons_succ]
    refine wpAnyH_ready (rs := [10]) (by kernel_rfl) (by simp) ?_
    refine AllReadyH.cons (o := ⟨some 60, _, _, _, _, _⟩) rfl (fun K hK => ?_) AllReadyH.nil
    go_simp
    refine ((HH.out _ 4 _ (by omega) (by have := HUB.out; simp [PfF, kd, fldsT]) HJ1.out HX1.out)).mono ?_
    rintro e w2 hor
    rcases hor with ⟨hk1, ⟨rfl, hj1⟩ | ⟨rfl, hj1⟩⟩
    · have HX2 := Lib.hid (HNB.out _ _ hk1 HX1.out)
      have HJ2 := Lib.hid hj1
      clear hj1 hk1
      go_wp2_with fail
      refine hK.out _ _ HX2.out (fun k2 => ?_)
      clear hK K
      try simp only [List.setIfInBounds_toArray, List.set_cons_zero, List.set_cons_succ]
      refine wpAnyH_take (i := 11) (oi := ⟨some 61, _, _, _, _, _⟩) (v := .bool true) rfl (by kernel_rfl) (by kernel_rfl) (by kernel_rfl) (fun _ _ _ h => h) (Or.inl ⟨by rfl, fun W hSw => by clear hSw; go_simp⟩) k2 ?_
      try simp only [Act.put, List.setIfInBounds_toArray, List.set_cons_zero, List.set_cons_succ]
      refine wpAnyH_take (i := 12) (oi := ⟨some 62, _, _, _, _, _⟩) (v := .bool true) rfl (by kernel_rfl) (by kernel_rfl) (by kernel_rfl) (fun _ _ _ h => h) (Or.inl ⟨by rfl, fun W hSw => by clear hSw; go_simp⟩) k2 ?_
      try simp only [Act.put, List.setIfInBounds_toArray, List.set_cons_zero, List.set_cons_succ]
      refine wpAnyH_take (i := 13) (oi := ⟨some 63, _, _, _, _, _⟩) (v := .func (.func 124) #[] #[.pointer (some ⟨W.heap.size + 1 + 1, 0, none⟩), .pointer (some ⟨Bi, 0, none⟩), .pointer (some ⟨W.heap.size, 0, none⟩)]) rfl (by kernel_rfl) (by kernel_rfl) (by kernel_rfl) (fun _ _ _ h => h) (Or.inl ⟨by rfl, fun W hSw => by clear hSw; go_simp⟩) k2 ?_
      try simp only [Act.put, List.setIfInBounds_toArray, List.set_cons_zero, List.set_cons_succ]
      refine wpAnyH_ready (rs := [14]) (by kernel_rfl) (by simp) ?_
      refine AllReadyH.cons (o := ⟨some 64, _, _, _, _, _⟩) rfl (fun K hK => ?_) AllReadyH.nil
      go_simp
      refine ((HSC.out _ _ (by have := HUB.out; simp [PfF, kd, fldsT]) (by have := HUB.out; simp [PfF, kd, fldsT]) HJ2.out HX2.out)).mono ?_
      rintro e w3 hor
      rcases hor with ⟨hk2, ⟨rfl, hj2⟩ | ⟨rfl, hj2⟩⟩
      · have HX3 := Lib.hid (HNB.out _ _ hk2 HX2.out)
        have HJ3 := Lib.hid hj2
        clear hj2 hk2
        go_wp2_with fail
        refine hK.out _ _ HX3.out (fun k3 => ?_)
        clear hK K
        try simp only [List.setIfInBounds_toArray, List.set_cons_zero, List.set_cons_succ]
        refine wpAnyH_take (i := 15) (oi := ⟨some 65, _, _, _, _, _⟩) (v := .bool true) rfl (by kernel_rfl) (by kernel_rfl) (by kernel_rfl) (fun _ _ _ h => h) (Or.inl ⟨by rfl, fun W hSw => by clear hSw; go_simp⟩) k3 ?_
        try simp only [Act.put, List.setIfInBounds_toArray, List.set_cons_zero, List.set_cons_succ]
        refine wpAnyH_done (by kernel_rfl) ?_ _
        refine onlyN_normal ?_
        go_wp2
        go_end0
        exact ⟨⟨_, rfl⟩, .inl ⟨_, ⟨_, HU0L.out, rfl⟩, HJ3.out⟩⟩
      · have HX3 := Lib.hid (HNB.out _ _ hk2 HX2.out)
        have HJ3 := Lib.hid hj2
        clear hj2 hk2
        go_wp2_with fail
        refine hK.out _ _ HX3.out (fun k3 => ?_)
        clear hK K
        try simp only [List.setIfInBounds_toArray, List.set_cons_zero, List.set_cons_succ]
        refine wpAnyH_take (i := 15) (oi := ⟨some 65, _, _, _, _, _⟩) (v := .bool false) rfl (by kernel_rfl) (by kernel_rfl) (by kernel_rfl) (fun _ _ _ h => h) (Or.inl ⟨by rfl, fun W hSw => by clear hSw; go_simp⟩) k3 ?_
        try simp only [Act.put, List.setIfInBounds_toArray, List.set_cons_zero, List.set_cons_succ]
        refine wpAnyH_done (by kernel_rfl) ?_ _
        refine onlyN_normal ?_
        go_wp2
        go_end0
        exact ⟨⟨_, rfl⟩, .inr HJ3.out⟩
    · have HX2 := Lib.hid (HNB.out _ _ hk1 HX1.out)
      have HJ2 := Lib.hid hj1
      clear hj1 hk1
      go_wp2_with fail
      refine hK.out _ _ HX2.out (fun k2 => ?_)
      clear hK K
      try simp only [List.setIfInBounds_toArray, List.set_cons_zero, List.set_cons_succ]
      refine wpAnyH_take (i := 11) (oi := ⟨some 61, _, _, _, _, _⟩) (v := .bool false) rfl (by kernel_rfl) (by kernel_rfl) (by kernel_rfl) (fun _ _ _ h => h) (Or.inl ⟨by rfl, fun W hSw => by clear hSw; go_simp⟩) k2 ?_
      try simp only [Act.put, List.setIfInBounds_toArray, List.set_cons_zero, List.set_cons_succ]
      refine wpAnyH_take (i := 12) (oi := ⟨some 62, _, _, _, _, _⟩) (v := .bool false) rfl (by kernel_rfl) (by kernel_rfl) (by kernel_rfl) (fun _ _ _ h => h) (Or.inl ⟨by rfl, fun W hSw => by clear hSw; go_simp⟩) k2 ?_
      try simp only [Act.put, List.setIfInBounds_toArray, List.set_cons_zero, List.set_cons_succ]
      refine wpAnyH_take (i := 13) (oi := ⟨some 63, _, _, _, _, _⟩) (v := undef) rfl (by kernel_rfl) (by kernel_rfl) (by kernel_rfl) (fun _ _ _ h => h) (Or.inr ⟨by rfl, rfl⟩) k2 ?_
      try simp only [Act.put, List.setIfInBounds_toArray, List.set_cons_zero, List.set_cons_succ]
      refine wpAnyH_take (i := 14) (oi := ⟨some 64, _, _, _, _, _⟩) (v := undef) rfl (by kernel_rfl) (by kernel_rfl) (by kernel_rfl) (fun _ _ _ h => h) (Or.inr ⟨by rfl, rfl⟩) k2 ?_
      try simp only [Act.put, List.setIfInBounds_toArray, List.set_cons_zero, List.set_cons_succ]
      refine wpAnyH_take (i := 15) (oi := ⟨some 65, _, _, _, _, _⟩) (v := .bool false) rfl (by kernel_rfl) (by kernel_rfl) (by kernel_rfl) (fun _ _ _ h => h) (Or.inl ⟨by rfl, fun W hSw => by clear hSw; go_simp⟩) k2 ?_
      try simp only [Act.put, List.setIfInBounds_toArray, List.set_cons_zero, List.set_cons_succ]
      refine wpAnyH_done (by kernel_rfl) ?_ _
      refine onlyN_normal ?_
      go_wp2
      go_end0
      exact ⟨⟨_, rfl⟩, .inr HJ2.out⟩
  · have HX1 := Lib.hid (HNB.out _ _ hk0 HX0.out)
    have HJ1 := Lib.hid hj0
    clear hj0 hk0
    go_wp2_with fail
    refine hK.out _ _ HX1.out (fun k1 => ?_)
    clear hK K
    try simp only [List.setIfInBounds_toArray, List.set_cons_zero, List.set_cons_succ]
    refine wpAnyH_take (i := 5) (oi := ⟨some 55, _, _, _, _, _⟩) (v := .bool false) rfl (by kernel_rfl) (by kernel_rfl) (by kernel_rfl) (fun _ _ _ h => h) (Or.inl ⟨by rfl, fun W hSw => by clear hSw; go_simp⟩) k1 ?_
    try simp only [Act.put, List.setIfInBounds_toArray, List.set_cons_zero, List.set_cons_succ]
    refine wpAnyH_take (i := 6) (oi := ⟨some 56, _, _, _, _, _⟩) (v := undef) rfl (by kernel_rfl) (by kernel_rfl) (by kernel_rfl) (fun _ _ _ h => h) (Or.inr ⟨by rfl, rfl⟩) k1 ?_
    try simp only [Act.put, List.setIfInBounds_toArray, List.set_cons_zero, List.set_cons_succ]
    refine wpAnyH_take (i := 7) (oi := ⟨some 57, _, _, _, _, _⟩) (v := undef) rfl (by kernel_rfl) (by kernel_rfl) (by kernel_rfl) (fun _ _ _ h => h) (Or.inr ⟨by rfl, rfl⟩) k1 ?_
    try simp only [Act.put, List.setIfInBounds_toArray, List.set_cons_zero, List.set_cons_succ]
    refine wpAnyH_take (i := 8) (oi := ⟨some 58, _, _, _, _, _⟩) (v := undef) rfl (by kernel_rfl) (by kernel_rfl) (by kernel_rfl) (fun _ _ _ h => h) (Or.inr ⟨by rfl, rfl⟩) k1 ?_
    try simp only [Act.put, List.setIfInBounds_toArray, List.set_cons_zero, List.set_cons_succ]
    refine wpAnyH_take (i := 9) (oi := ⟨some 59, _, _, _, _, _⟩) (v := undef) rfl (by kernel_rfl) (by kernel_rfl) (by kernel_rfl) (fun _ _ _ h => h) (Or.inr ⟨by rfl, rfl⟩) k1 ?_
    try simp only [Act.put, List.setIfInBounds_toArray, List.set_cons_zero, List.set_cons_succ]
    refine wpAnyH_take (i := 10) (oi := ⟨some 60, _, _, _, _, _⟩) (v := undef) rfl (by kernel_rfl) (by kernel_rfl) (by kernel_rfl) (fun _ _ _ h => h) (Or.inr ⟨by rfl, rfl⟩) k1 ?_
    try simp only [Act.put, List.setIfInBounds_toArray, List.set_cons_zero, List.set_cons_succ]
    refine wpAnyH_take (i := 11) (oi := ⟨some 61, _, _, _, _, _⟩) (v := .bool false) rfl (by kernel_rfl) (by kernel_rfl) (by kernel_rfl) (fun _ _ _ h => h) (Or.inl ⟨by rfl, fun W hSw => by clear hSw; go_simp⟩) k1 ?_
    try simp only [Act.put, List.setIfInBounds_toArray, List.set_cons_zero, List.set_cons_succ]
    refine wpAnyH_take (i := 12) (oi := ⟨some 62, _, _, _, _, _⟩) (v := .bool false) rfl (by kernel_rfl) (by kernel_rfl) (by kernel_rfl) (fun _ _ _ h => h) (Or.inl ⟨by rfl, fun W hSw => by clear hSw; go_simp⟩) k1 ?_
    try simp only [Act.put, List.setIfInBounds_toArray, List.set_cons_zero, List.set_cons_succ]
    refine wpAnyH_take (i := 13) (oi := ⟨some 63, _, _, _, _, _⟩) (v := undef) rfl (by kernel_rfl) (by kernel_rfl) (by kernel_rfl) (fun _ _ _ h => h) (Or.inr ⟨by rfl, rfl⟩) k1 ?_
    try simp only [Act.put, List.setIfInBounds_toArray, List.set_cons_zero, List.set_cons_succ]
    refine wpAnyH_take (i := 14) (oi := ⟨some 64, _, _, _, _, _⟩) (v := undef) rfl (by kernel_rfl) (by kernel_rfl) (by kernel_rfl) (fun _ _ _ h => h) (Or.inr ⟨by rfl, rfl⟩) k1 ?_
    try simp only [Act.put, List.setIfInBounds_toArray, List.set_cons_zero, List.set_cons_succ]
    refine wpAnyH_take (i := 15) (oi := ⟨some 65, _, _, _, _, _⟩) (v := .bool false) rfl (by kernel_rfl) (by kernel_rfl) (by kernel_rfl) (fun _ _ _ h => h) (Or.inl ⟨by rfl, fun W hSw => by clear hSw; go_simp⟩) k1 ?_
    try simp only [Act.put, List.setIfInBounds_toArray, List.set_cons_zero, List.set_cons_succ]
    refine wpAnyH_done (by kernel_rfl) ?_ _
    refine onlyN_normal ?_
    go_wp2
    go_end0
    exact ⟨⟨_, rfl⟩, .inr HJ1.out⟩

end E
end Go.Proofs.YtbcncohjjnmdcaaGreatDoor
namespace Go.Proofs.YtbcncohjjnmdcaaGreatDoor
open Go.RowKit Go.Shelf
set_option linter.unusedVariables false
namespace E
set_option maxRecDepth 100000 in
set_option maxHeartbeats 2000000 in
theorem fieldsRS : FieldsAt 3 := by
  intro l J Jx base Bi B W hY hD hbW hB hBi hne bi cf h0
  obtain ⟨W3, hW3⟩ : ∃ W3, W3 = ((W.alloc (.cells #[.func (.yield l) #[] #[]] 131)).alloc (.cells #[.int .i64 0] 3)).alloc (.cells #[halfV W.heap.size] 132) := ⟨_, rfl⟩
  have hg3 : W.grownBy W3 none := by
    rw [hW3]
    exact grown_of8 (((below_new W _).alloc (by simp) _).alloc (by simp; omega) _) none
  have hfx : Fx l W.heap.size (W.heap.size + 1 + 1) Bi B W3 := by
    rw [hW3]
    exact ⟨((Boxed.new W _ _).alloc _).alloc _, boxed_new38 W _ _ _ _, ((bi.alloc _).alloc _).alloc _⟩
  have hu : Boxed W3 (W.heap.size + 1) 3 (.int .i64 0) := by
    rw [hW3]
    exact (boxed_new28 W _ _ _).alloc _
  have cf3 : W3.cell? ⟨B, 1, none⟩ = some (.int .i64 3) := by
    rw [hW3]
    exact Lib.cell?_alloc_some _ (Lib.cell?_alloc_some _ (Lib.cell?_alloc_some _ cf))
  have hnum : base ≤ W.heap.size ∧ B < base ∧ Bi < base ∧ Bi ≠ B := ⟨hbW, hB, hBi, hne⟩
  have HNUM := Lib.hid hnum
  have HUB := Lib.hid (show ¬ W.heap.size + 1 = B by omega)
  have HY := Lib.hid hY
  have HD := Lib.hid hD
  have HU0L := Lib.hid (show base ≤ W.heap.size + 1 by omega)
  have HW3 := Lib.hid hW3
  have hX0 : Fx l W.heap.size (W.heap.size + 1 + 1) Bi B W3.drew := hfx.drew
  have HX0 := Lib.hid hX0
  have hU0 : Boxed W3.drew (W.heap.size + 1) 3 (.int .i64 0) := hu.kept (grown_drewN W3 1 none) (by simp)
  have HU0 := Lib.hid hU0
  have hJ0 : J [] W3.drew := hD _ _ _ (hD _ _ _ h0 hg3) (grown_drewN W3 1 none)
  have HJ0 := Lib.hid hJ0
  have HNB := Lib.hid (fun (X Y : World) (hk : Kb base Bi B X Y) (hx : Fx l W.heap.size (W.heap.size + 1 + 1) Bi B X) => hx.next hk (by omega) (by omega) (by omega) (.inl (by omega)) (.inl (by omega)))
  have HNU := Lib.hid (fun (X Y : World) (hk : Kb base Bi (W.heap.size + 1) X Y) (hx : Fx l W.heap.size (W.heap.size + 1 + 1) Bi B X) => hx.next hk (by omega) (by omega) (by omega) (.inl (by omega)) (.inl (by omega)))
  have HH := Lib.hid (fun (pre : List (Addr × Nat)) (k : Nat) (X : World) (hk : k < 12) (hp : PfF 3 B (pre ++ [(⟨B, k, none⟩, 4)])) (hj : J pre X) (hx : Fx l W.heap.size (W.heap.size + 1 + 1) Bi B X) => half_any l W.heap.size pre (⟨B, k, none⟩, 4) J Jx (Kb base Bi B) X rfl hx.1 (fun hj => hY _ _ _ ⟨hp, .inl ⟨k, hk, rfl⟩⟩ hj) hj)
  have HW := Lib.hid (fun (pre : List (Addr × Nat)) (k : Nat) (X : World) (hk : k < 12) (hp : PfF 3 B (pre ++ [(⟨B, k, none⟩, 8)])) (hj : J pre X) (hx : Fx l W.heap.size (W.heap.size + 1 + 1) Bi B X) => whole_any l W.heap.size pre (⟨B, k, none⟩, 8) J Jx (Kb base Bi B) X rfl hx.1 (fun hj => hY _ _ _ ⟨hp, .inl ⟨k, hk, rfl⟩⟩ hj) hj)
  have HHU := Lib.hid (fun (pre : List (Addr × Nat)) (X : World) (hu : Boxed X (W.heap.size + 1) 3 (.int .i64 0)) (hp : PfF 3 B (pre ++ [(⟨W.heap.size + 1, 0, none⟩, 4)])) (hj : J pre X) (hx : Fx l W.heap.size (W.heap.size + 1 + 1) Bi B X) => half_any l W.heap.size pre (⟨W.heap.size + 1, 0, none⟩, 4) J Jx (Kb base Bi (W.heap.size + 1)) X rfl hx.1 (fun hj => hY _ _ _ ⟨hp, .inr ⟨W.heap.size + 1, by omega, rfl, hu⟩⟩ hj) hj)
  have HWU := Lib.hid (fun (pre : List (Addr × Nat)) (X : World) (hu : Boxed X (W.heap.size + 1) 3 (.int .i64 0)) (hp : PfF 3 B (pre ++ [(⟨W.heap.size + 1, 0, none⟩, 8)])) (hj : J pre X) (hx : Fx l W.heap.size (W.heap.size + 1 + 1) Bi B X) => whole_any l W.heap.size pre (⟨W.heap.size + 1, 0, none⟩, 8) J Jx (Kb base Bi (W.heap.size + 1)) X rfl hx.1 (fun hj => hY _ _ _ ⟨hp, .inr ⟨W.heap.size + 1, by omega, rfl, hu⟩⟩ hj) hj)
  have HF := Lib.hid (fun (pre : List (Addr × Nat)) (X : World) (hp1 : PfF 3 B (pre ++ [(⟨B, 5, none⟩, 4)])) (hp2 : PfF 3 B ((pre ++ [(⟨B, 5, none⟩, 4)]) ++ [(⟨B, 6, none⟩, 12)])) (hj : J pre X) (hx : Fx l W.heap.size (W.heap.size + 1 + 1) Bi B X) => first_any (PfF 3 B) l J Jx base Bi B W.heap.size (W.heap.size + 1 + 1) pre X hY hD hbW (by omega) hne hx.2.1 hx.2.2 hx.1 hj hp1 hp2)
  have HSC := Lib.hid (fun (pre : List (Addr × Nat)) (X : World) (hp1 : PfF 3 B (pre ++ [(⟨B, 7, none⟩, 4)])) (hp2 : PfF 3 B ((pre ++ [(⟨B, 7, none⟩, 4)]) ++ [(⟨B, 8, none⟩, 12)])) (hj : J pre X) (hx : Fx l W.heap.size (W.heap.size + 1 + 1) Bi B X) => second_any (PfF 3 B) l J Jx base Bi B W.heap.size (W.heap.size + 1 + 1) pre X hY hD hbW (by omega) hne hx.2.1 hx.2.2 hx.1 hj hp1 hp2)
  have ci0 := hfx.2.2.cell
  have ch0 := hfx.2.1.cell
  have hi3 : W3.cell? ⟨Bi, 0, none⟩ = some (.pointer (some ⟨B, 0, none⟩)) := ci0
  unfold halfV at ch0 hW3
  clear hY hD hg3 hfx hu hnum hX0 hU0 hJ0 h0 bi cf hbW hB hBi hne HW3
  go_enter Tryz.func120, Tryz.ntmps120
  rw [hW3] at cf3 ci0 ch0 hi3
  go_wp2_with fail
  rw [← hW3]
  clear cf3 ci0 ch0 hi3 hW3
  refine only_wp ?_
  refine wp_region_held_drew (S := Fx l W.heap.size (W.heap.size + 1 + 1) Bi B) (by kernel_rfl) HX0.out (fun k0 => ?_)
  show wpAnyH _ _ _ _ _ 16 #[false, false, false, false, false, false, false, false, false, false, false, false, false, false, false, false] _ _
  refine wpAnyH_take (i := 0) (oi := ⟨some 68, _, _, _, _, _⟩) (v := .func (.func 121) #[] #[.pointer (some ⟨W.heap.size, 0, none⟩)]) rfl (by kernel_rfl) (by kernel_rfl) (by kernel_rfl) (fun _ _ _ h => h) (Or.inl ⟨by rfl, fun W hSw => by obtain ⟨s1, s2, s3⟩ := hSw; have c1 := s2.cell; have c2 := s3.cell; unfold halfV at c1; clear s1 s2 s3; go_simp⟩) k0 ?_
  try simp only [Act.put, List.setIfInBounds_toArray, List.set_cons_zero, List.set_cons_succ]
  refine wpAnyH_take (i := 1) (oi := ⟨some 69, _, _, _, _, _⟩) (v := .pointer (some ⟨B, 0, none⟩)) rfl (by kernel_rfl) (by kernel_rfl) (by kernel_rfl) (fun _ _ _ h => h) (Or.inl ⟨by rfl, fun W hSw => by obtain ⟨s1, s2, s3⟩ := hSw; have c1 := s2.cell; have c2 := s3.cell; unfold halfV at c1; clear s1 s2 s3; go_simp⟩) k0 ?_
  try simp only [Act.put, List.setIfInBounds_toArray, List.set_cons_zero, List.set_cons_succ]
  refine wpAnyH_take (i := 2) (oi := ⟨some 70, _, _, _, _, _⟩) (v := .pointer (some ⟨B, 0, none⟩)) rfl (by kernel_rfl) (by kernel_rfl) (by kernel_rfl) (fun _ _ _ h => h) (Or.inl ⟨by rfl, fun W hSw => by clear hSw; go_simp⟩) k0 ?_
  try simp only [Act.put, List.setIfInBounds_toArray, List.set_cons_zero, List.set_cons_succ]
  refine wpAnyH_take (i := 3) (oi := ⟨some 71, _, _, _, _, _⟩) (v := .pointer (some ⟨B, 2, none⟩)) rfl (by kernel_rfl) (by kernel_rfl) (by kernel_rfl) (fun _ _ _ h => h) (Or.inl ⟨by rfl, fun W hSw => by clear hSw; go_simp⟩) k0 ?_
  try simp only [Act.put, List.setIfInBounds_toArray, List.set_cons_zero, List.set_cons_succ]
  refine wpAnyH_ready (rs := [4]) (by kernel_rfl) (by simp) ?_
  refine AllReadyH.cons (o := ⟨some 72, _, _, _, _, _⟩) rfl (fun K hK => ?_) AllReadyH.nil
  go_simp
  refine ((HH.out _ 2 _ (by omega) (by have := HUB.out; simp [PfF, kd, fldsT]) HJ0.out HX0.out)).mono ?_
  rintro e w1 hor
  rcases hor with ⟨hk0, ⟨rfl, hj0⟩ | ⟨rfl, hj0⟩⟩
  · have HX1 := Lib.hid (HNB.out _ _ hk0 HX0.out)
    have HJ1 := Lib.hid hj0
    clear hj0 hk0
    go_wp2_with fail
    refine hK.out _ _ HX1.out (fun k1 => ?_)
    clear hK K
    try simp only [List.setIfInBounds_toArray, List.set_cons_zero, List.set_cons_succ]
    refine wpAnyH_take (i := 5) (oi := ⟨some 73, _, _, _, _, _⟩) (v := .bool true) rfl (by kernel_rfl) (by kernel_rfl) (by kernel_rfl) (fun _ _ _ h => h) (Or.inl ⟨by rfl, fun W hSw => by clear hSw; go_simp⟩) k1 ?_
    try simp only [Act.put, List.setIfInBounds_toArray, List.set_cons_zero, List.set_cons_succ]
    refine wpAnyH_take (i := 6) (oi := ⟨some 74, _, _, _, _, _⟩) (v := .func (.func 121) #[] #[.pointer (some ⟨W.heap.size, 0, none⟩)]) rfl (by kernel_rfl) (by kernel_rfl) (by kernel_rfl) (fun _ _ _ h => h) (Or.inl ⟨by rfl, fun W hSw => by obtain ⟨s1, s2, s3⟩ := hSw; have c1 := s2.cell; have c2 := s3.cell; unfold halfV at c1; clear s1 s2 s3; go_simp⟩) k1 ?_
    try simp only [Act.put, List.setIfInBounds_toArray, List.set_cons_zero, List.set_cons_succ]
    refine wpAnyH_take (i := 7) (oi := ⟨some 75, _, _, _, _, _⟩) (v := .pointer (some ⟨B, 0, none⟩)) rfl (by kernel_rfl) (by kernel_rfl) (by kernel_rfl) (fun _ _ _ h => h) (Or.inl ⟨by rfl, fun W hSw => by obtain ⟨s1, s2, s3⟩ := hSw; have c1 := s2.cell; have c2 := s3.cell; unfold halfV at c1; clear s1 s2 s3; go_simp⟩) k1 ?_
    try simp only [Act.put, List.setIfInBounds_toArray, List.set_cons_zero, List.set_cons_succ]
    refine wpAnyH_take (i := 8) (oi := ⟨some 76, _, _, _, _, _⟩) (v := .pointer (some ⟨B, 0, none⟩)) rfl (by kernel_rfl) (by kernel_rfl) (by kernel_rfl) (fun _ _ _ h => h) (Or.inl ⟨by rfl, fun W hSw => by clear hSw; go_simp⟩) k1 ?_
    try simp only [Act.put, List.setIfInBounds_toArray, List.set_cons_zero, List.set_cons_succ]
    refine wpAnyH_take (i := 9) (oi := ⟨some 77, _, _, _, _, _⟩) (v := .pointer (some ⟨B, 3, none⟩)) rfl (by kernel_rfl) (by kernel_rfl) (by kernel_rfl) (fun _ _ _ h => h) (Or.inl ⟨by rfl, fun W hSw => by clear hSw; go_simp⟩) k1 ?_
    try simp only [Act.put, List.setIfInBounds_toArray, List.set_cons_zero, List.set_cons_succ]
    refine wpAnyH_ready (rs := [10]) (by kernel_rfl) (by simp) ?_
    refine AllReadyH.cons (o := ⟨some 78, _, _, _, _, _⟩) rfl (fun K hK => ?_) AllReadyH.nil
    go_simp
    refine ((HH.out _ 3 _ (by omega) (by have := HUB.out; simp [PfF, kd, fldsT]) HJ1.out HX1.out)).mono ?_
    rintro e w2 hor
    rcases hor with ⟨hk1, ⟨rfl, hj1⟩ | ⟨rfl, hj1⟩⟩
    · have HX2 := Lib.hid (HNB.out _ _ hk1 HX1.out)
      have HJ2 := Lib.hid hj1
      clear hj1 hk1
      go_wp2_with fail
      refine hK.out _ _ HX2.out (fun k2 => ?_)
      clear hK K
      try simp only [List.setIfInBounds_toArray, List.set_cons_zero, List.set_cons_succ]
      refine wpAnyH_take (i := 11) (oi := ⟨some 79, _, _, _, _, _⟩) (v := .bool true) rfl (by kernel_rfl) (by kernel_rfl) (by kernel_rfl) (fun _ _ _ h => h) (Or.inl ⟨by rfl, fun W hSw => by clear hSw; go_simp⟩) k2 ?_
      try simp only [Act.put, List.setIfInBounds_toArray, List.set_cons_zero, List.set_cons_succ]
      refine wpAnyH_take (i := 12) (oi := ⟨some 80, _, _, _, _, _⟩) (v := .bool true) rfl (by kernel_rfl) (by kernel_rfl) (by kernel_rfl) (fun _ _ _ h => h) (Or.inl ⟨by rfl, fun W hSw => by clear hSw; go_simp⟩) k2 ?_
      try simp only [Act.put, List.setIfInBounds_toArray, List.set_cons_zero, List.set_cons_succ]
      refine wpAnyH_take (i := 13) (oi := ⟨some 81, _, _, _, _, _⟩) (v := .func (.func 124) #[] #[.pointer (some ⟨W.heap.size + 1 + 1, 0, none⟩), .pointer (some ⟨Bi, 0, none⟩), .pointer (some ⟨W.heap.size, 0, none⟩)]) rfl (by kernel_rfl) (by kernel_rfl) (by kernel_rfl) (fun _ _ _ h => h) (Or.inl ⟨by rfl, fun W hSw => by clear hSw; go_simp⟩) k2 ?_
      try simp only [Act.put, List.setIfInBounds_toArray, List.set_cons_zero, List.set_cons_succ]
      refine wpAnyH_ready (rs := [14]) (by kernel_rfl) (by simp) ?_
      refine AllReadyH.cons (o := ⟨some 82, _, _, _, _, _⟩) rfl (fun K hK => ?_) AllReadyH.nil
      go_simp
      refine ((HSC.out _ _ (by have := HUB.out; simp [PfF, kd, fldsT]) (by have := HUB.out; simp [PfF, kd, fldsT]) HJ2.out HX2.out)).mono ?_
      rintro e w3 hor
      rcases hor with ⟨hk2, ⟨rfl, hj2⟩ | ⟨rfl, hj2⟩⟩
      · have HX3 := Lib.hid (HNB.out _ _ hk2 HX2.out)
        have HJ3 := Lib.hid hj2
        clear hj2 hk2
        go_wp2_with fail
        refine hK.out _ _ HX3.out (fun k3 => ?_)
        clear hK K
        try simp only [List.setIfInBounds_toArray, List.set_cons_zero, List.set_cons_succ]
        refine wpAnyH_take (i := 15) (oi := ⟨some 83, _, _, _, _, _⟩) (v := .bool true) rfl (by kernel_rfl) (by kernel_rfl) (by kernel_rfl) (fun _ _ _ h => h) (Or.inl ⟨by rfl, fun W hSw => by clear hSw; go_simp⟩) k3 ?_
        try simp only [Act.put, List.setIfInBounds_toArray, List.set_cons_zero, List.set_cons_succ]
        refine wpAnyH_done (by kernel_rfl) ?_ _
        refine onlyN_normal ?_
        go_wp2
        go_end0
        exact ⟨⟨_, rfl⟩, .inl ⟨_, ⟨_, HU0L.out, rfl⟩, HJ3.out⟩⟩
      · have HX3 := Lib.hid (HNB.out _ _ hk2 HX2.out)
        have HJ3 := Lib.hid hj2
        clear hj2 hk2
        go_wp2_with fail
        refine hK.out _ _ HX3.out (fun k3 => ?_)
        clear hK K
        try simp only [List.setIfInBounds_toArray, List.set_cons_zero, List.set_cons_succ]
        refine wpAnyH_take (i := 15) (oi := ⟨some 83, _, _, _, _, _⟩) (v := .bool false) rfl (by kernel_rfl) (by kernel_rfl) (by kernel_rfl) (fun _ _ _ h => h) (Or.inl ⟨by rfl, fun W hSw => by clear hSw; go_simp⟩) k3 ?_
        try simp only [Act.put, List.setIfInBounds_toArray, List.set_cons_zero, List.set_cons_succ]
        refine wpAnyH_done (by kernel_rfl) ?_ _
        refine onlyN_normal ?_
        go_wp2
        go_end0
        exact ⟨⟨_, rfl⟩, .inr HJ3.out⟩
    · have HX2 := Lib.hid (HNB.out _ _ hk1 HX1.out)
      have HJ2 := Lib.hid hj1
      clear hj1 hk1
      go_wp2_with fail
      refine hK.out _ _ HX2.out (fun k2 => ?_)
      clear hK K
      try simp only [List.setIfInBounds_toArray, List.set_cons_zero, List.set_cons_succ]
      refine wpAnyH_take (i := 11) (oi := ⟨some 79, _, _, _, _, _⟩) (v := .bool false) rfl (by kernel_rfl) (by kernel_rfl) (by kernel_rfl) (fun _ _ _ h => h) (Or.inl ⟨by rfl, fun W hSw => by clear hSw; go_simp⟩) k2 ?_
      try simp only [Act.put, List.setIfInBounds_toArray, List.set_cons_zero, List.set_cons_succ]
      refine wpAnyH_take (i := 12) (oi := ⟨some 80, _, _, _, _, _⟩) (v := .bool false) rfl (by kernel_rfl) (by kernel_rfl) (by kernel_rfl) (fun _ _ _ h => h) (Or.inl ⟨by rfl, fun W hSw => by clear hSw; go_simp⟩) k2 ?_
      try simp only [Act.put, List.setIfInBounds_toArray, List.set_cons_zero, List.set_cons_succ]
      refine wpAnyH_take (i := 13) (oi := ⟨some 81, _, _, _, _, _⟩) (v := undef) rfl (by kernel_rfl) (by kernel_rfl) (by kernel_rfl) (fun _ _ _ h => h) (Or.inr ⟨by rfl, rfl⟩) k2 ?_
      try simp only [Act.put, List.setIfInBounds_toArray, List.set_cons_zero, List.set_cons_succ]
      refine wpAnyH_take (i := 14) (oi := ⟨some 82, _, _, _, _, _⟩) (v := undef) rfl (by kernel_rfl) (by kernel_rfl) (by kernel_rfl) (fun _ _ _ h => h) (Or.inr ⟨by rfl, rfl⟩) k2 ?_
      try simp only [Act.put, List.setIfInBounds_toArray, List.set_cons_zero, List.set_cons_succ]
      refine wpAnyH_take (i := 15) (oi := ⟨some 83, _, _, _, _, _⟩) (v := .bool false) rfl (by kernel_rfl) (by kernel_rfl) (by kernel_rfl) (fun _ _ _ h => h) (Or.inl ⟨by rfl, fun W hSw => by clear hSw; go_simp⟩) k2 ?_
      try simp only [Act.put, List.setIfInBounds_toArray, List.set_cons_zero, List.set_cons_succ]
      refine wpAnyH_done (by kernel_rfl) ?_ _
      refine onlyN_normal ?_
      go_wp2
      go_end0
      exact ⟨⟨_, rfl⟩, .inr HJ2.out⟩
  · have HX1 := Lib.hid (HNB.out _ _ hk0 HX0.out)
    have HJ1 := Lib.hid hj0
    clear hj0 hk0
    go_wp2_with fail
    refine hK.out _ _ HX1.out (fun k1 => ?_)
    clear hK K
    try simp only [List.setIfInBounds_toArray, List.set_cons_zero, List.set_cons_succ]
    refine wpAnyH_take (i := 5) (oi := ⟨some 73, _, _, _, _, _⟩) (v := .bool false) rfl (by kernel_rfl) (by kernel_rfl) (by kernel_rfl) (fun _ _ _ h => h) (Or.inl ⟨by rfl, fun W hSw => by clear hSw; go_simp⟩) k1 ?_
    try simp only [Act.put, List.setIfInBounds_toArray, List.set_cons_zero, List.set_cons_succ]
    refine wpAnyH_take (i := 6) (oi := ⟨some 74, _, _, _, _, _⟩) (v := undef) rfl (by kernel_rfl) (by kernel_rfl) (by kernel_rfl) (fun _ _ _ h => h) (Or.inr ⟨by rfl, rfl⟩) k1 ?_
    try simp only [Act.put, List.setIfInBounds_toArray, List.set_cons_zero, List.set_cons_succ]
    refine wpAnyH_take (i := 7) (oi := ⟨some 75, _, _, _, _, _⟩) (v := undef) rfl (by kernel_rfl) (by kernel_rfl) (by kernel_rfl) (fun _ _ _ h => h) (Or.inr ⟨by rfl, rfl⟩) k1 ?_
    try simp only [Act.put, List.setIfInBounds_toArray, List.set_cons_zero, List.set_cons_succ]
    refine wpAnyH_take (i := 8) (oi := ⟨some 76, _, _, _, _, _⟩) (v := undef) rfl (by kernel_rfl) (by kernel_rfl) (by kernel_rfl) (fun _ _ _ h => h) (Or.inr ⟨by rfl, rfl⟩) k1 ?_
    try simp only [Act.put, List.setIfInBounds_toArray, List.set_cons_zero, List.set_cons_succ]
    refine wpAnyH_take (i := 9) (oi := ⟨some 77, _, _, _, _, _⟩) (v := undef) rfl (by kernel_rfl) (by kernel_rfl) (by kernel_rfl) (fun _ _ _ h => h) (Or.inr ⟨by rfl, rfl⟩) k1 ?_
    try simp only [Act.put, List.setIfInBounds_toArray, List.set_cons_zero, List.set_cons_succ]
    refine wpAnyH_take (i := 10) (oi := ⟨some 78, _, _, _, _, _⟩) (v := undef) rfl (by kernel_rfl) (by kernel_rfl) (by kernel_rfl) (fun _ _ _ h => h) (Or.inr ⟨by rfl, rfl⟩) k1 ?_
    try simp only [Act.put, List.setIfInBounds_toArray, List.set_cons_zero, List.set_cons_succ]
    refine wpAnyH_take (i := 11) (oi := ⟨some 79, _, _, _, _, _⟩) (v := .bool false) rfl (by kernel_rfl) (by kernel_rfl) (by kernel_rfl) (fun _ _ _ h => h) (Or.inl ⟨by rfl, fun W hSw => by clear hSw; go_simp⟩) k1 ?_
    try simp only [Act.put, List.setIfInBounds_toArray, List.set_cons_zero, List.set_cons_succ]
    refine wpAnyH_take (i := 12) (oi := ⟨some 80, _, _, _, _, _⟩) (v := .bool false) rfl (by kernel_rfl) (by kernel_rfl) (by kernel_rfl) (fun _ _ _ h => h) (Or.inl ⟨by rfl, fun W hSw => by clear hSw; go_simp⟩) k1 ?_
    try simp only [Act.put, List.setIfInBounds_toArray, List.set_cons_zero, List.set_cons_succ]
    refine wpAnyH_take (i := 13) (oi := ⟨some 81, _, _, _, _, _⟩) (v := undef) rfl (by kernel_rfl) (by kernel_rfl) (by kernel_rfl) (fun _ _ _ h => h) (Or.inr ⟨by rfl, rfl⟩) k1 ?_
    try simp only [Act.put, List.setIfInBounds_toArray, List.set_cons_zero, List.set_cons_succ]
    refine wpAnyH_take (i := 14) (oi := ⟨some 82, _, _, _, _, _⟩) (v := undef) rfl (by kernel_rfl) (by kernel_rfl) (by kernel_rfl) (fun _ _ _ h => h) (Or.inr ⟨by rfl, rfl⟩) k1 ?_
    try simp only [Act.put, List.setIfInBounds_toArray, List.set_cons_zero, List.set_cons_succ]
    refine wpAnyH_take (i := 15) (oi := ⟨some 83, _, _, _, _, _⟩) (v := .bool false) rfl (by kernel_rfl) (by kernel_rfl) (by kernel_rfl) (fun _ _ _ h => h) (Or.inl ⟨by rfl, fun W hSw => by clear hSw; go_simp⟩) k1 ?_
    try simp only [Act.put, List.setIfInBounds_toArray, List.set_cons_zero, List.set_cons_succ]
    refine wpAnyH_done (by kernel_rfl) ?_ _
    refine onlyN_normal ?_
    go_wp2
    go_end0
    exact ⟨⟨_, rfl⟩, .inr HJ1.out⟩

end E
end Go.Proofs.YtbcncohjjnmdcaaGreatDoor
namespace Go.Proofs.YtbcncohjjnmdcaaGreatDoor
open Go.RowKit Go.Shelf
set_option linter.unusedVariables false
namespace E
set_option maxRecDepth 100000 in
set_option maxHeartbeats 2000000 in
theorem fieldsSI : FieldsAt 4 := by
  intro l J Jx base Bi B W hY hD hbW hB hBi hne bi cf h0
  obtain ⟨W3, hW3⟩ : ∃ W3, W3 = ((W.alloc (.cells #[.func (.yield l) #[] #[]] 131)).alloc (.cells #[.int .i64 0] 3)).alloc (.cells #[halfV W.heap.size] 132) := ⟨_, rfl⟩
  have hg3 : W.grownBy W3 none := by
    rw [hW3]
    exact grown_of8 (((below_new W _).alloc (by simp) _).alloc (by simp; omega) _) none
  have hfx : Fx l W.heap.size (W.heap.size + 1 + 1) Bi B W3 := by
    rw [hW3]
    exact ⟨((Boxed.new W _ _).alloc _).alloc _, boxed_new38 W _ _ _ _, ((bi.alloc _).alloc _).alloc _⟩
  have hu : Boxed W3 (W.heap.size + 1) 3 (.int .i64 0) := by
    rw [hW3]
    exact (boxed_new28 W _ _ _).alloc _
  have cf3 : W3.cell? ⟨B, 1, none⟩ = some (.int .i64 4) := by
    rw [hW3]
    exact Lib.cell?_alloc_some _ (Lib.cell?_alloc_some _ (Lib.cell?_alloc_some _ cf))
  have hnum : base ≤ W.heap.size ∧ B < base ∧ Bi < base ∧ Bi ≠ B := ⟨hbW, hB, hBi, hne⟩
  have HNUM := Lib.hid hnum
  have HUB := Lib.hid (show ¬ W.heap.size + 1 = B by omega)
  have HY := Lib.hid hY
  have HD := Lib.hid hD
  have HU0L := Lib.hid (show base ≤ W.heap.size + 1 by omega)
  have HW3 := Lib.hid hW3
  have hX0 : Fx l W.heap.size (W.heap.size + 1 + 1) Bi B W3 := hfx
  have HX0 := Lib.hid hX0
  have hU0 : Boxed W3 (W.heap.size + 1) 3 (.int .i64 0) := hu
  have HU0 := Lib.hid hU0
  have hJ0 : J [] W3 := hD _ _ _ h0 hg3
  have HJ0 := Lib.hid hJ0
  have HNB := Lib.hid (fun (X Y : World) (hk : Kb base Bi B X Y) (hx : Fx l W.heap.size (W.heap.size + 1 + 1) Bi B X) => hx.next hk (by omega) (by omega) (by omega) (.inl (by omega)) (.inl (by omega)))
  have HNU := Lib.hid (fun (X Y : World) (hk : Kb base Bi (W.heap.size + 1) X Y) (hx : Fx l W.heap.size (W.heap.size + 1 + 1) Bi B X) => hx.next hk (by omega) (by omega) (by omega) (.inl (by omega)) (.inl (by omega)))
  have HH := Lib.hid (fun (pre : List (Addr × Nat)) (k : Nat) (X : World) (hk : k < 12) (hp : PfF 4 B (pre ++ [(⟨B, k, none⟩, 4)])) (hj : J pre X) (hx : Fx l W.heap.size (W.heap.size + 1 + 1) Bi B X) => half_any l W.heap.size pre (⟨B, k, none⟩, 4) J Jx (Kb base Bi B) X rfl hx.1 (fun hj => hY _ _ _ ⟨hp, .inl ⟨k, hk, rfl⟩⟩ hj) hj)
  have HW := Lib.hid (fun (pre : List (Addr × Nat)) (k : Nat) (X : World) (hk : k < 12) (hp : PfF 4 B (pre ++ [(⟨B, k, none⟩, 8)])) (hj : J pre X) (hx : Fx l W.heap.size (W.heap.size + 1 + 1) Bi B X) => whole_any l W.heap.size pre (⟨B, k, none⟩, 8) J Jx (Kb base Bi B) X rfl hx.1 (fun hj => hY _ _ _ ⟨hp, .inl ⟨k, hk, rfl⟩⟩ hj) hj)
  have HHU := Lib.hid (fun (pre : List (Addr × Nat)) (X : World) (hu : Boxed X (W.heap.size + 1) 3 (.int .i64 0)) (hp : PfF 4 B (pre ++ [(⟨W.heap.size + 1, 0, none⟩, 4)])) (hj : J pre X) (hx : Fx l W.heap.size (W.heap.size + 1 + 1) Bi B X) => half_any l W.heap.size pre (⟨W.heap.size + 1, 0, none⟩, 4) J Jx (Kb base Bi (W.heap.size + 1)) X rfl hx.1 (fun hj => hY _ _ _ ⟨hp, .inr ⟨W.heap.size + 1, by omega, rfl, hu⟩⟩ hj) hj)
  have HWU := Lib.hid (fun (pre : List (Addr × Nat)) (X : World) (hu : Boxed X (W.heap.size + 1) 3 (.int .i64 0)) (hp : PfF 4 B (pre ++ [(⟨W.heap.size + 1, 0, none⟩, 8)])) (hj : J pre X) (hx : Fx l W.heap.size (W.heap.size + 1 + 1) Bi B X) => whole_any l W.heap.size pre (⟨W.heap.size + 1, 0, none⟩, 8) J Jx (Kb base Bi (W.heap.size + 1)) X rfl hx.1 (fun hj => hY _ _ _ ⟨hp, .inr ⟨W.heap.size + 1, by omega, rfl, hu⟩⟩ hj) hj)
  have HF := Lib.hid (fun (pre : List (Addr × Nat)) (X : World) (hp1 : PfF 4 B (pre ++ [(⟨B, 5, none⟩, 4)])) (hp2 : PfF 4 B ((pre ++ [(⟨B, 5, none⟩, 4)]) ++ [(⟨B, 6, none⟩, 12)])) (hj : J pre X) (hx : Fx l W.heap.size (W.heap.size + 1 + 1) Bi B X) => first_any (PfF 4 B) l J Jx base Bi B W.heap.size (W.heap.size + 1 + 1) pre X hY hD hbW (by omega) hne hx.2.1 hx.2.2 hx.1 hj hp1 hp2)
  have HSC := Lib.hid (fun (pre : List (Addr × Nat)) (X : World) (hp1 : PfF 4 B (pre ++ [(⟨B, 7, none⟩, 4)])) (hp2 : PfF 4 B ((pre ++ [(⟨B, 7, none⟩, 4)]) ++ [(⟨B, 8, none⟩, 12)])) (hj : J pre X) (hx : Fx l W.heap.size (W.heap.size + 1 + 1) Bi B X) => second_any (PfF 4 B) l J Jx base Bi B W.heap.size (W.heap.size + 1 + 1) pre X hY hD hbW (by omega) hne hx.2.1 hx.2.2 hx.1 hj hp1 hp2)
  have ci0 := hfx.2.2.cell
  have ch0 := hfx.2.1.cell
  have hi3 : W3.cell? ⟨Bi, 0, none⟩ = some (.pointer (some ⟨B, 0, none⟩)) := ci0
  unfold halfV at ch0 hW3
  clear hY hD hg3 hfx hu hnum hX0 hU0 hJ0 h0 bi cf hbW hB hBi hne HW3
  go_enter Tryz.func120, Tryz.ntmps120
  rw [hW3] at cf3 ci0 ch0 hi3
  go_wp2_with fail
  rw [← hW3]
  clear cf3 ci0 ch0 hi3 hW3
  go_wp2_with fail
  refine ((HW.out _ 11 _ (by omega) (by have := HUB.out; simp [PfF, kd, fldsT]) HJ0.out HX0.out)).mono ?_
  rintro e w1 hor
  rcases hor with ⟨hk0, ⟨rfl, hj0⟩ | ⟨rfl, hj0⟩⟩
  · have HX1 := Lib.hid (HNB.out _ _ hk0 HX0.out)
    have HJ1 := Lib.hid hj0
    clear hj0 hk0
    have ci1 := HX1.out.2.2.cell
    go_wp2_with fail
    refine ((HF.out _ _ (by have := HUB.out; simp [PfF, kd, fldsT]) (by have := HUB.out; simp [PfF, kd, fldsT]) HJ1.out HX1.out)).mono ?_
    rintro e w2 hor
    rcases hor with ⟨hk1, ⟨rfl, hj1⟩ | ⟨rfl, hj1⟩⟩
    · have HX2 := Lib.hid (HNB.out _ _ hk1 HX1.out)
      have HJ2 := Lib.hid hj1
      clear hj1 hk1
      have ci2 := HX2.out.2.2.cell
      go_wp2
      go_end0
      exact ⟨⟨_, rfl⟩, .inl ⟨_, ⟨_, HU0L.out, rfl⟩, HJ2.out⟩⟩
    · have HX2 := Lib.hid (HNB.out _ _ hk1 HX1.out)
      have HJ2 := Lib.hid hj1
      clear hj1 hk1
      go_wp2
      go_end0
      exact ⟨⟨_, rfl⟩, .inr HJ2.out⟩
  · have HX1 := Lib.hid (HNB.out _ _ hk0 HX0.out)
    have HJ1 := Lib.hid hj0
    clear hj0 hk0
    go_wp2
    go_end0
    exact ⟨⟨_, rfl⟩, .inr HJ1.out⟩

set_option maxRecDepth 100000 in
set_option maxHeartbeats 2000000 in
theorem fieldsS : FieldsAt 9 := by
  intro l J Jx base Bi B W hY hD hbW hB hBi hne bi cf h0
  obtain ⟨W3, hW3⟩ : ∃ W3, W3 = ((W.alloc (.cells #[.func (.yield l) #[] #[]] 131)).alloc (.cells #[.int .i64 0] 3)).alloc (.cells #[halfV W.heap.size] 132) := ⟨_, rfl⟩
  have hg3 : W.grownBy W3 none := by
    rw [hW3]
    exact grown_of8 (((below_new W _).alloc (by simp) _).alloc (by simp; omega) _) none
  have hfx : Fx l W.heap.size (W.heap.size + 1 + 1) Bi B W3 := by
    rw [hW3]
    exact ⟨((Boxed.new W _ _).alloc _).alloc _, boxed_new38 W _ _ _ _, ((bi.alloc _).alloc _).alloc _⟩
  have hu : Boxed W3 (W.heap.size + 1) 3 (.int .i64 0) := by
    rw [hW3]
    exact (boxed_new28 W _ _ _).alloc _
  have cf3 : W3.cell? ⟨B, 1, none⟩ = some (.int .i64 9) := by
    rw [hW3]
    exact Lib.cell?_alloc_some _ (Lib.cell?_alloc_some _ (Lib.cell?_alloc_some _ cf))
  have hnum : base ≤ W.heap.size ∧ B < base ∧ Bi < base ∧ Bi ≠ B := ⟨hbW, hB, hBi, hne⟩
  have HNUM := Lib.hid hnum
  have HUB := Lib.hid (show ¬ W.heap.size + 1 = B by omega)
  have HY := Lib.hid hY
  have HD := Lib.hid hD
  have HU0L := Lib.hid (show base ≤ W.heap.size + 1 by omega)
  have HW3 := Lib.hid hW3
  have hX0 : Fx l W.heap.size (W.heap.size + 1 + 1) Bi B W3 := hfx
  have HX0 := Lib.hid hX0
  have hU0 : Boxed W3 (W.heap.size + 1) 3 (.int .i64 0) := hu
  have HU0 := Lib.hid hU0
  have hJ0 : J [] W3 := hD _ _ _ h0 hg3
  have HJ0 := Lib.hid hJ0
  have HNB := Lib.hid (fun (X Y : World) (hk : Kb base Bi B X Y) (hx : Fx l W.heap.size (W.heap.size + 1 + 1) Bi B X) => hx.next hk (by omega) (by omega) (by omega) (.inl (by omega)) (.inl (by omega)))
  have HNU := Lib.hid (fun (X Y : World) (hk : Kb base Bi (W.heap.size + 1) X Y) (hx : Fx l W.heap.size (W.heap.size + 1 + 1) Bi B X) => hx.next hk (by omega) (by omega) (by omega) (.inl (by omega)) (.inl (by omega)))
  have HH := Lib.hid (fun (pre : List (Addr × Nat)) (k : Nat) (X : World) (hk : k < 12) (hp : PfF 9 B (pre ++ [(⟨B, k, none⟩, 4)])) (hj : J pre X) (hx : Fx l W.heap.size (W.heap.size + 1 + 1) Bi B X) => half_any l W.heap.size pre (⟨B, k, none⟩, 4) J Jx (Kb base Bi B) X rfl hx.1 (fun hj => hY _ _ _ ⟨hp, .inl ⟨k, hk, rfl⟩⟩ hj) hj)
  have HW := Lib.hid (fun (pre : List (Addr × Nat)) (k : Nat) (X : World) (hk : k < 12) (hp : PfF 9 B (pre ++ [(⟨B, k, none⟩, 8)])) (hj : J pre X) (hx : Fx l W.heap.size (W.heap.size + 1 + 1) Bi B X) => whole_any l W.heap.size pre (⟨B, k, none⟩, 8) J Jx (Kb base Bi B) X rfl hx.1 (fun hj => hY _ _ _ ⟨hp, .inl ⟨k, hk, rfl⟩⟩ hj) hj)
  have HHU := Lib.hid (fun (pre : List (Addr × Nat)) (X : World) (hu : Boxed X (W.heap.size + 1) 3 (.int .i64 0)) (hp : PfF 9 B (pre ++ [(⟨W.heap.size + 1, 0, none⟩, 4)])) (hj : J pre X) (hx : Fx l W.heap.size (W.heap.size + 1 + 1) Bi B X) => half_any l W.heap.size pre (⟨W.heap.size + 1, 0, none⟩, 4) J Jx (Kb base Bi (W.heap.size + 1)) X rfl hx.1 (fun hj => hY _ _ _ ⟨hp, .inr ⟨W.heap.size + 1, by omega, rfl, hu⟩⟩ hj) hj)
  have HWU := Lib.hid (fun (pre : List (Addr × Nat)) (X : World) (hu : Boxed X (W.heap.size + 1) 3 (.int .i64 0)) (hp : PfF 9 B (pre ++ [(⟨W.heap.size + 1, 0, none⟩, 8)])) (hj : J pre X) (hx : Fx l W.heap.size (W.heap.size + 1 + 1) Bi B X) => whole_any l W.heap.size pre (⟨W.heap.size + 1, 0, none⟩, 8) J Jx (Kb base Bi (W.heap.size + 1)) X rfl hx.1 (fun hj => hY _ _ _ ⟨hp, .inr ⟨W.heap.size + 1, by omega, rfl, hu⟩⟩ hj) hj)
  have HF := Lib.hid (fun (pre : List (Addr × Nat)) (X : World) (hp1 : PfF 9 B (pre ++ [(⟨B, 5, none⟩, 4)])) (hp2 : PfF 9 B ((pre ++ [(⟨B, 5, none⟩, 4)]) ++ [(⟨B, 6, none⟩, 12)])) (hj : J pre X) (hx : Fx l W.heap.size (W.heap.size + 1 + 1) Bi B X) => first_any (PfF 9 B) l J Jx base Bi B W.heap.size (W.heap.size + 1 + 1) pre X hY hD hbW (by omega) hne hx.2.1 hx.2.2 hx.1 hj hp1 hp2)
  have HSC := Lib.hid (fun (pre : List (Addr × Nat)) (X : World) (hp1 : PfF 9 B (pre ++ [(⟨B, 7, none⟩, 4)])) (hp2 : PfF 9 B ((pre ++ [(⟨B, 7, none⟩, 4)]) ++ [(⟨B, 8, none⟩, 12)])) (hj : J pre X) (hx : Fx l W.heap.size (W.heap.size + 1 + 1) Bi B X) => second_any (PfF 9 B) l J Jx base Bi B W.heap.size (W.heap.size + 1 + 1) pre X hY hD hbW (by omega) hne hx.2.1 hx.2.2 hx.1 hj hp1 hp2)
  have ci0 := hfx.2.2.cell
  have ch0 := hfx.2.1.cell
  have hi3 : W3.cell? ⟨Bi, 0, none⟩ = some (.pointer (some ⟨B, 0, none⟩)) := ci0
  unfold halfV at ch0 hW3
  clear hY hD hg3 hfx hu hnum hX0 hU0 hJ0 h0 bi cf hbW hB hBi hne HW3
  go_enter Tryz.func120, Tryz.ntmps120
  rw [hW3] at cf3 ci0 ch0 hi3
  go_wp2_with fail
  rw [← hW3]
  clear cf3 ci0 ch0 hi3 hW3
  go_wp2_with fail
  refine ((HWU.out _ _ HU0.out (by have := HUB.out; simp [PfF, kd, fldsT, this]) HJ0.out HX0.out)).mono ?_
  rintro e w1 hor
  rcases hor with ⟨hk0, ⟨rfl, hj0⟩ | ⟨rfl, hj0⟩⟩
  · have HX1 := Lib.hid (HNU.out _ _ hk0 HX0.out)
    have HJ1 := Lib.hid hj0
    clear hj0 hk0
    have ci1 := HX1.out.2.2.cell
    go_wp2_with fail
    refine ((HF.out _ _ (by have := HUB.out; simp [PfF, kd, fldsT, this]) (by have := HUB.out; simp [PfF, kd, fldsT, this]) HJ1.out HX1.out)).mono ?_
    rintro e w2 hor
    rcases hor with ⟨hk1, ⟨rfl, hj1⟩ | ⟨rfl, hj1⟩⟩
    · have HX2 := Lib.hid (HNB.out _ _ hk1 HX1.out)
      have HJ2 := Lib.hid hj1
      clear hj1 hk1
      have ci2 := HX2.out.2.2.cell
      go_wp2
      go_end0
      exact ⟨⟨_, rfl⟩, .inl ⟨_, ⟨_, HU0L.out, rfl⟩, HJ2.out⟩⟩
    · have HX2 := Lib.hid (HNB.out _ _ hk1 HX1.out)
      have HJ2 := Lib.hid hj1
      clear hj1 hk1
      go_wp2
      go_end0
      exact ⟨⟨_, rfl⟩, .inr HJ2.out⟩
  · have HX1 := Lib.hid (HNU.out _ _ hk0 HX0.out)
    have HJ1 := Lib.hid hj0
    clear hj0 hk0
    go_wp2
    go_end0
    exact ⟨⟨_, rfl⟩, .inr HJ1.out⟩

set_option maxRecDepth 100000 in
set_option maxHeartbeats 2000000 in
theorem fieldsSS : FieldsAt 5 := by
  intro l J Jx base Bi B W hY hD hbW hB hBi hne bi cf h0
  obtain ⟨W3, hW3⟩ : ∃ W3, W3 = ((W.alloc (.cells #[.func (.yield l) #[] #[]] 131)).alloc (.cells #[.int .i64 0] 3)).alloc (.cells #[halfV W.heap.size] 132) := ⟨_, rfl⟩
  have hg3 : W.grownBy W3 none := by
    rw [hW3]
    exact grown_of8 (((below_new W _).alloc (by simp) _).alloc (by simp; omega) _) none
  have hfx : Fx l W.heap.size (W.heap.size + 1 + 1) Bi B W3 := by
    rw [hW3]
    exact ⟨((Boxed.new W _ _).alloc _).alloc _, boxed_new38 W _ _ _ _, ((bi.alloc _).alloc _).alloc _⟩
  have hu : Boxed W3 (W.heap.size + 1) 3 (.int .i64 0) := by
    rw [hW3]
    exact (boxed_new28 W _ _ _).alloc _
  have cf3 : W3.cell? ⟨B, 1, none⟩ = some (.int .i64 5) := by
    rw [hW3]
    exact Lib.cell?_alloc_some _ (Lib.cell?_alloc_some _ (Lib.cell?_alloc_some _ cf))
  have hnum : base ≤ W.heap.size ∧ B < base ∧ Bi < base ∧ Bi ≠ B := ⟨hbW, hB, hBi, hne⟩
  have HNUM := Lib.hid hnum
  have HUB := Lib.hid (show ¬ W.heap.size + 1 = B by omega)
  have HY := Lib.hid hY
  have HD := Lib.hid hD
  have HU0L := Lib.hid (show base ≤ W.heap.size + 1 by omega)
  have HW3 := Lib.hid hW3
  have hX0 : Fx l W.heap.size (W.heap.size + 1 + 1) Bi B W3 := hfx
  have HX0 := Lib.hid hX0
  have hU0 : Boxed W3 (W.heap.size + 1) 3 (.int .i64 0) := hu
  have HU0 := Lib.hid hU0
  have hJ0 : J [] W3 := hD _ _ _ h0 hg3
  have HJ0 := Lib.hid hJ0
  have HNB := Lib.hid (fun (X Y : World) (hk : Kb base Bi B X Y) (hx : Fx l W.heap.size (W.heap.size + 1 + 1) Bi B X) => hx.next hk (by omega) (by omega) (by omega) (.inl (by omega)) (.inl (by omega)))
  have HNU := Lib.hid (fun (X Y : World) (hk : Kb base Bi (W.heap.size + 1) X Y) (hx : Fx l W.heap.size (W.heap.size + 1 + 1) Bi B X) => hx.next hk (by omega) (by omega) (by omega) (.inl (by omega)) (.inl (by omega)))
  have HH := Lib.hid (fun (pre : List (Addr × Nat)) (k : Nat) (X : World) (hk : k < 12) (hp : PfF 5 B (pre ++ [(⟨B, k, none⟩, 4)])) (hj : J pre X) (hx : Fx l W.heap.size (W.heap.size + 1 + 1) Bi B X) => half_any l W.heap.size pre (⟨B, k, none⟩, 4) J Jx (Kb base Bi B) X rfl hx.1 (fun hj => hY _ _ _ ⟨hp, .inl ⟨k, hk, rfl⟩⟩ hj) hj)
  have HW := Lib.hid (fun (pre : List (Addr × Nat)) (k : Nat) (X : World) (hk : k < 12) (hp : PfF 5 B (pre ++ [(⟨B, k, none⟩, 8)])) (hj : J pre X) (hx : Fx l W.heap.size (W.heap.size + 1 + 1) Bi B X) => whole_any l W.heap.size pre (⟨B, k, none⟩, 8) J Jx (Kb base Bi B) X rfl hx.1 (fun hj => hY _ _ _ ⟨hp, .inl ⟨k, hk, rfl⟩⟩ hj) hj)
  have HHU := Lib.hid (fun (pre : List (Addr × Nat)) (X : World) (hu : Boxed X (W.heap.size + 1) 3 (.int .i64 0)) (hp : PfF 5 B (pre ++ [(⟨W.heap.size + 1, 0, none⟩, 4)])) (hj : J pre X) (hx : Fx l W.heap.size (W.heap.size + 1 + 1) Bi B X) => half_any l W.heap.size pre (⟨W.heap.size + 1, 0, none⟩, 4) J Jx (Kb base Bi (W.heap.size + 1)) X rfl hx.1 (fun hj => hY _ _ _ ⟨hp, .inr ⟨W.heap.size + 1, by omega, rfl, hu⟩⟩ hj) hj)
  have HWU := Lib.hid (fun (pre : List (Addr × Nat)) (X : World) (hu : Boxed X (W.heap.size + 1) 3 (.int .i64 0)) (hp : PfF 5 B (pre ++ [(⟨W.heap.size + 1, 0, none⟩, 8)])) (hj : J pre X) (hx : Fx l W.heap.size (W.heap.size + 1 + 1) Bi B X) => whole_any l W.heap.size pre (⟨W.heap.size + 1, 0, none⟩, 8) J Jx (Kb base Bi (W.heap.size + 1)) X rfl hx.1 (fun hj => hY _ _ _ ⟨hp, .inr ⟨W.heap.size + 1, by omega, rfl, hu⟩⟩ hj) hj)
  have HF := Lib.hid (fun (pre : List (Addr × Nat)) (X : World) (hp1 : PfF 5 B (pre ++ [(⟨B, 5, none⟩, 4)])) (hp2 : PfF 5 B ((pre ++ [(⟨B, 5, none⟩, 4)]) ++ [(⟨B, 6, none⟩, 12)])) (hj : J pre X) (hx : Fx l W.heap.size (W.heap.size + 1 + 1) Bi B X) => first_any (PfF 5 B) l J Jx base Bi B W.heap.size (W.heap.size + 1 + 1) pre X hY hD hbW (by omega) hne hx.2.1 hx.2.2 hx.1 hj hp1 hp2)
  have HSC := Lib.hid (fun (pre : List (Addr × Nat)) (X : World) (hp1 : PfF 5 B (pre ++ [(⟨B, 7, none⟩, 4)])) (hp2 : PfF 5 B ((pre ++ [(⟨B, 7, none⟩, 4)]) ++ [(⟨B, 8, none⟩, 12)])) (hj : J pre X) (hx : Fx l W.heap.size (W.heap.size + 1 + 1) Bi B X) => second_any (PfF 5 B) l J Jx base Bi B W.heap.size (W.heap.size + 1 + 1) pre X hY hD hbW (by omega) hne hx.2.1 hx.2.2 hx.1 hj hp1 hp2)
  have ci0 := hfx.2.2.cell
  have ch0 := hfx.2.1.cell
  have hi3 : W3.cell? ⟨Bi, 0, none⟩ = some (.pointer (some ⟨B, 0, none⟩)) := ci0
  unfold halfV at ch0 hW3
  clear hY hD hg3 hfx hu hnum hX0 hU0 hJ0 h0 bi cf hbW hB hBi hne HW3
  go_enter Tryz.func120, Tryz.ntmps120
  rw [hW3] at cf3 ci0 ch0 hi3
  go_wp2_with fail
  rw [← hW3]
  clear cf3 ci0 ch0 hi3 hW3
  go_wp2_with fail
  refine ((HW.out _ 9 _ (by omega) (by have := HUB.out; simp [PfF, kd, fldsT]) HJ0.out HX0.out)).mono ?_
  rintro e w1 hor
  rcases hor with ⟨hk0, ⟨rfl, hj0⟩ | ⟨rfl, hj0⟩⟩
  · have HX1 := Lib.hid (HNB.out _ _ hk0 HX0.out)
    have HJ1 := Lib.hid hj0
    clear hj0 hk0
    have ci1 := HX1.out.2.2.cell
    go_wp2_with fail
    refine ((HF.out _ _ (by have := HUB.out; simp [PfF, kd, fldsT]) (by have := HUB.out; simp [PfF, kd, fldsT]) HJ1.out HX1.out)).mono ?_
    rintro e w2 hor
    rcases hor with ⟨hk1, ⟨rfl, hj1⟩ | ⟨rfl, hj1⟩⟩
    · have HX2 := Lib.hid (HNB.out _ _ hk1 HX1.out)
      have HJ2 := Lib.hid hj1
      clear hj1 hk1
      have ci2 := HX2.out.2.2.cell
      go_wp2_with fail
      refine ((HSC.out _ _ (by have := HUB.out; simp [PfF, kd, fldsT]) (by have := HUB.out; simp [PfF, kd, fldsT]) HJ2.out HX2.out)).mono ?_
      rintro e w3 hor
      rcases hor with ⟨hk2, ⟨rfl, hj2⟩ | ⟨rfl, hj2⟩⟩
      · have HX3 := Lib.hid (HNB.out _ _ hk2 HX2.out)
        have HJ3 := Lib.hid hj2
        clear hj2 hk2
        have ci3 := HX3.out.2.2.cell
        go_wp2
        go_end0
        exact ⟨⟨_, rfl⟩, .inl ⟨_, ⟨_, HU0L.out, rfl⟩, HJ3.out⟩⟩
      · have HX3 := Lib.hid (HNB.out _ _ hk2 HX2.out)
        have HJ3 := Lib.hid hj2
        clear hj2 hk2
        go_wp2
        go_end0
        exact ⟨⟨_, rfl⟩, .inr HJ3.out⟩
    · have HX2 := Lib.hid (HNB.out _ _ hk1 HX1.out)
      have HJ2 := Lib.hid hj1
      clear hj1 hk1
      go_wp2
      go_end0
      exact ⟨⟨_, rfl⟩, .inr HJ2.out⟩
  · have HX1 := Lib.hid (HNB.out _ _ hk0 HX0.out)
    have HJ1 := Lib.hid hj0
    clear hj0 hk0
    go_wp2
    go_end0
    exact ⟨⟨_, rfl⟩, .inr HJ1.out⟩

end E
end Go.Proofs.YtbcncohjjnmdcaaGreatDoor
namespace Go.Proofs.YtbcncohjjnmdcaaGreatDoor
open Go.RowKit Go.Shelf
set_option linter.unusedVariables false
namespace E
set_option maxRecDepth 100000 in
set_option maxHeartbeats 2000000 in
theorem fieldsSS2 : FieldsAt 6 := by
  intro l J Jx base Bi B W hY hD hbW hB hBi hne bi cf h0
  obtain ⟨W3, hW3⟩ : ∃ W3, W3 = ((W.alloc (.cells #[.func (.yield l) #[] #[]] 131)).alloc (.cells #[.int .i64 0] 3)).alloc (.cells #[halfV W.heap.size] 132) := ⟨_, rfl⟩
  have hg3 : W.grownBy W3 none := by
    rw [hW3]
    exact grown_of8 (((below_new W _).alloc (by simp) _).alloc (by simp; omega) _) none
  have hfx : Fx l W.heap.size (W.heap.size + 1 + 1) Bi B W3 := by
    rw [hW3]
    exact ⟨((Boxed.new W _ _).alloc _).alloc _, boxed_new38 W _ _ _ _, ((bi.alloc _).alloc _).alloc _⟩
  have hu : Boxed W3 (W.heap.size + 1) 3 (.int .i64 0) := by
    rw [hW3]
    exact (boxed_new28 W _ _ _).alloc _
  have cf3 : W3.cell? ⟨B, 1, none⟩ = some (.int .i64 6) := by
    rw [hW3]
    exact Lib.cell?_alloc_some _ (Lib.cell?_alloc_some _ (Lib.cell?_alloc_some _ cf))
  have hnum : base ≤ W.heap.size ∧ B < base ∧ Bi < base ∧ Bi ≠ B := ⟨hbW, hB, hBi, hne⟩
  have HNUM := Lib.hid hnum
  have HUB := Lib.hid (show ¬ W.heap.size + 1 = B by omega)
  have HY := Lib.hid hY
  have HD := Lib.hid hD
  have HU0L := Lib.hid (show base ≤ W.heap.size + 1 by omega)
  have HW3 := Lib.hid hW3
  have hX0 : Fx l W.heap.size (W.heap.size + 1 + 1) Bi B W3.drew := hfx.drew
  have HX0 := Lib.hid hX0
  have hU0 : Boxed W3.drew (W.heap.size + 1) 3 (.int .i64 0) := hu.kept (grown_drewN W3 1 none) (by simp)
  have HU0 := Lib.hid hU0
  have hJ0 : J [] W3.drew := hD _ _ _ (hD _ _ _ h0 hg3) (grown_drewN W3 1 none)
  have HJ0 := Lib.hid hJ0
  have HNB := Lib.hid (fun (X Y : World) (hk : Kb base Bi B X Y) (hx : Fx l W.heap.size (W.heap.size + 1 + 1) Bi B X) => hx.next hk (by omega) (by omega) (by omega) (.inl (by omega)) (.inl (by omega)))
  have HNU := Lib.hid (fun (X Y : World) (hk : Kb base Bi (W.heap.size + 1) X Y) (hx : Fx l W.heap.size (W.heap.size + 1 + 1) Bi B X) => hx.next hk (by omega) (by omega) (by omega) (.inl (by omega)) (.inl (by omega)))
  have HH := Lib.hid (fun (pre : List (Addr × Nat)) (k : Nat) (X : World) (hk : k < 12) (hp : PfF 6 B (pre ++ [(⟨B, k, none⟩, 4)])) (hj : J pre X) (hx : Fx l W.heap.size (W.heap.size + 1 + 1) Bi B X) => half_any l W.heap.size pre (⟨B, k, none⟩, 4) J Jx (Kb base Bi B) X rfl hx.1 (fun hj => hY _ _ _ ⟨hp, .inl ⟨k, hk, rfl⟩⟩ hj) hj)
  have HW := Lib.hid (fun (pre : List (Addr × Nat)) (k : Nat) (X : World) (hk : k < 12) (hp : PfF 6 B (pre ++ [(⟨B, k, none⟩, 8)])) (hj : J pre X) (hx : Fx l W.heap.size (W.heap.size + 1 + 1) Bi B X) => whole_any l W.heap.size pre (⟨B, k, none⟩, 8) J Jx (Kb base Bi B) X rfl hx.1 (fun hj => hY _ _ _ ⟨hp, .inl ⟨k, hk, rfl⟩⟩ hj) hj)
  have HHU := Lib.hid (fun (pre : List (Addr × Nat)) (X : World) (hu : Boxed X (W.heap.size + 1) 3 (.int .i64 0)) (hp : PfF 6 B (pre ++ [(⟨W.heap.size + 1, 0, none⟩, 4)])) (hj : J pre X) (hx : Fx l W.heap.size (W.heap.size + 1 + 1) Bi B X) => half_any l W.heap.size pre (⟨W.heap.size + 1, 0, none⟩, 4) J Jx (Kb base Bi (W.heap.size + 1)) X rfl hx.1 (fun hj => hY _ _ _ ⟨hp, .inr ⟨W.heap.size + 1, by omega, rfl, hu⟩⟩ hj) hj)
  have HWU := Lib.hid (fun (pre : List (Addr × Nat)) (X : World) (hu : Boxed X (W.heap.size + 1) 3 (.int .i64 0)) (hp : PfF 6 B (pre ++ [(⟨W.heap.size + 1, 0, none⟩, 8)])) (hj : J pre X) (hx : Fx l W.heap.size (W.heap.size + 1 + 1) Bi B X) => whole_any l W.heap.size pre (⟨W.heap.size + 1, 0, none⟩, 8) J Jx (Kb base Bi (W.heap.size + 1)) X rfl hx.1 (fun hj => hY _ _ _ ⟨hp, .inr ⟨W.heap.size + 1, by omega, rfl, hu⟩⟩ hj) hj)
  have HF := Lib.hid (fun (pre : List (Addr × Nat)) (X : World) (hp1 : PfF 6 B (pre ++ [(⟨B, 5, none⟩, 4)])) (hp2 : PfF 6 B ((pre ++ [(⟨B, 5, none⟩, 4)]) ++ [(⟨B, 6, none⟩, 12)])) (hj : J pre X) (hx : Fx l W.heap.size (W.heap.size + 1 + 1) Bi B X) => first_any (PfF 6 B) l J Jx base Bi B W.heap.size (W.heap.size + 1 + 1) pre X hY hD hbW (by omega) hne hx.2.1 hx.2.2 hx.1 hj hp1 hp2)
  have HSC := Lib.hid (fun (pre : List (Addr × Nat)) (X : World) (hp1 : PfF 6 B (pre ++ [(⟨B, 7, none⟩, 4)])) (hp2 : PfF 6 B ((pre ++ [(⟨B, 7, none⟩, 4)]) ++ [(⟨B, 8, none⟩, 12)])) (hj : J pre X) (hx : Fx l W.heap.size (W.heap.size + 1 + 1) Bi B X) => second_any (PfF 6 B) l J Jx base Bi B W.heap.size (W.heap.size + 1 + 1) pre X hY hD hbW (by omega) hne hx.2.1 hx.2.2 hx.1 hj hp1 hp2)
  have ci0 := hfx.2.2.cell
  have ch0 := hfx.2.1.cell
  have hi3 : W3.cell? ⟨Bi, 0, none⟩ = some (.pointer (some ⟨B, 0, none⟩)) := ci0
  unfold halfV at ch0 hW3
  clear hY hD hg3 hfx hu hnum hX0 hU0 hJ0 h0 bi cf hbW hB hBi hne HW3
  go_enter Tryz.func120, Tryz.ntmps120
  rw [hW3] at cf3 ci0 ch0 hi3
  go_wp2_with fail
  rw [← hW3]
  clear cf3 ci0 ch0 hi3 hW3
  refine only_wp ?_
  refine wp_region_held_drew (S := Fx l W.heap.size (W.heap.size + 1 + 1) Bi B) (by kernel_rfl) HX0.out (fun k0 => ?_)
  show wpAnyH _ _ _ _ _ 20 #[false, false, false, false, false, false, false, false, false, false, false, false, false, false, false, false, false, false, false, false] _ _
  refine wpAnyH_take (i := 0) (oi := ⟨some 120, _, _, _, _, _⟩) (v := .func (.func 121) #[] #[.pointer (some ⟨W.heap.size, 0, none⟩)]) rfl (by kernel_rfl) (by kernel_rfl) (by kernel_rfl) (fun _ _ _ h => h) (Or.inl ⟨by rfl, fun W hSw => by obtain ⟨s1, s2, s3⟩ := hSw; have c1 := s2.cell; have c2 := s3.cell; unfold halfV at c1; clear s1 s2 s3; go_simp⟩) k0 ?_
  try simp only [Act.put, List.setIfInBounds_toArray, List.set_cons_zero, List.set_cons_succ]
  refine wpAnyH_take (i := 1) (oi := ⟨some 121, _, _, _, _, _⟩) (v := .pointer (some ⟨B, 0, none⟩)) rfl (by kernel_rfl) (by kernel_rfl) (by kernel_rfl) (fun _ _ _ h => h) (Or.inl ⟨by rfl, fun W hSw => by obtain ⟨s1, s2, s3⟩ := hSw; have c1 := s2.cell; have c2 := s3.cell; unfold halfV at c1; clear s1 s2 s3; go_simp⟩) k0 ?_
  try simp only [Act.put, List.setIfInBounds_toArray, List.set_cons_zero, List.set_cons_succ]
  refine wpAnyH_take (i := 2) (oi := ⟨some 122, _, _, _, _, _⟩) (v := .pointer (some ⟨B, 0, none⟩)) rfl (by kernel_rfl) (by kernel_rfl) (by kernel_rfl) (fun _ _ _ h => h) (Or.inl ⟨by rfl, fun W hSw => by clear hSw; go_simp⟩) k0 ?_
  try simp only [Act.put, List.setIfInBounds_toArray, List.set_cons_zero, List.set_cons_succ]
  refine wpAnyH_take (i := 3) (oi := ⟨some 123, _, _, _, _, _⟩) (v := .pointer (some ⟨B, 9, none⟩)) rfl (by kernel_rfl) (by kernel_rfl) (by kernel_rfl) (fun _ _ _ h => h) (Or.inl ⟨by rfl, fun W hSw => by clear hSw; go_simp⟩) k0 ?_
  try simp only [Act.put, List.setIfInBounds_toArray, List.set_cons_zero, List.set_cons_succ]
  refine wpAnyH_ready (rs := [4]) (by kernel_rfl) (by simp) ?_
  refine AllReadyH.cons (o := ⟨some 124, _, _, _, _, _⟩) rfl (fun K hK => ?_) AllReadyH.nil
  go_simp
  refine ((HH.out _ 9 _ (by omega) (by have := HUB.out; simp [PfF, kd, fldsT]) HJ0.out HX0.out)).mono ?_
  rintro e w1 hor
  rcases hor with ⟨hk0, ⟨rfl, hj0⟩ | ⟨rfl, hj0⟩⟩
  · have HX1 := Lib.hid (HNB.out _ _ hk0 HX0.out)
    have HJ1 := Lib.hid hj0
    clear hj0 hk0
    go_wp2_with fail
    refine hK.out _ _ HX1.out (fun k1 => ?_)
    clear hK K
    try simp only [List.setIfInBounds_toArray, List.set_cons_zero, List.set_cons_succ]
    refine wpAnyH_take (i := 5) (oi := ⟨some 125, _, _, _, _, _⟩) (v := .bool true) rfl (by kernel_rfl) (by kernel_rfl) (by kernel_rfl) (fun _ _ _ h => h) (Or.inl ⟨by rfl, fun W hSw => by clear hSw; go_simp⟩) k1 ?_
    try simp only [Act.put, List.setIfInBounds_toArray, List.set_cons_zero, List.set_cons_succ]
    refine wpAnyH_take (i := 6) (oi := ⟨some 126, _, _, _, _, _⟩) (v := .func (.func 121) #[] #[.pointer (some ⟨W.heap.size, 0, none⟩)]) rfl (by kernel_rfl) (by kernel_rfl) (by kernel_rfl) (fun _ _ _ h => h) (Or.inl ⟨by rfl, fun W hSw => by obtain ⟨s1, s2, s3⟩ := hSw; have c1 := s2.cell; have c2 := s3.cell; unfold halfV at c1; clear s1 s2 s3; go_simp⟩) k1 ?_
    try simp only [Act.put, List.setIfInBounds_toArray, List.set_cons_zero, List.set_cons_succ]
    refine wpAnyH_take (i := 7) (oi := ⟨some 127, _, _, _, _, _⟩) (v := .pointer (some ⟨B, 0, none⟩)) rfl (by kernel_rfl) (by kernel_rfl) (by kernel_rfl) (fun _ _ _ h => h) (Or.inl ⟨by rfl, fun W hSw => by obtain ⟨s1, s2, s3⟩ := hSw; have c1 := s2.cell; have c2 := s3.cell; unfold halfV at c1; clear s1 s2 s3; go_simp⟩) k1 ?_
    try simp only [Act.put, List.setIfInBounds_toArray, List.set_cons_zero, List.set_cons_succ]
    refine wpAnyH_take (i := 8) (oi := ⟨some 128, _, _, _, _, _⟩) (v := .pointer (some ⟨B, 0, none⟩)) rfl (by kernel_rfl) (by kernel_rfl) (by kernel_rfl) (fun _ _ _ h => h) (Or.inl ⟨by rfl, fun W hSw => by clear hSw; go_simp⟩) k1 ?_
    try simp only [Act.put, List.setIfInBounds_toArray, List.set_cons_zero, List.set_cons_succ]
    refine wpAnyH_take (i := 9) (oi := ⟨some 129, _, _, _, _, _⟩) (v := .pointer (some ⟨B, 10, none⟩)) rfl (by kernel_rfl) (by kernel_rfl) (by kernel_rfl) (fun _ _ _ h => h) (Or.inl ⟨by rfl, fun W hSw => by clear hSw; go_simp⟩) k1 ?_
    try simp only [Act.put, List.setIfInBounds_toArray, List.set_cons_zero, List.set_cons_succ]
    refine wpAnyH_ready (rs := [10]) (by kernel_rfl) (by simp) ?_
    refine AllReadyH.cons (o := ⟨some 130, _, _, _, _, _⟩) rfl (fun K hK => ?_) AllReadyH.nil
    go_simp
    refine ((HH.out _ 10 _ (by omega) (by have := HUB.out; simp [PfF, kd, fldsT]) HJ1.out HX1.out)).mono ?_
    rintro e w2 hor
    rcases hor with ⟨hk1, ⟨rfl, hj1⟩ | ⟨rfl, hj1⟩⟩
    · have HX2 := Lib.hid (HNB.out _ _ hk1 HX1.out)
      have HJ2 := Lib.hid hj1
      clear hj1 hk1
      go_wp2_with fail
      refine hK.out _ _ HX2.out (fun k2 => ?_)
      clear hK K
      try simp only [List.setIfInBounds_toArray, List.set_cons_zero, List.set_cons_succ]
      refine wpAnyH_take (i := 11) (oi := ⟨some 131, _, _, _, _, _⟩) (v := .bool true) rfl (by kernel_rfl) (by kernel_rfl) (by kernel_rfl) (fun _ _ _ h => h) (Or.inl ⟨by rfl, fun W hSw => by clear hSw; go_simp⟩) k2 ?_
      try simp only [Act.put, List.setIfInBounds_toArray, List.set_cons_zero, List.set_cons_succ]
      refine wpAnyH_take (i := 12) (oi := ⟨some 132, _, _, _, _, _⟩) (v := .bool true) rfl (by kernel_rfl) (by kernel_rfl) (by kernel_rfl) (fun _ _ _ h => h) (Or.inl ⟨by rfl, fun W hSw => by clear hSw; go_simp⟩) k2 ?_
      try simp only [Act.put, List.setIfInBounds_toArray, List.set_cons_zero, List.set_cons_succ]
      refine wpAnyH_take (i := 13) (oi := ⟨some 133, _, _, _, _, _⟩) (v := .func (.func 123) #[] #[.pointer (some ⟨W.heap.size + 1 + 1, 0, none⟩), .pointer (some ⟨Bi, 0, none⟩), .pointer (some ⟨W.heap.size, 0, none⟩)]) rfl (by kernel_rfl) (by kernel_rfl) (by kernel_rfl) (fun _ _ _ h => h) (Or.inl ⟨by rfl, fun W hSw => by clear hSw; go_simp⟩) k2 ?_
      try simp only [Act.put, List.setIfInBounds_toArray, List.set_cons_zero, List.set_cons_succ]
      refine wpAnyH_ready (rs := [14]) (by kernel_rfl) (by simp) ?_
      refine AllReadyH.cons (o := ⟨some 134, _, _, _, _, _⟩) rfl (fun K hK => ?_) AllReadyH.nil
      go_simp
      refine ((HF.out _ _ (by have := HUB.out; simp [PfF, kd, fldsT]) (by have := HUB.out; simp [PfF, kd, fldsT]) HJ2.out HX2.out)).mono ?_
      rintro e w3 hor
      rcases hor with ⟨hk2, ⟨rfl, hj2⟩ | ⟨rfl, hj2⟩⟩
      · have HX3 := Lib.hid (HNB.out _ _ hk2 HX2.out)
        have HJ3 := Lib.hid hj2
        clear hj2 hk2
        go_wp2_with fail
        refine hK.out _ _ HX3.out (fun k3 => ?_)
        clear hK K
        try simp only [List.setIfInBounds_toArray, List.set_cons_zero, List.set_cons_succ]
        refine wpAnyH_take (i := 15) (oi := ⟨some 135, _, _, _, _, _⟩) (v := .bool true) rfl (by kernel_rfl) (by kernel_rfl) (by kernel_rfl) (fun _ _ _ h => h) (Or.inl ⟨by rfl, fun W hSw => by clear hSw; go_simp⟩) k3 ?_
        try simp only [Act.put, List.setIfInBounds_toArray, List.set_cons_zero, List.set_cons_succ]
        refine wpAnyH_take (i := 16) (oi := ⟨some 136, _, _, _, _, _⟩) (v := .bool true) rfl (by kernel_rfl) (by kernel_rfl) (by kernel_rfl) (fun _ _ _ h => h) (Or.inl ⟨by rfl, fun W hSw => by clear hSw; go_simp⟩) k3 ?_
        try simp only [Act.put, List.setIfInBounds_toArray, List.set_cons_zero, List.set_cons_succ]
        refine wpAnyH_take (i := 17) (oi := ⟨some 137, _, _, _, _, _⟩) (v := .func (.func 124) #[] #[.pointer (some ⟨W.heap.size + 1 + 1, 0, none⟩), .pointer (some ⟨Bi, 0, none⟩), .pointer (some ⟨W.heap.size, 0, none⟩)]) rfl (by kernel_rfl) (by kernel_rfl) (by kernel_rfl) (fun _ _ _ h => h) (Or.inl ⟨by rfl, fun W hSw => by clear hSw; go_simp⟩) k3 ?_
        try simp only [Act.put, List.setIfInBounds_toArray, List.set_cons_zero, List.set_cons_succ]
        refine wpAnyH_ready (rs := [18]) (by kernel_rfl) (by simp) ?_
        refine AllReadyH.cons (o := ⟨some 138, _, _, _, _, _⟩) rfl (fun K hK => ?_) AllReadyH.nil
        go_simp
        refine ((HSC.out _ _ (by have := HUB.out; simp [PfF, kd, fldsT]) (by have := HUB.out; simp [PfF, kd, fldsT]) HJ3.out HX3.out)).mono ?_
        rintro e w4 hor
        rcases hor with ⟨hk3, ⟨rfl, hj3⟩ | ⟨rfl, hj3⟩⟩
        · have HX4 := Lib.hid (HNB.out _ _ hk3 HX3.out)
          have HJ4 := Lib.hid hj3
          clear hj3 hk3
          go_wp2_with fail
          refine hK.out _ _ HX4.out (fun k4 => ?_)
          clear hK K
          try simp only [List.setIfInBounds_toArray, List.set_cons_zero, List.set_cons_succ]
          refine wpAnyH_take (i := 19) (oi := ⟨some 139, _, _, _, _, _⟩) (v := .bool true) rfl (by kernel_rfl) (by kernel_rfl) (by kernel_rfl) (fun _ _ _ h => h) (Or.inl ⟨by rfl, fun W hSw => by clear hSw; go_simp⟩) k4 ?_
          try simp only [Act.put, List.setIfInBounds_toArray, List.set_cons_zero, List.set_cons_succ]
          refine wpAnyH_done (by kernel_rfl) ?_ _
          refine onlyN_normal ?_
          go_wp2
          go_end0
          exact ⟨⟨_, rfl⟩, .inl ⟨_, ⟨_, HU0L.out, rfl⟩, HJ4.out⟩⟩
        · have HX4 := Lib.hid (HNB.out _ _ hk3 HX3.out)
          have HJ4 := Lib.hid hj3
          clear hj3 hk3
          go_wp2_with fail
          refine hK.out _ _ HX4.out (fun k4 => ?_)
          clear hK K
          try simp only [List.setIfInBounds_toArray, List.set_cons_zero, List.set_cons_succ]
          refine wpAnyH_take (i := 19) (oi := ⟨some 139, _, _, _, _, _⟩) (v := .bool false) rfl (by kernel_rfl) (by kernel_rfl) (by kernel_rfl) (fun _ _ _ h => h) (Or.inl ⟨by rfl, fun W hSw => by clear hSw; go_simp⟩) k4 ?_
          try simp only [Act.put, List.setIfInBounds_toArray, List.set_cons_zero, List.set_cons_succ]
          refine wpAnyH_done (by kernel_rfl) ?_ _
          refine onlyN_normal ?_
          go_wp2
          go_end0
          exact ⟨⟨_, rfl⟩, .inr HJ4.out⟩
      · have HX3 := Lib.hid (HNB.out _ _ hk2 HX2.out)
        have HJ3 := Lib.hid hj2
        clear hj2 hk2
        go_wp2_with fail
        refine hK.out _ _ HX3.out (fun k3 => ?_)
        clear hK K
        try simp only [List.setIfInBounds_toArray, List.set_cons_zero, List.set_cons_succ]
        refine wpAnyH_take (i := 15) (oi := ⟨some 135, _, _, _, _, _⟩) (v := .bool false) rfl (by kernel_rfl) (by kernel_rfl) (by kernel_rfl) (fun _ _ _ h => h) (Or.inl ⟨by rfl, fun W hSw => by clear hSw; go_simp⟩) k3 ?_
        try simp only [Act.put, List.setIfInBounds_toArray, List.set_cons_zero, List.set_cons_succ]
        refine wpAnyH_take (i := 16) (oi := ⟨some 136, _, _, _, _, _⟩) (v := .bool false) rfl (by kernel_rfl) (by kernel_rfl) (by kernel_rfl) (fun _ _ _ h => h) (Or.inl ⟨by rfl, fun W hSw => by clear hSw; go_simp⟩) k3 ?_
        try simp only [Act.put, List.setIfInBounds_toArray, List.set_cons_zero, List.set_cons_succ]
        refine wpAnyH_take (i := 17) (oi := ⟨some 137, _, _, _, _, _⟩) (v := undef) rfl (by kernel_rfl) (by kernel_rfl) (by kernel_rfl) (fun _ _ _ h => h) (Or.inr ⟨by rfl, rfl⟩) k3 ?_
        try simp only [Act.put, List.setIfInBounds_toArray, List.set_cons_zero, List.set_cons_succ]
        refine wpAnyH_take (i := 18) (oi := ⟨some 138, _, _, _, _, _⟩) (v := undef) rfl (by kernel_rfl) (by kernel_rfl) (by kernel_rfl) (fun _ _ _ h => h) (Or.inr ⟨by rfl, rfl⟩) k3 ?_
        try simp only [Act.put, List.setIfInBounds_toArray, List.set_cons_zero, List.set_cons_succ]
        refine wpAnyH_take (i := 19) (oi := ⟨some 139, _, _, _, _, _⟩) (v := .bool false) rfl (by kernel_rfl) (by kernel_rfl) (by kernel_rfl) (fun _ _ _ h => h) (Or.inl ⟨by rfl, fun W hSw => by clear hSw; go_simp⟩) k3 ?_
        try simp only [Act.put, List.setIfInBounds_toArray, List.set_cons_zero, List.set_cons_succ]
        refine wpAnyH_done (by kernel_rfl) ?_ _
        refine onlyN_normal ?_
        go_wp2
        go_end0
        exact ⟨⟨_, rfl⟩, .inr HJ3.out⟩
    · have HX2 := Lib.hid (HNB.out _ _ hk1 HX1.out)
      have HJ2 := Lib.hid hj1
      clear hj1 hk1
      go_wp2_with fail
      refine hK.out _ _ HX2.out (fun k2 => ?_)
      clear hK K
      try simp only [List.setIfInBounds_toArray, List.set_cons_zero, List.set_cons_succ]
      refine wpAnyH_take (i := 11) (oi := ⟨some 131, _, _, _, _, _⟩) (v := .bool false) rfl (by kernel_rfl) (by kernel_rfl) (by kernel_rfl) (fun _ _ _ h => h) (Or.inl ⟨by rfl, fun W hSw => by clear hSw; go_simp⟩) k2 ?_
      try simp only [Act.put, List.setIfInBounds_toArray, List.set_cons_zero, List.set_cons_succ]
      refine wpAnyH_take (i := 12) (oi := ⟨some 132, _, _, _, _, _⟩) (v := .bool false) rfl (by kernel_rfl) (by kernel_rfl) (by kernel_rfl) (fun _ _ _ h => h) (Or.inl ⟨by rfl, fun W hSw => by clear hSw; go_simp⟩) k2 ?_
      try simp only [Act.put, List.setIfInBounds_toArray, List.set_cons_zero, List.set_cons_succ]
      refine wpAnyH_take (i := 13) (oi := ⟨some 133, _, _, _, _, _⟩) (v := undef) rfl (by kernel_rfl) (by kernel_rfl) (by kernel_rfl) (fun _ _ _ h => h) (Or.inr ⟨by rfl, rfl⟩) k2 ?_
      try simp only [Act.put, List.setIfInBounds_toArray, List.set_cons_zero, List.set_cons_succ]
      refine wpAnyH_take (i := 14) (oi := ⟨some 134, _, _, _, _, _⟩) (v := undef) rfl (by kernel_rfl) (by kernel_rfl) (by kernel_rfl) (fun _ _ _ h => h) (Or.inr ⟨by rfl, rfl⟩) k2 ?_
      try simp only [Act.put, List.setIfInBounds_toArray, List.set_cons_zero, List.set_cons_succ]
      refine wpAnyH_take (i := 15) (oi := ⟨some 135, _, _, _, _, _⟩) (v := .bool false) rfl (by kernel_rfl) (by kernel_rfl) (by kernel_rfl) (fun _ _ _ h => h) (Or.inl ⟨by rfl, fun W hSw => by clear hSw; go_simp⟩) k2 ?_
      try simp only [Act.put, List.setIfInBounds_toArray, List.set_cons_zero, List.set_cons_succ]
      refine wpAnyH_take (i := 16) (oi := ⟨some 136, _, _, _, _, _⟩) (v := .bool false) rfl (by kernel_rfl) (by kernel_rfl) (by kernel_rfl) (fun _ _ _ h => h) (Or.inl ⟨by rfl, fun W hSw => by clear hSw; go_simp⟩) k2 ?_
      try simp only [Act.put, List.setIfInBounds_toArray, List.set_cons_zero, List.set_cons_succ]
      refine wpAnyH_take (i := 17) (oi := ⟨some 137, _, _, _, _, _⟩) (v := undef) rfl (by kernel_rfl) (by kernel_rfl) (by kernel_rfl) (fun _ _ _ h => h) (Or.inr ⟨by rfl, rfl⟩) k2 ?_
      try simp only [Act.put, List.setIfInBounds_toArray, List.set_cons_zero, List.set_cons_succ]
      refine wpAnyH_take (i := 18) (oi := ⟨some 138, _, _, _, _, _⟩) (v := undef) rfl (by kernel_rfl) (by kernel_rfl) (by kernel_rfl) (fun _ _ _ h => h) (Or.inr ⟨by rfl, rfl⟩) k2 ?_
      try simp only [Act.put, List.setIfInBounds_toArray, List.set_cons_zero, List.set_cons_succ]
      refine wpAnyH_take (i := 19) (oi := ⟨some 139, _, _, _, _, _⟩) (v := .bool false) rfl (by kernel_rfl) (by kernel_rfl) (by kernel_rfl) (fun _ _ _ h => h) (Or.inl ⟨by rfl, fun W hSw => by clear hSw; go_simp⟩) k2 ?_
      try simp only [Act.put, List.setIfInBounds_toArray, List.set_cons_zero, List.set_cons_succ]
      refine wpAnyH_done (by kernel_rfl) ?_ _
      refine onlyN_normal ?_
      go_wp2
      go_end0
      exact ⟨⟨_, rfl⟩, .inr HJ2.out⟩
  · have HX1 := Lib.hid (HNB.out _ _ hk0 HX0.out)
    have HJ1 := Lib.hid hj0
    clear hj0 hk0
    go_wp2_with fail
    refine hK.out _ _ HX1.out (fun k1 => ?_)
    clear hK K
    try simp only [List.setIfInBounds_toArray, List.set_cons_zero, List.set_cons_succ]
    refine wpAnyH_take (i := 5) (oi := ⟨some 125, _, _, _, _, _⟩) (v := .bool false) rfl (by kernel_rfl) (by kernel_rfl) (by kernel_rfl) (fun _ _ _ h => h) (Or.inl ⟨by rfl, fun W hSw => by clear hSw; go_simp⟩) k1 ?_
    try simp only [Act.put, List.setIfInBounds_toArray, List.set_cons_zero, List.set_cons_succ]
    refine wpAnyH_take (i := 6) (oi := ⟨some 126, _, _, _, _, _⟩) (v := undef) rfl (by kernel_rfl) (by kernel_rfl) (by kernel_rfl) (fun _ _ _ h => h) (Or.inr ⟨by rfl, rfl⟩) k1 ?_
    try simp only [Act.put, List.setIfInBounds_toArray, List.set_cons_zero, List.set_cons_succ]
    refine wpAnyH_take (i := 7) (oi := ⟨some 127, _, _, _, _, _⟩) (v := undef) rfl (by kernel_rfl) (by kernel_rfl) (by kernel_rfl) (fun _ _ _ h => h) (Or.inr ⟨by rfl, rfl⟩) k1 ?_
    try simp only [Act.put, List.setIfInBounds_toArray, List.set_cons_zero, List.set_cons_succ]
    refine wpAnyH_take (i := 8) (oi := ⟨some 128, _, _, _, _, _⟩) (v := undef) rfl (by kernel_rfl) (by kernel_rfl) (by kernel_rfl) (fun _ _ _ h => h) (Or.inr ⟨by rfl, rfl⟩) k1 ?_
    try simp only [Act.put, List.setIfInBounds_toArray, List.set_cons_zero, List.set_cons_succ]
    refine wpAnyH_take (i := 9) (oi := ⟨some 129, _, _, _, _, _⟩) (v := undef) rfl (by kernel_rfl) (by kernel_rfl) (by kernel_rfl) (fun _ _ _ h => h) (Or.inr ⟨by rfl, rfl⟩) k1 ?_
    try simp only [Act.put, List.setIfInBounds_toArray, List.set_cons_zero, List.set_cons_succ]
    refine wpAnyH_take (i := 10) (oi := ⟨some 130, _, _, _, _, _⟩) (v := undef) rfl (by kernel_rfl) (by kernel_rfl) (by kernel_rfl) (fun _ _ _ h => h) (Or.inr ⟨by rfl, rfl⟩) k1 ?_
    try simp only [Act.put, List.setIfInBounds_toArray, List.set_cons_zero, List.set_cons_succ]
    refine wpAnyH_take (i := 11) (oi := ⟨some 131, _, _, _, _, _⟩) (v := .bool false) rfl (by kernel_rfl) (by kernel_rfl) (by kernel_rfl) (fun _ _ _ h => h) (Or.inl ⟨by rfl, fun W hSw => by clear hSw; go_simp⟩) k1 ?_
    try simp only [Act.put, List.setIfInBounds_toArray, List.set_cons_zero, List.set_cons_succ]
    refine wpAnyH_take (i := 12) (oi := ⟨some 132, _, _, _, _, _⟩) (v := .bool false) rfl (by kernel_rfl) (by kernel_rfl) (by kernel_rfl) (fun _ _ _ h => h) (Or.inl ⟨by rfl, fun W hSw => by clear hSw; go_simp⟩) k1 ?_
    try simp only [Act.put, List.setIfInBounds_toArray, List.set_cons_zero, List.set_cons_succ]
    refine wpAnyH_take (i := 13) (oi := ⟨some 133, _, _, _, _, _⟩) (v := undef) rfl (by kernel_rfl) (by kernel_rfl) (by kernel_rfl) (fun _ _ _ h => h) (Or.inr ⟨by rfl, rfl⟩) k1 ?_
    try simp only [Act.put, List.setIfInBounds_toArray, List.set_cons_zero, List.set_cons_succ]
    refine wpAnyH_take (i := 14) (oi := ⟨some 134, _, _, _, _, _⟩) (v := undef) rfl (by kernel_rfl) (by kernel_rfl) (by kernel_rfl) (fun _ _ _ h => h) (Or.inr ⟨by rfl, rfl⟩) k1 ?_
    try simp only [Act.put, List.setIfInBounds_toArray, List.set_cons_zero, List.set_cons_succ]
    refine wpAnyH_take (i := 15) (oi := ⟨some 135, _, _, _, _, _⟩) (v := .bool false) rfl (by kernel_rfl) (by kernel_rfl) (by kernel_rfl) (fun _ _ _ h => h) (Or.inl ⟨by rfl, fun W hSw => by clear hSw; go_simp⟩) k1 ?_
    try simp only [Act.put, List.setIfInBounds_toArray, List.set_cons_zero, List.set_cons_succ]
    refine wpAnyH_take (i := 16) (oi := ⟨some 136, _, _, _, _, _⟩) (v := .bool false) rfl (by kernel_rfl) (by kernel_rfl) (by kernel_rfl) (fun _ _ _ h => h) (Or.inl ⟨by rfl, fun W hSw => by clear hSw; go_simp⟩) k1 ?_
    try simp only [Act.put, List.setIfInBounds_toArray, List.set_cons_zero, List.set_cons_succ]
    refine wpAnyH_take (i := 17) (oi := ⟨some 137, _, _, _, _, _⟩) (v := undef) rfl (by kernel_rfl) (by kernel_rfl) (by kernel_rfl) (fun _ _ _ h => h) (Or.inr ⟨by rfl, rfl⟩) k1 ?_
    try simp only [Act.put, List.setIfInBounds_toArray, List.set_cons_zero, List.set_cons_succ]
    refine wpAnyH_take (i := 18) (oi := ⟨some 138, _, _, _, _, _⟩) (v := undef) rfl (by kernel_rfl) (by kernel_rfl) (by kernel_rfl) (fun _ _ _ h => h) (Or.inr ⟨by rfl, rfl⟩) k1 ?_
    try simp only [Act.put, List.setIfInBounds_toArray, List.set_cons_zero, List.set_cons_succ]
    refine wpAnyH_take (i := 19) (oi := ⟨some 139, _, _, _, _, _⟩) (v := .bool false) rfl (by kernel_rfl) (by kernel_rfl) (by kernel_rfl) (fun _ _ _ h => h) (Or.inl ⟨by rfl, fun W hSw => by clear hSw; go_simp⟩) k1 ?_
    try simp only [Act.put, List.setIfInBounds_toArray, List.set_cons_zero, List.set_cons_succ]
    refine wpAnyH_done (by kernel_rfl) ?_ _
    refine onlyN_normal ?_
    go_wp2
    go_end0
    exact ⟨⟨_, rfl⟩, .inr HJ1.out⟩

end E
end Go.Proofs.YtbcncohjjnmdcaaGreatDoor

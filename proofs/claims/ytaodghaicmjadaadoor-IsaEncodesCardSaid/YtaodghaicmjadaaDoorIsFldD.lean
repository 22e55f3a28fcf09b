/- The fields of some formats. -/
import Derived.Test.YtaodghaicmjadaaDoorIsFld
namespace Go.Proofs.YtaodghaicmjadaaDoor
open Go.RowKit Go.Shelf
set_option linter.unusedVariables false
namespace E
set_option maxRecDepth 100000 in
set_option maxHeartbeats 2000000 in
theorem fieldsSI : FieldsAt 4 := by
  intro l J Jx base Bi B W hY hD hbW hB hBi hne bi cf h0
  obtain ⟨W3, hW3⟩ : ∃ W3, W3 = ((W.alloc (.cells #[.func (.yield l) #[] #[]] 76)).alloc (.cells #[.int .i64 0] 3)).alloc (.cells #[halfV W.heap.size] 77) := ⟨_, rfl⟩
  have hg3 : W.grownBy W3 none := by
    rw [hW3]
    exact grown_of (((below_new W _).alloc (by simp) _).alloc (by simp; omega) _) none
  have hfx : Fx l W.heap.size (W.heap.size + 1 + 1) Bi B W3 := by
    rw [hW3]
    exact ⟨((Boxed.new W _ _).alloc _).alloc _, boxed_new3 W _ _ _ _, ((bi.alloc _).alloc _).alloc _⟩
  have hu : Boxed W3 (W.heap.size + 1) 3 (.int .i64 0) := by
    rw [hW3]
    exact (boxed_new2 W _ _ _).alloc _
  have cf3 : W3.cell? ⟨B, 1, none⟩ = some (.int .i64 4) := by
    rw [hW3]
    exact Lib.cell?_alloc_some _ (Lib.cell?_alloc_some _ (Lib.cell?_alloc_some _ cf))
  have hnum : base ≤ W.heap.size ∧ B < base ∧ Bi < base ∧ Bi ≠ B := ⟨hbW, hB, hBi, hne⟩
  have HNUM := Lib.hid hnum
  have HUB := Lib.hid (show ¬ W.heap.size + 1 = B by omega)
  have HY := Lib.hid hY
  have HD := Lib.hid hD
  have HU0L := Lib.hid (show base ≤ W.heap.size + 1 by omega)
  have HW3 := Lib.hid hW3
  have hX0 : Fx l W.heap.size (W.heap.size + 1 + 1) Bi B W3 := hfx
  have HX0 := Lib.hid hX0
  have hU0 : Boxed W3 (W.heap.size + 1) 3 (.int .i64 0) := hu
  have HU0 := Lib.hid hU0
  have hJ0 : J [] W3 := hD _ _ _ h0 hg3
  have HJ0 := Lib.hid hJ0
  have HNB := Lib.hid (fun (X Y : World) (hk : Kb base Bi B X Y) (hx : Fx l W.heap.size (W.heap.size + 1 + 1) Bi B X) => hx.next hk (by omega) (by omega) (by omega) (.inl (by omega)) (.inl (by omega)))
  have HNU := Lib.hid (fun (X Y : World) (hk : Kb base Bi (W.heap.size + 1) X Y) (hx : Fx l W.heap.size (W.heap.size + 1 + 1) Bi B X) => hx.next hk (by omega) (by omega) (by omega) (.inl (by omega)) (.inl (by omega)))
  have HH := Lib.hid (fun (pre : List (Addr × Nat)) (k : Nat) (X : World) (hk : k < 12) (hp : PfF 4 B (pre ++ [(⟨B, k, none⟩, 4)])) (hj : J pre X) (hx : Fx l W.heap.size (W.heap.size + 1 + 1) Bi B X) => half_any l W.heap.size pre (⟨B, k, none⟩, 4) J Jx (Kb base Bi B) X rfl hx.1 (fun hj => hY _ _ _ ⟨hp, .inl ⟨k, hk, rfl⟩⟩ hj) hj)
  have HW := Lib.hid (fun (pre : List (Addr × Nat)) (k : Nat) (X : World) (hk : k < 12) (hp : PfF 4 B (pre ++ [(⟨B, k, none⟩, 8)])) (hj : J pre X) (hx : Fx l W.heap.size (W.heap.size + 1 + 1) Bi B X) => whole_any l W.heap.size pre (⟨B, k, none⟩, 8) J Jx (Kb base Bi B) X rfl hx.1 (fun hj => hY _ _ _ ⟨hp, .inl ⟨k, hk, rfl⟩⟩ hj) hj)
  have HHU := Lib.hid (fun (pre : List (Addr × Nat)) (X : World) (hu : Boxed X (W.heap.size + 1) 3 (.int .i64 0)) (hp : PfF 4 B (pre ++ [(⟨W.heap.size + 1, 0, none⟩, 4)])) (hj : J pre X) (hx : Fx l W.heap.size (W.heap.size + 1 + 1) Bi B X) => half_any l W.heap.size pre (⟨W.heap.size + 1, 0, none⟩, 4) J Jx (Kb base Bi (W.heap.size + 1)) X rfl hx.1 (fun hj => hY _ _ _ ⟨hp, .inr ⟨W.heap.size + 1, by omega, rfl, hu⟩⟩ hj) hj)
  have HWU := Lib.hid (fun (pre : List (Addr × Nat)) (X : World) (hu : Boxed X (W.heap.size + 1) 3 (.int .i64 0)) (hp : PfF 4 B (pre ++ [(⟨W.heap.size + 1, 0, none⟩, 8)])) (hj : J pre X) (hx : Fx l W.heap.size (W.heap.size + 1 + 1) Bi B X) => whole_any l W.heap.size pre (⟨W.heap.size + 1, 0, none⟩, 8) J Jx (Kb base Bi (W.heap.size + 1)) X rfl hx.1 (fun hj => hY _ _ _ ⟨hp, .inr ⟨W.heap.size + 1, by omega, rfl, hu⟩⟩ hj) hj)
  have HF := Lib.hid (fun (pre : List (Addr × Nat)) (X : World) (hp1 : PfF 4 B (pre ++ [(⟨B, 5, none⟩, 4)])) (hp2 : PfF 4 B ((pre ++ [(⟨B, 5, none⟩, 4)]) ++ [(⟨B, 6, none⟩, 12)])) (hj : J pre X) (hx : Fx l W.heap.size (W.heap.size + 1 + 1) Bi B X) => first_any (PfF 4 B) l J Jx base Bi B W.heap.size (W.heap.size + 1 + 1) pre X hY hD hbW (by omega) hne hx.2.1 hx.2.2 hx.1 hj hp1 hp2)
  have HSC := Lib.hid (fun (pre : List (Addr × Nat)) (X : World) (hp1 : PfF 4 B (pre ++ [(⟨B, 7, none⟩, 4)])) (hp2 : PfF 4 B ((pre ++ [(⟨B, 7, none⟩, 4)]) ++ [(⟨B, 8, none⟩, 12)])) (hj : J pre X) (hx : Fx l W.heap.size (W.heap.size + 1 + 1) Bi B X) => second_any (PfF 4 B) l J Jx base Bi B W.heap.size (W.heap.size + 1 + 1) pre X hY hD hbW (by omega) hne hx.2.1 hx.2.2 hx.1 hj hp1 hp2)
  have ci0 := hfx.2.2.cell
  have ch0 := hfx.2.1.cell
  have hi3 : W3.cell? ⟨Bi, 0, none⟩ = some (.pointer (some ⟨B, 0, none⟩)) := ci0
  unfold halfV at ch0 hW3
  clear hY hD hg3 hfx hu hnum hX0 hU0 hJ0 h0 bi cf hbW hB hBi hne HW3
  go_enter Tryd.func49, Tryd.ntmps49
  rw [hW3] at cf3 ci0 ch0 hi3
  go_wp2_with fail
  rw [← hW3]
  clear cf3 ci0 ch0 hi3 hW3
  go_wp2_with fail
  refine ((HW.out _ 11 _ (by omega) (by have := HUB.out; simp [PfF, kd, fldsT]) HJ0.out HX0.out)).mono ?_
  rintro e w1 hor
  rcases hor with ⟨hk0, ⟨rfl, hj0⟩ | ⟨rfl, hj0⟩⟩
  · have HX1 := Lib.hid (HNB.out _ _ hk0 HX0.out)
    have HJ1 := Lib.hid hj0
    clear hj0 hk0
    have ci1 := HX1.out.2.2.cell
    go_wp2_with fail
    refine ((HF.out _ _ (by have := HUB.out; simp [PfF, kd, fldsT]) (by have := HUB.out; simp [PfF, kd, fldsT]) HJ1.out HX1.out)).mono ?_
    rintro e w2 hor
    rcases hor with ⟨hk1, ⟨rfl, hj1⟩ | ⟨rfl, hj1⟩⟩
    · have HX2 := Lib.hid (HNB.out _ _ hk1 HX1.out)
      have HJ2 := Lib.hid hj1
      clear hj1 hk1
      have ci2 := HX2.out.2.2.cell
      go_wp2
      go_end0
      exact ⟨⟨_, rfl⟩, .inl ⟨_, ⟨_, HU0L.out, rfl⟩, HJ2.out⟩⟩
    · have HX2 := Lib.hid (HNB.out _ _ hk1 HX1.out)
      have HJ2 := Lib.hid hj1
      clear hj1 hk1
      go_wp2
      go_end0
      exact ⟨⟨_, rfl⟩, .inr HJ2.out⟩
  · have HX1 := Lib.hid (HNB.out _ _ hk0 HX0.out)
    have HJ1 := Lib.hid hj0
    clear hj0 hk0
    go_wp2
    go_end0
    exact ⟨⟨_, rfl⟩, .inr HJ1.out⟩

set_option maxRecDepth 100000 in
set_option maxHeartbeats 2000000 in
theorem fieldsS : FieldsAt 9 := by
  intro l J Jx base Bi B W hY hD hbW hB hBi hne bi cf h0
  obtain ⟨W3, hW3⟩ : ∃ W3, W3 = ((W.alloc (.cells #[.func (.yield l) #[] #[]] 76)).alloc (.cells #[.int .i64 0] 3)).alloc (.cells #[halfV W.heap.size] 77) := ⟨_, rfl⟩
  have hg3 : W.grownBy W3 none := by
    rw [hW3]
    exact grown_of (((below_new W _).alloc (by simp) _).alloc (by simp; omega) _) none
  have hfx : Fx l W.heap.size (W.heap.size + 1 + 1) Bi B W3 := by
    rw [hW3]
    exact ⟨((Boxed.new W _ _).alloc _).alloc _, boxed_new3 W _ _ _ _, ((bi.alloc _).alloc _).alloc _⟩
  have hu : Boxed W3 (W.heap.size + 1) 3 (.int .i64 0) := by
    rw [hW3]
    exact (boxed_new2 W _ _ _).alloc _
  have cf3 : W3.cell? ⟨B, 1, none⟩ = some (.int .i64 9) := by
    rw [hW3]
    exact Lib.cell?_alloc_some _ (Lib.cell?_alloc_some _ (Lib.cell?_alloc_some _ cf))
  have hnum : base ≤ W.heap.size ∧ B < base ∧ Bi < base ∧ Bi ≠ B := ⟨hbW, hB, hBi, hne⟩
  have HNUM := Lib.hid hnum
  have HUB := Lib.hid (show ¬ W.heap.size + 1 = B by omega)
  have HY := Lib.hid hY
  have HD := Lib.hid hD
  have HU0L := Lib.hid (show base ≤ W.heap.size + 1 by omega)
  have HW3 := Lib.hid hW3
  have hX0 : Fx l W.heap.size (W.heap.size + 1 + 1) Bi B W3 := hfx
  have HX0 := Lib.hid hX0
  have hU0 : Boxed W3 (W.heap.size + 1) 3 (.int .i64 0) := hu
  have HU0 := Lib.hid hU0
  have hJ0 : J [] W3 := hD _ _ _ h0 hg3
  have HJ0 := Lib.hid hJ0
  have HNB := Lib.hid (fun (X Y : World) (hk : Kb base Bi B X Y) (hx : Fx l W.heap.size (W.heap.size + 1 + 1) Bi B X) => hx.next hk (by omega) (by omega) (by omega) (.inl (by omega)) (.inl (by omega)))
  have HNU := Lib.hid (fun (X Y : World) (hk : Kb base Bi (W.heap.size + 1) X Y) (hx : Fx l W.heap.size (W.heap.size + 1 + 1) Bi B X) => hx.next hk (by omega) (by omega) (by omega) (.inl (by omega)) (.inl (by omega)))
  have HH := Lib.hid (fun (pre : List (Addr × Nat)) (k : Nat) (X : World) (hk : k < 12) (hp : PfF 9 B (pre ++ [(⟨B, k, none⟩, 4)])) (hj : J pre X) (hx : Fx l W.heap.size (W.heap.size + 1 + 1) Bi B X) => half_any l W.heap.size pre (⟨B, k, none⟩, 4) J Jx (Kb base Bi B) X rfl hx.1 (fun hj => hY _ _ _ ⟨hp, .inl ⟨k, hk, rfl⟩⟩ hj) hj)
  have HW := Lib.hid (fun (pre : List (Addr × Nat)) (k : Nat) (X : World) (hk : k < 12) (hp : PfF 9 B (pre ++ [(⟨B, k, none⟩, 8)])) (hj : J pre X) (hx : Fx l W.heap.size (W.heap.size + 1 + 1) Bi B X) => whole_any l W.heap.size pre (⟨B, k, none⟩, 8) J Jx (Kb base Bi B) X rfl hx.1 (fun hj => hY _ _ _ ⟨hp, .inl ⟨k, hk, rfl⟩⟩ hj) hj)
  have HHU := Lib.hid (fun (pre : List (Addr × Nat)) (X : World) (hu : Boxed X (W.heap.size + 1) 3 (.int .i64 0)) (hp : PfF 9 B (pre ++ [(⟨W.heap.size + 1, 0, none⟩, 4)])) (hj : J pre X) (hx : Fx l W.heap.size (W.heap.size + 1 + 1) Bi B X) => half_any l W.heap.size pre (⟨W.heap.size + 1, 0, none⟩, 4) J Jx (Kb base Bi (W.heap.size + 1)) X rfl hx.1 (fun hj => hY _ _ _ ⟨hp, .inr ⟨W.heap.size + 1, by omega, rfl, hu⟩⟩ hj) hj)
  have HWU := Lib.hid (fun (pre : List (Addr × Nat)) (X : World) (hu : Boxed X (W.heap.size + 1) 3 (.int .i64 0)) (hp : PfF 9 B (pre ++ [(⟨W.heap.size + 1, 0, none⟩, 8)])) (hj : J pre X) (hx : Fx l W.heap.size (W.heap.size + 1 + 1) Bi B X) => whole_any l W.heap.size pre (⟨W.heap.size + 1, 0, none⟩, 8) J Jx (Kb base Bi (W.heap.size + 1)) X rfl hx.1 (fun hj => hY _ _ _ ⟨hp, .inr ⟨W.heap.size + 1, by omega, rfl, hu⟩⟩ hj) hj)
  have HF := Lib.hid (fun (pre : List (Addr × Nat)) (X : World) (hp1 : PfF 9 B (pre ++ [(⟨B, 5, none⟩, 4)])) (hp2 : PfF 9 B ((pre ++ [(⟨B, 5, none⟩, 4)]) ++ [(⟨B, 6, none⟩, 12)])) (hj : J pre X) (hx : Fx l W.heap.size (W.heap.size + 1 + 1) Bi B X) => first_any (PfF 9 B) l J Jx base Bi B W.heap.size (W.heap.size + 1 + 1) pre X hY hD hbW (by omega) hne hx.2.1 hx.2.2 hx.1 hj hp1 hp2)
  have HSC := Lib.hid (fun (pre : List (Addr × Nat)) (X : World) (hp1 : PfF 9 B (pre ++ [(⟨B, 7, none⟩, 4)])) (hp2 : PfF 9 B ((pre ++ [(⟨B, 7, none⟩, 4)]) ++ [(⟨B, 8, none⟩, 12)])) (hj : J pre X) (hx : Fx l W.heap.size (W.heap.size + 1 + 1) Bi B X) => second_any (PfF 9 B) l J Jx base Bi B W.heap.size (W.heap.size + 1 + 1) pre X hY hD hbW (by omega) hne hx.2.1 hx.2.2 hx.1 hj hp1 hp2)
  have ci0 := hfx.2.2.cell
  have ch0 := hfx.2.1.cell
  have hi3 : W3.cell? ⟨Bi, 0, none⟩ = some (.pointer (some ⟨B, 0, none⟩)) := ci0
  unfold halfV at ch0 hW3
  clear hY hD hg3 hfx hu hnum hX0 hU0 hJ0 h0 bi cf hbW hB hBi hne HW3
  go_enter Tryd.func49, Tryd.ntmps49
  rw [hW3] at cf3 ci0 ch0 hi3
  go_wp2_with fail
  rw [← hW3]
  clear cf3 ci0 ch0 hi3 hW3
  go_wp2_with fail
  refine ((HWU.out _ _ HU0.out (by have := HUB.out; simp [PfF, kd, fldsT, this]) HJ0.out HX0.out)).mono ?_
  rintro e w1 hor
  rcases hor with ⟨hk0, ⟨rfl, hj0⟩ | ⟨rfl, hj0⟩⟩
  · have HX1 := Lib.hid (HNU.out _ _ hk0 HX0.out)
    have HJ1 := Lib.hid hj0
    clear hj0 hk0
    have ci1 := HX1.out.2.2.cell
    go_wp2_with fail
    refine ((HF.out _ _ (by have := HUB.out; simp [PfF, kd, fldsT, this]) (by have := HUB.out; simp [PfF, kd, fldsT, this]) HJ1.out HX1.out)).mono ?_
    rintro e w2 hor
    rcases hor with ⟨hk1, ⟨rfl, hj1⟩ | ⟨rfl, hj1⟩⟩
    · have HX2 := Lib.hid (HNB.out _ _ hk1 HX1.out)
      have HJ2 := Lib.hid hj1
      clear hj1 hk1
      have ci2 := HX2.out.2.2.cell
      go_wp2
      go_end0
      exact ⟨⟨_, rfl⟩, .inl ⟨_, ⟨_, HU0L.out, rfl⟩, HJ2.out⟩⟩
    · have HX2 := Lib.hid (HNB.out _ _ hk1 HX1.out)
      have HJ2 := Lib.hid hj1
      clear hj1 hk1
      go_wp2
      go_end0
      exact ⟨⟨_, rfl⟩, .inr HJ2.out⟩
  · have HX1 := Lib.hid (HNU.out _ _ hk0 HX0.out)
    have HJ1 := Lib.hid hj0
    clear hj0 hk0
    go_wp2
    go_end0
    exact ⟨⟨_, rfl⟩, .inr HJ1.out⟩

set_option maxRecDepth 100000 in
set_option maxHeartbeats 2000000 in
theorem fieldsSS : FieldsAt 5 := by
  intro l J Jx base Bi B W hY hD hbW hB hBi hne bi cf h0
  obtain ⟨W3, hW3⟩ : ∃ W3, W3 = ((W.alloc (.cells #[.func (.yield l) #[] #[]] 76)).alloc (.cells #[.int .i64 0] 3)).alloc (.cells #[halfV W.heap.size] 77) := ⟨_, rfl⟩
  have hg3 : W.grownBy W3 none := by
    rw [hW3]
    exact grown_of (((below_new W _).alloc (by simp) _).alloc (by simp; omega) _) none
  have hfx : Fx l W.heap.size (W.heap.size + 1 + 1) Bi B W3 := by
    rw [hW3]
    exact ⟨((Boxed.new W _ _).alloc _).alloc _, boxed_new3 W _ _ _ _, ((bi.alloc _).alloc _).alloc _⟩
  have hu : Boxed W3 (W.heap.size + 1) 3 (.int .i64 0) := by
    rw [hW3]
    exact (boxed_new2 W _ _ _).alloc _
  have cf3 : W3.cell? ⟨B, 1, none⟩ = some (.int .i64 5) := by
    rw [hW3]
    exact Lib.cell?_alloc_some _ (Lib.cell?_alloc_some _ (Lib.cell?_alloc_some _ cf))
  have hnum : base ≤ W.heap.size ∧ B < base ∧ Bi < base ∧ Bi ≠ B := ⟨hbW, hB, hBi, hne⟩
  have HNUM := Lib.hid hnum
  have HUB := Lib.hid (show ¬ W.heap.size + 1 = B by omega)
  have HY := Lib.hid hY
  have HD := Lib.hid hD
  have HU0L := Lib.hid (show base ≤ W.heap.size + 1 by omega)
  have HW3 := Lib.hid hW3
  have hX0 : Fx l W.heap.size (W.heap.size + 1 + 1) Bi B W3 := hfx
  have HX0 := Lib.hid hX0
  have hU0 : Boxed W3 (W.heap.size + 1) 3 (.int .i64 0) := hu
  have HU0 := Lib.hid hU0
  have hJ0 : J [] W3 := hD _ _ _ h0 hg3
  have HJ0 := Lib.hid hJ0
  have HNB := Lib.hid (fun (X Y : World) (hk : Kb base Bi B X Y) (hx : Fx l W.heap.size (W.heap.size + 1 + 1) Bi B X) => hx.next hk (by omega) (by omega) (by omega) (.inl (by omega)) (.inl (by omega)))
  have HNU := Lib.hid (fun (X Y : World) (hk : Kb base Bi (W.heap.size + 1) X Y) (hx : Fx l W.heap.size (W.heap.size + 1 + 1) Bi B X) => hx.next hk (by omega) (by omega) (by omega) (.inl (by omega)) (.inl (by omega)))
  have HH := Lib.hid (fun (pre : List (Addr × Nat)) (k : Nat) (X : World) (hk : k < 12) (hp : PfF 5 B (pre ++ [(⟨B, k, none⟩, 4)])) (hj : J pre X) (hx : Fx l W.heap.size (W.heap.size + 1 + 1) Bi B X) => half_any l W.heap.size pre (⟨B, k, none⟩, 4) J Jx (Kb base Bi B) X rfl hx.1 (fun hj => hY _ _ _ ⟨hp, .inl ⟨k, hk, rfl⟩⟩ hj) hj)
  have HW := Lib.hid (fun (pre : List (Addr × Nat)) (k : Nat) (X : World) (hk : k < 12) (hp : PfF 5 B (pre ++ [(⟨B, k, none⟩, 8)])) (hj : J pre X) (hx : Fx l W.heap.size (W.heap.size + 1 + 1) Bi B X) => whole_any l W.heap.size pre (⟨B, k, none⟩, 8) J Jx (Kb base Bi B) X rfl hx.1 (fun hj => hY _ _ _ ⟨hp, .inl ⟨k, hk, rfl⟩⟩ hj) hj)
  have HHU := Lib.hid (fun (pre : List (Addr × Nat)) (X : World) (hu : Boxed X (W.heap.size + 1) 3 (.int .i64 0)) (hp : PfF 5 B (pre ++ [(⟨W.heap.size + 1, 0, none⟩, 4)])) (hj : J pre X) (hx : Fx l W.heap.size (W.heap.size + 1 + 1) Bi B X) => half_any l W.heap.size pre (⟨W.heap.size + 1, 0, none⟩, 4) J Jx (Kb base Bi (W.heap.size + 1)) X rfl hx.1 (fun hj => hY _ _ _ ⟨hp, .inr ⟨W.heap.size + 1, by omega, rfl, hu⟩⟩ hj) hj)
  have HWU := Lib.hid (fun (pre : List (Addr × Nat)) (X : World) (hu : Boxed X (W.heap.size + 1) 3 (.int .i64 0)) (hp : PfF 5 B (pre ++ [(⟨W.heap.size + 1, 0, none⟩, 8)])) (hj : J pre X) (hx : Fx l W.heap.size (W.heap.size + 1 + 1) Bi B X) => whole_any l W.heap.size pre (⟨W.heap.size + 1, 0, none⟩, 8) J Jx (Kb base Bi (W.heap.size + 1)) X rfl hx.1 (fun hj => hY _ _ _ ⟨hp, .inr ⟨W.heap.size + 1, by omega, rfl, hu⟩⟩ hj) hj)
  have HF := Lib.hid (fun (pre : List (Addr × Nat)) (X : World) (hp1 : PfF 5 B (pre ++ [(⟨B, 5, none⟩, 4)])) (hp2 : PfF 5 B ((pre ++ [(⟨B, 5, none⟩, 4)]) ++ [(⟨B, 6, none⟩, 12)])) (hj : J pre X) (hx : Fx l W.heap.size (W.heap.size + 1 + 1) Bi B X) => first_any (PfF 5 B) l J Jx base Bi B W.heap.size (W.heap.size + 1 + 1) pre X hY hD hbW (by omega) hne hx.2.1 hx.2.2 hx.1 hj hp1 hp2)
  have HSC := Lib.hid (fun (pre : List (Addr × Nat)) (X : World) (hp1 : PfF 5 B (pre ++ [(⟨B, 7, none⟩, 4)])) (hp2 : PfF 5 B ((pre ++ [(⟨B, 7, none⟩, 4)]) ++ [(⟨B, 8, none⟩, 12)])) (hj : J pre X) (hx : Fx l W.heap.size (W.heap.size + 1 + 1) Bi B X) => second_any (PfF 5 B) l J Jx base Bi B W.heap.size (W.heap.size + 1 + 1) pre X hY hD hbW (by omega) hne hx.2.1 hx.2.2 hx.1 hj hp1 hp2)
  have ci0 := hfx.2.2.cell
  have ch0 := hfx.2.1.cell
  have hi3 : W3.cell? ⟨Bi, 0, none⟩ = some (.pointer (some ⟨B, 0, none⟩)) := ci0
  unfold halfV at ch0 hW3
  clear hY hD hg3 hfx hu hnum hX0 hU0 hJ0 h0 bi cf hbW hB hBi hne HW3
  go_enter Tryd.func49, Tryd.ntmps49
  rw [hW3] at cf3 ci0 ch0 hi3
  go_wp2_with fail
  rw [← hW3]
  clear cf3 ci0 ch0 hi3 hW3
  go_wp2_with fail
  refine ((HW.out _ 9 _ (by omega) (by have := HUB.out; simp [PfF, kd, fldsT]) HJ0.out HX0.out)).mono ?_
  rintro e w1 hor
  rcases hor with ⟨hk0, ⟨rfl, hj0⟩ | ⟨rfl, hj0⟩⟩
  · have HX1 := Lib.hid (HNB.out _ _ hk0 HX0.out)
    have HJ1 := Lib.hid hj0
    clear hj0 hk0
    have ci1 := HX1.out.2.2.cell
    go_wp2_with fail
    refine ((HF.out _ _ (by have := HUB.out; simp [PfF, kd, fldsT]) (by have := HUB.out; simp [PfF, kd, fldsT]) HJ1.out HX1.out)).mono ?_
    rintro e w2 hor
    rcases hor with ⟨hk1, ⟨rfl, hj1⟩ | ⟨rfl, hj1⟩⟩
    · have HX2 := Lib.hid (HNB.out _ _ hk1 HX1.out)
      have HJ2 := Lib.hid hj1
      clear hj1 hk1
      have ci2 := HX2.out.2.2.cell
      go_wp2_with fail
      refine ((HSC.out _ _ (by have := HUB.out; simp [PfF, kd, fldsT]) (by have := HUB.out; simp [PfF, kd, fldsT]) HJ2.out HX2.out)).mono ?_
      rintro e w3 hor
      rcases hor with ⟨hk2, ⟨rfl, hj2⟩ | ⟨rfl, hj2⟩⟩
      · have HX3 := Lib.hid (HNB.out _ _ hk2 HX2.out)
        have HJ3 := Lib.hid hj2
        clear hj2 hk2
        have ci3 := HX3.out.2.2.cell
        go_wp2
        go_end0
        exact ⟨⟨_, rfl⟩, .inl ⟨_, ⟨_, HU0L.out, rfl⟩, HJ3.out⟩⟩
      · have HX3 := Lib.hid (HNB.out _ _ hk2 HX2.out)
        have HJ3 := Lib.hid hj2
        clear hj2 hk2
        go_wp2
        go_end0
        exact ⟨⟨_, rfl⟩, .inr HJ3.out⟩
    · have HX2 := Lib.hid (HNB.out _ _ hk1 HX1.out)
      have HJ2 := Lib.hid hj1
      clear hj1 hk1
      go_wp2
      go_end0
      exact ⟨⟨_, rfl⟩, .inr HJ2.out⟩
  · have HX1 := Lib.hid (HNB.out _ _ hk0 HX0.out)
    have HJ1 := Lib.hid hj0
    clear hj0 hk0
    go_wp2
    go_end0
    exact ⟨⟨_, rfl⟩, .inr HJ1.out⟩

end E
end Go.Proofs.YtaodghaicmjadaaDoor

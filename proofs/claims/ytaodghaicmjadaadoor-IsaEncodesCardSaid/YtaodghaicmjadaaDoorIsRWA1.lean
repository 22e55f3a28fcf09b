/- The given answers: within, most 15. -/
import Derived.Test.YtaodghaicmjadaaDoorIsRWh
namespace Go.Proofs.YtaodghaicmjadaaDoor
open Go.RowKit Go.Shelf
set_option linter.unusedVariables false
namespace E

set_option maxRecDepth 100000 in
set_option maxHeartbeats 1000000 in
theorem wi_15_9 (Q : Ins) (hf : Q.fo ≠ 5) (w : World) (e0 : hB Q.r1 = true) (e1 : hB Q.r2 = true) (e2 : hB Q.x2 = true) (e3 : hB Q.b1 = true) (e4 : hB Q.b2 = true) (e5 : hB Q.l2 = true) (p6 : 0 ≤ Q.l1) (p7 : Q.l1 ≤ 15) (p8 : 0 ≤ Q.d1) (p9 : ¬ (Q.d1 ≤ 4095)) : Calls Tryd.prog 37 #[Q.val] w (New w (.bool false)) := by
  have HB := Lib.hid (below_new w (.cells Q.cs 28))
  have HC := Lib.hid (fun n W => half_ref n W)
  have A0 := Bx.new w 28 Q.cs
  obtain ⟨w1, ew⟩ : ∃ w1, w.alloc (.cells Q.cs 28) = w1 := ⟨_, rfl⟩
  rw [ew] at HB A0
  obtain ⟨a, ea⟩ : ∃ a, w.heap.size = a := ⟨_, rfl⟩
  rw [ea] at A0
  obtain ⟨c0, c1, c2, c3, c4, c5, c6, c7, c8, c9, c10, c11⟩ := bx_cells A0
  unfold Ins.cs at ew
  clear A0
  unfold Ins.val
  go_enter Tryd.func37, Tryd.ntmps37
  go_wp2_with fail
  refine (HC.out Q.r1 _).mono ?_
  rw [e0]
  rintro e w2 ⟨rfl, rfl⟩
  clear e0
  go_wp2_with fail
  refine (HC.out Q.r2 _).mono ?_
  rw [e1]
  rintro e w2 ⟨rfl, rfl⟩
  clear e1
  go_wp2_with fail
  refine (HC.out Q.x2 _).mono ?_
  rw [e2]
  rintro e w2 ⟨rfl, rfl⟩
  clear e2
  go_wp2_with fail
  refine (HC.out Q.b1 _).mono ?_
  rw [e3]
  rintro e w2 ⟨rfl, rfl⟩
  clear e3
  go_wp2_with fail
  refine (HC.out Q.b2 _).mono ?_
  rw [e4]
  rintro e w2 ⟨rfl, rfl⟩
  clear e4
  go_wp2_with fail
  refine (HC.out Q.l2 _).mono ?_
  rw [e5]
  rintro e w2 ⟨rfl, rfl⟩
  clear e5
  go_wp2
  go_ret
  exact ⟨rfl, HB.out⟩
set_option maxRecDepth 100000 in
set_option maxHeartbeats 1000000 in
theorem wi_15_10 (Q : Ins) (hf : Q.fo ≠ 5) (w : World) (e0 : hB Q.r1 = true) (e1 : hB Q.r2 = true) (e2 : hB Q.x2 = true) (e3 : hB Q.b1 = true) (e4 : hB Q.b2 = true) (e5 : hB Q.l2 = true) (p6 : 0 ≤ Q.l1) (p7 : Q.l1 ≤ 15) (p8 : 0 ≤ Q.d1) (p9 : Q.d1 ≤ 4095) (p10 : ¬ (0 ≤ Q.d2)) : Calls Tryd.prog 37 #[Q.val] w (New w (.bool false)) := by
  have HB := Lib.hid (below_new w (.cells Q.cs 28))
  have HC := Lib.hid (fun n W => half_ref n W)
  have A0 := Bx.new w 28 Q.cs
  obtain ⟨w1, ew⟩ : ∃ w1, w.alloc (.cells Q.cs 28) = w1 := ⟨_, rfl⟩
  rw [ew] at HB A0
  obtain ⟨a, ea⟩ : ∃ a, w.heap.size = a := ⟨_, rfl⟩
  rw [ea] at A0
  obtain ⟨c0, c1, c2, c3, c4, c5, c6, c7, c8, c9, c10, c11⟩ := bx_cells A0
  unfold Ins.cs at ew
  clear A0
  unfold Ins.val
  go_enter Tryd.func37, Tryd.ntmps37
  go_wp2_with fail
  refine (HC.out Q.r1 _).mono ?_
  rw [e0]
  rintro e w2 ⟨rfl, rfl⟩
  clear e0
  go_wp2_with fail
  refine (HC.out Q.r2 _).mono ?_
  rw [e1]
  rintro e w2 ⟨rfl, rfl⟩
  clear e1
  go_wp2_with fail
  refine (HC.out Q.x2 _).mono ?_
  rw [e2]
  rintro e w2 ⟨rfl, rfl⟩
  clear e2
  go_wp2_with fail
  refine (HC.out Q.b1 _).mono ?_
  rw [e3]
  rintro e w2 ⟨rfl, rfl⟩
  clear e3
  go_wp2_with fail
  refine (HC.out Q.b2 _).mono ?_
  rw [e4]
  rintro e w2 ⟨rfl, rfl⟩
  clear e4
  go_wp2_with fail
  refine (HC.out Q.l2 _).mono ?_
  rw [e5]
  rintro e w2 ⟨rfl, rfl⟩
  clear e5
  go_wp2
  go_ret
  exact ⟨rfl, HB.out⟩
set_option maxRecDepth 100000 in
set_option maxHeartbeats 1000000 in
theorem wi_15_11 (Q : Ins) (hf : Q.fo ≠ 5) (w : World) (e0 : hB Q.r1 = true) (e1 : hB Q.r2 = true) (e2 : hB Q.x2 = true) (e3 : hB Q.b1 = true) (e4 : hB Q.b2 = true) (e5 : hB Q.l2 = true) (p6 : 0 ≤ Q.l1) (p7 : Q.l1 ≤ 15) (p8 : 0 ≤ Q.d1) (p9 : Q.d1 ≤ 4095) (p10 : 0 ≤ Q.d2) (p11 : ¬ (Q.d2 ≤ 4095)) : Calls Tryd.prog 37 #[Q.val] w (New w (.bool false)) := by
  have HB := Lib.hid (below_new w (.cells Q.cs 28))
  have HC := Lib.hid (fun n W => half_ref n W)
  have A0 := Bx.new w 28 Q.cs
  obtain ⟨w1, ew⟩ : ∃ w1, w.alloc (.cells Q.cs 28) = w1 := ⟨_, rfl⟩
  rw [ew] at HB A0
  obtain ⟨a, ea⟩ : ∃ a, w.heap.size = a := ⟨_, rfl⟩
  rw [ea] at A0
  obtain ⟨c0, c1, c2, c3, c4, c5, c6, c7, c8, c9, c10, c11⟩ := bx_cells A0
  unfold Ins.cs at ew
  clear A0
  unfold Ins.val
  go_enter Tryd.func37, Tryd.ntmps37
  go_wp2_with fail
  refine (HC.out Q.r1 _).mono ?_
  rw [e0]
  rintro e w2 ⟨rfl, rfl⟩
  clear e0
  go_wp2_with fail
  refine (HC.out Q.r2 _).mono ?_
  rw [e1]
  rintro e w2 ⟨rfl, rfl⟩
  clear e1
  go_wp2_with fail
  refine (HC.out Q.x2 _).mono ?_
  rw [e2]
  rintro e w2 ⟨rfl, rfl⟩
  clear e2
  go_wp2_with fail
  refine (HC.out Q.b1 _).mono ?_
  rw [e3]
  rintro e w2 ⟨rfl, rfl⟩
  clear e3
  go_wp2_with fail
  refine (HC.out Q.b2 _).mono ?_
  rw [e4]
  rintro e w2 ⟨rfl, rfl⟩
  clear e4
  go_wp2_with fail
  refine (HC.out Q.l2 _).mono ?_
  rw [e5]
  rintro e w2 ⟨rfl, rfl⟩
  clear e5
  go_wp2
  go_ret
  exact ⟨rfl, HB.out⟩
set_option maxRecDepth 100000 in
set_option maxHeartbeats 1000000 in
theorem wi_15_12 (Q : Ins) (hf : Q.fo ≠ 5) (w : World) (e0 : hB Q.r1 = true) (e1 : hB Q.r2 = true) (e2 : hB Q.x2 = true) (e3 : hB Q.b1 = true) (e4 : hB Q.b2 = true) (e5 : hB Q.l2 = true) (p6 : 0 ≤ Q.l1) (p7 : Q.l1 ≤ 15) (p8 : 0 ≤ Q.d1) (p9 : Q.d1 ≤ 4095) (p10 : 0 ≤ Q.d2) (p11 : Q.d2 ≤ 4095) (p12 : ¬ (0 ≤ Q.i2)) : Calls Tryd.prog 37 #[Q.val] w (New w (.bool false)) := by
  have HB := Lib.hid (below_new w (.cells Q.cs 28))
  have HC := Lib.hid (fun n W => half_ref n W)
  have A0 := Bx.new w 28 Q.cs
  obtain ⟨w1, ew⟩ : ∃ w1, w.alloc (.cells Q.cs 28) = w1 := ⟨_, rfl⟩
  rw [ew] at HB A0
  obtain ⟨a, ea⟩ : ∃ a, w.heap.size = a := ⟨_, rfl⟩
  rw [ea] at A0
  obtain ⟨c0, c1, c2, c3, c4, c5, c6, c7, c8, c9, c10, c11⟩ := bx_cells A0
  unfold Ins.cs at ew
  clear A0
  unfold Ins.val
  go_enter Tryd.func37, Tryd.ntmps37
  go_wp2_with fail
  refine (HC.out Q.r1 _).mono ?_
  rw [e0]
  rintro e w2 ⟨rfl, rfl⟩
  clear e0
  go_wp2_with fail
  refine (HC.out Q.r2 _).mono ?_
  rw [e1]
  rintro e w2 ⟨rfl, rfl⟩
  clear e1
  go_wp2_with fail
  refine (HC.out Q.x2 _).mono ?_
  rw [e2]
  rintro e w2 ⟨rfl, rfl⟩
  clear e2
  go_wp2_with fail
  refine (HC.out Q.b1 _).mono ?_
  rw [e3]
  rintro e w2 ⟨rfl, rfl⟩
  clear e3
  go_wp2_with fail
  refine (HC.out Q.b2 _).mono ?_
  rw [e4]
  rintro e w2 ⟨rfl, rfl⟩
  clear e4
  go_wp2_with fail
  refine (HC.out Q.l2 _).mono ?_
  rw [e5]
  rintro e w2 ⟨rfl, rfl⟩
  clear e5
  go_wp2
  go_ret
  exact ⟨rfl, HB.out⟩
set_option maxRecDepth 100000 in
set_option maxHeartbeats 1000000 in
theorem wi_15_13 (Q : Ins) (hf : Q.fo ≠ 5) (w : World) (e0 : hB Q.r1 = true) (e1 : hB Q.r2 = true) (e2 : hB Q.x2 = true) (e3 : hB Q.b1 = true) (e4 : hB Q.b2 = true) (e5 : hB Q.l2 = true) (p6 : 0 ≤ Q.l1) (p7 : Q.l1 ≤ 15) (p8 : 0 ≤ Q.d1) (p9 : Q.d1 ≤ 4095) (p10 : 0 ≤ Q.d2) (p11 : Q.d2 ≤ 4095) (p12 : 0 ≤ Q.i2) (p13 : ¬ (Q.i2 ≤ 255)) : Calls Tryd.prog 37 #[Q.val] w (New w (.bool false)) := by
  have HB := Lib.hid (below_new w (.cells Q.cs 28))
  have HC := Lib.hid (fun n W => half_ref n W)
  have A0 := Bx.new w 28 Q.cs
  obtain ⟨w1, ew⟩ : ∃ w1, w.alloc (.cells Q.cs 28) = w1 := ⟨_, rfl⟩
  rw [ew] at HB A0
  obtain ⟨a, ea⟩ : ∃ a, w.heap.size = a := ⟨_, rfl⟩
  rw [ea] at A0
  obtain ⟨c0, c1, c2, c3, c4, c5, c6, c7, c8, c9, c10, c11⟩ := bx_cells A0
  unfold Ins.cs at ew
  clear A0
  unfold Ins.val
  go_enter Tryd.func37, Tryd.ntmps37
  go_wp2_with fail
  refine (HC.out Q.r1 _).mono ?_
  rw [e0]
  rintro e w2 ⟨rfl, rfl⟩
  clear e0
  go_wp2_with fail
  refine (HC.out Q.r2 _).mono ?_
  rw [e1]
  rintro e w2 ⟨rfl, rfl⟩
  clear e1
  go_wp2_with fail
  refine (HC.out Q.x2 _).mono ?_
  rw [e2]
  rintro e w2 ⟨rfl, rfl⟩
  clear e2
  go_wp2_with fail
  refine (HC.out Q.b1 _).mono ?_
  rw [e3]
  rintro e w2 ⟨rfl, rfl⟩
  clear e3
  go_wp2_with fail
  refine (HC.out Q.b2 _).mono ?_
  rw [e4]
  rintro e w2 ⟨rfl, rfl⟩
  clear e4
  go_wp2_with fail
  refine (HC.out Q.l2 _).mono ?_
  rw [e5]
  rintro e w2 ⟨rfl, rfl⟩
  clear e5
  go_wp2
  go_ret
  refine ⟨?_, HB.out⟩
  show Ending.returned (.bool (decide (Q.i2 ≤ 255))) = _
  rw [decide_eq_false (by omega)]
set_option maxRecDepth 100000 in
set_option maxHeartbeats 1000000 in
theorem wi_15_14 (Q : Ins) (hf : Q.fo ≠ 5) (w : World) (e0 : hB Q.r1 = true) (e1 : hB Q.r2 = true) (e2 : hB Q.x2 = true) (e3 : hB Q.b1 = true) (e4 : hB Q.b2 = true) (e5 : hB Q.l2 = true) (p6 : 0 ≤ Q.l1) (p7 : Q.l1 ≤ 15) (p8 : 0 ≤ Q.d1) (p9 : Q.d1 ≤ 4095) (p10 : 0 ≤ Q.d2) (p11 : Q.d2 ≤ 4095) (p12 : 0 ≤ Q.i2) (p13 : Q.i2 ≤ 255) : Calls Tryd.prog 37 #[Q.val] w (New w (.bool true)) := by
  have HB := Lib.hid (below_new w (.cells Q.cs 28))
  have HC := Lib.hid (fun n W => half_ref n W)
  have A0 := Bx.new w 28 Q.cs
  obtain ⟨w1, ew⟩ : ∃ w1, w.alloc (.cells Q.cs 28) = w1 := ⟨_, rfl⟩
  rw [ew] at HB A0
  obtain ⟨a, ea⟩ : ∃ a, w.heap.size = a := ⟨_, rfl⟩
  rw [ea] at A0
  obtain ⟨c0, c1, c2, c3, c4, c5, c6, c7, c8, c9, c10, c11⟩ := bx_cells A0
  unfold Ins.cs at ew
  clear A0
  unfold Ins.val
  go_enter Tryd.func37, Tryd.ntmps37
  go_wp2_with fail
  refine (HC.out Q.r1 _).mono ?_
  rw [e0]
  rintro e w2 ⟨rfl, rfl⟩
  clear e0
  go_wp2_with fail
  refine (HC.out Q.r2 _).mono ?_
  rw [e1]
  rintro e w2 ⟨rfl, rfl⟩
  clear e1
  go_wp2_with fail
  refine (HC.out Q.x2 _).mono ?_
  rw [e2]
  rintro e w2 ⟨rfl, rfl⟩
  clear e2
  go_wp2_with fail
  refine (HC.out Q.b1 _).mono ?_
  rw [e3]
  rintro e w2 ⟨rfl, rfl⟩
  clear e3
  go_wp2_with fail
  refine (HC.out Q.b2 _).mono ?_
  rw [e4]
  rintro e w2 ⟨rfl, rfl⟩
  clear e4
  go_wp2_with fail
  refine (HC.out Q.l2 _).mono ?_
  rw [e5]
  rintro e w2 ⟨rfl, rfl⟩
  clear e5
  go_wp2
  go_ret
  exact ⟨rfl, HB.out⟩
end E
end Go.Proofs.YtaodghaicmjadaaDoor

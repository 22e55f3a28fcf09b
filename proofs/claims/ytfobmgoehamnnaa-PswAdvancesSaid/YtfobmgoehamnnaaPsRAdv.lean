/- The given Advance. -/
import Derived.Test.YtfobmgoehamnnaaPsRAdm
namespace Go.Proofs.Ytfobmgoehamnnaa
open Go.RowKit
set_option linter.unusedVariables false
namespace E

set_option maxRecDepth 100000 in
theorem radv_no (Q : Psw) (n : Int) (w : World) (h : okB Q = false) : Calls Try.prog 25 #[.agg #[.int .i64 Q.m, .int .i64 Q.k, .bool Q.ma, .bool Q.wa, .bool Q.pr, .int .i64 Q.co, .int .i64 Q.il, .int .i64 Q.cc, .int .i64 Q.pg, .int .i64 Q.ad], .int .i64 n] w (New w (.agg #[.int .i64 Q.m, .int .i64 Q.k, .bool Q.ma, .bool Q.wa, .bool Q.pr, .int .i64 Q.co, .int .i64 Q.il, .int .i64 Q.cc, .int .i64 Q.pg, .int .i64 Q.ad])) := by
  have HV := Lib.hid (fun W => (by have h1 := rvalid_any Q W; rw [h] at h1; exact h1 : Calls Try.prog 15 #[.agg #[.int .i64 Q.m, .int .i64 Q.k, .bool Q.ma, .bool Q.wa, .bool Q.pr, .int .i64 Q.co, .int .i64 Q.il, .int .i64 Q.cc, .int .i64 Q.pg, .int .i64 Q.ad]] W (New W (.bool false))))
  have HB := Lib.hid (two_start w Q)
  clear h
  go_enter Try.func25, Try.ntmps25
  go_wp2_with fail
  refine (HV.out _).mono ?_
  rintro e w1 ⟨rfl, hb⟩
  have HX := Lib.hid hb
  have H1 := Lib.hid (HB.out.1.below hb)
  have H2 := Lib.hid (HB.out.2.below hb)
  have HW := Lib.hid (bel0 (below2 w _ _) hb)
  clear hb HV HB
  obtain ⟨c0, c1, c2, c3, c4, c5, c6, c7, c8, c9⟩ := cells_of H1.out
  obtain ⟨⟨d0, d1, d2, d3, d4, d5, d6, d7, d8, d9⟩, f0, f1, f2, f3, f4, f5, f6, f7, f8, f9⟩ := zcells_of H2.out
  go_wp2
  refine bodyPost_ret (results_cell_row rfl _ _ (w.heap.size + 1) _ _ _ _ rfl (put10_at H2.out Q) Try.underlying23 rfl (by kernel_rfl)) rfl ?_
  exact ⟨rfl, put10_below HW.out (by omega) Q⟩
set_option maxRecDepth 100000 in
theorem radv_not (Q : Psw) (n : Int) (w : World) (h : okB Q = true) (i2 : ¬ n = 2) (i4 : ¬ n = 4) (i6 : ¬ n = 6) : Calls Try.prog 25 #[.agg #[.int .i64 Q.m, .int .i64 Q.k, .bool Q.ma, .bool Q.wa, .bool Q.pr, .int .i64 Q.co, .int .i64 Q.il, .int .i64 Q.cc, .int .i64 Q.pg, .int .i64 Q.ad], .int .i64 n] w (New w (.agg #[.int .i64 Q.m, .int .i64 Q.k, .bool Q.ma, .bool Q.wa, .bool Q.pr, .int .i64 Q.co, .int .i64 Q.il, .int .i64 Q.cc, .int .i64 Q.pg, .int .i64 Q.ad])) := by
  have e2 : (n != 2) = true := by simp [i2]
  have e4 : (n != 4) = true := by simp [i4]
  have e6 : (n != 6) = true := by simp [i6]
  have HV := Lib.hid (fun W => (by have h1 := rvalid_any Q W; rw [h] at h1; exact h1 : Calls Try.prog 15 #[.agg #[.int .i64 Q.m, .int .i64 Q.k, .bool Q.ma, .bool Q.wa, .bool Q.pr, .int .i64 Q.co, .int .i64 Q.il, .int .i64 Q.cc, .int .i64 Q.pg, .int .i64 Q.ad]] W (New W (.bool true))))
  have HB := Lib.hid (two_start w Q)
  clear h
  go_enter Try.func25, Try.ntmps25
  go_wp2_with fail
  refine (HV.out _).mono ?_
  rintro e w1 ⟨rfl, hb⟩
  have HX := Lib.hid hb
  have H1 := Lib.hid (HB.out.1.below hb)
  have H2 := Lib.hid (HB.out.2.below hb)
  have HW := Lib.hid (bel0 (below2 w _ _) hb)
  clear hb HV HB
  obtain ⟨c0, c1, c2, c3, c4, c5, c6, c7, c8, c9⟩ := cells_of H1.out
  obtain ⟨⟨d0, d1, d2, d3, d4, d5, d6, d7, d8, d9⟩, f0, f1, f2, f3, f4, f5, f6, f7, f8, f9⟩ := zcells_of H2.out
  go_wp2
  refine bodyPost_ret (results_cell_row rfl _ _ (w.heap.size + 1) _ _ _ _ rfl (put10_at H2.out Q) Try.underlying23 rfl (by kernel_rfl)) rfl ?_
  exact ⟨rfl, put10_below HW.out (by omega) Q⟩
set_option maxRecDepth 100000 in
theorem radv_2 (Q : Psw) (w : World) (h : okB Q = true) : Calls Try.prog 25 #[.agg #[.int .i64 Q.m, .int .i64 Q.k, .bool Q.ma, .bool Q.wa, .bool Q.pr, .int .i64 Q.co, .int .i64 Q.il, .int .i64 Q.cc, .int .i64 Q.pg, .int .i64 Q.ad], .int .i64 2] w (New w (.agg #[.int .i64 (adv Q 2).m, .int .i64 (adv Q 2).k, .bool (adv Q 2).ma, .bool (adv Q 2).wa, .bool (adv Q 2).pr, .int .i64 (adv Q 2).co, .int .i64 (adv Q 2).il, .int .i64 (adv Q 2).cc, .int .i64 (adv Q 2).pg, .int .i64 (adv Q 2).ad])) := by
  have HOK := Lib.hid h
  have HV := Lib.hid (fun W => (by have h1 := rvalid_any Q W; rw [h] at h1; exact h1 : Calls Try.prog 15 #[.agg #[.int .i64 Q.m, .int .i64 Q.k, .bool Q.ma, .bool Q.wa, .bool Q.pr, .int .i64 Q.co, .int .i64 Q.il, .int .i64 Q.cc, .int .i64 Q.pg, .int .i64 Q.ad]] W (New W (.bool true))))
  have HB := Lib.hid (two_start w Q)
  clear h
  go_enter Try.func25, Try.ntmps25
  go_wp2_with fail
  refine (HV.out _).mono ?_
  rintro e w1 ⟨rfl, hb⟩
  have HX := Lib.hid hb
  have H1 := Lib.hid (HB.out.1.below hb)
  have H2 := Lib.hid (HB.out.2.below hb)
  have HW := Lib.hid (bel0 (below2 w _ _) hb)
  clear hb HV HB
  obtain ⟨c0, c1, c2, c3, c4, c5, c6, c7, c8, c9⟩ := cells_of H1.out
  obtain ⟨⟨d0, d1, d2, d3, d4, d5, d6, d7, d8, d9⟩, f0, f1, f2, f3, f4, f5, f6, f7, f8, f9⟩ := zcells_of H2.out
  have g9 := H1.out.frozen 9
  have g6 := H1.out.frozen 6
  go_wp2
  have HA := adv_eq Q 2 HOK.out rfl
  have HN := adv_num HOK.out (n := 2) (by decide) (by decide)
  rw [HN, HA]
  have hp := put10v_at ((H2.out.far (p := ⟨w.heap.size, 9, none⟩) (by simp) (.int .i64 ((Q.ad + 2) % 16777216))).far (p := ⟨w.heap.size, 6, none⟩) (by simp) (.int .i64 1)) (.int .i64 Q.m) (.int .i64 Q.k) (.bool Q.ma) (.bool Q.wa) (.bool Q.pr) (.int .i64 Q.co) (.int .i64 1) (.int .i64 Q.cc) (.int .i64 Q.pg) (.int .i64 ((Q.ad + 2) % 16777216))
  refine bodyPost_ret (results_cell_row rfl _ _ (w.heap.size + 1) _ _ _ _ rfl hp Try.underlying23 rfl (by kernel_rfl)) rfl ?_
  exact ⟨rfl, put10v_below ((HW.out.setCell (p := ⟨w.heap.size, 9, none⟩) (Nat.le_refl _) _).setCell (p := ⟨w.heap.size, 6, none⟩) (Nat.le_refl _) _) (by omega) _ _ _ _ _ _ _ _ _ _⟩
set_option maxRecDepth 100000 in
theorem radv_4 (Q : Psw) (w : World) (h : okB Q = true) : Calls Try.prog 25 #[.agg #[.int .i64 Q.m, .int .i64 Q.k, .bool Q.ma, .bool Q.wa, .bool Q.pr, .int .i64 Q.co, .int .i64 Q.il, .int .i64 Q.cc, .int .i64 Q.pg, .int .i64 Q.ad], .int .i64 4] w (New w (.agg #[.int .i64 (adv Q 4).m, .int .i64 (adv Q 4).k, .bool (adv Q 4).ma, .bool (adv Q 4).wa, .bool (adv Q 4).pr, .int .i64 (adv Q 4).co, .int .i64 (adv Q 4).il, .int .i64 (adv Q 4).cc, .int .i64 (adv Q 4).pg, .int .i64 (adv Q 4).ad])) := by
  have HOK := Lib.hid h
  have HV := Lib.hid (fun W => (by have h1 := rvalid_any Q W; rw [h] at h1; exact h1 : Calls Try.prog 15 #[.agg #[.int .i64 Q.m, .int .i64 Q.k, .bool Q.ma, .bool Q.wa, .bool Q.pr, .int .i64 Q.co, .int .i64 Q.il, .int .i64 Q.cc, .int .i64 Q.pg, .int .i64 Q.ad]] W (New W (.bool true))))
  have HB := Lib.hid (two_start w Q)
  clear h
  go_enter Try.func25, Try.ntmps25
  go_wp2_with fail
  refine (HV.out _).mono ?_
  rintro e w1 ⟨rfl, hb⟩
  have HX := Lib.hid hb
  have H1 := Lib.hid (HB.out.1.below hb)
  have H2 := Lib.hid (HB.out.2.below hb)
  have HW := Lib.hid (bel0 (below2 w _ _) hb)
  clear hb HV HB
  obtain ⟨c0, c1, c2, c3, c4, c5, c6, c7, c8, c9⟩ := cells_of H1.out
  obtain ⟨⟨d0, d1, d2, d3, d4, d5, d6, d7, d8, d9⟩, f0, f1, f2, f3, f4, f5, f6, f7, f8, f9⟩ := zcells_of H2.out
  have g9 := H1.out.frozen 9
  have g6 := H1.out.frozen 6
  go_wp2
  have HA := adv_eq Q 4 HOK.out rfl
  have HN := adv_num HOK.out (n := 4) (by decide) (by decide)
  rw [HN, HA]
  have hp := put10v_at ((H2.out.far (p := ⟨w.heap.size, 9, none⟩) (by simp) (.int .i64 ((Q.ad + 4) % 16777216))).far (p := ⟨w.heap.size, 6, none⟩) (by simp) (.int .i64 2)) (.int .i64 Q.m) (.int .i64 Q.k) (.bool Q.ma) (.bool Q.wa) (.bool Q.pr) (.int .i64 Q.co) (.int .i64 2) (.int .i64 Q.cc) (.int .i64 Q.pg) (.int .i64 ((Q.ad + 4) % 16777216))
  refine bodyPost_ret (results_cell_row rfl _ _ (w.heap.size + 1) _ _ _ _ rfl hp Try.underlying23 rfl (by kernel_rfl)) rfl ?_
  exact ⟨rfl, put10v_below ((HW.out.setCell (p := ⟨w.heap.size, 9, none⟩) (Nat.le_refl _) _).setCell (p := ⟨w.heap.size, 6, none⟩) (Nat.le_refl _) _) (by omega) _ _ _ _ _ _ _ _ _ _⟩
set_option maxRecDepth 100000 in
theorem radv_6 (Q : Psw) (w : World) (h : okB Q = true) : Calls Try.prog 25 #[.agg #[.int .i64 Q.m, .int .i64 Q.k, .bool Q.ma, .bool Q.wa, .bool Q.pr, .int .i64 Q.co, .int .i64 Q.il, .int .i64 Q.cc, .int .i64 Q.pg, .int .i64 Q.ad], .int .i64 6] w (New w (.agg #[.int .i64 (adv Q 6).m, .int .i64 (adv Q 6).k, .bool (adv Q 6).ma, .bool (adv Q 6).wa, .bool (adv Q 6).pr, .int .i64 (adv Q 6).co, .int .i64 (adv Q 6).il, .int .i64 (adv Q 6).cc, .int .i64 (adv Q 6).pg, .int .i64 (adv Q 6).ad])) := by
  have HOK := Lib.hid h
  have HV := Lib.hid (fun W => (by have h1 := rvalid_any Q W; rw [h] at h1; exact h1 : Calls Try.prog 15 #[.agg #[.int .i64 Q.m, .int .i64 Q.k, .bool Q.ma, .bool Q.wa, .bool Q.pr, .int .i64 Q.co, .int .i64 Q.il, .int .i64 Q.cc, .int .i64 Q.pg, .int .i64 Q.ad]] W (New W (.bool true))))
  have HB := Lib.hid (two_start w Q)
  clear h
  go_enter Try.func25, Try.ntmps25
  go_wp2_with fail
  refine (HV.out _).mono ?_
  rintro e w1 ⟨rfl, hb⟩
  have HX := Lib.hid hb
  have H1 := Lib.hid (HB.out.1.below hb)
  have H2 := Lib.hid (HB.out.2.below hb)
  have HW := Lib.hid (bel0 (below2 w _ _) hb)
  clear hb HV HB
  obtain ⟨c0, c1, c2, c3, c4, c5, c6, c7, c8, c9⟩ := cells_of H1.out
  obtain ⟨⟨d0, d1, d2, d3, d4, d5, d6, d7, d8, d9⟩, f0, f1, f2, f3, f4, f5, f6, f7, f8, f9⟩ := zcells_of H2.out
  have g9 := H1.out.frozen 9
  have g6 := H1.out.frozen 6
  go_wp2
  have HA := adv_eq Q 6 HOK.out rfl
  have HN := adv_num HOK.out (n := 6) (by decide) (by decide)
  rw [HN, HA]
  have hp := put10v_at ((H2.out.far (p := ⟨w.heap.size, 9, none⟩) (by simp) (.int .i64 ((Q.ad + 6) % 16777216))).far (p := ⟨w.heap.size, 6, none⟩) (by simp) (.int .i64 3)) (.int .i64 Q.m) (.int .i64 Q.k) (.bool Q.ma) (.bool Q.wa) (.bool Q.pr) (.int .i64 Q.co) (.int .i64 3) (.int .i64 Q.cc) (.int .i64 Q.pg) (.int .i64 ((Q.ad + 6) % 16777216))
  refine bodyPost_ret (results_cell_row rfl _ _ (w.heap.size + 1) _ _ _ _ rfl hp Try.underlying23 rfl (by kernel_rfl)) rfl ?_
  exact ⟨rfl, put10v_below ((HW.out.setCell (p := ⟨w.heap.size, 9, none⟩) (Nat.le_refl _) _).setCell (p := ⟨w.heap.size, 6, none⟩) (Nat.le_refl _) _) (by omega) _ _ _ _ _ _ _ _ _ _⟩
theorem radv_any (Q : Psw) (n : Int) (w : World) : Calls Try.prog 25 #[.agg #[.int .i64 Q.m, .int .i64 Q.k, .bool Q.ma, .bool Q.wa, .bool Q.pr, .int .i64 Q.co, .int .i64 Q.il, .int .i64 Q.cc, .int .i64 Q.pg, .int .i64 Q.ad], .int .i64 n] w (New w (.agg #[.int .i64 (adv Q n).m, .int .i64 (adv Q n).k, .bool (adv Q n).ma, .bool (adv Q n).wa, .bool (adv Q n).pr, .int .i64 (adv Q n).co, .int .i64 (adv Q n).il, .int .i64 (adv Q n).cc, .int .i64 (adv Q n).pg, .int .i64 (adv Q n).ad])) := by
  cases h : okB Q with
  | false =>
    rw [show adv Q n = Q by unfold adv; rw [h]; rfl]
    exact radv_no Q n w h
  | true =>
    rcases (by omega : n = 2 ∨ n = 4 ∨ n = 6 ∨ (¬ n = 2 ∧ ¬ n = 4 ∧ ¬ n = 6)) with rfl | rfl | rfl | ⟨i2, i4, i6⟩
    · exact radv_2 Q w h
    · exact radv_4 Q w h
    · exact radv_6 Q w h
    · rw [show adv Q n = Q by unfold adv; rw [h, show lenB n = false by simp [lenB, i2, i4, i6]]; rfl]
      exact radv_not Q n w h i2 i4 i6

end E
end Go.Proofs.Ytfobmgoehamnnaa

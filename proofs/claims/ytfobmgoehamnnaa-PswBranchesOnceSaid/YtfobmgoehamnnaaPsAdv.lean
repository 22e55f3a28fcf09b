/- Advance of the program. -/
import Derived.Test.YtfobmgoehamnnaaPsBr
import Derived.Laws.ResultCell
namespace Go.Proofs.Ytfobmgoehamnnaa
open Go.RowKit
set_option linter.unusedVariables false
namespace E

/-- A word put into a block. -/
def put10 (W : World) (g : Nat) (Q : Psw) : World := ((((((((((W.setCell ⟨g, 0, none⟩ (.int .i64 Q.m)).setCell ⟨g, 1, none⟩ (.int .i64 Q.k)).setCell ⟨g, 2, none⟩ (.bool Q.ma)).setCell ⟨g, 3, none⟩ (.bool Q.wa)).setCell ⟨g, 4, none⟩ (.bool Q.pr)).setCell ⟨g, 5, none⟩ (.int .i64 Q.co)).setCell ⟨g, 6, none⟩ (.int .i64 Q.il)).setCell ⟨g, 7, none⟩ (.int .i64 Q.cc)).setCell ⟨g, 8, none⟩ (.int .i64 Q.pg)).setCell ⟨g, 9, none⟩ (.int .i64 Q.ad))
theorem put10_at {W : World} {g : Nat} {t : TypeId} {a0 a1 a2 a3 a4 a5 a6 a7 a8 a9 : Value} (h : Bx W g t #[a0, a1, a2, a3, a4, a5, a6, a7, a8, a9]) (Q : Psw) : Bx (put10 W g Q) g t #[.int .i64 Q.m, .int .i64 Q.k, .bool Q.ma, .bool Q.wa, .bool Q.pr, .int .i64 Q.co, .int .i64 Q.il, .int .i64 Q.cc, .int .i64 Q.pg, .int .i64 Q.ad] := by
  have h := (((((((((h.set 0 (.int .i64 Q.m)).set 1 (.int .i64 Q.k)).set 2 (.bool Q.ma)).set 3 (.bool Q.wa)).set 4 (.bool Q.pr)).set 5 (.int .i64 Q.co)).set 6 (.int .i64 Q.il)).set 7 (.int .i64 Q.cc)).set 8 (.int .i64 Q.pg)).set 9 (.int .i64 Q.ad)
  simp only [List.setIfInBounds_toArray, List.set_cons_zero, List.set_cons_succ] at h
  exact h
theorem put10v_at {W : World} {g : Nat} {t : TypeId} {a0 a1 a2 a3 a4 a5 a6 a7 a8 a9 : Value} (h : Bx W g t #[a0, a1, a2, a3, a4, a5, a6, a7, a8, a9]) (v0 v1 v2 v3 v4 v5 v6 v7 v8 v9 : Value) : Bx (((((((((((W.setCell ⟨g, 0, none⟩ v0).setCell ⟨g, 1, none⟩ v1).setCell ⟨g, 2, none⟩ v2).setCell ⟨g, 3, none⟩ v3).setCell ⟨g, 4, none⟩ v4).setCell ⟨g, 5, none⟩ v5).setCell ⟨g, 6, none⟩ v6).setCell ⟨g, 7, none⟩ v7).setCell ⟨g, 8, none⟩ v8).setCell ⟨g, 9, none⟩ v9)) g t #[v0, v1, v2, v3, v4, v5, v6, v7, v8, v9] := by
  have h := (((((((((h.set 0 v0).set 1 v1).set 2 v2).set 3 v3).set 4 v4).set 5 v5).set 6 v6).set 7 v7).set 8 v8).set 9 v9
  simp only [List.setIfInBounds_toArray, List.set_cons_zero, List.set_cons_succ] at h
  exact h
theorem put10v_below {w W : World} {B g : Nat} (h : Below B w W) (hg : B ≤ g) (v0 v1 v2 v3 v4 v5 v6 v7 v8 v9 : Value) : Below B w (((((((((((W.setCell ⟨g, 0, none⟩ v0).setCell ⟨g, 1, none⟩ v1).setCell ⟨g, 2, none⟩ v2).setCell ⟨g, 3, none⟩ v3).setCell ⟨g, 4, none⟩ v4).setCell ⟨g, 5, none⟩ v5).setCell ⟨g, 6, none⟩ v6).setCell ⟨g, 7, none⟩ v7).setCell ⟨g, 8, none⟩ v8).setCell ⟨g, 9, none⟩ v9)) :=
  (((((((((h.setCell (p := ⟨g, 0, none⟩) hg _).setCell (p := ⟨g, 1, none⟩) hg _).setCell (p := ⟨g, 2, none⟩) hg _).setCell (p := ⟨g, 3, none⟩) hg _).setCell (p := ⟨g, 4, none⟩) hg _).setCell (p := ⟨g, 5, none⟩) hg _).setCell (p := ⟨g, 6, none⟩) hg _).setCell (p := ⟨g, 7, none⟩) hg _).setCell (p := ⟨g, 8, none⟩) hg _).setCell (p := ⟨g, 9, none⟩) hg _
theorem put10_below {w W : World} {B g : Nat} (h : Below B w W) (hg : B ≤ g) (Q : Psw) : Below B w (put10 W g Q) :=
  (((((((((h.setCell (p := ⟨g, 0, none⟩) hg _).setCell (p := ⟨g, 1, none⟩) hg _).setCell (p := ⟨g, 2, none⟩) hg _).setCell (p := ⟨g, 3, none⟩) hg _).setCell (p := ⟨g, 4, none⟩) hg _).setCell (p := ⟨g, 5, none⟩) hg _).setCell (p := ⟨g, 6, none⟩) hg _).setCell (p := ⟨g, 7, none⟩) hg _).setCell (p := ⟨g, 8, none⟩) hg _).setCell (p := ⟨g, 9, none⟩) hg _
theorem zcells_of {W : World} {n : Nat} {t : TypeId} (h : Bx W n t #[.int .i64 0, .int .i64 0, .bool false, .bool false, .bool false, .int .i64 0, .int .i64 0, .int .i64 0, .int .i64 0, .int .i64 0]) : (W.cell? ⟨n, 0, none⟩ = some (.int .i64 0) ∧ W.cell? ⟨n, 1, none⟩ = some (.int .i64 0) ∧ W.cell? ⟨n, 2, none⟩ = some (.bool false) ∧ W.cell? ⟨n, 3, none⟩ = some (.bool false) ∧ W.cell? ⟨n, 4, none⟩ = some (.bool false) ∧ W.cell? ⟨n, 5, none⟩ = some (.int .i64 0) ∧ W.cell? ⟨n, 6, none⟩ = some (.int .i64 0) ∧ W.cell? ⟨n, 7, none⟩ = some (.int .i64 0) ∧ W.cell? ⟨n, 8, none⟩ = some (.int .i64 0) ∧ W.cell? ⟨n, 9, none⟩ = some (.int .i64 0)) ∧ W.frozen? ⟨n, 0, none⟩ = false ∧ W.frozen? ⟨n, 1, none⟩ = false ∧ W.frozen? ⟨n, 2, none⟩ = false ∧ W.frozen? ⟨n, 3, none⟩ = false ∧ W.frozen? ⟨n, 4, none⟩ = false ∧ W.frozen? ⟨n, 5, none⟩ = false ∧ W.frozen? ⟨n, 6, none⟩ = false ∧ W.frozen? ⟨n, 7, none⟩ = false ∧ W.frozen? ⟨n, 8, none⟩ = false ∧ W.frozen? ⟨n, 9, none⟩ = false :=
  ⟨⟨h.cell 0, h.cell 1, h.cell 2, h.cell 3, h.cell 4, h.cell 5, h.cell 6, h.cell 7, h.cell 8, h.cell 9⟩, h.frozen 0, h.frozen 1, h.frozen 2, h.frozen 3, h.frozen 4, h.frozen 5, h.frozen 6, h.frozen 7, h.frozen 8, h.frozen 9⟩
/-- The two blocks at a function's start: its word, and its result. -/
theorem two_start (w : World) (Q : Psw) : Bx ((w.alloc (.cells #[.int .i64 Q.m, .int .i64 Q.k, .bool Q.ma, .bool Q.wa, .bool Q.pr, .int .i64 Q.co, .int .i64 Q.il, .int .i64 Q.cc, .int .i64 Q.pg, .int .i64 Q.ad] 23)).alloc (.cells #[.int .i64 0, .int .i64 0, .bool false, .bool false, .bool false, .int .i64 0, .int .i64 0, .int .i64 0, .int .i64 0, .int .i64 0] 23)) w.heap.size 23 #[.int .i64 Q.m, .int .i64 Q.k, .bool Q.ma, .bool Q.wa, .bool Q.pr, .int .i64 Q.co, .int .i64 Q.il, .int .i64 Q.cc, .int .i64 Q.pg, .int .i64 Q.ad] ∧ Bx ((w.alloc (.cells #[.int .i64 Q.m, .int .i64 Q.k, .bool Q.ma, .bool Q.wa, .bool Q.pr, .int .i64 Q.co, .int .i64 Q.il, .int .i64 Q.cc, .int .i64 Q.pg, .int .i64 Q.ad] 23)).alloc (.cells #[.int .i64 0, .int .i64 0, .bool false, .bool false, .bool false, .int .i64 0, .int .i64 0, .int .i64 0, .int .i64 0, .int .i64 0] 23)) (w.heap.size + 1) 23 #[.int .i64 0, .int .i64 0, .bool false, .bool false, .bool false, .int .i64 0, .int .i64 0, .int .i64 0, .int .i64 0, .int .i64 0] := by
  refine ⟨(Bx.new w 23 (#[.int .i64 Q.m, .int .i64 Q.k, .bool Q.ma, .bool Q.wa, .bool Q.pr, .int .i64 Q.co, .int .i64 Q.il, .int .i64 Q.cc, .int .i64 Q.pg, .int .i64 Q.ad] : Array Value)).below (below_new _ _), ?_⟩
  have h := Bx.new (w.alloc (Obj.cells #[.int .i64 Q.m, .int .i64 Q.k, .bool Q.ma, .bool Q.wa, .bool Q.pr, .int .i64 Q.co, .int .i64 Q.il, .int .i64 Q.cc, .int .i64 Q.pg, .int .i64 Q.ad] 23)) 23 #[.int .i64 0, .int .i64 0, .bool false, .bool false, .bool false, .int .i64 0, .int .i64 0, .int .i64 0, .int .i64 0, .int .i64 0]
  rw [World.size_alloc] at h
  exact h
theorem adv_num {Q : Psw} (h : okB Q = true) {n : Int} (h0 : 0 ≤ n) (h1 : n ≤ 6) : (wrap64 (Q.ad + n)).tmod 16777216 = (Q.ad + n) % 16777216 := by
  obtain ⟨-, -, -, -, -, -, ha⟩ := of_decide_eq_true h
  rw [show wrap64 (Q.ad + n) = Q.ad + n by unfold wrap64; omega]
  exact Int.tmod_eq_emod_of_nonneg (by omega)
theorem adv_eq (Q : Psw) (n : Int) (h : okB Q = true) (hn : lenB n = true) : adv Q n = { Q with ad := (Q.ad + n) % 16777216, il := n / 2 } := by
  unfold adv
  rw [h, hn]
  rfl
set_option maxRecDepth 100000 in
theorem adv_no (Q : Psw) (n : Int) (w : World) (h : okB Q = false) : Calls Try.prog 24 #[.agg #[.int .i64 Q.m, .int .i64 Q.k, .bool Q.ma, .bool Q.wa, .bool Q.pr, .int .i64 Q.co, .int .i64 Q.il, .int .i64 Q.cc, .int .i64 Q.pg, .int .i64 Q.ad], .int .i64 n] w (New w (.agg #[.int .i64 Q.m, .int .i64 Q.k, .bool Q.ma, .bool Q.wa, .bool Q.pr, .int .i64 Q.co, .int .i64 Q.il, .int .i64 Q.cc, .int .i64 Q.pg, .int .i64 Q.ad])) := by
  have HV := Lib.hid (fun W => (by have h1 := valid_any Q W; rw [h] at h1; exact h1 : Calls Try.prog 14 #[.agg #[.int .i64 Q.m, .int .i64 Q.k, .bool Q.ma, .bool Q.wa, .bool Q.pr, .int .i64 Q.co, .int .i64 Q.il, .int .i64 Q.cc, .int .i64 Q.pg, .int .i64 Q.ad]] W (New W (.bool false))))
  have HB := Lib.hid (two_start w Q)
  clear h
  go_enter Try.func24, Try.ntmps24
  go_wp2_with fail
  refine (HV.out _).mono ?_
  rintro e w1 ⟨rfl, hb⟩
  have HX := Lib.hid hb
  have H1 := Lib.hid (HB.out.1.below hb)
  have H2 := Lib.hid (HB.out.2.below hb)
  have HW := Lib.hid (bel0 (below2 w _ _) hb)
  clear hb HV HB
  obtain ⟨c0, c1, c2, c3, c4, c5, c6, c7, c8, c9⟩ := cells_of H1.out
  obtain ⟨⟨d0, d1, d2, d3, d4, d5, d6, d7, d8, d9⟩, f0, f1, f2, f3, f4, f5, f6, f7, f8, f9⟩ := zcells_of H2.out
  go_wp2
  refine bodyPost_ret (results_cell_row rfl _ _ (w.heap.size + 1) _ _ _ _ rfl (put10_at H2.out Q) Try.underlying23 rfl (by kernel_rfl)) rfl ?_
  exact ⟨rfl, put10_below HW.out (by omega) Q⟩
set_option maxRecDepth 100000 in
theorem adv_not (Q : Psw) (n : Int) (w : World) (h : okB Q = true) (hn : lenB n = false) : Calls Try.prog 24 #[.agg #[.int .i64 Q.m, .int .i64 Q.k, .bool Q.ma, .bool Q.wa, .bool Q.pr, .int .i64 Q.co, .int .i64 Q.il, .int .i64 Q.cc, .int .i64 Q.pg, .int .i64 Q.ad], .int .i64 n] w (New w (.agg #[.int .i64 Q.m, .int .i64 Q.k, .bool Q.ma, .bool Q.wa, .bool Q.pr, .int .i64 Q.co, .int .i64 Q.il, .int .i64 Q.cc, .int .i64 Q.pg, .int .i64 Q.ad])) := by
  have HL := Lib.hid (fun W => (by have h1 := len_any n W; rw [hn] at h1; exact h1 : Calls Try.prog 33 #[.int .i64 n] W (New W (.bool false))))
  clear hn
  have HV := Lib.hid (fun W => (by have h1 := valid_any Q W; rw [h] at h1; exact h1 : Calls Try.prog 14 #[.agg #[.int .i64 Q.m, .int .i64 Q.k, .bool Q.ma, .bool Q.wa, .bool Q.pr, .int .i64 Q.co, .int .i64 Q.il, .int .i64 Q.cc, .int .i64 Q.pg, .int .i64 Q.ad]] W (New W (.bool true))))
  have HB := Lib.hid (two_start w Q)
  clear h
  go_enter Try.func24, Try.ntmps24
  go_wp2_with fail
  refine (HV.out _).mono ?_
  rintro e w1 ⟨rfl, hb⟩
  have HX := Lib.hid hb
  have H1 := Lib.hid (HB.out.1.below hb)
  have H2 := Lib.hid (HB.out.2.below hb)
  have HW := Lib.hid (bel0 (below2 w _ _) hb)
  clear hb HV HB
  go_wp2_with fail
  refine (HL.out _).mono ?_
  rintro e w2 ⟨rfl, hb⟩
  have K1 := Lib.hid (H1.out.below hb)
  have K2 := Lib.hid (H2.out.below hb)
  have KW := Lib.hid (bel0 HW.out hb)
  clear hb HL H1 H2 HW HX
  obtain ⟨c0, c1, c2, c3, c4, c5, c6, c7, c8, c9⟩ := cells_of K1.out
  obtain ⟨⟨d0, d1, d2, d3, d4, d5, d6, d7, d8, d9⟩, f0, f1, f2, f3, f4, f5, f6, f7, f8, f9⟩ := zcells_of K2.out
  go_wp2
  refine bodyPost_ret (results_cell_row rfl _ _ (w.heap.size + 1) _ _ _ _ rfl (put10_at K2.out Q) Try.underlying23 rfl (by kernel_rfl)) rfl ?_
  exact ⟨rfl, put10_below KW.out (by omega) Q⟩
set_option maxRecDepth 100000 in
theorem adv_2 (Q : Psw) (w : World) (h : okB Q = true) : Calls Try.prog 24 #[.agg #[.int .i64 Q.m, .int .i64 Q.k, .bool Q.ma, .bool Q.wa, .bool Q.pr, .int .i64 Q.co, .int .i64 Q.il, .int .i64 Q.cc, .int .i64 Q.pg, .int .i64 Q.ad], .int .i64 2] w (New w (.agg #[.int .i64 (adv Q 2).m, .int .i64 (adv Q 2).k, .bool (adv Q 2).ma, .bool (adv Q 2).wa, .bool (adv Q 2).pr, .int .i64 (adv Q 2).co, .int .i64 (adv Q 2).il, .int .i64 (adv Q 2).cc, .int .i64 (adv Q 2).pg, .int .i64 (adv Q 2).ad])) := by
  have HOK := Lib.hid h
  have HL := Lib.hid (fun W => (len_any 2 W : Calls Try.prog 33 #[.int .i64 2] W (New W (.bool true))))
  have HV := Lib.hid (fun W => (by have h1 := valid_any Q W; rw [h] at h1; exact h1 : Calls Try.prog 14 #[.agg #[.int .i64 Q.m, .int .i64 Q.k, .bool Q.ma, .bool Q.wa, .bool Q.pr, .int .i64 Q.co, .int .i64 Q.il, .int .i64 Q.cc, .int .i64 Q.pg, .int .i64 Q.ad]] W (New W (.bool true))))
  have HB := Lib.hid (two_start w Q)
  clear h
  go_enter Try.func24, Try.ntmps24
  go_wp2_with fail
  refine (HV.out _).mono ?_
  rintro e w1 ⟨rfl, hb⟩
  have HX := Lib.hid hb
  have H1 := Lib.hid (HB.out.1.below hb)
  have H2 := Lib.hid (HB.out.2.below hb)
  have HW := Lib.hid (bel0 (below2 w _ _) hb)
  clear hb HV HB
  go_wp2_with fail
  refine (HL.out _).mono ?_
  rintro e w2 ⟨rfl, hb⟩
  have K1 := Lib.hid (H1.out.below hb)
  have K2 := Lib.hid (H2.out.below hb)
  have KW := Lib.hid (bel0 HW.out hb)
  clear hb HL H1 H2 HW HX
  obtain ⟨c0, c1, c2, c3, c4, c5, c6, c7, c8, c9⟩ := cells_of K1.out
  obtain ⟨⟨d0, d1, d2, d3, d4, d5, d6, d7, d8, d9⟩, f0, f1, f2, f3, f4, f5, f6, f7, f8, f9⟩ := zcells_of K2.out
  have g9 := K1.out.frozen 9
  have g6 := K1.out.frozen 6
  go_wp2
  have HA := adv_eq Q 2 HOK.out rfl
  have HN := adv_num HOK.out (n := 2) (by decide) (by decide)
  rw [HN, HA]
  have hp := put10v_at ((K2.out.far (p := ⟨w.heap.size, 9, none⟩) (by simp) (.int .i64 ((Q.ad + 2) % 16777216))).far (p := ⟨w.heap.size, 6, none⟩) (by simp) (.int .i64 1)) (.int .i64 Q.m) (.int .i64 Q.k) (.bool Q.ma) (.bool Q.wa) (.bool Q.pr) (.int .i64 Q.co) (.int .i64 1) (.int .i64 Q.cc) (.int .i64 Q.pg) (.int .i64 ((Q.ad + 2) % 16777216))
  refine bodyPost_ret (results_cell_row rfl _ _ (w.heap.size + 1) _ _ _ _ rfl hp Try.underlying23 rfl (by kernel_rfl)) rfl ?_
  exact ⟨rfl, put10v_below ((KW.out.setCell (p := ⟨w.heap.size, 9, none⟩) (Nat.le_refl _) _).setCell (p := ⟨w.heap.size, 6, none⟩) (Nat.le_refl _) _) (by omega) _ _ _ _ _ _ _ _ _ _⟩
set_option maxRecDepth 100000 in
theorem adv_4 (Q : Psw) (w : World) (h : okB Q = true) : Calls Try.prog 24 #[.agg #[.int .i64 Q.m, .int .i64 Q.k, .bool Q.ma, .bool Q.wa, .bool Q.pr, .int .i64 Q.co, .int .i64 Q.il, .int .i64 Q.cc, .int .i64 Q.pg, .int .i64 Q.ad], .int .i64 4] w (New w (.agg #[.int .i64 (adv Q 4).m, .int .i64 (adv Q 4).k, .bool (adv Q 4).ma, .bool (adv Q 4).wa, .bool (adv Q 4).pr, .int .i64 (adv Q 4).co, .int .i64 (adv Q 4).il, .int .i64 (adv Q 4).cc, .int .i64 (adv Q 4).pg, .int .i64 (adv Q 4).ad])) := by
  have HOK := Lib.hid h
  have HL := Lib.hid (fun W => (len_any 4 W : Calls Try.prog 33 #[.int .i64 4] W (New W (.bool true))))
  have HV := Lib.hid (fun W => (by have h1 := valid_any Q W; rw [h] at h1; exact h1 : Calls Try.prog 14 #[.agg #[.int .i64 Q.m, .int .i64 Q.k, .bool Q.ma, .bool Q.wa, .bool Q.pr, .int .i64 Q.co, .int .i64 Q.il, .int .i64 Q.cc, .int .i64 Q.pg, .int .i64 Q.ad]] W (New W (.bool true))))
  have HB := Lib.hid (two_start w Q)
  clear h
  go_enter Try.func24, Try.ntmps24
  go_wp2_with fail
  refine (HV.out _).mono ?_
  rintro e w1 ⟨rfl, hb⟩
  have HX := Lib.hid hb
  have H1 := Lib.hid (HB.out.1.below hb)
  have H2 := Lib.hid (HB.out.2.below hb)
  have HW := Lib.hid (bel0 (below2 w _ _) hb)
  clear hb HV HB
  go_wp2_with fail
  refine (HL.out _).mono ?_
  rintro e w2 ⟨rfl, hb⟩
  have K1 := Lib.hid (H1.out.below hb)
  have K2 := Lib.hid (H2.out.below hb)
  have KW := Lib.hid (bel0 HW.out hb)
  clear hb HL H1 H2 HW HX
  obtain ⟨c0, c1, c2, c3, c4, c5, c6, c7, c8, c9⟩ := cells_of K1.out
  obtain ⟨⟨d0, d1, d2, d3, d4, d5, d6, d7, d8, d9⟩, f0, f1, f2, f3, f4, f5, f6, f7, f8, f9⟩ := zcells_of K2.out
  have g9 := K1.out.frozen 9
  have g6 := K1.out.frozen 6
  go_wp2
  have HA := adv_eq Q 4 HOK.out rfl
  have HN := adv_num HOK.out (n := 4) (by decide) (by decide)
  rw [HN, HA]
  have hp := put10v_at ((K2.out.far (p := ⟨w.heap.size, 9, none⟩) (by simp) (.int .i64 ((Q.ad + 4) % 16777216))).far (p := ⟨w.heap.size, 6, none⟩) (by simp) (.int .i64 2)) (.int .i64 Q.m) (.int .i64 Q.k) (.bool Q.ma) (.bool Q.wa) (.bool Q.pr) (.int .i64 Q.co) (.int .i64 2) (.int .i64 Q.cc) (.int .i64 Q.pg) (.int .i64 ((Q.ad + 4) % 16777216))
  refine bodyPost_ret (results_cell_row rfl _ _ (w.heap.size + 1) _ _ _ _ rfl hp Try.underlying23 rfl (by kernel_rfl)) rfl ?_
  exact ⟨rfl, put10v_below ((KW.out.setCell (p := ⟨w.heap.size, 9, none⟩) (Nat.le_refl _) _).setCell (p := ⟨w.heap.size, 6, none⟩) (Nat.le_refl _) _) (by omega) _ _ _ _ _ _ _ _ _ _⟩
set_option maxRecDepth 100000 in
theorem adv_6 (Q : Psw) (w : World) (h : okB Q = true) : Calls Try.prog 24 #[.agg #[.int .i64 Q.m, .int .i64 Q.k, .bool Q.ma, .bool Q.wa, .bool Q.pr, .int .i64 Q.co, .int .i64 Q.il, .int .i64 Q.cc, .int .i64 Q.pg, .int .i64 Q.ad], .int .i64 6] w (New w (.agg #[.int .i64 (adv Q 6).m, .int .i64 (adv Q 6).k, .bool (adv Q 6).ma, .bool (adv Q 6).wa, .bool (adv Q 6).pr, .int .i64 (adv Q 6).co, .int .i64 (adv Q 6).il, .int .i64 (adv Q 6).cc, .int .i64 (adv Q 6).pg, .int .i64 (adv Q 6).ad])) := by
  have HOK := Lib.hid h
  have HL := Lib.hid (fun W => (len_any 6 W : Calls Try.prog 33 #[.int .i64 6] W (New W (.bool true))))
  have HV := Lib.hid (fun W => (by have h1 := valid_any Q W; rw [h] at h1; exact h1 : Calls Try.prog 14 #[.agg #[.int .i64 Q.m, .int .i64 Q.k, .bool Q.ma, .bool Q.wa, .bool Q.pr, .int .i64 Q.co, .int .i64 Q.il, .int .i64 Q.cc, .int .i64 Q.pg, .int .i64 Q.ad]] W (New W (.bool true))))
  have HB := Lib.hid (two_start w Q)
  clear h
  go_enter Try.func24, Try.ntmps24
  go_wp2_with fail
  refine (HV.out _).mono ?_
  rintro e w1 ⟨rfl, hb⟩
  have HX := Lib.hid hb
  have H1 := Lib.hid (HB.out.1.below hb)
  have H2 := Lib.hid (HB.out.2.below hb)
  have HW := Lib.hid (bel0 (below2 w _ _) hb)
  clear hb HV HB
  go_wp2_with fail
  refine (HL.out _).mono ?_
  rintro e w2 ⟨rfl, hb⟩
  have K1 := Lib.hid (H1.out.below hb)
  have K2 := Lib.hid (H2.out.below hb)
  have KW := Lib.hid (bel0 HW.out hb)
  clear hb HL H1 H2 HW HX
  obtain ⟨c0, c1, c2, c3, c4, c5, c6, c7, c8, c9⟩ := cells_of K1.out
  obtain ⟨⟨d0, d1, d2, d3, d4, d5, d6, d7, d8, d9⟩, f0, f1, f2, f3, f4, f5, f6, f7, f8, f9⟩ := zcells_of K2.out
  have g9 := K1.out.frozen 9
  have g6 := K1.out.frozen 6
  go_wp2
  have HA := adv_eq Q 6 HOK.out rfl
  have HN := adv_num HOK.out (n := 6) (by decide) (by decide)
  rw [HN, HA]
  have hp := put10v_at ((K2.out.far (p := ⟨w.heap.size, 9, none⟩) (by simp) (.int .i64 ((Q.ad + 6) % 16777216))).far (p := ⟨w.heap.size, 6, none⟩) (by simp) (.int .i64 3)) (.int .i64 Q.m) (.int .i64 Q.k) (.bool Q.ma) (.bool Q.wa) (.bool Q.pr) (.int .i64 Q.co) (.int .i64 3) (.int .i64 Q.cc) (.int .i64 Q.pg) (.int .i64 ((Q.ad + 6) % 16777216))
  refine bodyPost_ret (results_cell_row rfl _ _ (w.heap.size + 1) _ _ _ _ rfl hp Try.underlying23 rfl (by kernel_rfl)) rfl ?_
  exact ⟨rfl, put10v_below ((KW.out.setCell (p := ⟨w.heap.size, 9, none⟩) (Nat.le_refl _) _).setCell (p := ⟨w.heap.size, 6, none⟩) (Nat.le_refl _) _) (by omega) _ _ _ _ _ _ _ _ _ _⟩
theorem adv_any (Q : Psw) (n : Int) (w : World) : Calls Try.prog 24 #[.agg #[.int .i64 Q.m, .int .i64 Q.k, .bool Q.ma, .bool Q.wa, .bool Q.pr, .int .i64 Q.co, .int .i64 Q.il, .int .i64 Q.cc, .int .i64 Q.pg, .int .i64 Q.ad], .int .i64 n] w (New w (.agg #[.int .i64 (adv Q n).m, .int .i64 (adv Q n).k, .bool (adv Q n).ma, .bool (adv Q n).wa, .bool (adv Q n).pr, .int .i64 (adv Q n).co, .int .i64 (adv Q n).il, .int .i64 (adv Q n).cc, .int .i64 (adv Q n).pg, .int .i64 (adv Q n).ad])) := by
  cases h : okB Q with
  | false =>
    rw [show adv Q n = Q by unfold adv; rw [h]; rfl]
    exact adv_no Q n w h
  | true =>
    cases hn : lenB n with
    | false =>
      rw [show adv Q n = Q by unfold adv; rw [h, hn]; rfl]
      exact adv_not Q n w h hn
    | true =>
      simp only [lenB, Bool.or_eq_true, beq_iff_eq] at hn
      rcases hn with (rfl | rfl) | rfl
      · exact adv_2 Q w h
      · exact adv_4 Q w h
      · exact adv_6 Q w h

end E
end Go.Proofs.Ytfobmgoehamnnaa

/- The given Branch, Admits, Advance. -/
import Derived.Test.YtfobmgoehamnnaaPsREnc
import Derived.Test.YtfobmgoehamnnaaPsAdv
namespace Go.Proofs.Ytfobmgoehamnnaa
open Go.RowKit
set_option linter.unusedVariables false
namespace E

theorem rbr_raw {m : Int} (h0 : 0 ≤ m) (h1 : m ≤ 15) : (Int.tmod (wrap64 (Int.tdiv m 8)) 2 == 1) = brB m 0 ∧ (Int.tmod (wrap64 (Int.tdiv m 4)) 2 == 1) = brB m 1 ∧ (Int.tmod (wrap64 (Int.tdiv m 2)) 2 == 1) = brB m 2 ∧ (Int.tmod m 2 == 1) = brB m 3 := by
  obtain ⟨i, rfl⟩ := fin_of' (n := 16) h0 (by omega)
  revert i
  decide +kernel
set_option maxRecDepth 100000 in
theorem rbranch_any (m c : Int) (w : World) : Calls Try.prog 21 #[.int .i64 m, .int .i64 c] w (New w (.bool (brB m c))) := by
  rcases (by omega : (m < 0 ∨ 15 < m) ∨ ((0 ≤ m ∧ m ≤ 15) ∧ (c < 0 ∨ 3 < c)) ∨ ((0 ≤ m ∧ m ≤ 15) ∧ (c = 0 ∨ c = 1 ∨ c = 2 ∨ c = 3))) with h | ⟨h0, h⟩ | ⟨h0, h⟩
  · rw [br_no (by omega)]
    have K1 := Lib.hid (fun W => (by have h1 := in_any m 15 W; rw [show inB m 15 = false by simp only [inB, Bool.and_eq_false_iff, decide_eq_false_iff_not]; omega] at h1; exact h1 : Calls Try.prog 30 #[.int .i64 m, .int .i64 15] W (New W (.bool false))))
    clear h
    go_enter Try.func21, Try.ntmps21
    go_wp2_with fail
    refine (K1.out _).mono ?_
    rintro e w1 ⟨rfl, hb⟩
    have HX := Lib.hid hb
    clear hb K1
    go_wp2
    go_ret
    exact ⟨rfl, HX.out⟩
  · rw [br_no (by omega)]
    have K1 := Lib.hid (fun W => (by have h1 := in_any m 15 W; rw [show inB m 15 = true by simp only [inB, Bool.and_eq_true, decide_eq_true_eq]; omega] at h1; exact h1 : Calls Try.prog 30 #[.int .i64 m, .int .i64 15] W (New W (.bool true))))
    have K2 := Lib.hid (fun W => (by have h1 := in_any c 3 W; rw [show inB c 3 = false by simp only [inB, Bool.and_eq_false_iff, decide_eq_false_iff_not]; omega] at h1; exact h1 : Calls Try.prog 30 #[.int .i64 c, .int .i64 3] W (New W (.bool false))))
    clear h h0
    go_enter Try.func21, Try.ntmps21
    go_wp2_with fail
    refine (K1.out _).mono ?_
    rintro e w1 ⟨rfl, hb⟩
    have HX := Lib.hid hb
    clear hb K1
    go_wp2_with fail
    refine (K2.out _).mono ?_
    rintro e w2 ⟨rfl, hb⟩
    have HY := Lib.hid (bel0 HX.out hb)
    clear hb K2 HX
    go_wp2
    go_ret
    exact ⟨rfl, HY.out⟩
  · obtain ⟨r0, r1, r2, r3⟩ := rbr_raw h0.1 h0.2
    have K1 := Lib.hid (fun W => (by have h1 := in_any m 15 W; rw [show inB m 15 = true by simp only [inB, Bool.and_eq_true, decide_eq_true_eq]; omega] at h1; exact h1 : Calls Try.prog 30 #[.int .i64 m, .int .i64 15] W (New W (.bool true))))
    clear h0
    rcases h with rfl | rfl | rfl | rfl
    · have HR := Lib.hid r0
      clear r0 r1 r2 r3
      have K2 := Lib.hid (fun W => (in_any 0 3 W : Calls Try.prog 30 #[.int .i64 0, .int .i64 3] W (New W (.bool true))))
      go_enter Try.func21, Try.ntmps21
      go_wp2_with fail
      refine (K1.out _).mono ?_
      rintro e w1 ⟨rfl, hb⟩
      have HX := Lib.hid hb
      clear hb K1
      go_wp2_with fail
      refine (K2.out _).mono ?_
      rintro e w2 ⟨rfl, hb⟩
      have HY := Lib.hid (bel0 HX.out hb)
      clear hb K2 HX
      go_wp2
      go_ret
      exact ⟨congrArg (fun x => Ending.returned (.bool x)) HR.out, bel0 HY.out (below_new _ _)⟩
    · have HR := Lib.hid r1
      clear r0 r1 r2 r3
      have K2 := Lib.hid (fun W => (in_any 1 3 W : Calls Try.prog 30 #[.int .i64 1, .int .i64 3] W (New W (.bool true))))
      go_enter Try.func21, Try.ntmps21
      go_wp2_with fail
      refine (K1.out _).mono ?_
      rintro e w1 ⟨rfl, hb⟩
      have HX := Lib.hid hb
      clear hb K1
      go_wp2_with fail
      refine (K2.out _).mono ?_
      rintro e w2 ⟨rfl, hb⟩
      have HY := Lib.hid (bel0 HX.out hb)
      clear hb K2 HX
      go_wp2
      go_ret
      exact ⟨congrArg (fun x => Ending.returned (.bool x)) HR.out, bel0 HY.out (below_new _ _)⟩
    · have HR := Lib.hid r2
      clear r0 r1 r2 r3
      have K2 := Lib.hid (fun W => (in_any 2 3 W : Calls Try.prog 30 #[.int .i64 2, .int .i64 3] W (New W (.bool true))))
      go_enter Try.func21, Try.ntmps21
      go_wp2_with fail
      refine (K1.out _).mono ?_
      rintro e w1 ⟨rfl, hb⟩
      have HX := Lib.hid hb
      clear hb K1
      go_wp2_with fail
      refine (K2.out _).mono ?_
      rintro e w2 ⟨rfl, hb⟩
      have HY := Lib.hid (bel0 HX.out hb)
      clear hb K2 HX
      go_wp2
      go_ret
      exact ⟨congrArg (fun x => Ending.returned (.bool x)) HR.out, bel0 HY.out (below_new _ _)⟩
    · have HR := Lib.hid r3
      clear r0 r1 r2 r3
      have K2 := Lib.hid (fun W => (in_any 3 3 W : Calls Try.prog 30 #[.int .i64 3, .int .i64 3] W (New W (.bool true))))
      go_enter Try.func21, Try.ntmps21
      go_wp2_with fail
      refine (K1.out _).mono ?_
      rintro e w1 ⟨rfl, hb⟩
      have HX := Lib.hid hb
      clear hb K1
      go_wp2_with fail
      refine (K2.out _).mono ?_
      rintro e w2 ⟨rfl, hb⟩
      have HY := Lib.hid (bel0 HX.out hb)
      clear hb K2 HX
      go_wp2
      go_ret
      exact ⟨congrArg (fun x => Ending.returned (.bool x)) HR.out, bel0 HY.out (below_new _ _)⟩

theorem rpr_raw {g : Int} (h0 : 0 ≤ g) (h1 : g ≤ 15) : (wrap64 (Int.tdiv g 8) == 1) = (g / 8 == 1) ∧ (Int.tmod (wrap64 (Int.tdiv g 4)) 2 == 1) = (g / 4 % 2 == 1) := by
  obtain ⟨i, rfl⟩ := fin_of' (n := 16) h0 (by omega)
  revert i
  decide +kernel
theorem rch_raw {m : Int} (h0 : 0 ≤ m) (h1 : m ≤ 255) : ((Int.tmod (wrap64 (Int.tdiv m 128)) 2 == 1) = chB m 0 ∧ (Int.tmod (wrap64 (Int.tdiv m 64)) 2 == 1) = chB m 1 ∧ (Int.tmod (wrap64 (Int.tdiv m 32)) 2 == 1) = chB m 2 ∧ (Int.tmod (wrap64 (Int.tdiv m 16)) 2 == 1) = chB m 3) ∧ ((Int.tmod (wrap64 (Int.tdiv m 8)) 2 == 1) = chB m 4 ∧ (Int.tmod (wrap64 (Int.tdiv m 4)) 2 == 1) = chB m 5 ∧ (Int.tmod (wrap64 (Int.tdiv m 2)) 2 == 1) = chB m 6) ∧ (Int.tmod m 2 == 1) = (m % 2 == 1) := by
  obtain ⟨i, rfl⟩ := fin_of' (n := 256) h0 (by omega)
  revert i
  decide +kernel
set_option maxRecDepth 100000 in
theorem radm_no (Q : Psw) (cl co ch : Int) (w : World) (h : okB Q = false) : Calls Try.prog 23 #[.agg #[.int .i64 Q.m, .int .i64 Q.k, .bool Q.ma, .bool Q.wa, .bool Q.pr, .int .i64 Q.co, .int .i64 Q.il, .int .i64 Q.cc, .int .i64 Q.pg, .int .i64 Q.ad], .int .i64 cl, .int .i64 co, .int .i64 ch] w (New w (.bool false)) := by
  have HV := Lib.hid (fun W => (by have h1 := rvalid_any Q W; rw [h] at h1; exact h1 : Calls Try.prog 15 #[.agg #[.int .i64 Q.m, .int .i64 Q.k, .bool Q.ma, .bool Q.wa, .bool Q.pr, .int .i64 Q.co, .int .i64 Q.il, .int .i64 Q.cc, .int .i64 Q.pg, .int .i64 Q.ad]] W (New W (.bool false))))
  clear h
  go_enter Try.func23, Try.ntmps23
  go_wp2_with fail
  refine (HV.out _).mono ?_
  rintro e w1 ⟨rfl, hb⟩
  have HX := Lib.hid hb
  clear hb HV
  go_wp2
  go_ret
  exact ⟨rfl, bel0 (below_new _ _) HX.out⟩
set_option maxRecDepth 100000 in
theorem radm_1 (Q : Psw) (co ch : Int) (w : World) (h : okB Q = true) : Calls Try.prog 23 #[.agg #[.int .i64 Q.m, .int .i64 Q.k, .bool Q.ma, .bool Q.wa, .bool Q.pr, .int .i64 Q.co, .int .i64 Q.il, .int .i64 Q.cc, .int .i64 Q.pg, .int .i64 Q.ad], .int .i64 1, .int .i64 co, .int .i64 ch] w (New w (.bool (adC Q 1 co ch))) := by
  have HV := Lib.hid (fun W => (by have h1 := rvalid_any Q W; rw [h] at h1; exact h1 : Calls Try.prog 15 #[.agg #[.int .i64 Q.m, .int .i64 Q.k, .bool Q.ma, .bool Q.wa, .bool Q.pr, .int .i64 Q.co, .int .i64 Q.il, .int .i64 Q.cc, .int .i64 Q.pg, .int .i64 Q.ad]] W (New W (.bool true))))
  have HOK := Lib.hid (of_decide_eq_true h)
  have HB := Lib.hid (Bx.new w 23 #[.int .i64 Q.m, .int .i64 Q.k, .bool Q.ma, .bool Q.wa, .bool Q.pr, .int .i64 Q.co, .int .i64 Q.il, .int .i64 Q.cc, .int .i64 Q.pg, .int .i64 Q.ad])
  clear h
  go_enter Try.func23, Try.ntmps23
  go_wp2_with fail
  refine (HV.out _).mono ?_
  rintro e w1 ⟨rfl, hb⟩
  have HX := Lib.hid (bel0 (below_new _ _) hb)
  have c0 : w1.cell? ⟨w.heap.size, 0, none⟩ = some (.int .i64 Q.m) := (HB.out.below hb).cell 0
  have H1 := Lib.hid (HB.out.below hb)
  clear hb HV HB
  go_wp2
  go_ret
  exact ⟨congrArg (fun x => Ending.returned (.bool x)) (rch_raw HOK.out.1.1 HOK.out.1.2).2.2, HX.out⟩
set_option maxRecDepth 100000 in
theorem radm_2 (Q : Psw) (co ch : Int) (w : World) (h : okB Q = true) : Calls Try.prog 23 #[.agg #[.int .i64 Q.m, .int .i64 Q.k, .bool Q.ma, .bool Q.wa, .bool Q.pr, .int .i64 Q.co, .int .i64 Q.il, .int .i64 Q.cc, .int .i64 Q.pg, .int .i64 Q.ad], .int .i64 2, .int .i64 co, .int .i64 ch] w (New w (.bool (adC Q 2 co ch))) := by
  have HV := Lib.hid (fun W => (by have h1 := rvalid_any Q W; rw [h] at h1; exact h1 : Calls Try.prog 15 #[.agg #[.int .i64 Q.m, .int .i64 Q.k, .bool Q.ma, .bool Q.wa, .bool Q.pr, .int .i64 Q.co, .int .i64 Q.il, .int .i64 Q.cc, .int .i64 Q.pg, .int .i64 Q.ad]] W (New W (.bool true))))
  have HOK := Lib.hid (of_decide_eq_true h)
  have HB := Lib.hid (Bx.new w 23 #[.int .i64 Q.m, .int .i64 Q.k, .bool Q.ma, .bool Q.wa, .bool Q.pr, .int .i64 Q.co, .int .i64 Q.il, .int .i64 Q.cc, .int .i64 Q.pg, .int .i64 Q.ad])
  clear h
  go_enter Try.func23, Try.ntmps23
  go_wp2_with fail
  refine (HV.out _).mono ?_
  rintro e w1 ⟨rfl, hb⟩
  have HX := Lib.hid (bel0 (below_new _ _) hb)
  have H1 := Lib.hid (HB.out.below hb)
  clear hb HV HB
  go_wp2
  go_ret
  exact ⟨rfl, HX.out⟩
set_option maxRecDepth 100000 in
theorem radm_38 (Q : Psw) (ch : Int) (w : World) (h : okB Q = true) : Calls Try.prog 23 #[.agg #[.int .i64 Q.m, .int .i64 Q.k, .bool Q.ma, .bool Q.wa, .bool Q.pr, .int .i64 Q.co, .int .i64 Q.il, .int .i64 Q.cc, .int .i64 Q.pg, .int .i64 Q.ad], .int .i64 3, .int .i64 8, .int .i64 ch] w (New w (.bool (adC Q 3 8 ch))) := by
  have HV := Lib.hid (fun W => (by have h1 := rvalid_any Q W; rw [h] at h1; exact h1 : Calls Try.prog 15 #[.agg #[.int .i64 Q.m, .int .i64 Q.k, .bool Q.ma, .bool Q.wa, .bool Q.pr, .int .i64 Q.co, .int .i64 Q.il, .int .i64 Q.cc, .int .i64 Q.pg, .int .i64 Q.ad]] W (New W (.bool true))))
  have HOK := Lib.hid (of_decide_eq_true h)
  have HB := Lib.hid (Bx.new w 23 #[.int .i64 Q.m, .int .i64 Q.k, .bool Q.ma, .bool Q.wa, .bool Q.pr, .int .i64 Q.co, .int .i64 Q.il, .int .i64 Q.cc, .int .i64 Q.pg, .int .i64 Q.ad])
  clear h
  go_enter Try.func23, Try.ntmps23
  go_wp2_with fail
  refine (HV.out _).mono ?_
  rintro e w1 ⟨rfl, hb⟩
  have HX := Lib.hid (bel0 (below_new _ _) hb)
  have c8 : w1.cell? ⟨w.heap.size, 8, none⟩ = some (.int .i64 Q.pg) := (HB.out.below hb).cell 8
  have H1 := Lib.hid (HB.out.below hb)
  clear hb HV HB
  go_wp2
  go_ret
  exact ⟨congrArg (fun x => Ending.returned (.bool x)) (rpr_raw HOK.out.2.2.2.2.2.1.1 HOK.out.2.2.2.2.2.1.2).1, HX.out⟩
set_option maxRecDepth 100000 in
theorem radm_310 (Q : Psw) (ch : Int) (w : World) (h : okB Q = true) : Calls Try.prog 23 #[.agg #[.int .i64 Q.m, .int .i64 Q.k, .bool Q.ma, .bool Q.wa, .bool Q.pr, .int .i64 Q.co, .int .i64 Q.il, .int .i64 Q.cc, .int .i64 Q.pg, .int .i64 Q.ad], .int .i64 3, .int .i64 10, .int .i64 ch] w (New w (.bool (adC Q 3 10 ch))) := by
  have HV := Lib.hid (fun W => (by have h1 := rvalid_any Q W; rw [h] at h1; exact h1 : Calls Try.prog 15 #[.agg #[.int .i64 Q.m, .int .i64 Q.k, .bool Q.ma, .bool Q.wa, .bool Q.pr, .int .i64 Q.co, .int .i64 Q.il, .int .i64 Q.cc, .int .i64 Q.pg, .int .i64 Q.ad]] W (New W (.bool true))))
  have HOK := Lib.hid (of_decide_eq_true h)
  have HB := Lib.hid (Bx.new w 23 #[.int .i64 Q.m, .int .i64 Q.k, .bool Q.ma, .bool Q.wa, .bool Q.pr, .int .i64 Q.co, .int .i64 Q.il, .int .i64 Q.cc, .int .i64 Q.pg, .int .i64 Q.ad])
  clear h
  go_enter Try.func23, Try.ntmps23
  go_wp2_with fail
  refine (HV.out _).mono ?_
  rintro e w1 ⟨rfl, hb⟩
  have HX := Lib.hid (bel0 (below_new _ _) hb)
  have c8 : w1.cell? ⟨w.heap.size, 8, none⟩ = some (.int .i64 Q.pg) := (HB.out.below hb).cell 8
  have H1 := Lib.hid (HB.out.below hb)
  clear hb HV HB
  go_wp2
  go_ret
  exact ⟨congrArg (fun x => Ending.returned (.bool x)) (rpr_raw HOK.out.2.2.2.2.2.1.1 HOK.out.2.2.2.2.2.1.2).2, HX.out⟩
set_option maxRecDepth 100000 in
theorem radm_3i (Q : Psw) (co ch : Int) (i0 : ¬ co = 8) (i1 : ¬ co = 10) (i2 : 1 ≤ co) (w : World) (h : okB Q = true) : Calls Try.prog 23 #[.agg #[.int .i64 Q.m, .int .i64 Q.k, .bool Q.ma, .bool Q.wa, .bool Q.pr, .int .i64 Q.co, .int .i64 Q.il, .int .i64 Q.cc, .int .i64 Q.pg, .int .i64 Q.ad], .int .i64 3, .int .i64 co, .int .i64 ch] w (New w (.bool (adC Q 3 co ch))) := by
  have HV := Lib.hid (fun W => (by have h1 := rvalid_any Q W; rw [h] at h1; exact h1 : Calls Try.prog 15 #[.agg #[.int .i64 Q.m, .int .i64 Q.k, .bool Q.ma, .bool Q.wa, .bool Q.pr, .int .i64 Q.co, .int .i64 Q.il, .int .i64 Q.cc, .int .i64 Q.pg, .int .i64 Q.ad]] W (New W (.bool true))))
  have HOK := Lib.hid (of_decide_eq_true h)
  have HB := Lib.hid (Bx.new w 23 #[.int .i64 Q.m, .int .i64 Q.k, .bool Q.ma, .bool Q.wa, .bool Q.pr, .int .i64 Q.co, .int .i64 Q.il, .int .i64 Q.cc, .int .i64 Q.pg, .int .i64 Q.ad])
  have HE : Hid (adC Q 3 co ch = decide (co ≤ 11)) := Lib.hid (by
    show prB Q.pg co = _
    unfold prB
    rw [show (co == 8) = false from beq_false_of_ne i0, show (co == 10) = false from beq_false_of_ne i1]
    simp [i2])
  clear h
  go_enter Try.func23, Try.ntmps23
  go_wp2_with fail
  refine (HV.out _).mono ?_
  rintro e w1 ⟨rfl, hb⟩
  have HX := Lib.hid (bel0 (below_new _ _) hb)
  have H1 := Lib.hid (HB.out.below hb)
  clear hb HV HB
  go_wp2
  go_ret
  exact ⟨by rw [HE.out]; rfl, HX.out⟩
set_option maxRecDepth 100000 in
theorem radm_3o (Q : Psw) (co ch : Int) (i0 : ¬ co = 8) (i1 : ¬ co = 10) (i2 : ¬ (1 ≤ co)) (w : World) (h : okB Q = true) : Calls Try.prog 23 #[.agg #[.int .i64 Q.m, .int .i64 Q.k, .bool Q.ma, .bool Q.wa, .bool Q.pr, .int .i64 Q.co, .int .i64 Q.il, .int .i64 Q.cc, .int .i64 Q.pg, .int .i64 Q.ad], .int .i64 3, .int .i64 co, .int .i64 ch] w (New w (.bool (adC Q 3 co ch))) := by
  have HV := Lib.hid (fun W => (by have h1 := rvalid_any Q W; rw [h] at h1; exact h1 : Calls Try.prog 15 #[.agg #[.int .i64 Q.m, .int .i64 Q.k, .bool Q.ma, .bool Q.wa, .bool Q.pr, .int .i64 Q.co, .int .i64 Q.il, .int .i64 Q.cc, .int .i64 Q.pg, .int .i64 Q.ad]] W (New W (.bool true))))
  have HOK := Lib.hid (of_decide_eq_true h)
  have HB := Lib.hid (Bx.new w 23 #[.int .i64 Q.m, .int .i64 Q.k, .bool Q.ma, .bool Q.wa, .bool Q.pr, .int .i64 Q.co, .int .i64 Q.il, .int .i64 Q.cc, .int .i64 Q.pg, .int .i64 Q.ad])
  have HE : Hid (adC Q 3 co ch = false) := Lib.hid (by
    show prB Q.pg co = _
    unfold prB
    rw [show (co == 8) = false from beq_false_of_ne i0, show (co == 10) = false from beq_false_of_ne i1]
    simp [i2])
  clear h
  go_enter Try.func23, Try.ntmps23
  go_wp2_with fail
  refine (HV.out _).mono ?_
  rintro e w1 ⟨rfl, hb⟩
  have HX := Lib.hid (bel0 (below_new _ _) hb)
  have H1 := Lib.hid (HB.out.below hb)
  clear hb HV HB
  go_wp2
  go_ret
  exact ⟨by rw [HE.out]; rfl, HX.out⟩
set_option maxRecDepth 100000 in
theorem radm_4 (Q : Psw) (co ch : Int) (w : World) (h : okB Q = true) : Calls Try.prog 23 #[.agg #[.int .i64 Q.m, .int .i64 Q.k, .bool Q.ma, .bool Q.wa, .bool Q.pr, .int .i64 Q.co, .int .i64 Q.il, .int .i64 Q.cc, .int .i64 Q.pg, .int .i64 Q.ad], .int .i64 4, .int .i64 co, .int .i64 ch] w (New w (.bool (adC Q 4 co ch))) := by
  have HV := Lib.hid (fun W => (by have h1 := rvalid_any Q W; rw [h] at h1; exact h1 : Calls Try.prog 15 #[.agg #[.int .i64 Q.m, .int .i64 Q.k, .bool Q.ma, .bool Q.wa, .bool Q.pr, .int .i64 Q.co, .int .i64 Q.il, .int .i64 Q.cc, .int .i64 Q.pg, .int .i64 Q.ad]] W (New W (.bool true))))
  have HOK := Lib.hid (of_decide_eq_true h)
  have HB := Lib.hid (Bx.new w 23 #[.int .i64 Q.m, .int .i64 Q.k, .bool Q.ma, .bool Q.wa, .bool Q.pr, .int .i64 Q.co, .int .i64 Q.il, .int .i64 Q.cc, .int .i64 Q.pg, .int .i64 Q.ad])
  clear h
  go_enter Try.func23, Try.ntmps23
  go_wp2_with fail
  refine (HV.out _).mono ?_
  rintro e w1 ⟨rfl, hb⟩
  have HX := Lib.hid (bel0 (below_new _ _) hb)
  have c2 : w1.cell? ⟨w.heap.size, 2, none⟩ = some (.bool Q.ma) := (HB.out.below hb).cell 2
  have H1 := Lib.hid (HB.out.below hb)
  clear hb HV HB
  go_wp2
  go_ret
  exact ⟨rfl, HX.out⟩
set_option maxRecDepth 100000 in
theorem radm_5o (Q : Psw) (co ch : Int) (h6 : inB ch 6 = false) (w : World) (h : okB Q = true) : Calls Try.prog 23 #[.agg #[.int .i64 Q.m, .int .i64 Q.k, .bool Q.ma, .bool Q.wa, .bool Q.pr, .int .i64 Q.co, .int .i64 Q.il, .int .i64 Q.cc, .int .i64 Q.pg, .int .i64 Q.ad], .int .i64 5, .int .i64 co, .int .i64 ch] w (New w (.bool (adC Q 5 co ch))) := by
  have HV := Lib.hid (fun W => (by have h1 := rvalid_any Q W; rw [h] at h1; exact h1 : Calls Try.prog 15 #[.agg #[.int .i64 Q.m, .int .i64 Q.k, .bool Q.ma, .bool Q.wa, .bool Q.pr, .int .i64 Q.co, .int .i64 Q.il, .int .i64 Q.cc, .int .i64 Q.pg, .int .i64 Q.ad]] W (New W (.bool true))))
  have HOK := Lib.hid (of_decide_eq_true h)
  have HB := Lib.hid (Bx.new w 23 #[.int .i64 Q.m, .int .i64 Q.k, .bool Q.ma, .bool Q.wa, .bool Q.pr, .int .i64 Q.co, .int .i64 Q.il, .int .i64 Q.cc, .int .i64 Q.pg, .int .i64 Q.ad])
  have HE : Hid (adC Q 5 co ch = false) := Lib.hid (by
    show chB Q.m ch = _
    unfold chB
    rw [h6]
    rfl)
  have HI := Lib.hid (fun W => (by have h1 := in_any ch 6 W; rw [h6] at h1; exact h1 : Calls Try.prog 30 #[.int .i64 ch, .int .i64 6] W (New W (.bool false))))
  clear h6
  clear h
  go_enter Try.func23, Try.ntmps23
  go_wp2_with fail
  refine (HV.out _).mono ?_
  rintro e w1 ⟨rfl, hb⟩
  have HX := Lib.hid (bel0 (below_new _ _) hb)
  have H1 := Lib.hid (HB.out.below hb)
  clear hb HV HB
  go_wp2_with fail
  refine (HI.out _).mono ?_
  rintro e w2 ⟨rfl, hb⟩
  have HY := Lib.hid (bel0 HX.out hb)
  clear hb HI
  go_wp2
  go_ret
  exact ⟨by rw [HE.out]; rfl, HY.out⟩
set_option maxRecDepth 100000 in
theorem radm_5_0 (Q : Psw) (co : Int) (w : World) (h : okB Q = true) : Calls Try.prog 23 #[.agg #[.int .i64 Q.m, .int .i64 Q.k, .bool Q.ma, .bool Q.wa, .bool Q.pr, .int .i64 Q.co, .int .i64 Q.il, .int .i64 Q.cc, .int .i64 Q.pg, .int .i64 Q.ad], .int .i64 5, .int .i64 co, .int .i64 0] w (New w (.bool (adC Q 5 co 0))) := by
  have HV := Lib.hid (fun W => (by have h1 := rvalid_any Q W; rw [h] at h1; exact h1 : Calls Try.prog 15 #[.agg #[.int .i64 Q.m, .int .i64 Q.k, .bool Q.ma, .bool Q.wa, .bool Q.pr, .int .i64 Q.co, .int .i64 Q.il, .int .i64 Q.cc, .int .i64 Q.pg, .int .i64 Q.ad]] W (New W (.bool true))))
  have HOK := Lib.hid (of_decide_eq_true h)
  have HB := Lib.hid (Bx.new w 23 #[.int .i64 Q.m, .int .i64 Q.k, .bool Q.ma, .bool Q.wa, .bool Q.pr, .int .i64 Q.co, .int .i64 Q.il, .int .i64 Q.cc, .int .i64 Q.pg, .int .i64 Q.ad])
  have HI := Lib.hid (fun W => (in_any 0 6 W : Calls Try.prog 30 #[.int .i64 0, .int .i64 6] W (New W (.bool true))))
  clear h
  go_enter Try.func23, Try.ntmps23
  go_wp2_with fail
  refine (HV.out _).mono ?_
  rintro e w1 ⟨rfl, hb⟩
  have HX := Lib.hid (bel0 (below_new _ _) hb)
  have H1 := Lib.hid (HB.out.below hb)
  clear hb HV HB
  go_wp2_with fail
  refine (HI.out _).mono ?_
  rintro e w2 ⟨rfl, hb⟩
  have HY := Lib.hid (bel0 HX.out hb)
  have c0 : w2.cell? ⟨w.heap.size, 0, none⟩ = some (.int .i64 Q.m) := (H1.out.below hb).cell 0
  clear hb HI
  go_wp2
  go_ret
  exact ⟨congrArg (fun x => Ending.returned (.bool x)) ((rch_raw HOK.out.1.1 HOK.out.1.2).1.1), bel0 HY.out (below_new _ _)⟩
set_option maxRecDepth 100000 in
theorem radm_5_1 (Q : Psw) (co : Int) (w : World) (h : okB Q = true) : Calls Try.prog 23 #[.agg #[.int .i64 Q.m, .int .i64 Q.k, .bool Q.ma, .bool Q.wa, .bool Q.pr, .int .i64 Q.co, .int .i64 Q.il, .int .i64 Q.cc, .int .i64 Q.pg, .int .i64 Q.ad], .int .i64 5, .int .i64 co, .int .i64 1] w (New w (.bool (adC Q 5 co 1))) := by
  have HV := Lib.hid (fun W => (by have h1 := rvalid_any Q W; rw [h] at h1; exact h1 : Calls Try.prog 15 #[.agg #[.int .i64 Q.m, .int .i64 Q.k, .bool Q.ma, .bool Q.wa, .bool Q.pr, .int .i64 Q.co, .int .i64 Q.il, .int .i64 Q.cc, .int .i64 Q.pg, .int .i64 Q.ad]] W (New W (.bool true))))
  have HOK := Lib.hid (of_decide_eq_true h)
  have HB := Lib.hid (Bx.new w 23 #[.int .i64 Q.m, .int .i64 Q.k, .bool Q.ma, .bool Q.wa, .bool Q.pr, .int .i64 Q.co, .int .i64 Q.il, .int .i64 Q.cc, .int .i64 Q.pg, .int .i64 Q.ad])
  have HI := Lib.hid (fun W => (in_any 1 6 W : Calls Try.prog 30 #[.int .i64 1, .int .i64 6] W (New W (.bool true))))
  clear h
  go_enter Try.func23, Try.ntmps23
  go_wp2_with fail
  refine (HV.out _).mono ?_
  rintro e w1 ⟨rfl, hb⟩
  have HX := Lib.hid (bel0 (below_new _ _) hb)
  have H1 := Lib.hid (HB.out.below hb)
  clear hb HV HB
  go_wp2_with fail
  refine (HI.out _).mono ?_
  rintro e w2 ⟨rfl, hb⟩
  have HY := Lib.hid (bel0 HX.out hb)
  have c0 : w2.cell? ⟨w.heap.size, 0, none⟩ = some (.int .i64 Q.m) := (H1.out.below hb).cell 0
  clear hb HI
  go_wp2
  go_ret
  exact ⟨congrArg (fun x => Ending.returned (.bool x)) ((rch_raw HOK.out.1.1 HOK.out.1.2).1.2.1), bel0 HY.out (below_new _ _)⟩
set_option maxRecDepth 100000 in
theorem radm_5_2 (Q : Psw) (co : Int) (w : World) (h : okB Q = true) : Calls Try.prog 23 #[.agg #[.int .i64 Q.m, .int .i64 Q.k, .bool Q.ma, .bool Q.wa, .bool Q.pr, .int .i64 Q.co, .int .i64 Q.il, .int .i64 Q.cc, .int .i64 Q.pg, .int .i64 Q.ad], .int .i64 5, .int .i64 co, .int .i64 2] w (New w (.bool (adC Q 5 co 2))) := by
  have HV := Lib.hid (fun W => (by have h1 := rvalid_any Q W; rw [h] at h1; exact h1 : Calls Try.prog 15 #[.agg #[.int .i64 Q.m, .int .i64 Q.k, .bool Q.ma, .bool Q.wa, .bool Q.pr, .int .i64 Q.co, .int .i64 Q.il, .int .i64 Q.cc, .int .i64 Q.pg, .int .i64 Q.ad]] W (New W (.bool true))))
  have HOK := Lib.hid (of_decide_eq_true h)
  have HB := Lib.hid (Bx.new w 23 #[.int .i64 Q.m, .int .i64 Q.k, .bool Q.ma, .bool Q.wa, .bool Q.pr, .int .i64 Q.co, .int .i64 Q.il, .int .i64 Q.cc, .int .i64 Q.pg, .int .i64 Q.ad])
  have HI := Lib.hid (fun W => (in_any 2 6 W : Calls Try.prog 30 #[.int .i64 2, .int .i64 6] W (New W (.bool true))))
  clear h
  go_enter Try.func23, Try.ntmps23
  go_wp2_with fail
  refine (HV.out _).mono ?_
  rintro e w1 ⟨rfl, hb⟩
  have HX := Lib.hid (bel0 (below_new _ _) hb)
  have H1 := Lib.hid (HB.out.below hb)
  clear hb HV HB
  go_wp2_with fail
  refine (HI.out _).mono ?_
  rintro e w2 ⟨rfl, hb⟩
  have HY := Lib.hid (bel0 HX.out hb)
  have c0 : w2.cell? ⟨w.heap.size, 0, none⟩ = some (.int .i64 Q.m) := (H1.out.below hb).cell 0
  clear hb HI
  go_wp2
  go_ret
  exact ⟨congrArg (fun x => Ending.returned (.bool x)) ((rch_raw HOK.out.1.1 HOK.out.1.2).1.2.2.1), bel0 HY.out (below_new _ _)⟩
set_option maxRecDepth 100000 in
theorem radm_5_3 (Q : Psw) (co : Int) (w : World) (h : okB Q = true) : Calls Try.prog 23 #[.agg #[.int .i64 Q.m, .int .i64 Q.k, .bool Q.ma, .bool Q.wa, .bool Q.pr, .int .i64 Q.co, .int .i64 Q.il, .int .i64 Q.cc, .int .i64 Q.pg, .int .i64 Q.ad], .int .i64 5, .int .i64 co, .int .i64 3] w (New w (.bool (adC Q 5 co 3))) := by
  have HV := Lib.hid (fun W => (by have h1 := rvalid_any Q W; rw [h] at h1; exact h1 : Calls Try.prog 15 #[.agg #[.int .i64 Q.m, .int .i64 Q.k, .bool Q.ma, .bool Q.wa, .bool Q.pr, .int .i64 Q.co, .int .i64 Q.il, .int .i64 Q.cc, .int .i64 Q.pg, .int .i64 Q.ad]] W (New W (.bool true))))
  have HOK := Lib.hid (of_decide_eq_true h)
  have HB := Lib.hid (Bx.new w 23 #[.int .i64 Q.m, .int .i64 Q.k, .bool Q.ma, .bool Q.wa, .bool Q.pr, .int .i64 Q.co, .int .i64 Q.il, .int .i64 Q.cc, .int .i64 Q.pg, .int .i64 Q.ad])
  have HI := Lib.hid (fun W => (in_any 3 6 W : Calls Try.prog 30 #[.int .i64 3, .int .i64 6] W (New W (.bool true))))
  clear h
  go_enter Try.func23, Try.ntmps23
  go_wp2_with fail
  refine (HV.out _).mono ?_
  rintro e w1 ⟨rfl, hb⟩
  have HX := Lib.hid (bel0 (below_new _ _) hb)
  have H1 := Lib.hid (HB.out.below hb)
  clear hb HV HB
  go_wp2_with fail
  refine (HI.out _).mono ?_
  rintro e w2 ⟨rfl, hb⟩
  have HY := Lib.hid (bel0 HX.out hb)
  have c0 : w2.cell? ⟨w.heap.size, 0, none⟩ = some (.int .i64 Q.m) := (H1.out.below hb).cell 0
  clear hb HI
  go_wp2
  go_ret
  exact ⟨congrArg (fun x => Ending.returned (.bool x)) ((rch_raw HOK.out.1.1 HOK.out.1.2).1.2.2.2), bel0 HY.out (below_new _ _)⟩
set_option maxRecDepth 100000 in
theorem radm_5_4 (Q : Psw) (co : Int) (w : World) (h : okB Q = true) : Calls Try.prog 23 #[.agg #[.int .i64 Q.m, .int .i64 Q.k, .bool Q.ma, .bool Q.wa, .bool Q.pr, .int .i64 Q.co, .int .i64 Q.il, .int .i64 Q.cc, .int .i64 Q.pg, .int .i64 Q.ad], .int .i64 5, .int .i64 co, .int .i64 4] w (New w (.bool (adC Q 5 co 4))) := by
  have HV := Lib.hid (fun W => (by have h1 := rvalid_any Q W; rw [h] at h1; exact h1 : Calls Try.prog 15 #[.agg #[.int .i64 Q.m, .int .i64 Q.k, .bool Q.ma, .bool Q.wa, .bool Q.pr, .int .i64 Q.co, .int .i64 Q.il, .int .i64 Q.cc, .int .i64 Q.pg, .int .i64 Q.ad]] W (New W (.bool true))))
  have HOK := Lib.hid (of_decide_eq_true h)
  have HB := Lib.hid (Bx.new w 23 #[.int .i64 Q.m, .int .i64 Q.k, .bool Q.ma, .bool Q.wa, .bool Q.pr, .int .i64 Q.co, .int .i64 Q.il, .int .i64 Q.cc, .int .i64 Q.pg, .int .i64 Q.ad])
  have HI := Lib.hid (fun W => (in_any 4 6 W : Calls Try.prog 30 #[.int .i64 4, .int .i64 6] W (New W (.bool true))))
  clear h
  go_enter Try.func23, Try.ntmps23
  go_wp2_with fail
  refine (HV.out _).mono ?_
  rintro e w1 ⟨rfl, hb⟩
  have HX := Lib.hid (bel0 (below_new _ _) hb)
  have H1 := Lib.hid (HB.out.below hb)
  clear hb HV HB
  go_wp2_with fail
  refine (HI.out _).mono ?_
  rintro e w2 ⟨rfl, hb⟩
  have HY := Lib.hid (bel0 HX.out hb)
  have c0 : w2.cell? ⟨w.heap.size, 0, none⟩ = some (.int .i64 Q.m) := (H1.out.below hb).cell 0
  clear hb HI
  go_wp2
  go_ret
  exact ⟨congrArg (fun x => Ending.returned (.bool x)) ((rch_raw HOK.out.1.1 HOK.out.1.2).2.1.1), bel0 HY.out (below_new _ _)⟩
set_option maxRecDepth 100000 in
theorem radm_5_5 (Q : Psw) (co : Int) (w : World) (h : okB Q = true) : Calls Try.prog 23 #[.agg #[.int .i64 Q.m, .int .i64 Q.k, .bool Q.ma, .bool Q.wa, .bool Q.pr, .int .i64 Q.co, .int .i64 Q.il, .int .i64 Q.cc, .int .i64 Q.pg, .int .i64 Q.ad], .int .i64 5, .int .i64 co, .int .i64 5] w (New w (.bool (adC Q 5 co 5))) := by
  have HV := Lib.hid (fun W => (by have h1 := rvalid_any Q W; rw [h] at h1; exact h1 : Calls Try.prog 15 #[.agg #[.int .i64 Q.m, .int .i64 Q.k, .bool Q.ma, .bool Q.wa, .bool Q.pr, .int .i64 Q.co, .int .i64 Q.il, .int .i64 Q.cc, .int .i64 Q.pg, .int .i64 Q.ad]] W (New W (.bool true))))
  have HOK := Lib.hid (of_decide_eq_true h)
  have HB := Lib.hid (Bx.new w 23 #[.int .i64 Q.m, .int .i64 Q.k, .bool Q.ma, .bool Q.wa, .bool Q.pr, .int .i64 Q.co, .int .i64 Q.il, .int .i64 Q.cc, .int .i64 Q.pg, .int .i64 Q.ad])
  have HI := Lib.hid (fun W => (in_any 5 6 W : Calls Try.prog 30 #[.int .i64 5, .int .i64 6] W (New W (.bool true))))
  clear h
  go_enter Try.func23, Try.ntmps23
  go_wp2_with fail
  refine (HV.out _).mono ?_
  rintro e w1 ⟨rfl, hb⟩
  have HX := Lib.hid (bel0 (below_new _ _) hb)
  have H1 := Lib.hid (HB.out.below hb)
  clear hb HV HB
  go_wp2_with fail
  refine (HI.out _).mono ?_
  rintro e w2 ⟨rfl, hb⟩
  have HY := Lib.hid (bel0 HX.out hb)
  have c0 : w2.cell? ⟨w.heap.size, 0, none⟩ = some (.int .i64 Q.m) := (H1.out.below hb).cell 0
  clear hb HI
  go_wp2
  go_ret
  exact ⟨congrArg (fun x => Ending.returned (.bool x)) ((rch_raw HOK.out.1.1 HOK.out.1.2).2.1.2.1), bel0 HY.out (below_new _ _)⟩
set_option maxRecDepth 100000 in
theorem radm_5_6 (Q : Psw) (co : Int) (w : World) (h : okB Q = true) : Calls Try.prog 23 #[.agg #[.int .i64 Q.m, .int .i64 Q.k, .bool Q.ma, .bool Q.wa, .bool Q.pr, .int .i64 Q.co, .int .i64 Q.il, .int .i64 Q.cc, .int .i64 Q.pg, .int .i64 Q.ad], .int .i64 5, .int .i64 co, .int .i64 6] w (New w (.bool (adC Q 5 co 6))) := by
  have HV := Lib.hid (fun W => (by have h1 := rvalid_any Q W; rw [h] at h1; exact h1 : Calls Try.prog 15 #[.agg #[.int .i64 Q.m, .int .i64 Q.k, .bool Q.ma, .bool Q.wa, .bool Q.pr, .int .i64 Q.co, .int .i64 Q.il, .int .i64 Q.cc, .int .i64 Q.pg, .int .i64 Q.ad]] W (New W (.bool true))))
  have HOK := Lib.hid (of_decide_eq_true h)
  have HB := Lib.hid (Bx.new w 23 #[.int .i64 Q.m, .int .i64 Q.k, .bool Q.ma, .bool Q.wa, .bool Q.pr, .int .i64 Q.co, .int .i64 Q.il, .int .i64 Q.cc, .int .i64 Q.pg, .int .i64 Q.ad])
  have HI := Lib.hid (fun W => (in_any 6 6 W : Calls Try.prog 30 #[.int .i64 6, .int .i64 6] W (New W (.bool true))))
  clear h
  go_enter Try.func23, Try.ntmps23
  go_wp2_with fail
  refine (HV.out _).mono ?_
  rintro e w1 ⟨rfl, hb⟩
  have HX := Lib.hid (bel0 (below_new _ _) hb)
  have H1 := Lib.hid (HB.out.below hb)
  clear hb HV HB
  go_wp2_with fail
  refine (HI.out _).mono ?_
  rintro e w2 ⟨rfl, hb⟩
  have HY := Lib.hid (bel0 HX.out hb)
  have c0 : w2.cell? ⟨w.heap.size, 0, none⟩ = some (.int .i64 Q.m) := (H1.out.below hb).cell 0
  clear hb HI
  go_wp2
  go_ret
  exact ⟨congrArg (fun x => Ending.returned (.bool x)) ((rch_raw HOK.out.1.1 HOK.out.1.2).2.1.2.2), bel0 HY.out (below_new _ _)⟩
set_option maxRecDepth 100000 in
theorem radm_other (Q : Psw) (cl co ch : Int) (i1 : ¬ cl = 1) (i2 : ¬ cl = 2) (i3 : ¬ cl = 3) (i4 : ¬ cl = 4) (i5 : ¬ cl = 5) (w : World) (h : okB Q = true) : Calls Try.prog 23 #[.agg #[.int .i64 Q.m, .int .i64 Q.k, .bool Q.ma, .bool Q.wa, .bool Q.pr, .int .i64 Q.co, .int .i64 Q.il, .int .i64 Q.cc, .int .i64 Q.pg, .int .i64 Q.ad], .int .i64 cl, .int .i64 co, .int .i64 ch] w (New w (.bool (adC Q cl co ch))) := by
  have HV := Lib.hid (fun W => (by have h1 := rvalid_any Q W; rw [h] at h1; exact h1 : Calls Try.prog 15 #[.agg #[.int .i64 Q.m, .int .i64 Q.k, .bool Q.ma, .bool Q.wa, .bool Q.pr, .int .i64 Q.co, .int .i64 Q.il, .int .i64 Q.cc, .int .i64 Q.pg, .int .i64 Q.ad]] W (New W (.bool true))))
  have HOK := Lib.hid (of_decide_eq_true h)
  have HB := Lib.hid (Bx.new w 23 #[.int .i64 Q.m, .int .i64 Q.k, .bool Q.ma, .bool Q.wa, .bool Q.pr, .int .i64 Q.co, .int .i64 Q.il, .int .i64 Q.cc, .int .i64 Q.pg, .int .i64 Q.ad])
  have HE : Hid (adC Q cl co ch = false) := Lib.hid (by
    unfold adC
    rw [show (cl == 1) = false from beq_false_of_ne i1, show (cl == 2) = false from beq_false_of_ne i2, show (cl == 3) = false from beq_false_of_ne i3, show (cl == 4) = false from beq_false_of_ne i4, show (cl == 5) = false from beq_false_of_ne i5]
    rfl)
  clear h
  go_enter Try.func23, Try.ntmps23
  go_wp2_with fail
  refine (HV.out _).mono ?_
  rintro e w1 ⟨rfl, hb⟩
  have HX := Lib.hid (bel0 (below_new _ _) hb)
  have H1 := Lib.hid (HB.out.below hb)
  clear hb HV HB
  go_wp2
  go_ret
  exact ⟨by rw [HE.out]; rfl, HX.out⟩
theorem radm_any (Q : Psw) (cl co ch : Int) (w : World) : Calls Try.prog 23 #[.agg #[.int .i64 Q.m, .int .i64 Q.k, .bool Q.ma, .bool Q.wa, .bool Q.pr, .int .i64 Q.co, .int .i64 Q.il, .int .i64 Q.cc, .int .i64 Q.pg, .int .i64 Q.ad], .int .i64 cl, .int .i64 co, .int .i64 ch] w (New w (.bool (adB Q cl co ch))) := by
  cases h : okB Q with
  | false =>
    rw [show adB Q cl co ch = false by unfold adB; rw [h]; rfl]
    exact radm_no Q cl co ch w h
  | true =>
    rw [show adB Q cl co ch = adC Q cl co ch by unfold adB; rw [h]; rfl]
    rcases (by omega : cl = 1 ∨ cl = 2 ∨ cl = 3 ∨ cl = 4 ∨ cl = 5 ∨ (¬ cl = 1 ∧ ¬ cl = 2 ∧ ¬ cl = 3 ∧ ¬ cl = 4 ∧ ¬ cl = 5)) with rfl | rfl | rfl | rfl | rfl | ⟨i1, i2, i3, i4, i5⟩
    · exact radm_1 Q co ch w h
    · exact radm_2 Q co ch w h
    · rcases (by omega : co = 8 ∨ co = 10 ∨ (¬ co = 8 ∧ ¬ co = 10 ∧ 1 ≤ co) ∨ (¬ co = 8 ∧ ¬ co = 10 ∧ ¬ (1 ≤ co))) with rfl | rfl | ⟨i0, i1, i2⟩ | ⟨i0, i1, i2⟩
      · exact radm_38 Q ch w h
      · exact radm_310 Q ch w h
      · exact radm_3i Q co ch i0 i1 i2 w h
      · exact radm_3o Q co ch i0 i1 i2 w h
    · exact radm_4 Q co ch w h
    · cases h6 : inB ch 6 with
      | false => exact radm_5o Q co ch h6 w h
      | true =>
        simp only [inB, Bool.and_eq_true, decide_eq_true_eq] at h6
        rcases (by omega : ch = 0 ∨ ch = 1 ∨ ch = 2 ∨ ch = 3 ∨ ch = 4 ∨ ch = 5 ∨ ch = 6) with rfl | rfl | rfl | rfl | rfl | rfl | rfl
        · exact radm_5_0 Q co w h
        · exact radm_5_1 Q co w h
        · exact radm_5_2 Q co w h
        · exact radm_5_3 Q co w h
        · exact radm_5_4 Q co w h
        · exact radm_5_5 Q co w h
        · exact radm_5_6 Q co w h
    · exact radm_other Q cl co ch i1 i2 i3 i4 i5 w h

end E
end Go.Proofs.Ytfobmgoehamnnaa

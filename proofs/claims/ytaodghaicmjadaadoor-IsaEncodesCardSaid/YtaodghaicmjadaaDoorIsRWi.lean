/- The given answers: within. -/
import Derived.Test.YtaodghaicmjadaaDoorIsRWA0
import Derived.Test.YtaodghaicmjadaaDoorIsRWA1
import Derived.Test.YtaodghaicmjadaaDoorIsRWB0
import Derived.Test.YtaodghaicmjadaaDoorIsRWB1
namespace Go.Proofs.YtaodghaicmjadaaDoor
open Go.RowKit Go.Shelf
set_option linter.unusedVariables false
namespace E

/-- Are all fields within their ranges? -/
def wiB (M : Int) (Q : Ins) : Bool := hB Q.r1 && (hB Q.r2 && (hB Q.x2 && (hB Q.b1 && (hB Q.b2 && (hB Q.l2 && (decide (0 ≤ Q.l1) && (decide (Q.l1 ≤ M) && (decide (0 ≤ Q.d1) && (decide (Q.d1 ≤ 4095) && (decide (0 ≤ Q.d2) && (decide (Q.d2 ≤ 4095) && (decide (0 ≤ Q.i2) && (decide (Q.i2 ≤ 255))))))))))))))
theorem within_15 (Q : Ins) (hf : Q.fo ≠ 5) (w : World) : Calls Tryd.prog 37 #[Q.val] w (New w (.bool (wiB 15 Q))) := by
  cases e0 : hB Q.r1
  · have hv : wiB 15 Q = false := by unfold wiB; simp only [e0, Bool.false_and]
    rw [hv]
    exact wi_15_0 Q hf w e0
  cases e1 : hB Q.r2
  · have hv : wiB 15 Q = false := by unfold wiB; simp only [e0, e1, Bool.true_and, Bool.false_and]
    rw [hv]
    exact wi_15_1 Q hf w e0 e1
  cases e2 : hB Q.x2
  · have hv : wiB 15 Q = false := by unfold wiB; simp only [e0, e1, e2, Bool.true_and, Bool.false_and]
    rw [hv]
    exact wi_15_2 Q hf w e0 e1 e2
  cases e3 : hB Q.b1
  · have hv : wiB 15 Q = false := by unfold wiB; simp only [e0, e1, e2, e3, Bool.true_and, Bool.false_and]
    rw [hv]
    exact wi_15_3 Q hf w e0 e1 e2 e3
  cases e4 : hB Q.b2
  · have hv : wiB 15 Q = false := by unfold wiB; simp only [e0, e1, e2, e3, e4, Bool.true_and, Bool.false_and]
    rw [hv]
    exact wi_15_4 Q hf w e0 e1 e2 e3 e4
  cases e5 : hB Q.l2
  · have hv : wiB 15 Q = false := by unfold wiB; simp only [e0, e1, e2, e3, e4, e5, Bool.true_and, Bool.false_and]
    rw [hv]
    exact wi_15_5 Q hf w e0 e1 e2 e3 e4 e5
  cases e6 : decide (0 ≤ Q.l1)
  · have hv : wiB 15 Q = false := by unfold wiB; simp only [e0, e1, e2, e3, e4, e5, e6, Bool.true_and, Bool.false_and]
    rw [hv]
    exact wi_15_6 Q hf w e0 e1 e2 e3 e4 e5 (of_decide_eq_false e6)
  cases e7 : decide (Q.l1 ≤ 15)
  · have hv : wiB 15 Q = false := by unfold wiB; simp only [e0, e1, e2, e3, e4, e5, e6, e7, Bool.true_and, Bool.false_and]
    rw [hv]
    exact wi_15_7 Q hf w e0 e1 e2 e3 e4 e5 (of_decide_eq_true e6) (of_decide_eq_false e7)
  cases e8 : decide (0 ≤ Q.d1)
  · have hv : wiB 15 Q = false := by unfold wiB; simp only [e0, e1, e2, e3, e4, e5, e6, e7, e8, Bool.true_and, Bool.false_and]
    rw [hv]
    exact wi_15_8 Q hf w e0 e1 e2 e3 e4 e5 (of_decide_eq_true e6) (of_decide_eq_true e7) (of_decide_eq_false e8)
  cases e9 : decide (Q.d1 ≤ 4095)
  · have hv : wiB 15 Q = false := by unfold wiB; simp only [e0, e1, e2, e3, e4, e5, e6, e7, e8, e9, Bool.true_and, Bool.false_and]
    rw [hv]
    exact wi_15_9 Q hf w e0 e1 e2 e3 e4 e5 (of_decide_eq_true e6) (of_decide_eq_true e7) (of_decide_eq_true e8) (of_decide_eq_false e9)
  cases e10 : decide (0 ≤ Q.d2)
  · have hv : wiB 15 Q = false := by unfold wiB; simp only [e0, e1, e2, e3, e4, e5, e6, e7, e8, e9, e10, Bool.true_and, Bool.false_and]
    rw [hv]
    exact wi_15_10 Q hf w e0 e1 e2 e3 e4 e5 (of_decide_eq_true e6) (of_decide_eq_true e7) (of_decide_eq_true e8) (of_decide_eq_true e9) (of_decide_eq_false e10)
  cases e11 : decide (Q.d2 ≤ 4095)
  · have hv : wiB 15 Q = false := by unfold wiB; simp only [e0, e1, e2, e3, e4, e5, e6, e7, e8, e9, e10, e11, Bool.true_and, Bool.false_and]
    rw [hv]
    exact wi_15_11 Q hf w e0 e1 e2 e3 e4 e5 (of_decide_eq_true e6) (of_decide_eq_true e7) (of_decide_eq_true e8) (of_decide_eq_true e9) (of_decide_eq_true e10) (of_decide_eq_false e11)
  cases e12 : decide (0 ≤ Q.i2)
  · have hv : wiB 15 Q = false := by unfold wiB; simp only [e0, e1, e2, e3, e4, e5, e6, e7, e8, e9, e10, e11, e12, Bool.true_and, Bool.false_and]
    rw [hv]
    exact wi_15_12 Q hf w e0 e1 e2 e3 e4 e5 (of_decide_eq_true e6) (of_decide_eq_true e7) (of_decide_eq_true e8) (of_decide_eq_true e9) (of_decide_eq_true e10) (of_decide_eq_true e11) (of_decide_eq_false e12)
  cases e13 : decide (Q.i2 ≤ 255)
  · have hv : wiB 15 Q = false := by unfold wiB; simp only [e0, e1, e2, e3, e4, e5, e6, e7, e8, e9, e10, e11, e12, e13, Bool.true_and]
    rw [hv]
    exact wi_15_13 Q hf w e0 e1 e2 e3 e4 e5 (of_decide_eq_true e6) (of_decide_eq_true e7) (of_decide_eq_true e8) (of_decide_eq_true e9) (of_decide_eq_true e10) (of_decide_eq_true e11) (of_decide_eq_true e12) (of_decide_eq_false e13)
  have hv : wiB 15 Q = true := by unfold wiB; simp only [e0, e1, e2, e3, e4, e5, e6, e7, e8, e9, e10, e11, e12, e13, Bool.and_self]
  rw [hv]
  exact wi_15_14 Q hf w e0 e1 e2 e3 e4 e5 (of_decide_eq_true e6) (of_decide_eq_true e7) (of_decide_eq_true e8) (of_decide_eq_true e9) (of_decide_eq_true e10) (of_decide_eq_true e11) (of_decide_eq_true e12) (of_decide_eq_true e13)
theorem within_255 (Q : Ins) (hf : Q.fo = 5) (w : World) : Calls Tryd.prog 37 #[Q.val] w (New w (.bool (wiB 255 Q))) := by
  cases e0 : hB Q.r1
  · have hv : wiB 255 Q = false := by unfold wiB; simp only [e0, Bool.false_and]
    rw [hv]
    exact wi_255_0 Q hf w e0
  cases e1 : hB Q.r2
  · have hv : wiB 255 Q = false := by unfold wiB; simp only [e0, e1, Bool.true_and, Bool.false_and]
    rw [hv]
    exact wi_255_1 Q hf w e0 e1
  cases e2 : hB Q.x2
  · have hv : wiB 255 Q = false := by unfold wiB; simp only [e0, e1, e2, Bool.true_and, Bool.false_and]
    rw [hv]
    exact wi_255_2 Q hf w e0 e1 e2
  cases e3 : hB Q.b1
  · have hv : wiB 255 Q = false := by unfold wiB; simp only [e0, e1, e2, e3, Bool.true_and, Bool.false_and]
    rw [hv]
    exact wi_255_3 Q hf w e0 e1 e2 e3
  cases e4 : hB Q.b2
  · have hv : wiB 255 Q = false := by unfold wiB; simp only [e0, e1, e2, e3, e4, Bool.true_and, Bool.false_and]
    rw [hv]
    exact wi_255_4 Q hf w e0 e1 e2 e3 e4
  cases e5 : hB Q.l2
  · have hv : wiB 255 Q = false := by unfold wiB; simp only [e0, e1, e2, e3, e4, e5, Bool.true_and, Bool.false_and]
    rw [hv]
    exact wi_255_5 Q hf w e0 e1 e2 e3 e4 e5
  cases e6 : decide (0 ≤ Q.l1)
  · have hv : wiB 255 Q = false := by unfold wiB; simp only [e0, e1, e2, e3, e4, e5, e6, Bool.true_and, Bool.false_and]
    rw [hv]
    exact wi_255_6 Q hf w e0 e1 e2 e3 e4 e5 (of_decide_eq_false e6)
  cases e7 : decide (Q.l1 ≤ 255)
  · have hv : wiB 255 Q = false := by unfold wiB; simp only [e0, e1, e2, e3, e4, e5, e6, e7, Bool.true_and, Bool.false_and]
    rw [hv]
    exact wi_255_7 Q hf w e0 e1 e2 e3 e4 e5 (of_decide_eq_true e6) (of_decide_eq_false e7)
  cases e8 : decide (0 ≤ Q.d1)
  · have hv : wiB 255 Q = false := by unfold wiB; simp only [e0, e1, e2, e3, e4, e5, e6, e7, e8, Bool.true_and, Bool.false_and]
    rw [hv]
    exact wi_255_8 Q hf w e0 e1 e2 e3 e4 e5 (of_decide_eq_true e6) (of_decide_eq_true e7) (of_decide_eq_false e8)
  cases e9 : decide (Q.d1 ≤ 4095)
  · have hv : wiB 255 Q = false := by unfold wiB; simp only [e0, e1, e2, e3, e4, e5, e6, e7, e8, e9, Bool.true_and, Bool.false_and]
    rw [hv]
    exact wi_255_9 Q hf w e0 e1 e2 e3 e4 e5 (of_decide_eq_true e6) (of_decide_eq_true e7) (of_decide_eq_true e8) (of_decide_eq_false e9)
  cases e10 : decide (0 ≤ Q.d2)
  · have hv : wiB 255 Q = false := by unfold wiB; simp only [e0, e1, e2, e3, e4, e5, e6, e7, e8, e9, e10, Bool.true_and, Bool.false_and]
    rw [hv]
    exact wi_255_10 Q hf w e0 e1 e2 e3 e4 e5 (of_decide_eq_true e6) (of_decide_eq_true e7) (of_decide_eq_true e8) (of_decide_eq_true e9) (of_decide_eq_false e10)
  cases e11 : decide (Q.d2 ≤ 4095)
  · have hv : wiB 255 Q = false := by unfold wiB; simp only [e0, e1, e2, e3, e4, e5, e6, e7, e8, e9, e10, e11, Bool.true_and, Bool.false_and]
    rw [hv]
    exact wi_255_11 Q hf w e0 e1 e2 e3 e4 e5 (of_decide_eq_true e6) (of_decide_eq_true e7) (of_decide_eq_true e8) (of_decide_eq_true e9) (of_decide_eq_true e10) (of_decide_eq_false e11)
  cases e12 : decide (0 ≤ Q.i2)
  · have hv : wiB 255 Q = false := by unfold wiB; simp only [e0, e1, e2, e3, e4, e5, e6, e7, e8, e9, e10, e11, e12, Bool.true_and, Bool.false_and]
    rw [hv]
    exact wi_255_12 Q hf w e0 e1 e2 e3 e4 e5 (of_decide_eq_true e6) (of_decide_eq_true e7) (of_decide_eq_true e8) (of_decide_eq_true e9) (of_decide_eq_true e10) (of_decide_eq_true e11) (of_decide_eq_false e12)
  cases e13 : decide (Q.i2 ≤ 255)
  · have hv : wiB 255 Q = false := by unfold wiB; simp only [e0, e1, e2, e3, e4, e5, e6, e7, e8, e9, e10, e11, e12, e13, Bool.true_and]
    rw [hv]
    exact wi_255_13 Q hf w e0 e1 e2 e3 e4 e5 (of_decide_eq_true e6) (of_decide_eq_true e7) (of_decide_eq_true e8) (of_decide_eq_true e9) (of_decide_eq_true e10) (of_decide_eq_true e11) (of_decide_eq_true e12) (of_decide_eq_false e13)
  have hv : wiB 255 Q = true := by unfold wiB; simp only [e0, e1, e2, e3, e4, e5, e6, e7, e8, e9, e10, e11, e12, e13, Bool.and_self]
  rw [hv]
  exact wi_255_14 Q hf w e0 e1 e2 e3 e4 e5 (of_decide_eq_true e6) (of_decide_eq_true e7) (of_decide_eq_true e8) (of_decide_eq_true e9) (of_decide_eq_true e10) (of_decide_eq_true e11) (of_decide_eq_true e12) (of_decide_eq_true e13)
end E
end Go.Proofs.YtaodghaicmjadaaDoor

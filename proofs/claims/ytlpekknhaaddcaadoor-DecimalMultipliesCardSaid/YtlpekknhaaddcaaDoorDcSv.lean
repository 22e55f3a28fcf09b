/- The number of a field as a whole number: what Add, Sub and Compare say of it. -/
import Derived.Test.YtlpekknhaaddcaaDoorDcWorks
namespace Go.Proofs.YtlpekknhaaddcaaDoor
open Go.RowKit Go.Shelf
set_option linter.unusedVariables false
namespace E

/-- A sign and a magnitude. -/
def svI (n : Bool) (x : Nat) : Int := if n then -(x : Int) else (x : Int)
/-- The condition code of a number. -/
def cdI (i : Int) : Nat := if i = 0 then 0 else if i < 0 then 1 else 2
theorem sum_sv (na nb : Bool) (x y : Nat) : svI (sumS na x nb y).1 (sumS na x nb y).2 = svI na x + svI nb y := by
  unfold sumS
  cases na <;> cases nb <;> simp only [reduceCtorEq, if_true, if_false]
  · simp [svI]
  · split <;> (simp only [svI, if_true, Bool.false_eq_true, if_false]; omega)
  · split <;> (simp only [svI, if_true, Bool.false_eq_true, if_false]; omega)
  · simp only [svI, if_true]; omega
theorem cond_sv (n : Bool) (x : Nat) : condN n x = cdI (svI n x) := by
  unfold condN cdI svI
  cases n
  · simp only [Bool.false_eq_true, if_false]
    by_cases h : x = 0
    · rw [if_pos h, if_pos (by omega)]
    · rw [if_neg h, if_neg (by omega), if_neg (by omega)]
  · simp only [if_true]
    by_cases h : x = 0
    · rw [if_pos h, if_pos (by omega)]
    · rw [if_neg h, if_neg (by omega), if_pos (by omega)]
theorem sv_zero (n : Bool) (x : Nat) : svI (if x = 0 then false else n) x = svI n x := by
  by_cases h : x = 0
  · subst h; cases n <;> simp [svI]
  · rw [if_neg h]
theorem sv_not (n : Bool) (x : Nat) : svI (!n) x = -svI n x := by cases n <;> simp [svI]
theorem sv_abs (n : Bool) (x : Nat) : (svI n x).natAbs = x := by cases n <;> simp [svI]
/-- The number of a field. -/
def sF (l : List UInt8) : Int := svI (dNeg l) (dVal l)
theorem opC_fld (neg : Bool) (v n : Nat) (h1 : 1 ≤ n) (h2 : n ≤ 16) : opC (fldL neg v n) = 0 := by
  unfold opC
  rw [fldL_len, if_pos ⟨h1, h2⟩, if_pos (fld_dec neg v n h1 h2).1]
theorem sF_fld (neg : Bool) (v n : Nat) (h1 : 1 ≤ n) (h2 : n ≤ 16) (h : ovB v n = false) : sF (fldL neg v n) = svI neg v := by
  obtain ⟨_, e1, e2⟩ := fld_dec neg v n h1 h2
  have h' : v < 10 ^ (2 * n - 1) := by
    have := of_decide_eq_false h
    omega
  unfold sF
  rw [e1, e2, Nat.mod_eq_of_lt h']
theorem two_ops {la lb : List UInt8} : twoC la lb = 0 ↔ opC la = 0 ∧ opC lb = 0 := by
  unfold twoC
  have h1 := opC_cases la
  have h2 := opC_cases lb
  split
  · omega
  · split <;> omega
theorem two_comm (la lb : List UInt8) : twoC la lb = twoC lb la := by
  unfold twoC
  simp only [or_comm]
theorem res_sv (neg : Bool) (v n : Nat) (h1 : 1 ≤ n) (h2 : n ≤ 16) (h : (resS neg v n).2.2 = 0) :
    (resS neg v n).1.length = n ∧ opC (resS neg v n).1 = 0 ∧ sF (resS neg v n).1 = svI neg v ∧ (resS neg v n).2.1 = cdI (svI neg v) := by
  unfold resS at h ⊢
  have ho : ovB v n = false := by
    cases ho : ovB v n
    · rfl
    · simp [ho] at h
  refine ⟨fldL_len _ _ _, opC_fld _ _ _ h1 h2, ?_, ?_⟩
  · simp only
    rw [sF_fld _ _ _ h1 h2 ho, sv_zero]
  · simp only
    rw [ho, if_neg Bool.false_ne_true, cond_sv, sv_zero]
theorem add_sv {la lb : List UInt8} (h : (addL la lb).2.2 = 0) : twoC la lb = 0 ∧ (addL la lb).1.length = la.length ∧ opC (addL la lb).1 = 0 ∧ sF (addL la lb).1 = sF la + sF lb ∧ (addL la lb).2.1 = cdI (sF la + sF lb) := by
  by_cases ht : twoC la lb = 0
  · have hl := (opC_ok (two_ops.1 ht).1).2
    unfold addL at h ⊢
    rw [if_pos ht] at h ⊢
    obtain ⟨e1, e2, e3, e4⟩ := res_sv _ _ _ hl.1 hl.2 h
    rw [sum_sv] at e3 e4
    exact ⟨ht, e1, e2, e3, e4⟩
  · unfold addL at h
    rw [if_neg ht] at h
    exact absurd h ht
theorem sub_sv {la lb : List UInt8} (h : (subL la lb).2.2 = 0) : twoC la lb = 0 ∧ (subL la lb).1.length = la.length ∧ opC (subL la lb).1 = 0 ∧ sF (subL la lb).1 = sF la - sF lb ∧ (subL la lb).2.1 = cdI (sF la - sF lb) := by
  by_cases ht : twoC la lb = 0
  · have hl := (opC_ok (two_ops.1 ht).1).2
    unfold subL at h ⊢
    rw [if_pos ht] at h ⊢
    obtain ⟨e1, e2, e3, e4⟩ := res_sv _ _ _ hl.1 hl.2 h
    rw [sum_sv, sv_not] at e3 e4
    exact ⟨ht, e1, e2, e3, e4⟩
  · unfold subL at h
    rw [if_neg ht] at h
    exact absurd h ht
theorem cmp_sv {la lb : List UInt8} (h : twoC la lb = 0) (hs : sF la = sF lb) : cmpL la lb = (0, 0) := by
  unfold cmpL
  rw [if_pos h, cond_sv, sum_sv, sv_not]
  have : svI (dNeg la) (dVal la) + -svI (dNeg lb) (dVal lb) = 0 := by
    have := hs
    unfold sF at this
    omega
  rw [this]
  rfl
theorem add_cc (la lb : List UInt8) (h1 : (addL la lb).2.2 = 0) (h2 : (addL lb la).2.2 = 0) : (addL la lb).2.1 = (addL lb la).2.1 := by
  rw [(add_sv h1).2.2.2.2, (add_sv h2).2.2.2.2, Int.add_comm]
theorem add_undo (la lb : List UInt8) (h1 : (addL la lb).2.2 = 0) (h2 : (subL (addL la lb).1 lb).2.2 = 0) : cmpL (subL (addL la lb).1 lb).1 la = (0, 0) := by
  obtain ⟨t1, l1, o1, s1, _⟩ := add_sv h1
  obtain ⟨t2, l2, o2, s2, _⟩ := sub_sv h2
  refine cmp_sv (two_ops.2 ⟨o2, (two_ops.1 t1).1⟩) ?_
  rw [s2, s1]
  omega
theorem add_code (la lb : List UInt8) : (addL la lb).2.2 ≤ 10 ∧ (addL la lb).2.1 ≤ 3 := by
  unfold addL
  split
  · unfold resS
    refine ⟨by simp only; split <;> omega, ?_⟩
    simp only
    split
    · omega
    · unfold condN
      split
      · omega
      · split <;> omega
  · have := opC_cases la
    have := opC_cases lb
    unfold twoC
    refine ⟨?_, Nat.zero_le _⟩
    simp only
    split
    · omega
    · split <;> omega
theorem sub_code (la lb : List UInt8) : (subL la lb).2.2 ≤ 10 ∧ (subL la lb).2.1 ≤ 3 := by
  unfold subL
  split
  · unfold resS
    refine ⟨by simp only; split <;> omega, ?_⟩
    simp only
    split
    · omega
    · unfold condN
      split
      · omega
      · split <;> omega
  · have := opC_cases la
    have := opC_cases lb
    unfold twoC
    refine ⟨?_, Nat.zero_le _⟩
    simp only
    split
    · omega
    · split <;> omega

end E
end Go.Proofs.YtlpekknhaaddcaaDoor

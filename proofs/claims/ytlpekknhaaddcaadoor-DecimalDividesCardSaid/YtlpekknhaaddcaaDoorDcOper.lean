/- The contracts of the program's differences, condition codes and operands. -/
import Derived.Test.YtlpekknhaaddcaaDoorDcAdd
namespace Go.Proofs.YtlpekknhaaddcaaDoor
open Go.RowKit Go.Shelf
set_option linter.unusedVariables false
namespace E

set_option maxRecDepth 100000 in
set_option maxHeartbeats 2000000 in
theorem sub_any (na nb : Bool) (x y a b c d : Nat) (w : World) (hp : Pw x a b) (hq : Pw y c d) (h : x + y < 340282366920938463463374607431768211456) :
    Calls Tryd.prog 41 #[.agg #[.bool na, .int .u64 (a : Int), .int .u64 (b : Int)], .agg #[.bool nb, .int .u64 (c : Int), .int .u64 (d : Int)]] w (NvPost w (sumS na x (!nb) y).1 (sumS na x (!nb) y).2) := by
  have HC := Lib.hid (fun W => add_any na (!nb) x y a b c d W hp hq h)
  obtain ⟨W0, hW0⟩ : ∃ W0, W0 = ((w.alloc (.cells #[.bool na, .int .u64 (a : Int), .int .u64 (b : Int)] 45)).alloc (.cells #[.bool (!nb), .int .u64 (c : Int), .int .u64 (d : Int)] 45)).alloc (.cells #[.bool false, .int .u64 0, .int .u64 0] 45) := ⟨_, rfl⟩
  have HB0 : Hid (Below w.heap.size w W0) := Lib.hid (by rw [hW0]; exact below3 _ _ _ _)
  have HF : Hid (Bx W0 (w.heap.size + 1 + 1) 45 #[.bool false, .int .u64 0, .int .u64 0]) := Lib.hid (by
    rw [hW0]
    exact third_new w _ _ _ _ _ rfl)
  clear hp hq h
  go_enter Tryd.func41, Tryd.ntmps41
  go_wp2_with fail
  refine (HC.out _).mono ?_
  rw [← hW0]
  rintro e w1 ⟨a1, b1, hq, rfl, hb⟩
  have HB1 := Lib.hid (bel0 HB0.out hb)
  have HF1 := Lib.hid (HF.out.below hb)
  have HQ := Lib.hid hq
  clear hb hq hW0
  obtain ⟨⟨r1, r2, r3⟩, q1, q2, q3⟩ := HF1.out.three
  go_wp2
  refine bodyPost_ret (v := .agg #[.bool (sumS na x (!nb) y).1, .int .u64 (a1 : Int), .int .u64 (b1 : Int)]) ?_ rfl ⟨a1, b1, HQ.out, rfl, below_set3 HB1.out (by omega) _ _ _⟩
  rw [results_cell1 rfl]
  go_simp
/-- The condition code of a number. -/
def condN (neg : Bool) (x : Nat) : Nat := if x = 0 then 0 else if neg then 1 else 2
set_option maxRecDepth 100000 in
theorem cond_any (neg : Bool) (x a b : Nat) (w : World) (hp : Pw x a b) :
    Calls Tryd.prog 46 #[.agg #[.bool neg, .int .u64 (a : Int), .int .u64 (b : Int)]] w (New w (.int .i64 (condN neg x : Int))) := by
  have HB := Lib.hid (below_new w (.cells #[.bool neg, .int .u64 (a : Int), .int .u64 (b : Int)] 45))
  by_cases h0 : x = 0
  · obtain ⟨h1, h2⟩ := hp
    obtain rfl : a = 0 := by omega
    obtain rfl : b = 0 := by omega
    have hv : condN neg x = 0 := by unfold condN; rw [if_pos h0]
    have HV := Lib.hid hv
    clear hv h0 h1 h2
    go_enter Tryd.func46, Tryd.ntmps46
    go_wp2
    go_ret
    exact ⟨by rw [HV.out]; rfl, HB.out⟩
  · have hne : ¬ (a = 0 ∧ b = 0) := fun ⟨h1, h2⟩ => h0 (by rw [hp.1, h1, h2])
    have hv : condN neg x = if neg then 1 else 2 := by unfold condN; rw [if_neg h0]
    have HV := Lib.hid hv
    clear hv h0 hp
    cases neg
    · go_enter Tryd.func46, Tryd.ntmps46
      go_wp2
      all_goals go_ret
      all_goals exact ⟨by rw [HV.out]; rfl, below_new _ _⟩
    · go_enter Tryd.func46, Tryd.ntmps46
      go_wp2
      all_goals go_ret
      all_goals exact ⟨by rw [HV.out]; rfl, below_new _ _⟩
theorem isSz_any (n : Int) (w : World) : Calls Tryd.prog 42 #[.int .i64 n] w fun e w' => e = .returned (.bool (decide (1 ≤ n ∧ n ≤ 16))) ∧ w = w' := by
  by_cases h1 : 1 ≤ n
  · by_cases h2 : n ≤ 16
    · go_enter Tryd.func42, Tryd.ntmps42
      go_wp2
      go_ret
      exact ⟨by simp [h1, h2], rfl⟩
    · go_enter Tryd.func42, Tryd.ntmps42
      go_wp2
      go_ret
      exact ⟨by simp [h2], rfl⟩
  · go_enter Tryd.func42, Tryd.ntmps42
    go_wp2
    go_ret
    exact ⟨by rw [decide_eq_false (by omega)]; simp, rfl⟩
/-- The magnitude of the number in a field; 0 if it is not valid. -/
def dVal (bs : List UInt8) : Nat := chV (dDig bs)
/-- The code of one operand. -/
def opC (bs : List UInt8) : Nat := if 1 ≤ bs.length ∧ bs.length ≤ 16 then (if dOk bs then 0 else 7) else 6
theorem dDig_ok (bs : List UInt8) (h : dOk bs = true) : okL (dDig bs) = true := by
  have h' := h
  unfold dOk at h'
  simp only [Bool.and_eq_true, decide_eq_true_eq] at h'
  obtain ⟨⟨h1, h2⟩, _, h3⟩ := h'
  unfold dDig
  rw [if_pos h]
  exact okL_numL _ h3 (by rw [dg_len]; omega) (by rw [dg_len]; omega)
theorem dDig_len (bs : List UInt8) : (dDig bs).length ≤ 2 * bs.length - 1 ∨ dDig bs = [] := by
  by_cases h : dOk bs = true
  · have h' := h
    unfold dOk at h'
    simp only [Bool.and_eq_true, decide_eq_true_eq] at h'
    left
    unfold dDig
    rw [if_pos h]
    have := (fg_numL (dg bs 1 1 (2 * bs.length - 1)) (by rw [dg_len]; omega)).2.2
    rw [dg_len] at this
    exact this
  · right
    unfold dDig
    rw [if_neg h]
theorem dVal_lt (bs : List UInt8) (h : 1 ≤ bs.length) : dVal bs < 10 ^ (2 * bs.length - 1) := by
  unfold dVal
  by_cases ho : dOk bs = true
  · have hk := (okL_iff _).1 (dDig_ok bs ho)
    have h1 := chV_lt (dDig bs) hk.2
    rcases dDig_len bs with h2 | h2
    · exact Nat.lt_of_lt_of_le h1 (Nat.pow_le_pow_right (by omega) h2)
    · rw [h2]
      exact Nat.pow_pos (by omega)
  · have : dDig bs = [] := by unfold dDig; rw [if_neg ho]
    rw [this]
    exact Nat.pow_pos (by omega)
theorem dVal_not (bs : List UInt8) (h : dOk bs = false) : dVal bs = 0 ∧ dNeg bs = false := by
  unfold dVal dDig dNeg
  rw [h]
  exact ⟨rfl, rfl⟩
theorem opC_ok {bs : List UInt8} (h : opC bs = 0) : dOk bs = true ∧ 1 ≤ bs.length ∧ bs.length ≤ 16 := by
  unfold opC at h
  split at h
  · split at h
    · exact ⟨by assumption, by omega, by omega⟩
    · cases h
  · cases h
theorem dVal_31 {bs : List UInt8} (h : bs.length ≤ 16) (h1 : 1 ≤ bs.length) : dVal bs < 10000000000000000000000000000000 := by
  have h2 := dVal_lt bs h1
  have h3 : (10 : Nat) ^ (2 * bs.length - 1) ≤ 10 ^ 31 := Nat.pow_le_pow_right (by omega) (by omega)
  rw [pow10_31] at h3
  omega
/-- What operand leaves. -/
def OpPost (w : World) (bs : List UInt8) (e : Ending) (w' : World) : Prop := ∃ c d, Pw (dVal bs) c d ∧ e = .returned (.tuple #[.agg #[.bool (dNeg bs), .int .u64 (c : Int), .int .u64 (d : Int)], .int .i64 (opC bs : Int)]) ∧ Below w.heap.size w w'
theorem pw_zero : Pw 0 0 0 := ⟨rfl, by omega⟩
theorem pw_zero_of {x : Nat} (h : x = 0) : Pw x 0 0 := by rw [h]; exact pw_zero
set_option maxRecDepth 100000 in
set_option maxHeartbeats 2000000 in
theorem operand_any (p : Option Addr) (cp : Nat) (bs : List UInt8) (w : World) (hr : Rd w p bs) (hg : Sg w) :
    Calls Tryd.prog 43 #[.slice p bs.length cp] w (OpPost w bs) := by
  have hs1 := fun W => isSz_any (bs.length : Int) W
  have HF := Lib.hid (Bx.new w 45 #[.bool false, .int .u64 0, .int .u64 0])
  have HB := Lib.hid (below_new w (.cells #[.bool false, .int .u64 0, .int .u64 0] 45))
  by_cases hl : 1 ≤ bs.length ∧ bs.length ≤ 16
  · rw [decide_eq_true (by omega)] at hs1
    have S1 := Lib.hid hs1
    have HR := Lib.hid hr
    have HG := Lib.hid hg
    have HDC := Lib.hid (fun W (h : Rd W p bs) (hg : Sg W) => decode_any p cp bs W h hg)
    have hcode : opC bs = if dOk bs then 0 else 7 := by unfold opC; rw [if_pos hl]
    have HCD := Lib.hid hcode
    clear hs1 hr hg hcode
    go_enter Tryd.func43, Tryd.ntmps43
    go_wp2_with fail
    refine (S1.out _).mono ?_
    rintro e w' ⟨rfl, rfl⟩
    go_wp2_with fail
    refine (HDC.out _ (HR.out.below HB.out) (HG.out.below HB.out)).mono ?_
    rintro e w1 ⟨rfl, hb⟩
    have HB1 := Lib.hid (bel0 HB.out hb)
    have HF1 := Lib.hid (HF.out.below hb)
    clear hb HDC
    by_cases ho : dOk bs = true
    · have HO := Lib.hid ho
      have hk := (okL_iff _).1 (dDig_ok bs ho)
      have HN := Lib.hid (fun W => numberOf_any (dNeg bs) ⟨(dDig bs).toArray⟩ (dDig bs) W rfl (by omega) hk.2)
      rw [ho]
      have HF2 := Lib.hid (HF1.out.below (below_new w1 (.cells #[.bool (dNeg bs), .string ⟨(dDig bs).toArray⟩] 78)))
      have HB2 := Lib.hid (bel0 HB1.out (below_new w1 (.cells #[.bool (dNeg bs), .string ⟨(dDig bs).toArray⟩] 78)))
      clear ho hk
      go_wp2_with fail
      refine (HN.out _).mono ?_
      rintro e w2 ⟨c, d, hq, rfl, hb⟩
      have HB3 := Lib.hid (bel0 HB2.out hb)
      have HF3 := Lib.hid (HF2.out.below hb)
      have HQ := Lib.hid hq
      clear hb hq HN
      obtain ⟨⟨r1, r2, r3⟩, q1, q2, q3⟩ := HF3.out.three
      go_wp2
      refine bodyPost_ret (v := .tuple #[.agg #[.bool (dNeg bs), .int .u64 (c : Int), .int .u64 (d : Int)], .int .i64 0]) ?_ rfl ⟨c, d, HQ.out, by rw [HCD.out, if_pos HO.out]; rfl, below_set3 HB3.out (Nat.le_refl _) _ _ _⟩
      rw [results_cell_tmp rfl]
      go_simp
    · have ho' : dOk bs = false := by simpa using ho
      obtain ⟨z1, z2⟩ := dVal_not bs ho'
      have HZ := Lib.hid z1
      rw [ho', z2]
      have HO := Lib.hid ho
      have Z2 := Lib.hid z2
      obtain ⟨⟨r1, r2, r3⟩, q1, q2, q3⟩ := (HF1.out.below (below_new w1 (.cells #[.bool false, .string ⟨(dDig bs).toArray⟩] 78))).three
      clear ho ho' z1 z2
      go_wp2
      refine bodyPost_ret (v := .tuple #[.agg #[.bool false, .int .u64 0, .int .u64 0], .int .i64 7]) ?_ rfl ⟨0, 0, pw_zero_of HZ.out, by rw [HCD.out, if_neg HO.out, Z2.out]; rfl, below_set3 (bel0 HB1.out (below_new _ _)) (Nat.le_refl _) _ _ _⟩
      rw [results_cell_tmp rfl]
      go_simp
  · rw [decide_eq_false (by omega)] at hs1
    have S1 := Lib.hid hs1
    have hcode : opC bs = 6 := by unfold opC; rw [if_neg hl]
    have ho : dOk bs = false := by unfold dOk; rw [decide_eq_false hl]; rfl
    obtain ⟨z1, z2⟩ := dVal_not bs ho
    have HZ := Lib.hid z1
    have Z2 := Lib.hid z2
    have HCD := Lib.hid hcode
    clear hs1 hr hg hcode hl ho z1 z2
    go_enter Tryd.func43, Tryd.ntmps43
    go_wp2_with fail
    refine (S1.out _).mono ?_
    rintro e w' ⟨rfl, rfl⟩
    go_wp2
    refine bodyPost_ret (v := .tuple #[.agg #[.bool false, .int .u64 0, .int .u64 0], .int .i64 6]) ?_ rfl ⟨0, 0, pw_zero_of HZ.out, by rw [HCD.out, Z2.out]; rfl, HB.out⟩
    rw [results_cell_tmp rfl]
    go_simp

end E
end Go.Proofs.YtlpekknhaaddcaaDoor

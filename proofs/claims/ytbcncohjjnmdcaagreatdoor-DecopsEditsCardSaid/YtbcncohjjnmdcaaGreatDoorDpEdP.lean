/- Editing the digits of a word. -/
import Derived.Test.YtbcncohjjnmdcaaGreatDoorRows
import Derived.ArgAppend
import Derived.Deep.WholeRow
import Derived.Laws.Rows
import Derived.Laws.Tables
import Derived.Test.YtbcncohjjnmdcaaGreatDoorEdB
import Derived.Test.YtbcncohjjnmdcaaGreatDoorGnMem
namespace Go.Proofs.YtbcncohjjnmdcaaGreatDoor
namespace E
end E
open Go.RowKit Go.Shelf E
set_option linter.unusedVariables false
namespace M

/-- Fifteen digits. -/
def dgt (m : Nat) : List Nat := [m / 100000000000000 % 10, m / 10000000000000 % 10, m / 1000000000000 % 10, m / 100000000000 % 10, m / 10000000000 % 10, m / 1000000000 % 10, m / 100000000 % 10, m / 10000000 % 10, m / 1000000 % 10, m / 100000 % 10, m / 10000 % 10, m / 1000 % 10, m / 100 % 10, m / 10 % 10, m / 1 % 10]
theorem dgt_len (m : Nat) : (dgt m).length = 15 := rfl
theorem lo_b {a b : Nat} (ha : a ≤ 9) (hb : b ≤ 15) : (lo (UInt8.ofNat (16 * a + b))).val = b := by
  show (UInt8.ofNat (16 * a + b)).toNat % 16 = b
  rw [byte_nat ha hb]
  omega
theorem hi_b {a b : Nat} (ha : a ≤ 9) (hb : b ≤ 15) : (hi (UInt8.ofNat (16 * a + b))).val = a := by
  show (UInt8.ofNat (16 * a + b)).toNat / 16 = a
  rw [byte_nat ha hb]
  omega
theorem sgH_le (neg : Bool) : sgH neg ≤ 15 := by cases neg <;> decide
theorem fld_pairs (neg : Bool) (m : Nat) : fldL neg m 8 = pairs (dgt m ++ [sgH neg]) := by
  refine nib_ext (by rw [fldL_len]; rfl) fun p hp => ?_
  rw [fldL_len] at hp
  rw [nib_fld neg m 8 p (by omega) (by omega)]
  rcases (by omega : p = 0 ∨ p = 1 ∨ p = 2 ∨ p = 3 ∨ p = 4 ∨ p = 5 ∨ p = 6 ∨ p = 7 ∨ p = 8 ∨ p = 9 ∨ p = 10 ∨ p = 11 ∨ p = 12 ∨ p = 13 ∨ p = 14 ∨ p = 15) with rfl | rfl | rfl | rfl | rfl | rfl | rfl | rfl | rfl | rfl | rfl | rfl | rfl | rfl | rfl | rfl
  · exact Fin.ext (Eq.trans (by cases neg <;> rfl) (lo_b (a := m / 1 % 10) (b := sgH neg) (by omega) (sgH_le neg)).symm)
  · exact Fin.ext (Eq.trans (show m / 10 ^ 0 % 10 = m / 1 % 10 by rfl) (hi_b (a := m / 1 % 10) (b := sgH neg) (by omega) (sgH_le neg)).symm)
  · exact Fin.ext (Eq.trans (show m / 10 ^ 1 % 10 = m / 10 % 10 by rfl) (lo_b (a := m / 100 % 10) (b := m / 10 % 10) (by omega) (by omega)).symm)
  · exact Fin.ext (Eq.trans (show m / 10 ^ 2 % 10 = m / 100 % 10 by rfl) (hi_b (a := m / 100 % 10) (b := m / 10 % 10) (by omega) (by omega)).symm)
  · exact Fin.ext (Eq.trans (show m / 10 ^ 3 % 10 = m / 1000 % 10 by rfl) (lo_b (a := m / 10000 % 10) (b := m / 1000 % 10) (by omega) (by omega)).symm)
  · exact Fin.ext (Eq.trans (show m / 10 ^ 4 % 10 = m / 10000 % 10 by rfl) (hi_b (a := m / 10000 % 10) (b := m / 1000 % 10) (by omega) (by omega)).symm)
  · exact Fin.ext (Eq.trans (show m / 10 ^ 5 % 10 = m / 100000 % 10 by rfl) (lo_b (a := m / 1000000 % 10) (b := m / 100000 % 10) (by omega) (by omega)).symm)
  · exact Fin.ext (Eq.trans (show m / 10 ^ 6 % 10 = m / 1000000 % 10 by rfl) (hi_b (a := m / 1000000 % 10) (b := m / 100000 % 10) (by omega) (by omega)).symm)
  · exact Fin.ext (Eq.trans (show m / 10 ^ 7 % 10 = m / 10000000 % 10 by rfl) (lo_b (a := m / 100000000 % 10) (b := m / 10000000 % 10) (by omega) (by omega)).symm)
  · exact Fin.ext (Eq.trans (show m / 10 ^ 8 % 10 = m / 100000000 % 10 by rfl) (hi_b (a := m / 100000000 % 10) (b := m / 10000000 % 10) (by omega) (by omega)).symm)
  · exact Fin.ext (Eq.trans (show m / 10 ^ 9 % 10 = m / 1000000000 % 10 by rfl) (lo_b (a := m / 10000000000 % 10) (b := m / 1000000000 % 10) (by omega) (by omega)).symm)
  · exact Fin.ext (Eq.trans (show m / 10 ^ 10 % 10 = m / 10000000000 % 10 by rfl) (hi_b (a := m / 10000000000 % 10) (b := m / 1000000000 % 10) (by omega) (by omega)).symm)
  · exact Fin.ext (Eq.trans (show m / 10 ^ 11 % 10 = m / 100000000000 % 10 by rfl) (lo_b (a := m / 1000000000000 % 10) (b := m / 100000000000 % 10) (by omega) (by omega)).symm)
  · exact Fin.ext (Eq.trans (show m / 10 ^ 12 % 10 = m / 1000000000000 % 10 by rfl) (hi_b (a := m / 1000000000000 % 10) (b := m / 100000000000 % 10) (by omega) (by omega)).symm)
  · exact Fin.ext (Eq.trans (show m / 10 ^ 13 % 10 = m / 10000000000000 % 10 by rfl) (lo_b (a := m / 100000000000000 % 10) (b := m / 10000000000000 % 10) (by omega) (by omega)).symm)
  · exact Fin.ext (Eq.trans (show m / 10 ^ 14 % 10 = m / 100000000000000 % 10 by rfl) (hi_b (a := m / 100000000000000 % 10) (b := m / 10000000000000 % 10) (by omega) (by omega)).symm)
/-- The text from a prefix on. -/
def preL : Nat → List Nat → List UInt8
  | _, [] => []
  | acc, a :: r => (if 10 * acc + a = 0 then 64 else UInt8.ofNat (240 + a)) :: preL (10 * acc + a) r
theorem tx_pre : ∀ (d : List Nat) (acc i f : Nat), (acc = 0 → f = i + zN d) → (acc ≠ 0 → f ≤ i) → txD 64 f i d = preL acc d
  | [], _, _, _, _, _ => rfl
  | a :: r, acc, i, f, h0, h1 => by
    have ih := tx_pre r (10 * acc + a) (i + 1) f
    by_cases ha : acc = 0
    · have hf := h0 ha
      subst ha
      by_cases hz : a = 0
      · subst hz
        have hzn : zN (0 :: r) = 1 + zN r := by simp [zN]; try omega
        rw [hzn] at hf
        rw [preL, txD, if_neg (by omega), if_pos rfl, ih (fun _ => by omega) (fun h => absurd rfl h)]
      · have hzn : zN (a :: r) = 0 := by simp [zN, hz]
        rw [hzn] at hf
        rw [preL, txD, if_pos (by omega), if_neg (by omega), ih (fun h => absurd h (by omega)) (fun _ => by omega)]
    · have hf := h1 ha
      rw [preL, txD, if_pos (by omega), if_neg (by omega), ih (fun h => absurd h (by omega)) (fun _ => by omega)]
/-- The text of the law. -/
def edT (m : Nat) : List UInt8 := [64, (if (m / 100000000000000) = 0 then (64 : UInt8) else UInt8.ofNat (240 + (m / 100000000000000) % 10)), (if (m / 10000000000000) = 0 then (64 : UInt8) else UInt8.ofNat (240 + (m / 10000000000000) % 10)), (if (m / 1000000000000) = 0 then (64 : UInt8) else UInt8.ofNat (240 + (m / 1000000000000) % 10)), (if (m / 100000000000) = 0 then (64 : UInt8) else UInt8.ofNat (240 + (m / 100000000000) % 10)), (if (m / 10000000000) = 0 then (64 : UInt8) else UInt8.ofNat (240 + (m / 10000000000) % 10)), (if (m / 1000000000) = 0 then (64 : UInt8) else UInt8.ofNat (240 + (m / 1000000000) % 10)), (if (m / 100000000) = 0 then (64 : UInt8) else UInt8.ofNat (240 + (m / 100000000) % 10)), (if (m / 10000000) = 0 then (64 : UInt8) else UInt8.ofNat (240 + (m / 10000000) % 10)), (if (m / 1000000) = 0 then (64 : UInt8) else UInt8.ofNat (240 + (m / 1000000) % 10)), (if (m / 100000) = 0 then (64 : UInt8) else UInt8.ofNat (240 + (m / 100000) % 10)), (if (m / 10000) = 0 then (64 : UInt8) else UInt8.ofNat (240 + (m / 10000) % 10)), (if (m / 1000) = 0 then (64 : UInt8) else UInt8.ofNat (240 + (m / 1000) % 10)), (if (m / 100) = 0 then (64 : UInt8) else UInt8.ofNat (240 + (m / 100) % 10)), (if (m / 10) = 0 then (64 : UInt8) else UInt8.ofNat (240 + (m / 10) % 10)), (if (m / 1) = 0 then (64 : UInt8) else UInt8.ofNat (240 + (m / 1) % 10))]
theorem pre_dgt (m : Nat) (hm : m < 1000000000000000) : 64 :: preL 0 (dgt m) = edT m := by
  unfold dgt edT
  have e0 : 10 * 0 + m / 100000000000000 % 10 = m / 100000000000000 := by omega
  have e1 : 10 * (m / 100000000000000) + m / 10000000000000 % 10 = m / 10000000000000 := by omega
  have e2 : 10 * (m / 10000000000000) + m / 1000000000000 % 10 = m / 1000000000000 := by omega
  have e3 : 10 * (m / 1000000000000) + m / 100000000000 % 10 = m / 100000000000 := by omega
  have e4 : 10 * (m / 100000000000) + m / 10000000000 % 10 = m / 10000000000 := by omega
  have e5 : 10 * (m / 10000000000) + m / 1000000000 % 10 = m / 1000000000 := by omega
  have e6 : 10 * (m / 1000000000) + m / 100000000 % 10 = m / 100000000 := by omega
  have e7 : 10 * (m / 100000000) + m / 10000000 % 10 = m / 10000000 := by omega
  have e8 : 10 * (m / 10000000) + m / 1000000 % 10 = m / 1000000 := by omega
  have e9 : 10 * (m / 1000000) + m / 100000 % 10 = m / 100000 := by omega
  have e10 : 10 * (m / 100000) + m / 10000 % 10 = m / 10000 := by omega
  have e11 : 10 * (m / 10000) + m / 1000 % 10 = m / 1000 := by omega
  have e12 : 10 * (m / 1000) + m / 100 % 10 = m / 100 := by omega
  have e13 : 10 * (m / 100) + m / 10 % 10 = m / 10 := by omega
  have e14 : 10 * (m / 10) + m / 1 % 10 = m / 1 := by omega
  simp only [preL, e0, e1, e2, e3, e4, e5, e6, e7, e8, e9, e10, e11, e12, e13, e14]
theorem fold_zero : ∀ (d : List Nat), (∀ a ∈ d, a = 0) → d.foldl (fun s a => 10 * s + a) 0 = 0
  | [], _ => rfl
  | a :: r, h => by
    have ha := h a (List.mem_cons_self ..)
    subst ha
    exact fold_zero r (fun b hb => h b (List.mem_cons_of_mem _ hb))
theorem fold_dgt (m : Nat) (hm : m < 1000000000000000) : (dgt m).foldl (fun s a => 10 * s + a) 0 = m := by
  unfold dgt
  have e0 : 10 * 0 + m / 100000000000000 % 10 = m / 100000000000000 := by omega
  have e1 : 10 * (m / 100000000000000) + m / 10000000000000 % 10 = m / 10000000000000 := by omega
  have e2 : 10 * (m / 10000000000000) + m / 1000000000000 % 10 = m / 1000000000000 := by omega
  have e3 : 10 * (m / 1000000000000) + m / 100000000000 % 10 = m / 100000000000 := by omega
  have e4 : 10 * (m / 100000000000) + m / 10000000000 % 10 = m / 10000000000 := by omega
  have e5 : 10 * (m / 10000000000) + m / 1000000000 % 10 = m / 1000000000 := by omega
  have e6 : 10 * (m / 1000000000) + m / 100000000 % 10 = m / 100000000 := by omega
  have e7 : 10 * (m / 100000000) + m / 10000000 % 10 = m / 10000000 := by omega
  have e8 : 10 * (m / 10000000) + m / 1000000 % 10 = m / 1000000 := by omega
  have e9 : 10 * (m / 1000000) + m / 100000 % 10 = m / 100000 := by omega
  have e10 : 10 * (m / 100000) + m / 10000 % 10 = m / 10000 := by omega
  have e11 : 10 * (m / 10000) + m / 1000 % 10 = m / 1000 := by omega
  have e12 : 10 * (m / 1000) + m / 100 % 10 = m / 100 := by omega
  have e13 : 10 * (m / 100) + m / 10 % 10 = m / 10 := by omega
  have e14 : 10 * (m / 10) + m / 1 % 10 = m / 1 := by omega
  simp only [List.foldl_cons, List.foldl_nil, e0, e1, e2, e3, e4, e5, e6, e7, e8, e9, e10, e11, e12, e13, Nat.div_one]
  exact Nat.div_add_mod m 10
theorem zn_dgt (m : Nat) (hm : m < 1000000000000000) : zN (dgt m) < 15 ↔ m ≠ 0 := by
  have key : ∀ d : List Nat, zN d < d.length ↔ ¬ (∀ a ∈ d, a = 0) := by
    intro d
    induction d with
    | nil => simp [zN]
    | cons a r ih =>
      by_cases ha : a = 0
      · subst ha
        have hzn : zN (0 :: r) = 1 + zN r := by simp [zN]; try omega
        rw [hzn]
        simp only [List.length_cons, List.mem_cons, forall_eq_or_imp, true_and]
        rw [← ih]
        omega
      · have hzn : zN (a :: r) = 0 := by simp [zN, ha]
        rw [hzn]
        simp [ha]
  have h := key (dgt m)
  rw [dgt_len] at h
  rw [h]
  constructor
  · intro h1 h2
    subst h2
    exact h1 (by decide)
  · intro h1 h2
    have h3 := fold_zero (dgt m) h2
    rw [fold_dgt m hm] at h3
    exact h1 h3
theorem ed_res (neg : Bool) (m : Nat) (hm : m < 1000000000000000) (rest : List UInt8) : edRes (64 :: List.replicate 15 32) (fldL neg m 8 ++ rest) = (edT m, if m = 0 then 0 else if neg then 1 else 2, (edRes (64 :: List.replicate 15 32) (fldL neg m 8 ++ rest)).2.2.1, 0) := by
  have hL : edL (fldL neg m 8 ++ rest) = edSeq (sgN neg) (dgt m) ++ edL rest := by
    rw [fld_pairs]
    exact edL_pairs neg rest 7 (dgt m) rfl (fun a ha => by
      unfold dgt at ha
      simp only [List.mem_cons, List.not_mem_nil, or_false] at ha
      omega)
  have hr := run_sel 64 (edL (fldL neg m 8 ++ rest)) (edL rest) (-1) (sgN neg) (dgt m) 0 1 0 false false (-1) [64] (by unfold dgt; simp) (by rw [hL]; rfl)
  have hsel : selP (-1) 0 (dgt m) = List.replicate 15 32 := rfl
  rw [hsel] at hr
  have hrun : edRun 64 (edL (fldL neg m 8 ++ rest)) (64 :: List.replicate 15 32) 0 edInit = (0, ⟨0 + (dgt m).length, onF (-1) false 0 (dgt m) && sgN neg != 1, false || decide (zN (dgt m) < (dgt m).length), mkF (-1) false 0 1 (-1) (dgt m), [64] ++ txF 64 (-1) false 0 (dgt m)⟩) := by
    rw [run_cons, if_pos (by rfl)]
    exact hr
  have hz := zn_dgt m hm
  have htx : [64] ++ txF 64 (-1) false 0 (dgt m) = edT m := by
    rw [txF_off, frF_none (by decide), tx_pre (dgt m) 0 0 _ (fun _ => rfl) (fun h => absurd rfl h), ← pre_dgt m hm]
    rfl
  have hcc : edCC ⟨0 + (dgt m).length, onF (-1) false 0 (dgt m) && sgN neg != 1, false || decide (zN (dgt m) < (dgt m).length), mkF (-1) false 0 1 (-1) (dgt m), [64] ++ txF 64 (-1) false 0 (dgt m)⟩ = if m = 0 then 0 else if neg then 1 else 2 := by
    unfold edCC
    rw [onF_none (by decide), dgt_len]
    by_cases h0 : m = 0
    · have hz0 : ¬ (zN (dgt m) < 15) := fun h => (hz.1 h) h0
      rw [decide_eq_false hz0, if_pos h0]
      rfl
    · have hz1 := hz.2 h0
      rw [decide_eq_true hz1, if_neg h0]
      cases neg <;> rfl
  unfold edRes
  rw [if_pos (by decide)]
  rw [show ((64 : UInt8) :: List.replicate 15 32).headD 0 = 64 from rfl, hrun]
  rw [if_pos rfl]
  show (_, _, _, _) = _
  rw [hcc]
  simp only [htx]
/-- The byte of a prefix. -/
def bOf (N : Nat) : UInt8 := if N = 0 then 64 else UInt8.ofNat (240 + N % 10)
theorem ed_gt (m : Nat) (hm : m < 1000000000000000) (j : Nat) (hj : j < 16) : gt (edT m) (15 - j) = bOf (m / 10 ^ j) := by
  rcases (by omega : j = 0 ∨ j = 1 ∨ j = 2 ∨ j = 3 ∨ j = 4 ∨ j = 5 ∨ j = 6 ∨ j = 7 ∨ j = 8 ∨ j = 9 ∨ j = 10 ∨ j = 11 ∨ j = 12 ∨ j = 13 ∨ j = 14 ∨ j = 15) with rfl | rfl | rfl | rfl | rfl | rfl | rfl | rfl | rfl | rfl | rfl | rfl | rfl | rfl | rfl | rfl
  · rfl
  · rfl
  · rfl
  · rfl
  · rfl
  · rfl
  · rfl
  · rfl
  · rfl
  · rfl
  · rfl
  · rfl
  · rfl
  · rfl
  · rfl
  · show (64 : UInt8) = bOf (m / 1000000000000000)
    rw [Nat.div_eq_of_lt hm]
    rfl

end M
end Go.Proofs.YtbcncohjjnmdcaaGreatDoor

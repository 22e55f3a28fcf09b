/- Result fields: the digits of a number, their characters, and the field that decodes as the number's last digits. -/
import Derived.Test.YtlpekknhaaddcaaDoorPkPure
import Derived.Test.YtlpekknhaaddcaaDoorPkRef3
import Derived.Test.YtlpekknhaaddcaaDoorDcOper
namespace Go.Proofs.YtlpekknhaaddcaaDoor
open Go.RowKit Go.Shelf
set_option linter.unusedVariables false
namespace E

/-- Digit j of a number, from the last one on. -/
def dj (v j : Nat) : Fin 16 := ⟨v / 10 ^ j % 10, by omega⟩
theorem dj_le (v j : Nat) : (dj v j).val ≤ 9 := by show v / 10 ^ j % 10 ≤ 9; omega
/-- The last N digits of a number. -/
def dsN (v N : Nat) : List (Fin 16) := (List.range N).map (dj v)
theorem dsN_len (v N : Nat) : (dsN v N).length = N := by simp [dsN]
theorem dsN_getD (v N i : Nat) (h : i < N) : (dsN v N).getD i 0 = dj v i := by simp [dsN, List.getD_eq_getElem?_getD, h]
theorem dsN_ok (v N : Nat) : okD (dsN v N) = true := (okD_getD _).2 fun i hi => by
  rw [dsN_len] at hi
  rw [dsN_getD v N i hi]
  exact dj_le v i
theorem dsN_ok9 (v N : Nat) : ok9 (dsN v N) := fun d hd => by
  obtain ⟨i, _, rfl⟩ := List.mem_map.1 hd
  exact dj_le v i
theorem dsN_val (v N : Nat) : val (dsN v N) = v % 10 ^ N := by
  induction N with
  | zero => rw [Nat.pow_zero, Nat.mod_one]; rfl
  | succ N ih =>
    have e : dsN v (N + 1) = dsN v N ++ [dj v N] := by simp [dsN, List.range_succ]
    rw [e, val_snoc, ih, dsN_len, Nat.pow_succ, Nat.mod_mul]
    rfl
/-- The result field of n bytes. -/
def fldL (neg : Bool) (v n : Nat) : List UInt8 := encL neg (numL (dsN v (2 * n - 1))) n
theorem fldL_len (neg : Bool) (v n : Nat) : (fldL neg v n).length = n := encL_len _ _ _
theorem nib_fld (neg : Bool) (v n p : Nat) (h1 : 1 ≤ n) (h : p < 2 * n) : nib (fldL neg v n) p = if p = 0 then sgn neg else dj v (p - 1) := by
  unfold fldL
  rw [nib_enc _ _ _ _ h]
  by_cases h0 : p = 0
  · rw [if_pos h0, if_pos h0]
  · rw [if_neg h0, if_neg h0, fg_numL_getD _ (by rw [dsN_len]; omega), dsN_getD _ _ _ (by omega)]
theorem fld_okL (v n : Nat) (h1 : 1 ≤ n) (h2 : n ≤ 16) : okL (numL (dsN v (2 * n - 1))) = true := okL_numL _ (dsN_ok _ _) (by rw [dsN_len]; omega) (by rw [dsN_len]; omega)
theorem fld_enB (v n : Nat) (h1 : 1 ≤ n) (h2 : n ≤ 16) : enB (numL (dsN v (2 * n - 1))) (n : Int) = true := by
  unfold enB
  rw [fld_okL v n h1 h2, decide_eq_true (by omega)]
  rfl
theorem val_numL (ds : List (Fin 16)) (h1 : 1 ≤ ds.length) : val (fg (numL ds)) = val ds := by
  obtain ⟨⟨r, hr⟩, _⟩ := fg_numL ds h1
  have e := val_zeros (fg (numL ds)) (List.replicate r 0) (fun d hd => (List.mem_replicate.1 hd).2)
  rw [← hr] at e
  exact e.symm
theorem fld_dec (neg : Bool) (v n : Nat) (h1 : 1 ≤ n) (h2 : n ≤ 16) : dOk (fldL neg v n) = true ∧ dNeg (fldL neg v n) = neg ∧ dVal (fldL neg v n) = v % 10 ^ (2 * n - 1) := by
  have hl := fldL_len neg v n
  have hd := dec_field (bs := fldL neg v n) (dl := numL (dsN v (2 * n - 1))) (neg := neg) (by rw [hl]; exact h1) (by rw [hl]; exact h2) (fld_okL v n h1 h2) (by rw [nib_fld _ _ _ _ h1 (by omega), if_pos rfl])
    (fun i hi => by
      rw [hl] at hi
      rw [nib_fld _ _ _ _ h1 (by omega), if_neg (by omega), fg_numL_getD _ (by rw [dsN_len]; omega), dsN_getD _ _ _ (by omega)]
      congr 1
      omega)
  refine ⟨hd.1, hd.2.1, ?_⟩
  unfold dVal
  rw [hd.2.2 (by
    rw [hl]
    have := (fg_numL (dsN v (2 * n - 1)) (by rw [dsN_len]; omega)).2.2
    rw [dsN_len] at this
    exact this)]
  unfold chV
  rw [val_numL _ (by rw [dsN_len]; omega), dsN_val]

/-! ### The characters -/

/-- The characters of the last N digits, the first one ahead. -/
def cL (v N : Nat) : List UInt8 := (dsN v N).reverse.map chr
theorem cL_len (v N : Nat) : (cL v N).length = N := by simp [cL, dsN_len]
theorem gt_cL (v N i : Nat) (h : i < N) : gt (cL v N) i = chr (dj v (N - 1 - i)) := by
  rw [gt_lt (by rw [cL_len]; exact h)]
  simp [cL, dsN, List.getElem_reverse]
/-- The characters after k digits of m have been written, z places from the right. -/
def pL (m z N k : Nat) : List UInt8 := (List.range N).map fun i => if z ≤ N - 1 - i ∧ N - 1 - i - z < k then chr (dj m (N - 1 - i - z)) else 48
theorem pL_len (m z N k : Nat) : (pL m z N k).length = N := by simp [pL]
theorem gt_pL (m z N k i : Nat) (h : i < N) : gt (pL m z N k) i = if z ≤ N - 1 - i ∧ N - 1 - i - z < k then chr (dj m (N - 1 - i - z)) else 48 := by
  rw [gt_lt (by rw [pL_len]; exact h)]
  simp [pL]
theorem gt_ext' {l m : List UInt8} (hl : l.length = m.length) (h : ∀ i, i < l.length → gt l i = gt m i) : l = m :=
  List.ext_getElem hl fun i h1 h2 => by
    have := h i h1
    rw [gt_lt h1, gt_lt h2] at this
    exact this
theorem pL_zero (m z N : Nat) : pL m z N 0 = List.replicate N 48 := gt_ext' (by rw [pL_len, List.length_replicate]) fun i hi => by
  rw [pL_len] at hi
  rw [gt_pL _ _ _ _ _ hi, if_neg (by omega), gt_lt (by rw [List.length_replicate]; exact hi), List.getElem_replicate]
theorem pL_step (m z N k : Nat) (h : z + k < N) : (pL m z N k).set (N - 1 - z - k) (chr (dj m k)) = pL m z N (k + 1) := gt_ext' (by rw [List.length_set, pL_len, pL_len]) fun i hi => by
  rw [List.length_set, pL_len] at hi
  rw [gt_set _ _ _ _ (by rw [pL_len]; omega), gt_pL _ _ _ _ _ hi, gt_pL _ _ _ _ _ hi]
  by_cases he : N - 1 - z - k = i
  · rw [if_pos he, if_pos ⟨by omega, by omega⟩]
    congr 2
    omega
  · rw [if_neg he]
    by_cases h1 : z ≤ N - 1 - i ∧ N - 1 - i - z < k
    · rw [if_pos h1, if_pos ⟨by omega, by omega⟩]
    · rw [if_neg h1, if_neg (by omega)]
theorem dj_shift (m z j : Nat) (h : z ≤ j) : dj (m * 10 ^ z) j = dj m (j - z) := by
  apply Fin.ext
  show m * 10 ^ z / 10 ^ j % 10 = m / 10 ^ (j - z) % 10
  have e : 10 ^ j = 10 ^ (j - z) * 10 ^ z := by rw [← Nat.pow_add, Nat.sub_add_cancel h]
  rw [e, Nat.mul_div_mul_right _ _ (Nat.pow_pos (by omega))]
theorem dj_low (m z j : Nat) (h : j < z) : dj (m * 10 ^ z) j = 0 := by
  apply Fin.ext
  show m * 10 ^ z / 10 ^ j % 10 = 0
  have e : m * 10 ^ z = m * 10 ^ (z - j - 1) * 10 * 10 ^ j := by
    rw [Nat.mul_assoc, Nat.mul_assoc, ← Nat.pow_succ', ← Nat.pow_add]
    congr 2
    omega
  rw [e, Nat.mul_div_cancel _ (Nat.pow_pos (by omega)), Nat.mul_mod_left]
theorem chr_zero' : chr 0 = 48 := by decide
theorem pL_end (m z N k : Nat) (h : m / 10 ^ k = 0 ∨ N ≤ z + k) : pL m z N k = cL (m * 10 ^ z) N := gt_ext' (by rw [pL_len, cL_len]) fun i hi => by
  rw [pL_len] at hi
  rw [gt_pL _ _ _ _ _ hi, gt_cL _ _ _ hi]
  by_cases h1 : z ≤ N - 1 - i ∧ N - 1 - i - z < k
  · rw [if_pos h1, dj_shift _ _ _ h1.1]
  · rw [if_neg h1]
    by_cases h2 : z ≤ N - 1 - i
    · rw [dj_shift _ _ _ h2]
      have hk : k ≤ N - 1 - i - z := by omega
      have hm : m / 10 ^ k = 0 := h.resolve_right (by omega)
      have h3 : m / 10 ^ (N - 1 - i - z) = 0 := by
        have e : 10 ^ (N - 1 - i - z) = 10 ^ k * 10 ^ (N - 1 - i - z - k) := by rw [← Nat.pow_add]; congr 1; omega
        rw [e, ← Nat.div_div_eq_div_mul, hm, Nat.zero_div]
      have h4 : dj m (N - 1 - i - z) = 0 := by
        apply Fin.ext
        show m / 10 ^ (N - 1 - i - z) % 10 = 0
        rw [h3]
      rw [h4, chr_zero']
    · rw [dj_low _ _ _ (by omega), chr_zero']
/-- No zeros ahead, but the last character stays. -/
def trL (l : List UInt8) : List UInt8 := (l.take (l.length - 1)).dropWhile (· == 48) ++ l.drop (l.length - 1)
theorem trL_numL (ds : List (Fin 16)) (h : 1 ≤ ds.length) : trL (ds.reverse.map chr) = numL ds := by
  unfold trL numL
  generalize hL : ds.reverse.map chr = L
  have hlen : 1 ≤ L.length := by rw [← hL]; simpa using h
  obtain ⟨i, x, rfl⟩ : ∃ i x, L = i ++ [x] := ⟨L.dropLast, L.getLast (by intro h0; rw [h0] at hlen; simp at hlen), (List.dropLast_concat_getLast _).symm⟩
  have e1 : (i ++ [x]).length - 1 = i.length := by simp
  rw [e1, List.take_left, List.drop_left]
  have hdw : ∀ l : List UInt8, (l ++ [x]).dropWhile (· == 48) = if l.dropWhile (· == 48) = [] then [x].dropWhile (· == 48) else l.dropWhile (· == 48) ++ [x] := fun l => by
    induction l with
    | nil => simp
    | cons y l ih =>
      by_cases hy : y = 48
      · subst hy
        simpa using ih
      · have hy' : (y == 48) = false := by simpa using hy
        simp [hy']
  rw [hdw]
  by_cases h0 : i.dropWhile (· == 48) = []
  · rw [h0, if_pos rfl]
    by_cases hx : x = 48
    · subst hx; simp
    · have hx' : (x == 48) = false := by simpa using hx
      simp [hx']
  · rw [if_neg h0, if_neg (by simp)]
/-- Has the number more digits than the field? -/
def ovB (v n : Nat) : Bool := decide (10 ^ (2 * n - 1) ≤ v)
theorem ov_yes {m z n k : Nat} (h1 : m / 10 ^ k ≠ 0) (h2 : 2 * n - 1 ≤ z + k) : ovB (m * 10 ^ z) n = true := by
  unfold ovB
  refine decide_eq_true ?_
  have h3 : 10 ^ k ≤ m := by
    rcases Nat.lt_or_ge m (10 ^ k) with h | h
    · exact absurd (Nat.div_eq_of_lt h) h1
    · exact h
  calc 10 ^ (2 * n - 1) ≤ 10 ^ (k + z) := Nat.pow_le_pow_right (by omega) (by omega)
    _ = 10 ^ k * 10 ^ z := Nat.pow_add _ _ _
    _ ≤ m * 10 ^ z := Nat.mul_le_mul_right _ h3
theorem ov_no {m z n k : Nat} (h1 : m / 10 ^ k = 0) (h2 : k = 0 ∨ z + k ≤ 2 * n - 1) : ovB (m * 10 ^ z) n = false := by
  unfold ovB
  refine decide_eq_false (Nat.not_le.2 ?_)
  rcases h2 with rfl | h2
  · rw [Nat.pow_zero, Nat.div_one] at h1
    subst h1
    rw [Nat.zero_mul]
    exact Nat.pow_pos (by omega)
  · have h3 : m < 10 ^ k := by
      rcases Nat.lt_or_ge m (10 ^ k) with h | h
      · exact h
      · have := Nat.div_pos h (Nat.pow_pos (by omega))
        omega
    calc m * 10 ^ z < 10 ^ k * 10 ^ z := Nat.mul_lt_mul_of_pos_right h3 (Nat.pow_pos (by omega))
      _ = 10 ^ (k + z) := (Nat.pow_add _ _ _).symm
      _ ≤ 10 ^ (2 * n - 1) := Nat.pow_le_pow_right (by omega) (by omega)

end E
end Go.Proofs.YtlpekknhaaddcaaDoor

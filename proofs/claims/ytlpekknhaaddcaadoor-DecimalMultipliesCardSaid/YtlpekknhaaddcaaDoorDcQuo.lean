/- The quotient times the divisor plus the remainder: what the numbers say. -/
import Derived.Test.YtlpekknhaaddcaaDoorDcLess
namespace Go.Proofs.YtlpekknhaaddcaaDoor
open Go.RowKit Go.Shelf
set_option linter.unusedVariables false
namespace E

theorem gt_app (l m : List UInt8) (j : Nat) : gt (l ++ m) j = if j < l.length then gt l j else gt m (j - l.length) := by
  unfold gt
  simp only [List.getD_eq_getElem?_getD, List.getElem?_append]
  split <;> rfl
theorem gt_zeros (m j : Nat) : gt (List.replicate m 0) j = 0 := by
  unfold gt
  rw [List.getD_eq_getElem?_getD, List.getElem?_replicate]
  split <;> rfl
theorem fld_pad (neg : Bool) (v m n : Nat) (h1 : 1 ≤ n) (h : v < 10 ^ (2 * n - 1)) : List.replicate m 0 ++ fldL neg v n = fldL neg v (m + n) := by
  refine nib_ext (by rw [List.length_append, List.length_replicate, fldL_len, fldL_len]) fun p hp => ?_
  rw [List.length_append, List.length_replicate, fldL_len] at hp
  rw [nib_fld neg v (m + n) p (by omega) hp]
  have hl : (List.replicate m (0 : UInt8) ++ fldL neg v n).length = m + n := by rw [List.length_append, List.length_replicate, fldL_len]
  by_cases h2 : p < 2 * n
  · have hg : gt (List.replicate m (0 : UInt8) ++ fldL neg v n) (m + n - 1 - p / 2) = gt (fldL neg v n) (n - 1 - p / 2) := by
      rw [gt_app, List.length_replicate, if_neg (by omega), show m + n - 1 - p / 2 - m = n - 1 - p / 2 by omega]
    have e : nib (List.replicate m 0 ++ fldL neg v n) p = nib (fldL neg v n) p := by
      unfold nib
      rw [hl, fldL_len, hg]
    rw [e, nib_fld neg v n p h1 h2]
  · have hg : gt (List.replicate m (0 : UInt8) ++ fldL neg v n) (m + n - 1 - p / 2) = 0 := by
      rw [gt_app, List.length_replicate, if_pos (by omega), gt_zeros]
    have e : nib (List.replicate m 0 ++ fldL neg v n) p = 0 := by
      unfold nib
      rw [hl, hg]
      split <;> decide
    rw [e, if_neg (by omega)]
    apply Fin.ext
    show 0 = v / 10 ^ (p - 1) % 10
    have h3 : v < 10 ^ (p - 1) := Nat.lt_of_lt_of_le h (Nat.pow_le_pow_right (by omega) (by omega))
    rw [Nat.div_eq_of_lt h3]
/-- What is known of a quotient. -/
structure QuoF (la lb F1 F2 P S : List UInt8) (n : Nat) : Prop where
  lens : la.length = lb.length + n ∧ 1 ≤ n ∧ 1 ≤ lb.length ∧ la.length ≤ 16
  l1 : F1.length = n
  l2 : F2.length = lb.length
  lp : P.length = la.length
  ls : S.length = la.length
  div : divL la lb = (F1 ++ F2, 0)
  mul : mulL (List.replicate lb.length 0 ++ F1) lb = (P, 0)
  add : ∃ cc, addL P F2 = (S, cc, 0)
  cmp : cmpL S la = (0, 0)
  o2 : dOk F2 = true
  ob : dOk lb = true
  lt : dVal F2 < dVal lb
theorem quo_facts (la lb : List UInt8) (h : divC la lb = 0) : ∃ F1 F2 P S n, QuoF la lb F1 F2 P S n := by
  have hd : divL la lb = (fldL (dNeg la != dNeg lb) (dVal la / dVal lb) (la.length - lb.length) ++ fldL (dNeg la) (dVal la % dVal lb) lb.length, 0) := by
    unfold divL
    rw [if_pos h]
  unfold divC at h
  by_cases h8 : 8 < lb.length ∨ la.length ≤ lb.length
  · rw [if_pos h8] at h; omega
  · rw [if_neg h8] at h
    by_cases ht : twoC la lb = 0
    · rw [if_neg (by omega)] at h
      by_cases hy : dVal lb = 0
      · rw [if_pos hy] at h; omega
      · rw [if_neg hy] at h
        have ho : ovB (dVal la / dVal lb) (la.length - lb.length) = false := by
          cases ho : ovB (dVal la / dVal lb) (la.length - lb.length)
          · rfl
          · rw [ho, if_pos rfl] at h; omega
        clear h
        obtain ⟨oa, ob⟩ := two_ops.1 ht
        obtain ⟨ka, a1, a2⟩ := opC_ok oa
        obtain ⟨kb, b1, b2⟩ := opC_ok ob
        have hq : dVal la / dVal lb < 10 ^ (2 * (la.length - lb.length) - 1) := by
          have := of_decide_eq_false ho
          omega
        have hxlt := dVal_lt la a1
        have hylt := dVal_lt lb b1
        have hm : dVal la % dVal lb < dVal lb := Nat.mod_lt _ (by omega)
        have hdm : dVal la / dVal lb * dVal lb + dVal la % dVal lb = dVal la := by
          rw [Nat.mul_comm]
          exact Nat.div_add_mod _ _
        have hqy : dVal la / dVal lb * dVal lb < 10 ^ (2 * la.length - 1) := by omega
        have hpad : List.replicate lb.length 0 ++ fldL (dNeg la != dNeg lb) (dVal la / dVal lb) (la.length - lb.length) = fldL (dNeg la != dNeg lb) (dVal la / dVal lb) la.length := by
          rw [fld_pad _ _ _ _ (by omega) hq]
          congr 1
          omega
        have hql : dVal la / dVal lb < 10 ^ (2 * la.length - 1) := Nat.lt_of_lt_of_le hq (Nat.pow_le_pow_right (by omega) (by omega))
        obtain ⟨f1, f2, f3⟩ := fld_dec (dNeg la != dNeg lb) (dVal la / dVal lb) la.length a1 a2
        rw [Nat.mod_eq_of_lt hql] at f3
        obtain ⟨g1, g2, g3⟩ := fld_dec (dNeg la) (dVal la % dVal lb) lb.length b1 b2
        rw [Nat.mod_eq_of_lt (Nat.lt_trans hm hylt)] at g3
        obtain ⟨k1, k2, k3⟩ := fld_dec (dNeg la) (dVal la / dVal lb * dVal lb) la.length a1 a2
        rw [Nat.mod_eq_of_lt hqy] at k3
        have hmul : mulL (List.replicate lb.length 0 ++ fldL (dNeg la != dNeg lb) (dVal la / dVal lb) (la.length - lb.length)) lb = (fldL (dNeg la) (dVal la / dVal lb * dVal lb) la.length, 0) := by
          have htk : anyNZ ((fldL (dNeg la != dNeg lb) (dVal la / dVal lb) la.length).take lb.length) = false := by
            rw [← hpad, List.take_append_of_le_length (by rw [List.length_replicate]; omega), List.take_of_length_le (by rw [List.length_replicate]; omega)]
            unfold anyNZ
            rw [List.any_eq_false]
            intro x hx
            rw [(List.mem_replicate.1 hx).2]
            decide
          have hmc : mulC (fldL (dNeg la != dNeg lb) (dVal la / dVal lb) la.length) lb = 0 := by
            unfold mulC
            rw [fldL_len, if_neg h8, if_neg (by rw [two_ops.2 ⟨opC_fld _ _ _ a1 a2, ob⟩]; omega), htk]
            rfl
          rw [hpad]
          unfold mulL
          rw [if_pos hmc, f2, f3, fldL_len]
          congr 2
          cases dNeg la <;> cases dNeg lb <;> rfl
        have hadd : addL (fldL (dNeg la) (dVal la / dVal lb * dVal lb) la.length) (fldL (dNeg la) (dVal la % dVal lb) lb.length) = resS (dNeg la) (dVal la) la.length := by
          unfold addL
          rw [if_pos (two_ops.2 ⟨opC_fld _ _ _ a1 a2, opC_fld _ _ _ b1 b2⟩), k2, k3, g2, g3, fldL_len]
          unfold sumS
          rw [if_pos rfl, hdm]
        have hov : ovB (dVal la) la.length = false := decide_eq_false (by omega)
        have hz : (resS (dNeg la) (dVal la) la.length).2.2 = 0 := by
          unfold resS
          simp only
          rw [hov, if_neg Bool.false_ne_true]
        obtain ⟨r1, r2, r3, r4⟩ := res_sv _ _ _ a1 a2 hz
        refine ⟨_, _, _, (resS (dNeg la) (dVal la) la.length).1, la.length - lb.length, ⟨by omega, by omega, b1, a2⟩, fldL_len _ _ _, fldL_len _ _ _, fldL_len _ _ _, r1, hd, hmul, ⟨(resS (dNeg la) (dVal la) la.length).2.1, hadd.trans (Prod.ext rfl (Prod.ext rfl hz))⟩, cmp_sv (two_ops.2 ⟨r2, oa⟩) r3, g1, kb, by rw [g3]; exact hm⟩
    · rw [if_pos ht] at h; omega
theorem divL_no (la lb : List UInt8) (h : divC la lb ≠ 0) : divL la lb = ([], divC la lb) := divL_not rfl h

theorem Rd.cells4 {w : World} {B off : Nat} {l : List UInt8} (h : Rd w (some ⟨B, off, none⟩) l) : ∀ j u, (bsU l)[j]? = some u → w.cell? ((⟨B, off, none⟩ : Addr).add j) = some u := fun j u hu => by
  obtain ⟨hj, rfl⟩ := bsU_at hu
  rcases h with rfl | ⟨B', off', hp, hc⟩
  · simp at hj
  · obtain ⟨rfl, rfl⟩ : B' = B ∧ off' = off := by
      have := Option.some.inj hp
      simp only [Addr.mk.injEq] at this
      exact ⟨this.1.symm, this.2.1.symm⟩
    rw [show ((⟨B', off', none⟩ : Addr).add j) = ⟨B', off' + j, none⟩ from by by_cases h0 : j = 0 <;> simp [Addr.add, h0]]
    exact hc j hj
theorem Rd.addr {w : World} {p : Option Addr} {l : List UInt8} (h : Rd w p l) (hl : 1 ≤ l.length) : ∃ B off, p = some ⟨B, off, none⟩ := by
  rcases h with rfl | ⟨B, off, hp, _⟩
  · simp at hl
  · exact ⟨B, off, hp⟩
theorem Rd.left {w : World} {p : Option Addr} {l m : List UInt8} (h : Rd w p (l ++ m)) : Rd w p l := by
  have := h.take l.length
  rwa [List.take_left] at this
theorem Rd.right {w : World} {B off : Nat} {l m : List UInt8} (h : Rd w (some ⟨B, off, none⟩) (l ++ m)) : Rd w (some ⟨B, off + l.length, none⟩) m := by
  rcases h with h | ⟨B', off', hp, hc⟩
  · exact .inl (List.append_eq_nil_iff.1 h).2
  · obtain ⟨rfl, rfl⟩ : B' = B ∧ off' = off := by
      have := Option.some.inj hp
      simp only [Addr.mk.injEq] at this
      exact ⟨this.1.symm, this.2.1.symm⟩
    refine .inr ⟨_, _, rfl, fun j hj => ?_⟩
    have h1 := hc (l.length + j) (by rw [List.length_append]; omega)
    rw [gt_app, if_neg (by omega), show l.length + j - l.length = j by omega, ← Nat.add_assoc] at h1
    exact h1
theorem make_m (W : World) (m : Nat) (hm : m ≤ 16) : (Instr.makeSlice 22 (.int .i64 (m : Int)) (.int .i64 (m : Int))).run Tryd.prog W = .ok (.slice (some ⟨W.heap.size, 0, none⟩) m m) (W.alloc (.cells (bsU (List.replicate m 0)).toArray 5)) := by
  obtain ⟨i0, hi, hz0, hz1, hz2⟩ := info_parts info5
  have h := run_make (P := Tryd.prog) W 22 5 i0 (.int .u8 0) Tryd.underlying22 hi hz0 .i64 .i64 m m (by omega) (by omega) (by rw [hz2]; omega) (by omega)
  rw [hz1] at h
  have e : madeCells (Value.int .u8 0).cells m = (bsU (List.replicate m 0)).toArray := by
    apply Array.ext'
    have e0 : (Value.int .u8 0).cells = #[.int .u8 0] := rfl
    rw [e0, toList_madeCells_one]
    simp [bsU]
  rw [Int.toNat_natCast, Nat.mul_one, e] at h
  exact h

end E
end Go.Proofs.YtlpekknhaaddcaaDoor

/- Fields of words, and their sums. -/
import Derived.Test.YtbcncohjjnmdcaaGreatDoorRows
import Derived.Test.YtbcncohjjnmdcaaGreatDoorDpConv
import Derived.Test.YtbcncohjjnmdcaaGreatDoorDpWorks
namespace Go.Proofs.YtbcncohjjnmdcaaGreatDoor
namespace E
end E
open Go.RowKit Go.Shelf E
set_option linter.unusedVariables false
namespace M

/-- A word as a signed number. -/
def sV (v : Nat) : Int := if v < 2147483648 then (v : Int) else (v : Int) - 4294967296
theorem fb_facts (v : Nat) (hv : v < 4294967296) : dOk (fbL v) = true ∧ dNeg (fbL v) = decide (sV v < 0) ∧ (dVal (fbL v) : Int) = (if sV v < 0 then -sV v else sV v) ∧ opC (fbL v) = 0 := by
  have e15 : (10 : Nat) ^ (2 * 8 - 1) = 1000000000000000 := by decide
  have hl := fbL_len v
  have hd : dOk (fbL v) = true ∧ dNeg (fbL v) = decide (sV v < 0) ∧ (dVal (fbL v) : Int) = (if sV v < 0 then -sV v else sV v) := by
    unfold sV fbL
    split
    · obtain ⟨h1, h2, h3⟩ := fld_dec false v 8 (by omega) (by omega)
      rw [h2, h3, e15, Nat.mod_eq_of_lt (by omega), if_neg (by omega)]
      exact ⟨h1, (decide_eq_false (by omega)).symm, rfl⟩
    · obtain ⟨h1, h2, h3⟩ := fld_dec true (4294967296 - v) 8 (by omega) (by omega)
      rw [h2, h3, e15, Nat.mod_eq_of_lt (by omega), if_pos (by omega)]
      exact ⟨h1, (decide_eq_true (by omega)).symm, by omega⟩
  refine ⟨hd.1, hd.2.1, hd.2.2, ?_⟩
  unfold opC
  rw [hl, if_pos (by omega), if_pos hd.1]
theorem tb_fld (s : Int) (h1 : -1000000000000 < s) (h2 : s < 1000000000000) : tbL (fldL (decide (s < 0)) s.natAbs 8) = (s % 4294967296, if -2147483648 ≤ s ∧ s ≤ 2147483647 then 0 else 9) := by
  have e15 : (10 : Nat) ^ (2 * 8 - 1) = 1000000000000000 := by decide
  obtain ⟨k1, k2, k3⟩ := fld_dec (decide (s < 0)) s.natAbs 8 (by omega) (by omega)
  rw [e15, Nat.mod_eq_of_lt (by omega)] at k3
  have hl := fldL_len (decide (s < 0)) s.natAbs 8
  have ho : opC (fldL (decide (s < 0)) s.natAbs 8) = 0 := by
    unfold opC
    rw [hl, if_pos (by omega), if_pos k1]
  have hv : tbV (fldL (decide (s < 0)) s.natAbs 8) = s := by
    unfold tbV
    rw [k2, k3]
    split
    · rename_i h; have := of_decide_eq_true h; omega
    · rename_i h; have := of_decide_eq_false (Bool.eq_false_iff.2 h); omega
  unfold tbL
  rw [hl, ho, hv]
  simp
theorem tb_fb (v : Nat) (hv : v < 4294967296) : tbL (fbL v) = ((v : Int), 0) := by
  have h : fbL v = fldL (decide (sV v < 0)) (sV v).natAbs 8 := by
    unfold fbL sV
    split
    · rw [decide_eq_false (by omega), Int.natAbs_natCast]
    · rw [decide_eq_true (by omega)]
      congr 1
      omega
  rw [h, tb_fld _ (by unfold sV; split <;> omega) (by unfold sV; split <;> omega)]
  unfold sV
  split
  · rw [if_pos (by omega)]
    congr 1
    omega
  · rw [if_pos (by omega)]
    congr 1
    omega
/-- The condition code of a number. -/
def ccS (s : Int) : Nat := if s = 0 then 0 else if s < 0 then 1 else 2
theorem add_fb (a b : Nat) (ha : a < 4294967296) (hb : b < 4294967296) : addL (fbL a) (fbL b) = (fldL (decide (sV a + sV b < 0)) (sV a + sV b).natAbs 8, ccS (sV a + sV b), 0) := by
  obtain ⟨a1, a2, a3, a4⟩ := fb_facts a ha
  obtain ⟨b1, b2, b3, b4⟩ := fb_facts b hb
  have sa : -2147483648 ≤ sV a ∧ sV a < 2147483648 := by unfold sV; split <;> omega
  have sb : -2147483648 ≤ sV b ∧ sV b < 2147483648 := by unfold sV; split <;> omega
  have ht : twoC (fbL a) (fbL b) = 0 := by
    unfold twoC
    rw [a4, b4]
    simp
  unfold addL
  rw [if_pos ht, a2, b2, fbL_len]
  generalize dVal (fbL a) = x at *
  generalize dVal (fbL b) = y at *
  generalize sV a = s at *
  generalize sV b = t at *
  have key : ((if (sumS (decide (s < 0)) x (decide (t < 0)) y).2 = 0 then false else (sumS (decide (s < 0)) x (decide (t < 0)) y).1) = decide (s + t < 0)) ∧ (sumS (decide (s < 0)) x (decide (t < 0)) y).2 = (s + t).natAbs := by
    unfold sumS
    by_cases h1 : s < 0
    · rw [if_pos h1] at a3
      rw [decide_eq_true h1]
      by_cases h2 : t < 0
      · rw [if_pos h2] at b3
        rw [decide_eq_true h2, if_pos rfl]
        refine ⟨?_, by show x + y = _; omega⟩
        rw [if_neg (show ¬ (x + y = 0) by omega)]
        exact (decide_eq_true (by omega)).symm
      · rw [if_neg h2] at b3
        rw [decide_eq_false h2, if_neg (show ¬ (true = false) by decide)]
        by_cases h3 : x < y
        · rw [if_pos h3]
          refine ⟨?_, by show y - x = _; omega⟩
          rw [if_neg (show ¬ (y - x = 0) by omega)]
          exact (decide_eq_false (by omega)).symm
        · rw [if_neg h3]
          refine ⟨?_, by show x - y = _; omega⟩
          by_cases h4 : x = y
          · rw [if_pos (show x - y = 0 by omega)]
            exact (decide_eq_false (by omega)).symm
          · rw [if_neg (show ¬ (x - y = 0) by omega)]
            exact (decide_eq_true (by omega)).symm
    · rw [if_neg h1] at a3
      rw [decide_eq_false h1]
      by_cases h2 : t < 0
      · rw [if_pos h2] at b3
        rw [decide_eq_true h2, if_neg (show ¬ (false = true) by decide)]
        by_cases h3 : x < y
        · rw [if_pos h3]
          refine ⟨?_, by show y - x = _; omega⟩
          rw [if_neg (show ¬ (y - x = 0) by omega)]
          exact (decide_eq_true (by omega)).symm
        · rw [if_neg h3]
          refine ⟨?_, by show x - y = _; omega⟩
          split
          · exact (decide_eq_false (by omega)).symm
          · exact (decide_eq_false (by omega)).symm
      · rw [if_neg h2] at b3
        rw [decide_eq_false h2, if_pos rfl]
        refine ⟨?_, by show x + y = _; omega⟩
        split
        · exact (decide_eq_false (by omega)).symm
        · exact (decide_eq_false (by omega)).symm
  unfold resS
  rw [key.1, key.2]
  have hov : ovB (s + t).natAbs 8 = false := by
    unfold ovB
    rw [show (10 : Nat) ^ (2 * 8 - 1) = 1000000000000000 from by decide]
    exact decide_eq_false (by omega)
  rw [hov]
  have hcc : condN (decide (s + t < 0)) (s + t).natAbs = ccS (s + t) := by
    unfold condN ccS
    by_cases h0 : s + t = 0
    · rw [if_pos (by omega), if_pos h0]
    · rw [if_neg (by omega), if_neg h0]
      by_cases h1 : s + t < 0
      · rw [decide_eq_true h1, if_pos rfl, if_pos h1]
      · rw [decide_eq_false h1, if_neg (by decide), if_neg h1]
  simp [hcc]
theorem sub_put {l b : List UInt8} {a : Nat} (h : a + b.length ≤ l.length) : E.subL (E.putL l a b) a b.length = b := by
  unfold E.subL E.putL
  have e : (l.take a).length = a := by rw [List.length_take]; omega
  rw [List.drop_append_of_le_length (by omega), List.drop_of_length_le (by omega), List.nil_append, List.take_append_of_le_length (by omega), List.take_length]
theorem sub_put_low {l b : List UInt8} {a x k : Nat} (h : x + k ≤ a) (h2 : a ≤ l.length) : E.subL (E.putL l a b) x k = E.subL l x k := by
  unfold E.subL E.putL
  have e : (l.take a).length = a := by rw [List.length_take]; omega
  rw [List.drop_append_of_le_length (by omega), List.take_append_of_le_length (by rw [List.length_drop]; omega), List.drop_take, List.take_take, Nat.min_eq_left (by omega)]
theorem put_len {l b : List UInt8} {a : Nat} (h : a + b.length ≤ l.length) : (E.putL l a b).length = l.length := by
  unfold E.putL
  rw [List.length_append, List.length_append, List.length_take, List.length_drop]
  omega
/-- CVD, CVB and AP with the key 0. -/
theorem cvd_out (q : Qn) (R : Nat → Int) (bs : List UInt8) (d : Nat) (hd : adT q R = d) (h8 : d % 8 = 0) (hl : d + 8 ≤ 2048) : cvdO q R (⟨0, 0, false, false, false, 0, 0, 0, 0, 0⟩ : Psw) 2048 bs (List.replicate 1 0) = .go R (⟨0, 0, false, false, false, 0, 0, 0, 0, 0⟩ : Psw) 0 (E.putL bs d (fbL (R q.r1).toNat)) := by
  unfold cvdO alC putO stC
  rw [hd, if_pos h8, thenO_go _ rfl, fbL_len, thenO_go]
  exact code_zero stP_zero hl
theorem cvb_out (q : Qn) (R : Nat → Int) (bs : List UInt8) (d : Nat) (v : Int) (c : Nat) (hd : adT q R = d) (h8 : d % 8 = 0) (hl : d + 8 ≤ 2048) (hv : tbL (E.subL bs d 8) = (v, c)) : cvbO q R (⟨0, 0, false, false, false, 0, 0, 0, 0, 0⟩ : Psw) 2048 bs (List.replicate 1 0) = thenO (c : Int) (.go (upd R q.r1 v) (⟨0, 0, false, false, false, 0, 0, 0, 0, 0⟩ : Psw) 0 bs) := by
  unfold cvbO alC ftC
  rw [hd, if_pos h8, thenO_go _ rfl, thenO_go, hv]
  exact code_zero ftP_zero hl
theorem ap_out (q : Qn) (R : Nat → Int) (bs : List UInt8) (d1 d2 : Nat) (x y l : List UInt8) (cc : Nat) (h1 : adF q R = d1) (h2 : adT q R = d2) (hl1 : q.l1 = 7) (hl2 : q.l2 = 7) (b1 : d1 + 8 ≤ 2048) (b2 : d2 + 8 ≤ 2048) (hx : E.subL bs d1 8 = x) (hy : E.subL bs d2 8 = y) (ha : addL x y = (l, cc, 0)) (hl : l.length = 8) : apO q R (⟨0, 0, false, false, false, 0, 0, 0, 0, 0⟩ : Psw) 2048 bs (List.replicate 1 0) = .go R { (⟨0, 0, false, false, false, 0, 0, 0, 0, 0⟩ : Psw) with cc := cc } 0 (E.putL bs d1 l) := by
  have e1 : cX q R (⟨0, 0, false, false, false, 0, 0, 0, 0, 0⟩ : Psw) 2048 (List.replicate 1 0) = 0 := by
    unfold cX ftC
    rw [h1, hl1]
    exact code_zero ftP_zero b1
  have e2 : cY q R (⟨0, 0, false, false, false, 0, 0, 0, 0, 0⟩ : Psw) 2048 (List.replicate 1 0) = 0 := by
    unfold cY ftC
    rw [h2, hl2]
    exact code_zero ftP_zero b2
  unfold apO cXY opX opY
  rw [e1, if_pos rfl, e2, thenO_go _ rfl, h1, h2, hl1, hl2, hx, hy, ha]
  unfold becO putO stC
  rw [h1, show enC ((0 : Nat) : Int) = 0 from rfl, thenO_go _ rfl, hl, thenO_go]
  · rfl
  · exact code_zero stP_zero b1
theorem runs_250' (q : Qn) (R : Nat → Int) (p : Psw) (n : Nat) (bs ks : List UInt8) (hR : RegOk R) (hq : QOk q) (hop : q.op = 250) (o : Out) (ho : apO q R p n bs ks = o) : Runs q R p n bs ks o := ho ▸ runs_250 q R p n bs ks hR hq hop
theorem runs_78' (q : Qn) (R : Nat → Int) (p : Psw) (n : Nat) (bs ks : List UInt8) (hR : RegOk R) (hq : QOk q) (hop : q.op = 78) (o : Out) (ho : cvdO q R p n bs ks = o) : Runs q R p n bs ks o := ho ▸ runs_78 q R p n bs ks hR hq hop
theorem runs_79' (q : Qn) (R : Nat → Int) (p : Psw) (n : Nat) (bs ks : List UInt8) (hR : RegOk R) (hq : QOk q) (hop : q.op = 79) (o : Out) (ho : cvbO q R p n bs ks = o) : Runs q R p n bs ks o := ho ▸ runs_79 q R p n bs ks hR hq hop
theorem cvd_any (i d : Int) (w : World) : Calls Tryz.prog 25 #[.int .i64 i, .int .i64 d] w (New w (.agg #[.int .i64 78, .int .i64 2, .int .i64 i, .int .i64 0, .int .i64 0, .int .i64 0, .int .i64 0, .int .i64 0, .int .i64 d, .int .i64 0, .int .i64 0, .int .i64 0])) := by
  go_enter Tryz.func25, Tryz.ntmps25
  go_wp2
  refine bodyPost_ret (results_cell_row rfl _ _ w.heap.size _ _ _ _ rfl (heap_alloc_new w _) Tryz.underlying25 rfl (by kernel_rfl)) rfl ?_
  exact ⟨rfl, below_new _ _⟩
theorem cvb_any (i d : Int) (w : World) : Calls Tryz.prog 26 #[.int .i64 i, .int .i64 d] w (New w (.agg #[.int .i64 79, .int .i64 2, .int .i64 i, .int .i64 0, .int .i64 0, .int .i64 0, .int .i64 0, .int .i64 0, .int .i64 d, .int .i64 0, .int .i64 0, .int .i64 0])) := by
  go_enter Tryz.func26, Tryz.ntmps26
  go_wp2
  refine bodyPost_ret (results_cell_row rfl _ _ w.heap.size _ _ _ _ rfl (heap_alloc_new w _) Tryz.underlying25 rfl (by kernel_rfl)) rfl ?_
  exact ⟨rfl, below_new _ _⟩

end M
end Go.Proofs.YtbcncohjjnmdcaaGreatDoor

/- One magnitude is less than another: texts of digits are compared. -/
import Derived.Test.YtlpekknhaaddcaaDoorDcSv
namespace Go.Proofs.YtlpekknhaaddcaaDoor
open Go.RowKit Go.Shelf
set_option linter.unusedVariables false
namespace E

theorem chV_cons (c : UInt8) (l : List UInt8) : chV (c :: l) = (dgt c).val * 10 ^ l.length + chV l := by
  unfold chV fg
  rw [List.map_cons, List.reverse_cons, val_snoc, List.length_reverse, List.length_map, Nat.mul_comm, Nat.add_comm]
theorem chV_all {l : List UInt8} (h : l.all isD = true) : chV l < 10 ^ l.length := chV_lt l fun j hj => by
  have hm : gt l j ∈ l := by
    unfold gt
    rw [List.getD_eq_getElem?_getD, List.getElem?_eq_getElem hj]
    exact List.getElem_mem hj
  exact List.all_eq_true.1 h _ hm
theorem bl_of (l : List UInt8) : ∀ m : List UInt8, l.length = m.length → l.all isD = true → m.all isD = true → chV l < chV m → Op.bytesLess l m = true := by
  induction l with
  | nil =>
    intro m hm _ _ h
    obtain rfl : m = [] := List.length_eq_zero_iff.1 hm.symm
    omega
  | cons a l ih =>
    intro m hm h1 h2 h
    cases m with
    | nil => simp at hm
    | cons b m =>
      have hlen : l.length = m.length := by simpa using hm
      simp only [List.all_cons, Bool.and_eq_true] at h1 h2
      have e1 := chV_all h1.2
      have e2 := chV_all h2.2
      rw [chV_cons, chV_cons, hlen] at h
      rw [hlen] at e1
      have d1 := dgt_nat ((isD_iff a).1 h1.1)
      have d2 := dgt_nat ((isD_iff b).1 h2.1)
      have g1 := (isD_iff a).1 h1.1
      have g2 := (isD_iff b).1 h2.1
      simp only [Op.bytesLess, Bool.or_eq_true, Bool.and_eq_true, decide_eq_true_eq, beq_iff_eq]
      generalize 10 ^ m.length = B at *
      rcases Nat.lt_trichotomy a.toNat b.toNat with hab | hab | hab
      · left
        exact UInt8.lt_iff_toNat_lt.2 hab
      · right
        have hd : (dgt a).val = (dgt b).val := by omega
        rw [hd] at h
        exact ⟨UInt8.toNat_inj.1 hab, ih m hlen h1.2 h2.2 (by omega)⟩
      · exfalso
        have hd : (dgt b).val + 1 ≤ (dgt a).val := by omega
        have := Nat.mul_le_mul_right B hd
        rw [Nat.add_mul, Nat.one_mul] at this
        omega
theorem okL_all {l : List UInt8} (h : okL l = true) : l.all isD = true := by
  unfold okL at h
  exact (Bool.and_eq_true _ _ ▸ h).2
theorem longer {l m : List UInt8} (hl : okL l = true) (hm : okL m = true) (h : m.length < l.length) : chV m < chV l := by
  have e1 := chV_all (okL_all hm)
  obtain ⟨⟨_, _, h0⟩, hd⟩ := (okL_iff l).1 hl
  obtain ⟨⟨h1, _, _⟩, _⟩ := (okL_iff m).1 hm
  cases l with
  | nil => simp at h
  | cons a l =>
    have ha : a ≠ 48 := h0 (by omega)
    have hd0 := (isD_iff a).1 (hd 0 (by simp))
    have d1 := dgt_nat hd0
    have hne : a.toNat ≠ 48 := fun e => ha (UInt8.toNat_inj.1 e)
    have h3 : m.length ≤ l.length := by simp at h; omega
    have h4 := Nat.pow_le_pow_right (n := 10) (by omega) h3
    have h5 : 1 ≤ (dgt a).val := by omega
    have h6 := Nat.mul_le_mul_right (10 ^ l.length) h5
    rw [Nat.one_mul] at h6
    rw [chV_cons]
    omega
theorem less_cases {l m : List UInt8} (hl : okL l = true) (hm : okL m = true) (h : chV l < chV m) : l.length < m.length ∨ (l.length = m.length ∧ Op.bytesLess l m = true) := by
  rcases Nat.lt_trichotomy l.length m.length with h1 | h1 | h1
  · exact .inl h1
  · exact .inr ⟨h1, bl_of l m h1 (okL_all hl) (okL_all hm) h⟩
  · have := longer hl hm h1
    omega
theorem decP (p : Option Addr) (c n : Nat) (bs : List UInt8) (hn : bs.length = n) (w : World) (hr : Rd w p bs) :
    Calls Tryd.prog 61 #[.slice p n c] w fun e w' => e = .returned (.tuple #[.agg #[.bool (dNeg bs), .string ⟨(dDig bs).toArray⟩], .bool (dOk bs)]) ∧ Below w.heap.size w w' := by
  subst hn
  exact rdecode_any p c bs w hr
set_option maxRecDepth 100000 in
set_option maxHeartbeats 4000000 in
theorem less_walk (p q : Option Addr) (c d : Nat) (la lb L M : List UInt8) (na nb oa ob : Bool) (w : World) (HR : RowKit.Hid (Rd w p la)) (HQ : RowKit.Hid (Rd w q lb))
    (HA : RowKit.Hid (∀ W, Rd W p la → Calls Tryd.prog 61 #[.slice p la.length c] W fun e w' => e = .returned (.tuple #[.agg #[.bool na, .string ⟨L.toArray⟩], .bool oa]) ∧ Below W.heap.size W w'))
    (HB : RowKit.Hid (∀ W, Rd W q lb → Calls Tryd.prog 61 #[.slice q lb.length d] W fun e w' => e = .returned (.tuple #[.agg #[.bool nb, .string ⟨M.toArray⟩], .bool ob]) ∧ Below W.heap.size W w'))
    (h : L.length < M.length ∨ (L.length = M.length ∧ Op.bytesLess L M = true)) :
    Calls Tryd.prog 34 #[.slice p la.length c, .slice q lb.length d] w (New w (.bool true)) := by
  have hL : (ByteArray.mk L.toArray).size = L.length := by simp [ByteArray.size]
  have hM : (ByteArray.mk M.toArray).size = M.length := by simp [ByteArray.size]
  have hbl : Op.bytesLess (ByteArray.mk L.toArray).toList (ByteArray.mk M.toArray).toList = Op.bytesLess L M := by rw [ByteArray.toList_mk, ByteArray.toList_mk]
  have key : (ByteArray.mk L.toArray).size < (ByteArray.mk M.toArray).size ∨ ((ByteArray.mk L.toArray).size = (ByteArray.mk M.toArray).size ∧ Op.bytesLess (ByteArray.mk L.toArray).toList (ByteArray.mk M.toArray).toList = true) := by
    rw [hL, hM, hbl]
    exact h
  clear hL hM hbl h
  generalize (ByteArray.mk L.toArray) = S at *
  generalize (ByteArray.mk M.toArray) = T at *
  go_enter Tryd.func34, Tryd.ntmps34
  go_wp2_with fail
  refine (HA.out w HR.out).mono ?_
  rintro e w1 ⟨rfl, hb⟩
  have hc := cell2_new w1 (.bool na) (.string S) 78
  have HB1 := Lib.hid (bel0 hb (below_new w1 (.cells #[.bool na, .string S] 78)))
  have HC1 := Lib.hid hc
  clear hc hb
  go_wp2_with fail
  refine (HB.out _ (HQ.out.below HB1.out)).mono ?_
  rintro e w2 ⟨rfl, hb⟩
  have hc1 : w2.cell? ⟨w1.heap.size, 1, none⟩ = some (.string S) := keepC HC1.out.2 hb
  have hd := cell2_new w2 (.bool nb) (.string T) 78
  have hbl := below_new w2 (.cells #[.bool nb, .string T] 78)
  have hc2 : (w2.alloc (.cells #[.bool nb, .string T] 78)).cell? ⟨w1.heap.size, 1, none⟩ = some (.string S) := keepC hc1 hbl
  have HB2 := Lib.hid (bel0 (bel0 HB1.out hb) hbl)
  have hd2 := hd.2
  clear hb hbl hd hc1 HC1
  rcases key with key | ⟨k1, k2⟩
  · go_wp2
    go_ret
    exact ⟨rfl, HB2.out⟩
  · go_wp2
    go_ret
    exact ⟨rfl, HB2.out⟩
theorem less_any (p q : Option Addr) (c d : Nat) (la lb : List UInt8) (w : World) (hr : Rd w p la) (hq : Rd w q lb) (oa : dOk la = true) (ob : dOk lb = true) (h : dVal la < dVal lb) :
    Calls Tryd.prog 34 #[.slice p la.length c, .slice q lb.length d] w (New w (.bool true)) :=
  less_walk p q c d la lb (dDig la) (dDig lb) (dNeg la) (dNeg lb) (dOk la) (dOk lb) w (Lib.hid hr) (Lib.hid hq) (Lib.hid fun W h => decP p c _ la rfl W h) (Lib.hid fun W h => decP q d _ lb rfl W h) (less_cases (dDig_ok la oa) (dDig_ok lb ob) h)

end E
end Go.Proofs.YtlpekknhaaddcaaDoor

/- What a decimal instruction may change. -/
import Derived.Test.YtbcncohjjnmdcaaGreatDoorRows
import Derived.Test.YtbcncohjjnmdcaaGreatDoorDpAll
import Derived.Test.YtbcncohjjnmdcaaGreatDoorEdB
namespace Go.Proofs.YtbcncohjjnmdcaaGreatDoor
namespace E
end E
open Go.RowKit Go.Shelf E
set_option linter.unusedVariables false
namespace M

/-- The bytes that an instruction may change. -/
def frN (q : Qn) (R : Nat → Int) : Nat := if q.op = 78 then adT q R else adF q R
def toN (q : Qn) (R : Nat → Int) : Nat := if q.op = 79 ∨ q.op = 249 then frN q R else if q.op = 78 then adT q R + 8 else adF q R + (q.l1 + 1)
def FpD (p p' : Psw) : Prop := (p'.m = p.m ∧ p'.k = p.k ∧ p'.ma = p.ma ∧ p'.wa = p.wa ∧ p'.pr = p.pr ∧ p'.co = p.co ∧ p'.il = p.il ∧ p'.pg = p.pg ∧ p'.ad = p.ad) ∧ 0 ≤ p'.cc ∧ p'.cc ≤ 3
def FbD (lo hi : Nat) (p : Psw) (bs ks bs' : List UInt8) : Prop := bs'.length = bs.length ∧ ∀ j, gt bs' j ≠ gt bs j → (lo ≤ j ∧ j < hi) ∧ stP p.k (gt ks (j / 2048)) = true
def FrD (q : Qn) (R R' : Nat → Int) : Prop := RegOk R' ∧ (q.op = 79 → ∀ i, i ≠ q.r1 → R' i = R i) ∧ (q.op = 223 → (∀ i, i ≠ 1 → R' i = R i) ∧ R' 1 / 16777216 = R 1 / 16777216) ∧ (q.op ≠ 79 → q.op ≠ 223 → R' = R)
def FineD (q : Qn) (R : Nat → Int) (p : Psw) (bs ks : List UInt8) : Out → Prop
  | .stop _ => True
  | .go R' p' c bs' => (c = 0 ∨ c = 10) ∧ FpD p p' ∧ FbD (frN q R) (toN q R) p bs ks bs' ∧ FrD q R R'
theorem fine_then {q : Qn} {R : Nat → Int} {p : Psw} {bs ks : List UInt8} {C : Int} {o : Out} (h : C = 0 → FineD q R p bs ks o) : FineD q R p bs ks (thenO C o) := by
  by_cases hC : C = 0
  · rw [thenO_go _ hC]; exact h hC
  · rw [thenO_stop _ hC]; exact trivial
theorem fpd_same {p : Psw} (h : 0 ≤ p.cc ∧ p.cc ≤ 3) : FpD p p := ⟨⟨rfl, rfl, rfl, rfl, rfl, rfl, rfl, rfl, rfl⟩, h⟩
theorem fpd_cc (p : Psw) (v : Nat) (h : v ≤ 3) : FpD p { p with cc := (v : Int) } := ⟨⟨rfl, rfl, rfl, rfl, rfl, rfl, rfl, rfl, rfl⟩, by show 0 ≤ (v : Int) ∧ (v : Int) ≤ 3; omega⟩
theorem fbd_same {lo hi : Nat} {p : Psw} {bs ks : List UInt8} : FbD lo hi p bs ks bs := ⟨rfl, fun j h => absurd rfl h⟩
theorem fbd_put {lo hi : Nat} {p : Psw} {n : Nat} {bs ks : List UInt8} (hl : bs.length = n) {a : Nat} {b : List UInt8} (hc : stC p n ks a b.length = 0) (h1 : lo ≤ a) (h2 : a + b.length ≤ hi) : FbD lo hi p bs ks (putL bs a b) := by
  unfold stC at hc
  obtain ⟨i1, i2, i3⟩ := inB_iff.1 (codeV_in hc)
  refine ⟨putL_len (by omega), fun j hj => ?_⟩
  rw [gt_putL (by omega)] at hj
  by_cases hin : a ≤ j ∧ j < a + b.length
  · refine ⟨by omega, ?_⟩
    unfold codeV at hc
    rw [if_pos (codeV_in (p := stP p.k) (ks := ks) (by unfold codeV; exact hc))] at hc
    by_cases ha : allB (stP p.k) ks ((a : Int)).toNat ((b.length : Int)).toNat = true
    · unfold allB at ha
      rw [List.all_eq_true] at ha
      have := ha (j - a) (List.mem_range.2 (by omega))
      rwa [show ((a : Int)).toNat + (j - a) = j by omega] at this
    · rw [if_neg ha] at hc
      exact absurd hc (by decide)
  · rw [if_neg hin] at hj
    exact absurd rfl hj
theorem fine_put {q : Qn} {R R' : Nat → Int} {p p' : Psw} {n : Nat} {bs ks : List UInt8} {a : Nat} {c : Int} {b : List UInt8} (hl : bs.length = n) (hc : c = 0 ∨ c = 10) (hp : FpD p p') (hr : FrD q R R') (h1 : frN q R ≤ a) (h2 : a + b.length ≤ toN q R) : FineD q R p bs ks (putO p n bs ks a R' p' c b) :=
  fine_then fun h0 => ⟨hc, hp, fbd_put hl h0 h1 h2, hr⟩
theorem frd_same {q : Qn} {R : Nat → Int} (hR : RegOk R) : FrD q R R := ⟨hR, fun _ _ _ => rfl, fun _ => ⟨fun _ _ => rfl, rfl⟩, fun _ _ => rfl⟩
theorem fr_f {q : Qn} {R : Nat → Int} (h : q.op ≠ 78) : frN q R = adF q R := if_neg h
theorem to_f {q : Qn} {R : Nat → Int} (h : q.op ≠ 78) (h2 : ¬ (q.op = 79 ∨ q.op = 249)) : toN q R = adF q R + (q.l1 + 1) := by unfold toN; rw [if_neg h2, if_neg h]
theorem ov_or (p : Psw) (c : Int) : ovC p c = 0 ∨ ovC p c = 10 := by
  unfold ovC
  split
  · exact .inr rfl
  · exact .inl rfl
theorem fine_bec {q : Qn} {R : Nat → Int} {p : Psw} {n : Nat} {bs ks : List UInt8} {l : List UInt8} {cc : Nat} {c : Int} (hR : RegOk R) (hl : bs.length = n) (h : q.op ≠ 78) (h2 : ¬ (q.op = 79 ∨ q.op = 249)) (hc : cc ≤ 3) (hb : l.length ≤ q.l1 + 1) : FineD q R p bs ks (becO q R p n bs ks l (cc : Int) c) :=
  fine_then fun _ => fine_put hl (ov_or p c) (fpd_cc p cc hc) (frd_same hR) (by rw [fr_f h]; exact Nat.le_refl _) (by rw [to_f h h2]; omega)
theorem sub_le (bs : List UInt8) (a k : Nat) : (subL bs a k).length ≤ k := by
  unfold subL
  rw [List.length_take]
  omega
theorem opX_le (q : Qn) (R : Nat → Int) (bs : List UInt8) : (opX q R bs).length ≤ q.l1 + 1 := sub_le _ _ _
theorem cond_le (neg : Bool) (x : Nat) : condN neg x ≤ 3 := by
  unfold condN
  split
  · omega
  · split <;> omega
theorem res_le (neg : Bool) (v n : Nat) : (resS neg v n).1.length = n ∧ (resS neg v n).2.1 ≤ 3 := by
  unfold resS
  refine ⟨fldL_len _ _ _, ?_⟩
  show (if ovB v n then 3 else condN (if v = 0 then false else neg) v) ≤ 3
  split
  · omega
  · exact cond_le _ _
theorem add_le (a b : List UInt8) : (addL a b).1.length ≤ a.length ∧ (addL a b).2.1 ≤ 3 := by
  unfold addL
  split
  · exact ⟨Nat.le_of_eq (res_le _ _ _).1, (res_le _ _ _).2⟩
  · exact ⟨Nat.zero_le _, Nat.zero_le _⟩
theorem sub_le4 (a b : List UInt8) : (subL4 a b).1.length ≤ a.length ∧ (subL4 a b).2.1 ≤ 3 := by
  unfold subL4
  split
  · exact ⟨Nat.le_of_eq (res_le _ _ _).1, (res_le _ _ _).2⟩
  · exact ⟨Nat.zero_le _, Nat.zero_le _⟩
theorem zap_le (n : Nat) (b : List UInt8) : (zapL (n : Int) b).1.length ≤ n ∧ (zapL (n : Int) b).2.1 ≤ 3 := by
  unfold zapL
  split
  · split
    · exact ⟨Nat.le_of_eq ((res_le _ _ _).1.trans (Int.toNat_natCast n)), (res_le _ _ _).2⟩
    · exact ⟨Nat.zero_le _, Nat.zero_le _⟩
  · exact ⟨Nat.zero_le _, Nat.zero_le _⟩
theorem sh_le (a : List UInt8) (n r : Int) : (shL a n r).1.length ≤ a.length ∧ (shL a n r).2.1 ≤ 3 := by
  unfold shL
  split
  · exact ⟨Nat.zero_le _, Nat.zero_le _⟩
  · split
    · exact ⟨Nat.zero_le _, Nat.zero_le _⟩
    · exact ⟨Nat.le_of_eq (res_le _ _ _).1, (res_le _ _ _).2⟩
theorem mul_le (a b : List UInt8) : (mulL a b).1.length ≤ a.length := by
  unfold mulL
  split
  · exact Nat.le_of_eq (fldL_len _ _ _)
  · exact Nat.zero_le _
theorem cmp_le (a b : List UInt8) : (cmpL a b).1 ≤ 3 := by
  unfold cmpL
  split
  · exact cond_le _ _
  · exact Nat.zero_le _
theorem mvl_le (ok : Bool) (l : List UInt8) (n : Nat) (h : l.length = n) : (mvL ok l).length ≤ n := by
  unfold mvL
  split
  · omega
  · exact Nat.zero_le _
theorem fine_78 (q : Qn) (R : Nat → Int) (p : Psw) (n : Nat) (bs ks : List UInt8) (hR : RegOk R) (hq : QOk q) (hcc : 0 ≤ p.cc ∧ p.cc ≤ 3) (hl : bs.length = n) (hop : q.op = 78) : FineD q R p bs ks (cvdO q R p n bs ks) := fine_then fun _ => fine_put hl (.inl rfl) (fpd_same hcc) (frd_same hR) (by unfold frN; rw [if_pos hop]; exact Nat.le_refl _) (by unfold toN; rw [if_neg (by omega), if_pos hop, fbL_len]; exact Nat.le_refl _)
theorem tb_bd (l : List UInt8) : 0 ≤ (tbL l).1 ∧ (tbL l).1 < 4294967296 := by
  unfold tbL
  split
  · exact ⟨Int.le_refl _, by show (0 : Int) < 4294967296; decide⟩
  · split
    · exact ⟨Int.le_refl _, by show (0 : Int) < 4294967296; decide⟩
    · exact ⟨by show 0 ≤ tbV l % 4294967296; omega, by show tbV l % 4294967296 < 4294967296; omega⟩
theorem fine_79 (q : Qn) (R : Nat → Int) (p : Psw) (n : Nat) (bs ks : List UInt8) (hR : RegOk R) (hq : QOk q) (hcc : 0 ≤ p.cc ∧ p.cc ≤ 3) (hl : bs.length = n) (hop : q.op = 79) : FineD q R p bs ks (cvbO q R p n bs ks) := fine_then fun _ => fine_then fun _ => fine_then fun _ => ⟨.inl rfl, fpd_same hcc, fbd_same, hR.upd (tb_bd _).1 (tb_bd _).2, fun _ i hi => upd_ne _ _ hi, fun h => by omega, fun h => absurd hop h⟩
theorem fine_250 (q : Qn) (R : Nat → Int) (p : Psw) (n : Nat) (bs ks : List UInt8) (hR : RegOk R) (hq : QOk q) (hcc : 0 ≤ p.cc ∧ p.cc ≤ 3) (hl : bs.length = n) (hop : q.op = 250) : FineD q R p bs ks (apO q R p n bs ks) := by
  have h := add_le (opX q R bs) (opY q R bs)
  have h2 := opX_le q R bs
  exact fine_then fun _ => fine_bec hR hl (by omega) (by omega) h.2 (by omega)
theorem fine_251 (q : Qn) (R : Nat → Int) (p : Psw) (n : Nat) (bs ks : List UInt8) (hR : RegOk R) (hq : QOk q) (hcc : 0 ≤ p.cc ∧ p.cc ≤ 3) (hl : bs.length = n) (hop : q.op = 251) : FineD q R p bs ks (spO q R p n bs ks) := by
  have h := sub_le4 (opX q R bs) (opY q R bs)
  have h2 := opX_le q R bs
  exact fine_then fun _ => fine_bec hR hl (by omega) (by omega) h.2 (by omega)
theorem fine_248 (q : Qn) (R : Nat → Int) (p : Psw) (n : Nat) (bs ks : List UInt8) (hR : RegOk R) (hq : QOk q) (hcc : 0 ≤ p.cc ∧ p.cc ≤ 3) (hl : bs.length = n) (hop : q.op = 248) : FineD q R p bs ks (zapO q R p n bs ks) := by
  have h := zap_le (q.l1 + 1) (opY q R bs)
  exact fine_then fun _ => fine_bec hR hl (by omega) (by omega) h.2 h.1
theorem fine_240 (q : Qn) (R : Nat → Int) (p : Psw) (n : Nat) (bs ks : List UInt8) (hR : RegOk R) (hq : QOk q) (hcc : 0 ≤ p.cc ∧ p.cc ≤ 3) (hl : bs.length = n) (hop : q.op = 240) : FineD q R p bs ks (srpO q R p n bs ks) := by
  have h := sh_le (opX q R bs) (plN q R) (q.l2 : Int)
  have h2 := opX_le q R bs
  exact fine_then fun _ => fine_bec hR hl (by omega) (by omega) h.2 (Nat.le_trans h.1 h2)
theorem fine_249 (q : Qn) (R : Nat → Int) (p : Psw) (n : Nat) (bs ks : List UInt8) (hR : RegOk R) (hq : QOk q) (hcc : 0 ≤ p.cc ∧ p.cc ≤ 3) (hl : bs.length = n) (hop : q.op = 249) : FineD q R p bs ks (cmpO q R p n bs ks) := fine_then fun _ => fine_then fun _ => ⟨.inl rfl, fpd_cc p _ (cmp_le _ _), fbd_same, frd_same hR⟩
theorem fine_242 (q : Qn) (R : Nat → Int) (p : Psw) (n : Nat) (bs ks : List UInt8) (hR : RegOk R) (hq : QOk q) (hcc : 0 ≤ p.cc ∧ p.cc ≤ 3) (hl : bs.length = n) (hop : q.op = 242) : FineD q R p bs ks (pkO q R p n bs ks) := by
  have h : (pkR q R bs).length ≤ q.l1 + 1 := mvl_le _ _ _ (packL_len _ _)
  exact fine_then fun _ => fine_put hl (.inl rfl) (fpd_same hcc) (frd_same hR) (by rw [fr_f (by omega)]; exact Nat.le_refl _) (by rw [to_f (by omega) (by omega)]; have := h; omega)
theorem fine_243 (q : Qn) (R : Nat → Int) (p : Psw) (n : Nat) (bs ks : List UInt8) (hR : RegOk R) (hq : QOk q) (hcc : 0 ≤ p.cc ∧ p.cc ≤ 3) (hl : bs.length = n) (hop : q.op = 243) : FineD q R p bs ks (unO q R p n bs ks) := by
  have h : (unR q R bs).length ≤ q.l1 + 1 := mvl_le _ _ _ (unpackL_len _ _)
  exact fine_then fun _ => fine_put hl (.inl rfl) (fpd_same hcc) (frd_same hR) (by rw [fr_f (by omega)]; exact Nat.le_refl _) (by rw [to_f (by omega) (by omega)]; have := h; omega)
theorem fine_241 (q : Qn) (R : Nat → Int) (p : Psw) (n : Nat) (bs ks : List UInt8) (hR : RegOk R) (hq : QOk q) (hcc : 0 ≤ p.cc ∧ p.cc ≤ 3) (hl : bs.length = n) (hop : q.op = 241) : FineD q R p bs ks (mvoO q R p n bs ks) := by
  have h : (mvoR q R bs).length ≤ (opX q R bs).length := mvl_le _ _ _ (offL_len _ _)
  have h2 := opX_le q R bs
  exact fine_then fun _ => fine_put hl (.inl rfl) (fpd_same hcc) (frd_same hR) (by rw [fr_f (by omega)]; exact Nat.le_refl _) (by rw [to_f (by omega) (by omega)]; have := h; omega)
theorem fine_252 (q : Qn) (R : Nat → Int) (p : Psw) (n : Nat) (bs ks : List UInt8) (hR : RegOk R) (hq : QOk q) (hcc : 0 ≤ p.cc ∧ p.cc ≤ 3) (hl : bs.length = n) (hop : q.op = 252) : FineD q R p bs ks (mpO q R p n bs ks) := by
  have h : (mpR q R bs).1.length ≤ (opX q R bs).length := mul_le _ _
  have h2 := opX_le q R bs
  exact fine_then fun _ => fine_then fun _ => fine_put hl (.inl rfl) (fpd_same hcc) (frd_same hR) (by rw [fr_f (by omega)]; exact Nat.le_refl _) (by rw [to_f (by omega) (by omega)]; have := h; omega)
theorem div_le (a b : List UInt8) : (divL a b).1.length ≤ a.length ∨ (divL a b).2 ≠ 0 := by
  unfold divL
  by_cases h : divC a b = 0
  · rw [if_pos h]
    by_cases h2 : b.length ≤ a.length
    · refine .inl ?_
      show (fldL _ _ _ ++ fldL _ _ _).length ≤ _
      rw [List.length_append, fldL_len, fldL_len]
      omega
    · exfalso
      unfold divC at h
      split at h
      · omega
      · omega
  · rw [if_neg h]
    exact .inr h
theorem fine_253 (q : Qn) (R : Nat → Int) (p : Psw) (n : Nat) (bs ks : List UInt8) (hR : RegOk R) (hq : QOk q) (hcc : 0 ≤ p.cc ∧ p.cc ≤ 3) (hl : bs.length = n) (hop : q.op = 253) : FineD q R p bs ks (dpO q R p n bs ks) := by
  have h2 := opX_le q R bs
  refine fine_then fun _ => fine_then fun hz => ?_
  rcases div_le (opX q R bs) (opY q R bs) with h | h
  · have h3 : (dpR q R bs).1.length ≤ (opX q R bs).length := h
    exact fine_put hl (.inl rfl) (fpd_same hcc) (frd_same hR) (by rw [fr_f (by omega)]; exact Nat.le_refl _) (by rw [to_f (by omega) (by omega)]; have := h3; omega)
  · exact absurd (show (divL (opX q R bs) (opY q R bs)).2 = 0 by have h4 : (((divL (opX q R bs) (opY q R bs)).2 : Nat) : Int) = 0 := hz; omega) h
theorem ed_cases (q : Qn) (R : Nat → Int) (p : Psw) (n : Nat) (bs ks : List UInt8) : (edRR q R p n bs ks).1.length ≤ (opX q R bs).length ∧ (edRR q R p n bs ks).2.1 ≤ 3 ∧ ((edRR q R p n bs ks).2.2.1 = -1 ∨ (edRR q R p n bs ks).2.2.1 = 0 ∨ (0 ≤ (edRR q R p n bs ks).2.2.1 ∧ (edRR q R p n bs ks).2.2.1 < ((edRR q R p n bs ks).1.length : Int))) := by
  unfold edRR
  rcases res_cases (opX q R bs) (srcL q R p n bs ks (opX q R bs).length) with ⟨h, _⟩ | ⟨c, hc, h, _⟩ | ⟨t, cc, mk, h, _, _, h3, h4, _, h5⟩
  · rw [h]
    exact ⟨Nat.zero_le _, Nat.zero_le _, .inr (.inl rfl)⟩
  · rw [h]
    exact ⟨Nat.zero_le _, Nat.zero_le _, .inr (.inl rfl)⟩
  · rw [h]
    refine ⟨Nat.le_of_eq h3, by show cc ≤ 3; omega, ?_⟩
    rcases h5 with h5 | ⟨j, h6, h7, _⟩
    · exact .inl h5
    · refine .inr (.inr ⟨?_, ?_⟩)
      · show 0 ≤ mk
        omega
      · show mk < (t.length : Int)
        omega
theorem fine_222 (q : Qn) (R : Nat → Int) (p : Psw) (n : Nat) (bs ks : List UInt8) (hR : RegOk R) (hq : QOk q) (hcc : 0 ≤ p.cc ∧ p.cc ≤ 3) (hl : bs.length = n) (hop : q.op = 222) : FineD q R p bs ks (edtO q R p n bs ks) := by
  have h := ed_cases q R p n bs ks
  have h2 := opX_le q R bs
  have h3 := Nat.le_trans h.1 h2
  exact fine_then fun _ => fine_then fun _ => fine_put hl (.inl rfl) (fpd_cc p _ h.2.1) (frd_same hR) (by rw [fr_f (by omega)]; exact Nat.le_refl _) (by rw [to_f (by omega) (by omega)]; omega)
theorem hi24_bits : ∀ i : Fin 32, Nat.testBit 4278190080 i.val = decide (24 ≤ i.val) := by decide
theorem and_high24 (v : Nat) (hv : v < 4294967296) : v &&& 4278190080 = v / 16777216 * 16777216 := by
  apply Nat.eq_of_testBit_eq
  intro i
  have e : v / 16777216 * 16777216 = (v >>> 24) <<< 24 := by rw [Nat.shiftRight_eq_div_pow, Nat.shiftLeft_eq]
  rw [e, Nat.testBit_and, Nat.testBit_shiftLeft, Nat.testBit_shiftRight]
  by_cases h32 : i < 32
  · have h := hi24_bits ⟨i, h32⟩
    change Nat.testBit 4278190080 i = decide (24 ≤ i) at h
    rw [h]
    by_cases h8 : 24 ≤ i
    · rw [show 24 + (i - 24) = i by omega]
      simp [h8]
    · simp [h8]
  · have h1 : v.testBit i = false := Nat.testBit_lt_two_pow (Nat.lt_of_lt_of_le hv (by
      have := Nat.pow_le_pow_right (n := 2) (by decide) (show 32 ≤ i by omega)
      omega))
    rw [show 24 + (i - 24) = i by omega, h1]
    simp
theorem or_low24 (a x : Nat) (hx : x < 16777216) : (a * 16777216) ||| x = a * 16777216 + x := by
  have := Nat.shiftLeft_add_eq_or_of_lt (show x < 2 ^ 24 by omega) a
  rw [Nat.shiftLeft_eq] at this
  exact this.symm
theorem or_u32 (y x : Nat) (hy : y < 4294967296) (hx : x < 4294967296) : bits .or .u32 (y : Int) (x : Int) = ((y ||| x : Nat) : Int) := by
  have a2 : y ||| x < 2 ^ 32 := Nat.or_lt_two_pow (by omega) (by omega)
  simp [bits, IntKind.bits, IntKind.signed, IntKind.wrap]
  change ((BitVec.ofNat 32 y ||| BitVec.ofNat 32 x).toNat : Int) % 4294967296 = ((y ||| x : Nat) : Int)
  rw [BitVec.toNat_or, BitVec.toNat_ofNat, BitVec.toNat_ofNat, Nat.mod_eq_of_lt (by omega), Nat.mod_eq_of_lt (by omega)]
  omega
theorem andNot24 (v : Nat) (hv : v < 4294967296) : bits .andNot .u32 (v : Int) 16777215 = ((v &&& 4278190080 : Nat) : Int) := by
  have h2 : v &&& 4278190080 < 2 ^ 32 := Nat.and_lt_two_pow v (by decide)
  have h3 : (4278190080#32).toNat = 4278190080 := by rw [BitVec.toNat_ofNat]
  simp [bits, IntKind.bits, IntKind.signed, IntKind.wrap]
  generalize 4278190080#32 = K at h3 ⊢
  change ((BitVec.ofNat 32 v &&& K).toNat : Int) % 4294967296 = _
  rw [BitVec.toNat_and, BitVec.toNat_ofNat, h3, Nat.mod_eq_of_lt (by omega)]
  omega
theorem bits24 (v x : Nat) (hv : v < 4294967296) (hx : x < 16777216) : bits .or .u32 (bits .andNot .u32 (v : Int) 16777215) (x : Int) = ((v / 16777216 * 16777216 + x : Nat) : Int) := by
  rw [andNot24 v hv, and_high24 v hv, or_u32 _ x (by omega) (by omega), or_low24 _ x hx]
theorem mk_bd {q : Qn} {R : Nat → Int} {mk : Int} (hR : RegOk R) (h0 : 0 ≤ mk) (h1 : (adF q R : Int) + mk < 16777216) : 0 ≤ mkV q R mk ∧ mkV q R mk < 4294967296 ∧ mkV q R mk / 16777216 = R 1 / 16777216 := by
  obtain ⟨v, hv⟩ := Int.eq_ofNat_of_zero_le (hR 1).1
  obtain ⟨m, rfl⟩ := Int.eq_ofNat_of_zero_le h0
  have hb := (hR 1).2
  have hw : wrap64 ((adF q R : Int) + (m : Int)) % 4294967296 = ((adF q R + m : Nat) : Int) := by
    unfold wrap64
    omega
  unfold mkV
  rw [hw, hv]
  rw [bits24 v (adF q R + m) (by omega) (by omega)]
  omega
theorem frd_edm {q : Qn} {R : Nat → Int} {mk : Int} (hR : RegOk R) (hop : q.op = 223) (h : mk = -1 ∨ (0 ≤ mk ∧ (adF q R : Int) + mk < 16777216)) : FrD q R (edmR q R mk) := by
  unfold edmR
  by_cases h0 : 0 ≤ mk
  · rw [if_pos h0]
    have hb := mk_bd (q := q) hR h0 (by omega)
    exact ⟨hR.upd hb.1 hb.2.1, fun h => by omega, fun _ => ⟨fun i hi => upd_ne _ _ hi, by rw [upd_same]; exact hb.2.2⟩, fun _ h => absurd hop h⟩
  · rw [if_neg h0]
    exact frd_same hR
theorem fine_223 (q : Qn) (R : Nat → Int) (p : Psw) (n : Nat) (bs ks : List UInt8) (hR : RegOk R) (hq : QOk q) (hcc : 0 ≤ p.cc ∧ p.cc ≤ 3) (hl : bs.length = n) (hop : q.op = 223) (hn : n ≤ 16777216) : FineD q R p bs ks (edmO q R p n bs ks) := by
  have h := ed_cases q R p n bs ks
  have h2 := opX_le q R bs
  have h3 := Nat.le_trans h.1 h2
  have hF := adF_lt q R
  unfold edmO edtO
  by_cases c1 : cX q R p n ks = 0
  · rw [thenO_go _ c1]
    by_cases c2 : edC q R p n bs ks = 0
    · rw [thenO_go _ c2]
      unfold putO
      by_cases c3 : stC p n ks (adF q R) (edRR q R p n bs ks).1.length = 0
      · rw [thenO_go _ c3]
        have hin := inB_iff.1 (codeV_in (show codeV (stP p.k) n ks (adF q R : Int) ((edRR q R p n bs ks).1.length : Int) = 0 from c3))
        exact ⟨.inl rfl, fpd_cc p _ h.2.1, fbd_put hl c3 (by rw [fr_f (by omega)]; exact Nat.le_refl _) (by rw [to_f (by omega) (by omega)]; omega), frd_edm hR hop (by omega)⟩
      · rw [thenO_stop _ c3]
        exact trivial
    · rw [thenO_stop _ c2]
      exact trivial
  · rw [thenO_stop _ c1]
    exact trivial
theorem fine_any (q : Qn) (R : Nat → Int) (p : Psw) (n : Nat) (bs ks : List UInt8) (hR : RegOk R) (hq : QOk q) (hcc : 0 ≤ p.cc ∧ p.cc ≤ 3) (hl : bs.length = n) (hn : n ≤ 16777216) (hop : q.op = 78 ∨ q.op = 79 ∨ q.op = 222 ∨ q.op = 223 ∨ q.op = 240 ∨ q.op = 241 ∨ q.op = 242 ∨ q.op = 243 ∨ q.op = 248 ∨ q.op = 249 ∨ q.op = 250 ∨ q.op = 251 ∨ q.op = 252 ∨ q.op = 253) : FineD q R p bs ks (dcO q R p n bs ks) := by
  unfold dcO
  rcases hop with h | h | h | h | h | h | h | h | h | h | h | h | h | h
  · rw [if_pos h]
    exact fine_78 q R p n bs ks hR hq hcc hl h
  · rw [if_neg (by omega), if_pos h]
    exact fine_79 q R p n bs ks hR hq hcc hl h
  · rw [if_neg (by omega), if_neg (by omega), if_pos h]
    exact fine_222 q R p n bs ks hR hq hcc hl h
  · rw [if_neg (by omega), if_neg (by omega), if_neg (by omega), if_pos h]
    exact fine_223 q R p n bs ks hR hq hcc hl h hn
  · rw [if_neg (by omega), if_neg (by omega), if_neg (by omega), if_neg (by omega), if_pos h]
    exact fine_240 q R p n bs ks hR hq hcc hl h
  · rw [if_neg (by omega), if_neg (by omega), if_neg (by omega), if_neg (by omega), if_neg (by omega), if_pos h]
    exact fine_241 q R p n bs ks hR hq hcc hl h
  · rw [if_neg (by omega), if_neg (by omega), if_neg (by omega), if_neg (by omega), if_neg (by omega), if_neg (by omega), if_pos h]
    exact fine_242 q R p n bs ks hR hq hcc hl h
  · rw [if_neg (by omega), if_neg (by omega), if_neg (by omega), if_neg (by omega), if_neg (by omega), if_neg (by omega), if_neg (by omega), if_pos h]
    exact fine_243 q R p n bs ks hR hq hcc hl h
  · rw [if_neg (by omega), if_neg (by omega), if_neg (by omega), if_neg (by omega), if_neg (by omega), if_neg (by omega), if_neg (by omega), if_neg (by omega), if_pos h]
    exact fine_248 q R p n bs ks hR hq hcc hl h
  · rw [if_neg (by omega), if_neg (by omega), if_neg (by omega), if_neg (by omega), if_neg (by omega), if_neg (by omega), if_neg (by omega), if_neg (by omega), if_neg (by omega), if_pos h]
    exact fine_249 q R p n bs ks hR hq hcc hl h
  · rw [if_neg (by omega), if_neg (by omega), if_neg (by omega), if_neg (by omega), if_neg (by omega), if_neg (by omega), if_neg (by omega), if_neg (by omega), if_neg (by omega), if_neg (by omega), if_pos h]
    exact fine_250 q R p n bs ks hR hq hcc hl h
  · rw [if_neg (by omega), if_neg (by omega), if_neg (by omega), if_neg (by omega), if_neg (by omega), if_neg (by omega), if_neg (by omega), if_neg (by omega), if_neg (by omega), if_neg (by omega), if_neg (by omega), if_pos h]
    exact fine_251 q R p n bs ks hR hq hcc hl h
  · rw [if_neg (by omega), if_neg (by omega), if_neg (by omega), if_neg (by omega), if_neg (by omega), if_neg (by omega), if_neg (by omega), if_neg (by omega), if_neg (by omega), if_neg (by omega), if_neg (by omega), if_neg (by omega), if_pos h]
    exact fine_252 q R p n bs ks hR hq hcc hl h
  · rw [if_neg (by omega), if_neg (by omega), if_neg (by omega), if_neg (by omega), if_neg (by omega), if_neg (by omega), if_neg (by omega), if_neg (by omega), if_neg (by omega), if_neg (by omega), if_neg (by omega), if_neg (by omega), if_neg (by omega), if_pos h]
    exact fine_253 q R p n bs ks hR hq hcc hl h

end M
end Go.Proofs.YtbcncohjjnmdcaaGreatDoor
namespace Go.Proofs.YtbcncohjjnmdcaaGreatDoor
namespace E
end E
open Go.RowKit Go.Shelf E
set_option linter.unusedVariables false
namespace M

/-- The fields of a valid instruction. -/
theorem ins_bd {Q : Ins} (hop : 0 ≤ Q.op ∧ Q.op < 256) (h : chkV Q = 0) : ∃ q : Qn, Q = q.ins ∧ QOk q := by
  have h1 : foB Q = true := by
    cases hf : foB Q with
    | true => rfl
    | false => unfold chkV at h; rw [hf] at h; cases h
  have h2 : okB8 (foO (ixC Q.op)) Q = true := by
    cases hf : okB8 (foO (ixC Q.op)) Q with
    | true => rfl
    | false => unfold chkV at h; rw [h1, hf] at h; cases h
  have h3 : Q.fo = (foO (ixC Q.op) : Int) := by
    unfold foB at h1
    simp only [Bool.and_eq_true, beq_iff_eq] at h1
    exact h1.2
  clear h h1
  generalize foO (ixC Q.op) = F at h2 h3
  have hb : (0 ≤ Q.r1 ∧ Q.r1 < 16) ∧ (0 ≤ Q.r2 ∧ Q.r2 < 16) ∧ (0 ≤ Q.x2 ∧ Q.x2 < 16) ∧ (0 ≤ Q.b1 ∧ Q.b1 < 16) ∧ (0 ≤ Q.d1 ∧ Q.d1 < 4096) ∧ (0 ≤ Q.b2 ∧ Q.b2 < 16) ∧ (0 ≤ Q.d2 ∧ Q.d2 < 4096) ∧ (0 ≤ Q.l1 ∧ Q.l1 < 256) ∧ (0 ≤ Q.l2 ∧ Q.l2 < 16) ∧ (0 ≤ Q.i2 ∧ Q.i2 < 256) := by
    clear h3
    obtain ⟨op, fo, r1, r2, x2, b1, d1, b2, d2, l1, l2, i2⟩ := Q
    unfold okB8 fldsT at h2
    split at h2 <;> simp only [List.foldl_cons, List.foldl_nil, ckStep, fs, fv, Ins.get, Ins.set, Ins.hd, E.inR, Bool.and_eq_true, Bool.true_and, decide_eq_true_eq, Ins.mk.injEq] at h2 <;> dsimp only <;> omega
  obtain ⟨op, fo, r1, r2, x2, b1, d1, b2, d2, l1, l2, i2⟩ := Q
  simp only at hop h3 hb
  refine ⟨⟨op.toNat, F, r1.toNat, r2.toNat, x2.toNat, b1.toNat, d1.toNat, b2.toNat, d2.toNat, l1.toNat, l2.toNat, i2.toNat⟩, ?_, ?_⟩
  · unfold Qn.ins
    simp only [Ins.mk.injEq]
    omega
  · refine ⟨?_, ?_, ?_, ?_, ?_, ?_, ?_, ?_, ?_, ?_, ?_⟩ <;> simp only <;> omega
theorem ops_of {q : Qn} (hk : knB (q.op : Int) = true) : q.op = 78 ∨ q.op = 79 ∨ q.op = 222 ∨ q.op = 223 ∨ q.op = 240 ∨ q.op = 241 ∨ q.op = 242 ∨ q.op = 243 ∨ q.op = 248 ∨ q.op = 249 ∨ q.op = 250 ∨ q.op = 251 ∨ q.op = 252 ∨ q.op = 253 := by
  unfold knB at hk
  rw [List.any_eq_true] at hk
  obtain ⟨x, hx, he⟩ := hk
  have he' : (q.op : Int) = (x : Int) := by simpa using he
  have e : q.op = x := by omega
  rw [e]
  unfold opsR at hx
  simpa using hx
/-- Exec, whatever the instruction. -/
theorem exec_any (Q : Ins) (R : Nat → Int) (p : Psw) (n : Nat) (bs ks : List UInt8) (hR : RegOk R) (hl : bs.length = n) (hn : n ≤ 16777216) : ∃ (R' : Nat → Int) (p' : Psw) (c' : Int) (bs' : List UInt8),
    (c' ≠ 0 → c' ≠ 10 → R' = R ∧ p' = p ∧ bs' = bs) ∧ (c' = 0 ∨ c' = 10 → ∃ q : Qn, Q = q.ins ∧ QOk q ∧ FpD p p' ∧ FbD (frN q R) (toN q R) p bs ks bs' ∧ FrD q R R') ∧
    ∀ A g h m w, Sto w A g h n m bs ks → Sg w → Calls Tryz.prog 15 #[Q.val, .agg (regA R), .agg (pswA p), .pointer (some ⟨A, 0, none⟩)] w fun e w' => e = .returned (refA R' p' c') ∧ Sto w' A g h n m bs' ks ∧ Kp w w' [g] := by
  have hbad : (∀ A w, Calls Tryz.prog 15 #[Q.val, .agg (regA R), .agg (pswA p), .pointer (some ⟨A, 0, none⟩)] w (New w (refA R p 1))) → ∃ (R' : Nat → Int) (p' : Psw) (c' : Int) (bs' : List UInt8),
    (c' ≠ 0 → c' ≠ 10 → R' = R ∧ p' = p ∧ bs' = bs) ∧ (c' = 0 ∨ c' = 10 → ∃ q : Qn, Q = q.ins ∧ QOk q ∧ FpD p p' ∧ FbD (frN q R) (toN q R) p bs ks bs' ∧ FrD q R R') ∧
    ∀ A g h m w, Sto w A g h n m bs ks → Sg w → Calls Tryz.prog 15 #[Q.val, .agg (regA R), .agg (pswA p), .pointer (some ⟨A, 0, none⟩)] w fun e w' => e = .returned (refA R' p' c') ∧ Sto w' A g h n m bs' ks ∧ Kp w w' [g] := fun h1 =>
    ⟨R, p, 1, bs, fun _ _ => ⟨rfl, rfl, rfl⟩, fun h => h.elim (fun h => absurd h (by decide)) (fun h => absurd h (by decide)), fun A g h m w hs _ => (h1 A w).mono fun e w' hn => ⟨hn.1, hs.below hn.2, Kp.bel hn.2⟩⟩
  have hkn := fun X => knows_any Q.op X
  cases hk : knB Q.op with
  | false =>
    rw [hk] at hkn
    exact hbad (fun A w => exec_unknown Q R p ⟨A, 0, none⟩ w hkn)
  | true =>
    rw [hk] at hkn
    by_cases hc : chkV Q = 0
    · cases ho : okB p with
      | false => exact hbad (fun A w => exec_status Q R p ⟨A, 0, none⟩ w hkn hc ho)
      | true =>
        have hop : 0 ≤ Q.op ∧ Q.op < 256 := by
          unfold knB at hk
          rw [List.any_eq_true] at hk
          obtain ⟨x, hx, he⟩ := hk
          have he' : Q.op = (x : Int) := by simpa using he
          have hx2 : ∀ y ∈ opsR, y < 256 := by decide
          have := hx2 x hx
          omega
        obtain ⟨q, rfl, hq⟩ := ins_bd hop hc
        have hcc : 0 ≤ p.cc ∧ p.cc ≤ 3 := by
          have h9 : okP p := by unfold okB at ho; exact of_decide_eq_true ho
          exact h9.2.2.2.2.1
        have h14 := ops_of hk
        have hr := runs_any q R p n bs ks hR hq h14
        have hf := fine_any q R p n bs ks hR hq hcc hl hn h14
        generalize dcO q R p n bs ks = o at hr hf
        cases o with
        | stop C =>
          exact ⟨R, p, C, bs, fun _ _ => ⟨rfl, rfl, rfl⟩, fun _ => ⟨q, rfl, hq, fpd_same hcc, fbd_same, frd_same hR⟩, fun A g h m w hs hg => (exec_of hs hg hc ho hr).mono fun e w' hp => hp⟩
        | go R' p' c' bs' =>
          exact ⟨R', p', c', bs', fun h1 h2 => hf.1.elim (fun h => absurd h h1) (fun h => absurd h h2), fun _ => ⟨q, rfl, hq, hf.2⟩, fun A g h m w hs hg => (exec_of hs hg hc ho hr).mono fun e w' hp => hp⟩
    · exact hbad (fun A w => exec_check Q R p ⟨A, 0, none⟩ _ hc w hkn rfl)

end M
end Go.Proofs.YtbcncohjjnmdcaaGreatDoor

/- The contracts of slices.Max and of Multiply. -/
import Derived.Test.YtbcncohjjnmdcaaGreatDoorRows
import Derived.Test.YtbcncohjjnmdcaaGreatDoorDcOo
namespace Go.Proofs.YtbcncohjjnmdcaaGreatDoor
open Go.RowKit Go.Shelf
set_option linter.unusedVariables false
namespace E

/-- Is a byte not zero? -/
def anyNZ (l : List UInt8) : Bool := l.any fun x => x != 0
theorem anyNZ_snoc (l : List UInt8) (x : UInt8) : anyNZ (l ++ [x]) = (anyNZ l || x != 0) := by simp [anyNZ]
theorem u8_ne (x : UInt8) : (x != 0) = decide (0 < x.toNat) := by
  have h : (x = 0) ↔ x.toNat = 0 := ⟨fun h => by rw [h]; rfl, fun h => UInt8.toNat_inj.1 (by rw [h]; rfl)⟩
  by_cases h0 : x = 0
  · rw [h0]; rfl
  · have h1 : x.toNat ≠ 0 := fun e => h0 (h.2 e)
    rw [decide_eq_true (by omega)]
    simpa using h0
/-- A greatest byte: it is more than 0 just where a byte is not zero. -/
def MxPost (w : World) (l : List UInt8) (e : Ending) (w' : World) : Prop := ∃ m : Nat, e = .returned (.int .u8 (m : Int)) ∧ decide (0 < m) = anyNZ l ∧ w = w'
set_option maxRecDepth 100000 in
set_option maxHeartbeats 1000000 in
theorem max_any (p : Option Addr) (c : Nat) (l : List UInt8) (w : World) (h1 : 1 ≤ l.length) (hn : l.length ≤ 1000) (hr : Rd w p l) :
    Calls Tryz.prog 168 #[.slice p l.length c] w (MxPost w l) := by
  rcases hr with h0 | ⟨B, off, rfl, hc⟩
  · rw [h0] at h1; simp at h1
  obtain ⟨n, hln⟩ : ∃ n, n = l.length := ⟨_, rfl⟩
  have HC := Lib.hid hc
  have HL := Lib.hid hln
  have hc0 := hc 0 (by omega)
  have ht1 := take_one (l := l) (k := 0) (by omega)
  have HT1 := Lib.hid ht1
  have hnz0 : Hid (decide (0 < (gt l 0).toNat) = anyNZ (l.take 1)) := Lib.hid (by
    rw [ht1, anyNZ_snoc, u8_ne]
    rfl)
  rw [← hln] at h1 hn ⊢
  clear hc hln ht1
  rw [Nat.add_zero] at hc0
  generalize gt l 0 = x0 at *
  go_enter Tryz.func168, Tryz.ntmps168
  go_wp2
  go_loop [3, 4] (fun mv i => ∃ (k m : Nat), 1 ≤ k ∧ k ≤ n ∧ i = .int .i64 k ∧ mv = .int .u8 (m : Int) ∧ decide (0 < m) = anyNZ (l.take k)) (fun _ i => n - (intOf i).toNat)
  case atStart => exact ⟨1, x0.toNat, Nat.le_refl _, h1, rfl, rfl, hnz0.out⟩
  case round =>
    obtain ⟨k, m, hk1, hk, rfl, rfl, hm⟩ := hrel
    have HM := Lib.hid hm
    clear hm hc0
    by_cases hlt : k < n
    · have hck := HC.out k (by rw [← HL.out]; exact hlt)
      have htk := take_one (l := l) (k := k) (by rw [← HL.out]; exact hlt)
      have hnz : ∀ m' : Nat, (0 < m' ↔ 0 < m ∨ 0 < (gt l k).toNat) → decide (0 < m') = anyNZ (l.take (k + 1)) := fun m' h => by
        rw [htk, anyNZ_snoc, u8_ne, ← HM.out]
        simp [h]
      have HNZ := Lib.hid hnz
      clear htk hnz
      generalize gt l k = x at *
      go_wp2
      go_round
      case rel => exact ⟨k + 1, max m x.toNat, by omega, by omega, by go_num, by congr 1; omega, HNZ.out _ (by omega)⟩
      case measure => simp [intOf]; omega
    · obtain rfl : k = n := by omega
      have hm := HM.out
      rw [HL.out, List.take_length] at hm
      have HM2 := Lib.hid hm
      clear hm
      go_wp2
      go_ret
      exact ⟨m, rfl, HM2.out, rfl⟩

theorem Rd.take' {w : World} {p : Option Addr} {l : List UInt8} (h : Rd w p l) (k : Nat) : Rd w p (l.take k) := h.take k
theorem anyNZ_at {l : List UInt8} (h : anyNZ l = false) (i : Nat) (hi : i < l.length) : gt l i = 0 := by
  unfold anyNZ at h
  rw [List.any_eq_false] at h
  have := h (gt l i) (by rw [gt_lt hi]; exact List.getElem_mem hi)
  simpa using this
theorem dVal_val {bs : List UInt8} (h : dOk bs = true) : dVal bs = val (dg bs 1 1 (2 * bs.length - 1)) := by
  have h' := h
  unfold dOk at h'
  simp only [Bool.and_eq_true, decide_eq_true_eq] at h'
  unfold dVal dDig
  rw [if_pos h]
  unfold chV
  rw [val_numL _ (by rw [dg_len]; omega)]
theorem lo_zero : lo 0 = 0 ∧ hi 0 = 0 := by decide
/-- With zero bytes ahead a number has fewer digits. -/
theorem dVal_zeros {bs : List UInt8} {k : Nat} (h : dOk bs = true) (hk : k < bs.length) (hz : anyNZ (bs.take k) = false) : dVal bs < 10 ^ (2 * (bs.length - k) - 1) := by
  have h' := h
  unfold dOk at h'
  simp only [Bool.and_eq_true, decide_eq_true_eq] at h'
  have h9 : ok9 (dg bs 1 1 (2 * bs.length - 1)) := fun d hd => by
    obtain ⟨i, hi, rfl⟩ := List.getElem_of_mem hd
    have := (okD_getD _).1 h'.2.2 i hi
    rw [List.getD_eq_getElem?_getD, List.getElem?_eq_getElem hi] at this
    exact this
  rw [dVal_val h]
  have e := val_zeros ((dg bs 1 1 (2 * bs.length - 1)).take (2 * (bs.length - k) - 1)) ((dg bs 1 1 (2 * bs.length - 1)).drop (2 * (bs.length - k) - 1)) (fun d hd => by
    obtain ⟨i, hi, rfl⟩ := List.getElem_of_mem hd
    rw [List.length_drop, dg_len] at hi
    have hg := dg_get bs 1 1 (2 * bs.length - 1) (2 * (bs.length - k) - 1 + i) (by omega)
    rw [List.getD_eq_getElem?_getD, List.getElem?_eq_getElem (by rw [dg_len]; omega)] at hg
    rw [List.getElem_drop]
    refine hg.trans ?_
    have hb : gt bs (bs.length - 1 - (1 + 1 * (2 * (bs.length - k) - 1 + i)) / 2) = 0 := by
      have h3 : bs.length - 1 - (1 + 1 * (2 * (bs.length - k) - 1 + i)) / 2 < k := by omega
      have h4 := anyNZ_at hz (bs.length - 1 - (1 + 1 * (2 * (bs.length - k) - 1 + i)) / 2) (by rw [List.length_take]; omega)
      rw [gt_lt (by rw [List.length_take]; omega), List.getElem_take] at h4
      rw [gt_lt (by omega)]
      exact h4
    unfold nib
    rw [hb, lo_zero.1, lo_zero.2]
    split <;> rfl)
  rw [List.take_append_drop] at e
  rw [e]
  have h5 := val_lt (ok9_take h9 (2 * (bs.length - k) - 1))
  rw [List.length_take, dg_len, Nat.min_eq_left (by omega)] at h5
  exact h5
theorem mul_bound {x y i j : Nat} (hx : x < 10 ^ i) (hy : y < 10 ^ j) (hs : i + j ≤ 32) : x * y < 100000000000000000000000000000000 := by
  have h1 : x * y < 10 ^ i * 10 ^ j := Nat.mul_lt_mul'' hx hy
  rw [← Nat.pow_add] at h1
  have h2 : (10 : Nat) ^ (i + j) ≤ 10 ^ 32 := Nat.pow_le_pow_right (by omega) hs
  have h3 : (10 : Nat) ^ 32 = 100000000000000000000000000000000 := by decide
  omega
theorem dVal_15 {bs : List UInt8} (h1 : 1 ≤ bs.length) (h : bs.length ≤ 8) : dVal bs < 1000000000000000 := by
  have h2 := dVal_lt bs h1
  have h3 : (10 : Nat) ^ (2 * bs.length - 1) ≤ 10 ^ 15 := Nat.pow_le_pow_right (by omega) (by omega)
  have h4 : (10 : Nat) ^ 15 = 1000000000000000 := by decide
  omega
/-- What Multiply answers. -/
def mulC (la lb : List UInt8) : Nat := if 8 < lb.length ∨ la.length ≤ lb.length then 6 else if twoC la lb ≠ 0 then twoC la lb else if anyNZ (la.take lb.length) then 7 else 0
def mulL (la lb : List UInt8) : List UInt8 × Nat := if mulC la lb = 0 then (fldL (dNeg la != dNeg lb) (dVal la * dVal lb) la.length, 0) else ([], mulC la lb)
def R2Post (w : World) (r : List UInt8 × Nat) (e : Ending) (w' : World) : Prop := ∃ sv, e = .returned (.tuple #[sv, .int .i64 (r.2 : Int)]) ∧ SvB w' sv r.1 ∧ Below w.heap.size w w'
theorem Ap6.nw {W : World} {D E : Nat} {p a b q c d : Value} (h : Ap6 D E p a b q c d W) (o : Obj) : Ap6 D E p a b q c d (W.alloc o) := h.next (below_new W o)
set_option maxRecDepth 100000 in
set_option maxHeartbeats 4000000 in
theorem pmul_any (p q : Option Addr) (cp cq : Nat) (la lb : List UInt8) (w : World) (hcp : la.length ≤ cp) (hcp2 : cp ≤ 9223372036854775807) (hlb2 : lb.length ≤ 9223372036854775807) (hr : Rd w p la) (hq : Rd w q lb) (hg : Sg w) :
    Calls Tryz.prog 111 #[.slice p la.length cp, .slice q lb.length cq] w (R2Post w (mulL la lb)) := by
  have HTW := Lib.hid (unequal_any p q cp cq la lb w (by omega) hlb2 hr hq hg)
  obtain ⟨code, hcode⟩ : ∃ code, code = (if 8 < lb.length ∨ la.length ≤ lb.length then 6 else twoC la lb) := ⟨_, rfl⟩
  rw [← hcode] at HTW
  unfold TwPost at HTW
  by_cases hz : code = 0
  · have h8 : ¬ (8 < lb.length ∨ la.length ≤ lb.length) := fun h => by rw [if_pos h] at hcode; omega
    rw [if_neg h8, hz] at hcode
    obtain ⟨hla, hlb, vx, vy⟩ := two_len hcode.symm
    have hoka := (opC_ok (twoC_zero hcode.symm).1).1
    have hmc : mulC la lb = if anyNZ (la.take lb.length) then 7 else 0 := by unfold mulC; rw [if_neg h8, if_neg (by omega)]
    have HR := Lib.hid hr
    have HMX := Lib.hid (fun W (h : Rd W p la) => max_any p cp (la.take lb.length) W (by rw [List.length_take]; omega) (by rw [List.length_take]; omega) (h.take' lb.length))
    have htl : (la.take lb.length).length = lb.length := by rw [List.length_take]; omega
    rw [htl] at HMX
    unfold MxPost at HMX
    subst hz
    have i1 : lb.length < la.length := by omega
    have i2 : lb.length ≤ 8 := by omega
    have i3 : (lb.length : Int) ≤ (la.length : Int) := by omega
    have i4 : (lb.length : Int) ≤ (cp : Int) := by omega
    by_cases hnz : anyNZ (la.take lb.length) = true
    · rw [if_pos hnz] at hmc
      have hv : mulL la lb = ([], 7) := by unfold mulL; rw [hmc]; rfl
      have HV := Lib.hid hv
      have HNZ := Lib.hid hnz
      clear hv hr hq hg hcode hmc hnz htl vx vy hoka h8
      go_enter Tryz.func111, Tryz.ntmps111
      go_wp2_with fail
      refine (HTW.out).mono ?_
      rintro e w1 h
      rcases h with ⟨_, c, d, c', d', h1, h2, rfl, hb⟩ | ⟨hne, _⟩
      case inr => exact absurd rfl hne
      have HB1 := Lib.hid hb
      have HB2 := Lib.hid (bel0 hb (below2 w1 (.cells #[.bool (dNeg la), .int .u64 (c : Int), .int .u64 (d : Int)] 167) (.cells #[.bool (dNeg lb), .int .u64 (c' : Int), .int .u64 (d' : Int)] 167)))
      clear hb h1 h2 HTW
      go_wp2_with fail
      refine (HMX.out _ (HR.out.below HB2.out)).mono ?_
      rintro e w2 ⟨m, rfl, hm, rfl⟩
      rw [HNZ.out] at hm
      have hm1 : 0 < m := by simpa using hm
      clear hm
      go_wp2
      go_ret2
      exact ⟨_, by rw [HV.out]; rfl, by rw [HV.out]; exact SvB.nil _, HB2.out⟩
    · have hnz' : anyNZ (la.take lb.length) = false := by simpa using hnz
      rw [if_neg hnz] at hmc
      have hv : mulL la lb = (fldL (dNeg la != dNeg lb) (dVal la * dVal lb) la.length, 0) := by unfold mulL; rw [hmc]; rfl
      have HV := Lib.hid hv
      have HNZ := Lib.hid hnz'
      have vz := dVal_zeros hoka i1 hnz'
      have vxy := mul_bound vz (dVal_lt lb hlb.1) (by omega)
      have vy15 := dVal_15 hlb.1 i2
      have HTM := Lib.hid (fun W a b (h : Pw (dVal la) a b) => ptimes_cells (dVal la) (dVal lb) a b W h (by omega) (by omega) (by omega))
      have HFL0 := fun W a b (h : Pw (dVal la * dVal lb) a b) => field_any (dNeg la != dNeg lb) (dVal la * dVal lb) 0 la.length a b W h vxy (by omega) hla.1 hla.2
      rw [Nat.pow_zero, Nat.mul_one] at HFL0
      have h00 : (((0 : Nat)) : Int) = 0 := rfl
      rw [h00] at HFL0
      have HFL := Lib.hid HFL0
      have HLE := Lib.hid (fldL_len (dNeg la != dNeg lb) (dVal la * dVal lb) la.length)
      unfold FdPost at HFL
      generalize fldL (dNeg la != dNeg lb) (dVal la * dVal lb) la.length = F at *
      generalize ovB (dVal la * dVal lb) la.length = ov at *
      clear hv hr hq hg hcode hmc hnz hnz' htl vx hoka h8 vz vxy h00 HFL0
      go_enter Tryz.func111, Tryz.ntmps111
      go_wp2_with fail
      refine (HTW.out).mono ?_
      rintro e w1 h
      rcases h with ⟨_, c, d, c', d', h1, h2, rfl, hb⟩ | ⟨hne, _⟩
      case inr => exact absurd rfl hne
      have hc0 : c' = 0 ∧ d' = dVal lb := by
        obtain ⟨e1, e2⟩ := h2
        omega
      obtain ⟨rfl, rfl⟩ := hc0
      have HB1 := Lib.hid hb
      have HTM1 := Lib.hid (fun W => HTM.out W c d h1)
      unfold PwPost at HTM1
      clear h1 h2 HTM
      obtain ⟨y, hy⟩ : ∃ y, y = dVal lb := ⟨_, rfl⟩
      obtain ⟨na, hna⟩ : ∃ na, na = dNeg la := ⟨_, rfl⟩
      obtain ⟨nb, hnb⟩ : ∃ nb, nb = dNeg lb := ⟨_, rfl⟩
      rw [← hy] at HTM1 HFL vy15 ⊢
      rw [← hna, ← hnb] at HFL ⊢
      have hbne : (na != nb) = !(na == nb) := rfl
      rw [hbne] at HFL
      clear hbne
      generalize dVal la * y = xy at *
      have h00 : (((0 : Nat)) : Int) = 0 := rfl
      rw [h00]
      obtain ⟨tn1, tn2⟩ := two_new w1 (.bool na) (.int .u64 (c : Int)) (.int .u64 (d : Int)) (.bool nb) (.int .u64 0) (.int .u64 (y : Int))
      obtain ⟨W2, hW2⟩ : ∃ W2, W2 = (w1.alloc (.cells #[.bool na, .int .u64 (c : Int), .int .u64 (d : Int)] 167)).alloc (.cells #[.bool nb, .int .u64 0, .int .u64 (y : Int)] 167) := ⟨_, rfl⟩
      rw [← hW2] at tn1 tn2
      have HB2 : Hid (Below w.heap.size w W2) := Lib.hid (by rw [hW2]; exact bel0 hb (below2 w1 _ _))
      have H0 : Hid (Ap6 w1.heap.size (w1.heap.size + 1) (.bool na) (.int .u64 (c : Int)) (.int .u64 (d : Int)) (.bool nb) (.int .u64 0) (.int .u64 (y : Int)) W2.drew) := Lib.hid ((Ap6.of tn1 tn2).next (Below.refl _ _).drew)
      have HBd : Hid (Below w.heap.size w W2.drew) := Lib.hid HB2.out.drew
      have hszd : w1.heap.size + 1 < W2.heap.size := tn2.lt
      have hbz := below_new W2 (.cells #[.bool false, .int .u64 0, .int .u64 0] 167)
      have H0b : Hid (Ap6 w1.heap.size (w1.heap.size + 1) (.bool na) (.int .u64 (c : Int)) (.int .u64 (d : Int)) (.bool nb) (.int .u64 0) (.int .u64 (y : Int)) (W2.alloc (.cells #[.bool false, .int .u64 0, .int .u64 0] 167)).drew) := Lib.hid (((Ap6.of tn1 tn2).next hbz).next (Below.refl _ _).drew)
      have HBb : Hid (Below w.heap.size w (W2.alloc (.cells #[.bool false, .int .u64 0, .int .u64 0] 167)).drew) := Lib.hid (bel0 HB2.out hbz.drew)
      have HFb : Hid (Bx (W2.alloc (.cells #[.bool false, .int .u64 0, .int .u64 0] 167)).drew W2.heap.size 167 #[.bool false, .int .u64 0, .int .u64 0]) := Lib.hid ((Bx.new W2 _ _).below (Below.refl _ _).drew)
      clear hbz
      clear hb tn1 tn2 hy hna hnb h00 HTW
      go_wp2_with fail
      rw [← hW2]
      refine (HMX.out _ (HR.out.below HB2.out)).mono ?_
      rintro e w2 ⟨m, rfl, hm, rfl⟩
      rw [HNZ.out] at hm
      obtain rfl : m = 0 := by
        have : ¬ 0 < m := by simpa using hm
        omega
      clear hm hW2 HMX
      go_wp2_with fail
      go_region_held3 (fun W => W.cell? ⟨w1.heap.size, 0, none⟩ = some (.bool na) ∧ W.cell? ⟨w1.heap.size, 1, none⟩ = some (.int .u64 (c : Int)) ∧ W.cell? ⟨w1.heap.size, 2, none⟩ = some (.int .u64 (d : Int)) ∧ W.cell? ⟨w1.heap.size + 1, 0, none⟩ = some (.bool nb) ∧ W.cell? ⟨w1.heap.size + 1, 1, none⟩ = some (.int .u64 0) ∧ W.cell? ⟨w1.heap.size + 1, 2, none⟩ = some (.int .u64 (y : Int)))
        (first | assumption | exact H0.out | exact H0b.out | exact Ap6.nw (by assumption) _ | exact Ap6.st (by assumption) (by omega) (by omega))
        (first
          | (go_at_call 169; refine (HTM1.out _).mono ?_; rintro e w5 ⟨a1, b1, hq1, rfl, hb5⟩; have hs5 := Ap6.next H0.out hb5; have HB5 := Lib.hid (bel0 HBd.out hb5); have HQ5 := Lib.hid hq1; clear hb5 hq1)
          | (go_at_call 169; refine (HTM1.out _).mono ?_; rintro e w5 ⟨a1, b1, hq1, rfl, hb5⟩; have hs5 := Ap6.next H0b.out hb5; have HB5 := Lib.hid (bel0 HBb.out hb5); have HF5 := Lib.hid (HFb.out.below hb5); have HQ5 := Lib.hid hq1; obtain ⟨⟨r1, r2, r3⟩, q1, q2, q3⟩ := HF5.out.three; clear hb5 hq1))
      all_goals go_wp2_with fail
      all_goals refine (HFL.out _ a1 b1 HQ5.out).mono ?_
      all_goals rintro e w6 ⟨g, rfl, hk, hb6⟩
      all_goals have HK := Lib.hid (SvB.blk hk HLE.out (by omega))
      · have HB6 := Lib.hid (bel0 (bel0 HB5.out (below_new _ _)) hb6)
        clear hk hb6
        go_wp2
        go_ret2
        exact ⟨_, by rw [HV.out]; rfl, by rw [HV.out]; exact HK.out, HB6.out⟩
      · have HB6 := Lib.hid (bel0 (below_set3 HB5.out (Nat.le_trans HB1.out.size (by omega)) _ _ _) hb6)
        clear hk hb6
        go_wp2
        go_ret2
        exact ⟨_, by rw [HV.out]; rfl, by rw [HV.out]; exact HK.out, HB6.out⟩
  · have hv : mulL la lb = ([], code) := by
      have hmc : mulC la lb = code := by
        unfold mulC
        by_cases h8 : 8 < lb.length ∨ la.length ≤ lb.length
        · rw [if_pos h8] at hcode ⊢
          exact hcode.symm
        · rw [if_neg h8] at hcode ⊢
          rw [if_pos (by omega)]
          exact hcode.symm
      unfold mulL
      rw [hmc, if_neg hz]
    have HV := Lib.hid hv
    have HZ := Lib.hid hz
    have hcz : ((code : Int) == 0) = false := by
      simp only [beq_eq_false_iff_ne, ne_eq]
      omega
    clear hv hr hq hg hcode hz
    go_enter Tryz.func111, Tryz.ntmps111
    go_wp2_with fail
    refine (HTW.out).mono ?_
    rintro e w1 h
    rcases h with ⟨h0, _⟩ | ⟨hne, rfl, hb⟩
    · exact absurd h0 HZ.out
    have HB2 := Lib.hid (bel0 hb (below2 w1 (.cells #[.bool false, .int .u64 0, .int .u64 0] 167) (.cells #[.bool false, .int .u64 0, .int .u64 0] 167)))
    clear hb hne HTW
    go_wp2
    go_ret2
    exact ⟨_, by rw [HV.out]; rfl, by rw [HV.out]; exact SvB.nil _, HB2.out⟩

end E
end Go.Proofs.YtbcncohjjnmdcaaGreatDoor

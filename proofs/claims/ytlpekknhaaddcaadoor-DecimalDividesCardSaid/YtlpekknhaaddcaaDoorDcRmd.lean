/- The document's own Multiply and Divide: their contracts. -/
import Derived.Test.YtlpekknhaaddcaaDoorDcQt
import Derived.Test.YtlpekknhaaddcaaDoorDcRop
import Derived.Test.YtlpekknhaaddcaaDoorDcQuo
namespace Go.Proofs.YtlpekknhaaddcaaDoor
open Go.RowKit
set_option linter.unusedVariables false
namespace E

def szsB (na nb : Nat) : Bool := decide (1 ≤ na ∧ na ≤ 16) && (decide (1 ≤ nb ∧ nb ≤ 16) && (decide (nb ≤ 8) && decide (nb < na)))
set_option maxRecDepth 100000 in
theorem sizes_any (p q : Option Addr) (cp cq na nb : Nat) (w : World) :
    Calls Tryd.prog 52 #[.slice p na cp, .slice q nb cq] w fun e w' => e = .returned (.bool (szsB na nb)) ∧ w = w' := by
  have HSA := Lib.hid (fun W => size4_any (na : Int) W)
  have HSB := Lib.hid (fun W => size4_any (nb : Int) W)
  unfold szsB
  by_cases hA : 1 ≤ na ∧ na ≤ 16
  · rw [decide_eq_true (by omega)] at HSA
    rw [decide_eq_true hA]
    by_cases hB : 1 ≤ nb ∧ nb ≤ 16
    · rw [decide_eq_true (by omega)] at HSB
      rw [decide_eq_true hB]
      by_cases h8 : nb ≤ 8
      · rw [decide_eq_true h8]
        by_cases hl : nb < na
        · rw [decide_eq_true hl]
          go_enter Tryd.func52, Tryd.ntmps52
          go_wp2_with fail
          refine (HSA.out _).mono ?_
          rintro e w' ⟨rfl, rfl⟩
          go_wp2_with fail
          refine (HSB.out _).mono ?_
          rintro e w' ⟨rfl, rfl⟩
          go_wp2
          go_ret
          exact ⟨rfl, rfl⟩
        · rw [decide_eq_false hl]
          go_enter Tryd.func52, Tryd.ntmps52
          go_wp2_with fail
          refine (HSA.out _).mono ?_
          rintro e w' ⟨rfl, rfl⟩
          go_wp2_with fail
          refine (HSB.out _).mono ?_
          rintro e w' ⟨rfl, rfl⟩
          go_wp2
          go_ret
          exact ⟨rfl, rfl⟩
      · rw [decide_eq_false h8]
        go_enter Tryd.func52, Tryd.ntmps52
        go_wp2_with fail
        refine (HSA.out _).mono ?_
        rintro e w' ⟨rfl, rfl⟩
        go_wp2_with fail
        refine (HSB.out _).mono ?_
        rintro e w' ⟨rfl, rfl⟩
        go_wp2
        go_ret
        exact ⟨rfl, rfl⟩
    · rw [decide_eq_false (by omega)] at HSB
      rw [decide_eq_false hB]
      go_enter Tryd.func52, Tryd.ntmps52
      go_wp2_with fail
      refine (HSA.out _).mono ?_
      rintro e w' ⟨rfl, rfl⟩
      go_wp2_with fail
      refine (HSB.out _).mono ?_
      rintro e w' ⟨rfl, rfl⟩
      go_wp2
      go_ret
      exact ⟨rfl, rfl⟩
  · rw [decide_eq_false (by omega)] at HSA
    rw [decide_eq_false hA]
    go_enter Tryd.func52, Tryd.ntmps52
    go_wp2_with fail
    refine (HSA.out _).mono ?_
    rintro e w' ⟨rfl, rfl⟩
    go_wp2
    go_ret
    exact ⟨rfl, rfl⟩
theorem szs_yes {na nb : Nat} (h : szsB na nb = true) : (1 ≤ na ∧ na ≤ 16) ∧ (1 ≤ nb ∧ nb ≤ 16) ∧ ¬ (8 < nb ∨ na ≤ nb) := by
  unfold szsB at h
  simp only [Bool.and_eq_true, decide_eq_true_eq] at h
  omega
theorem szs_no {la lb : List UInt8} (h : szsB la.length lb.length = false) : (8 < lb.length ∨ la.length ≤ lb.length) ∨ twoC la lb = 6 := by
  by_cases h1 : 8 < lb.length ∨ la.length ≤ lb.length
  · exact .inl h1
  · right
    unfold twoC
    by_cases hA : 1 ≤ la.length ∧ la.length ≤ 16
    · by_cases hB : 1 ≤ lb.length ∧ lb.length ≤ 16
      · exfalso
        unfold szsB at h
        rw [decide_eq_true hA, decide_eq_true hB, decide_eq_true (by omega), decide_eq_true (by omega)] at h
        cases h
      · rw [if_pos (.inr (opC6.2 hB))]
    · rw [if_pos (.inl (opC6.2 hA))]
theorem mul_6 {la lb : List UInt8} (h : szsB la.length lb.length = false) : mulL la lb = ([], 6) := by
  have hm : mulC la lb = 6 := by
    unfold mulC
    rcases szs_no h with h1 | h1
    · rw [if_pos h1]
    · by_cases h2 : 8 < lb.length ∨ la.length ≤ lb.length
      · rw [if_pos h2]
      · rw [if_neg h2, h1]; rfl
  unfold mulL
  rw [hm, if_neg (by omega)]
theorem div_6 {la lb : List UInt8} (h : szsB la.length lb.length = false) : divL la lb = ([], 6) := by
  refine divL_not ?_ (by omega)
  unfold divC
  rcases szs_no h with h1 | h1
  · rw [if_pos h1]
  · by_cases h2 : 8 < lb.length ∨ la.length ≤ lb.length
    · rw [if_pos h2]
    · rw [if_neg h2, h1]; rfl
theorem rd_cell {w : World} {p : Option Addr} {l : List UInt8} (h : Rd w p l) (hl : 1 ≤ l.length) : ∃ B off, p = some ⟨B, off, none⟩ ∧ B < w.heap.size ∧ ∀ j, j < l.length → w.cell? ⟨B, off + j, none⟩ = some (.int .u8 ((gt l j).toNat : Int)) := by
  rcases h with rfl | ⟨B, off, hp, hc⟩
  · simp at hl
  · exact ⟨B, off, hp, World.block_lt_of_cell? w _ (hc 0 (by omega)), hc⟩
theorem take_one' {l : List UInt8} {k : Nat} (h : k < l.length) : l.take (k + 1) = l.take k ++ [gt l k] := by
  rw [List.take_succ_eq_append_getElem h, gt_lt h]
set_option maxRecDepth 100000 in
theorem mul6_any (p q : Option Addr) (cp cq : Nat) (la lb : List UInt8) (w : World) (h : szsB la.length lb.length = false) :
    Calls Tryd.prog 24 #[.slice p la.length cp, .slice q lb.length cq] w (R2Post w ([], 6)) := by
  have HSZ := Lib.hid (fun W => sizes_any p q cp cq la.length lb.length W)
  rw [h] at HSZ
  clear h
  go_enter Tryd.func24, Tryd.ntmps24
  go_wp2_with fail
  refine (HSZ.out _).mono ?_
  rintro e w' ⟨rfl, rfl⟩
  go_wp2
  go_ret2
  exact ⟨_, rfl, SvB.nil _, Below.refl _ _⟩
set_option maxRecDepth 100000 in
set_option maxHeartbeats 4000000 in
theorem mulc_any (p q : Option Addr) (cp cq code : Nat) (la lb : List UInt8) (w : World) (h : szsB la.length lb.length = true) (hz : code ≠ 0)
    (HT : Hid (Calls Tryd.prog 38 #[.slice p la.length cp, .slice q lb.length cq] w (New w (.tuple #[.agg #[.bool false, .slice none 0 0], .agg #[.bool false, .slice none 0 0], .int .i64 (code : Int)])))) :
    Calls Tryd.prog 24 #[.slice p la.length cp, .slice q lb.length cq] w (R2Post w ([], code)) := by
  have HSZ := Lib.hid (fun W => sizes_any p q cp cq la.length lb.length W)
  rw [h] at HSZ
  have hcz : ((code : Int) == 0) = false := by
    simp only [beq_eq_false_iff_ne, ne_eq]
    omega
  clear h hz
  go_enter Tryd.func24, Tryd.ntmps24
  go_wp2_with fail
  refine (HSZ.out _).mono ?_
  rintro e w' ⟨rfl, rfl⟩
  go_wp2_with fail
  refine (HT.out).mono ?_
  rintro e w1 ⟨rfl, hb⟩
  have HB1 := Lib.hid (bel0 hb (below2 w1 (.cells #[.bool false, .slice none 0 0] 52) (.cells #[.bool false, .slice none 0 0] 52)))
  clear hb HT
  go_wp2
  go_ret2
  exact ⟨_, rfl, SvB.nil _, HB1.out⟩
set_option maxRecDepth 100000 in
theorem div6_any (p q : Option Addr) (cp cq : Nat) (la lb : List UInt8) (w : World) (h : szsB la.length lb.length = false) :
    Calls Tryd.prog 26 #[.slice p la.length cp, .slice q lb.length cq] w (R2Post w ([], 6)) := by
  have HSZ := Lib.hid (fun W => sizes_any p q cp cq la.length lb.length W)
  rw [h] at HSZ
  clear h
  go_enter Tryd.func26, Tryd.ntmps26
  go_wp2_with fail
  refine (HSZ.out _).mono ?_
  rintro e w' ⟨rfl, rfl⟩
  go_wp2
  go_ret2
  exact ⟨_, rfl, SvB.nil _, Below.refl _ _⟩
set_option maxRecDepth 100000 in
set_option maxHeartbeats 4000000 in
theorem divc_any (p q : Option Addr) (cp cq code : Nat) (la lb : List UInt8) (w : World) (h : szsB la.length lb.length = true) (hz : code ≠ 0)
    (HT : Hid (Calls Tryd.prog 38 #[.slice p la.length cp, .slice q lb.length cq] w (New w (.tuple #[.agg #[.bool false, .slice none 0 0], .agg #[.bool false, .slice none 0 0], .int .i64 (code : Int)])))) :
    Calls Tryd.prog 26 #[.slice p la.length cp, .slice q lb.length cq] w (R2Post w ([], code)) := by
  have HSZ := Lib.hid (fun W => sizes_any p q cp cq la.length lb.length W)
  rw [h] at HSZ
  have hcz : ((code : Int) == 0) = false := by
    simp only [beq_eq_false_iff_ne, ne_eq]
    omega
  clear h hz
  go_enter Tryd.func26, Tryd.ntmps26
  go_wp2_with fail
  refine (HSZ.out _).mono ?_
  rintro e w' ⟨rfl, rfl⟩
  go_wp2_with fail
  refine (HT.out).mono ?_
  rintro e w1 ⟨rfl, hb⟩
  have HB1 := Lib.hid (bel0 hb (below2 w1 (.cells #[.bool false, .slice none 0 0] 52) (.cells #[.bool false, .slice none 0 0] 52)))
  clear hb HT
  go_wp2
  go_ret2
  exact ⟨_, rfl, SvB.nil _, HB1.out⟩
set_option maxRecDepth 100000 in
set_option maxHeartbeats 4000000 in
theorem rmul_core (p q : Option Addr) (cp cq lx ly lv : Nat) (na nb ov : Bool) (X Y L : List (Fin 16)) (la lb F : List UInt8) (bad : Bool) (r : List UInt8 × Nat) (w : World) (HRT : Hid (bad = true → r = ([], 7))) (HRF : Hid (bad = false → r = (F, 0))) (h : szsB la.length lb.length = true) (HR : Hid (Rd w p la)) (hbad : bad = anyNZ (la.take lb.length))
    (HT : Hid (Calls Tryd.prog 38 #[.slice p la.length cp, .slice q lb.length cq] w (fun e w' => ∃ p c q d, e = .returned (.tuple #[.agg #[.bool na, .slice p lx c], .agg #[.bool nb, .slice q ly d], .int .i64 0]) ∧ SlI w' p c X ∧ SlI w' q d Y ∧ Below w.heap.size w w')))
    (HTI : Hid (∀ p1 c1 q1 d1 W, SlI W p1 c1 X → SlI W q1 d1 Y → Calls Tryd.prog 54 #[.slice p1 lx c1, .slice q1 ly d1] W (fun e w' => ∃ p c, e = .returned (.slice p lv c) ∧ SlI w' p c L ∧ Below W.heap.size W w')))
    (HFD : Hid (∀ p c W, SlI W p c L → Calls Tryd.prog 53 #[.agg #[.bool (!(na == nb)), .slice p lv c], .int .i64 (la.length : Int)] W (fun e w' => ∃ sv, e = .returned (.tuple #[sv, .bool ov]) ∧ SvB w' sv F ∧ Below W.heap.size W w'))) :
    Calls Tryd.prog 24 #[.slice p la.length cp, .slice q lb.length cq] w (R2Post w r) := by
  have HSZ := Lib.hid (fun W => sizes_any p q cp cq la.length lb.length W)
  rw [h] at HSZ
  obtain ⟨⟨k1, k2⟩, ⟨k3, k4⟩, k5⟩ := szs_yes h
  obtain ⟨B, off, rfl, hBw, hcell⟩ := rd_cell HR.out k1
  have HC := Lib.hid hcell
  have HBW := Lib.hid hBw
  have HTK := Lib.hid (fun t (h : t < la.length) => take_one' h)
  have HBAD := Lib.hid hbad
  have k6 : lb.length < la.length := by omega
  clear h hcell hBw hbad k5
  obtain ⟨tl, htl⟩ : ∃ tl : Nat → List UInt8, tl = fun t => la.take t := ⟨_, rfl⟩
  have HTL0 : Hid (tl 0 = []) := Lib.hid (by rw [htl]; rfl)
  have HTLS : Hid (∀ t, t < la.length → tl (t + 1) = tl t ++ [gt la t]) := Lib.hid (fun t h => by rw [htl]; exact take_one' h)
  have HTLB : Hid (bad = anyNZ (tl lb.length)) := Lib.hid (by rw [htl]; exact HBAD.out)
  clear htl HTK HBAD
  have HGT : Hid (∀ t, t < lb.length → anyNZ (tl t) = false → gt la t ≠ 0 → bad = true) := Lib.hid (fun t ht h0 hne => by
    have mono : ∀ k, t + 1 + k ≤ la.length → anyNZ (tl (t + 1 + k)) = true := fun k => by
      induction k with
      | zero =>
        intro hk
        rw [Nat.add_zero, HTLS.out t (by omega), anyNZ_snoc]
        simp [hne]
      | succ k ih =>
        intro hk
        rw [← Nat.add_assoc, HTLS.out _ (by omega), anyNZ_snoc, ih (by omega)]
        rfl
    rw [HTLB.out]
    have := mono (lb.length - (t + 1)) (by omega)
    rwa [show t + 1 + (lb.length - (t + 1)) = lb.length by omega] at this)
  generalize la.length = nla at *
  generalize lb.length = nlb at *
  go_enter Tryd.func24, Tryd.ntmps24
  go_wp2_with fail
  refine (HSZ.out _).mono ?_
  rintro e w' ⟨rfl, rfl⟩
  go_wp2_with fail
  refine (HT.out).mono ?_
  rintro e w1 ⟨p1, c1, q1, d1, rfl, hx1, hy1, hb⟩
  obtain ⟨W2, hW2⟩ : ∃ W2, W2 = (w1.alloc (.cells #[.bool na, .slice p1 lx c1] 52)).alloc (.cells #[.bool nb, .slice q1 ly d1] 52) := ⟨_, rfl⟩
  have hb2 : Below w1.heap.size w1 W2 := by rw [hW2]; exact below2 w1 _ _
  have hA2 : Aq4 w1.heap.size (w1.heap.size + 1) (.bool na) (.slice p1 lx c1) (.bool nb) (.slice q1 ly d1) W2 := by
    rw [hW2]
    exact Aq4.of ((Bx.new w1 _ _).below (below_new _ _)) (second_new w1 _ _ _ _ rfl)
  have HB2 := Lib.hid (bel0 hb hb2)
  have HX2 := Lib.hid (hx1.below hb2)
  have HY2 := Lib.hid (hy1.below hb2)
  have HA2 := Lib.hid hA2
  clear hb hb2 hx1 hy1 HT hA2
  go_wp2
  rw [← hW2]
  clear hW2
  go_loopw [9] (fun i wr => Below W2.heap.size W2 wr ∧ ∃ t : Nat, t ≤ nlb ∧ i = .int .i64 (t : Int) ∧ anyNZ (tl t) = false) (fun i _ => nlb - (intOf i).toNat)
  case atStart => exact ⟨Below.refl _ _, 0, Nat.zero_le _, rfl, by rw [HTL0.out]; rfl⟩
  case round =>
    obtain ⟨hbw, t, ht, rfl, hz⟩ := hrel
    have HB := Lib.hid hbw
    have HZ := Lib.hid hz
    have HBB := Lib.hid (bel0 HB2.out hbw)
    clear hbw hz
    by_cases hlt : t < nlb
    · have hcw := (HBB.out.cell (p := ⟨B, off + t, none⟩) HBW.out).trans (HC.out t (by omega))
      have HS := Lib.hid (HTLS.out t (by omega))
      have HG := Lib.hid (HGT.out t hlt HZ.out)
      have htla : t < nla := by omega
      generalize gt la t = xb at *
      by_cases hx : xb = 0
      · have hx0 : ((xb.toNat : Int) == 0) = true := by rw [hx]; rfl
        have HX := Lib.hid hx
        clear hx
        go_wp2
        go_roundw
        case rel => exact ⟨HB.out, t + 1, by omega, by go_num, by rw [HS.out, anyNZ_snoc, HZ.out, HX.out]; rfl⟩
        case measure => simp [intOf]; omega
      · have hx0 : ((xb.toNat : Int) == 0) = false := by
          rw [beq_eq_false_iff_ne]
          intro e
          exact hx (UInt8.toNat_inj.1 (by show xb.toNat = 0; omega))
        have HBT := Lib.hid (HG.out hx)
        clear hx
        go_wp2
        go_ret2
        exact ⟨_, by rw [HRT.out HBT.out]; rfl, by rw [HRT.out HBT.out]; exact SvB.nil _, HBB.out⟩
    · obtain rfl : t = nlb := by omega
      have HBF : Hid (bad = false) := Lib.hid (by rw [HTLB.out, HZ.out])
      have HBd := Lib.hid (HBB.out.drew)
      have hA := HA2.out.next HB.out
      have H0 : Hid (Aq4 w1.heap.size (w1.heap.size + 1) (.bool na) (.slice p1 lx c1) (.bool nb) (.slice q1 ly d1) wr.drew) := Lib.hid (hA.next (Below.refl _ _).drew)
      have HXd := Lib.hid ((HX2.out.below HB.out).below (Below.refl wr.heap.size wr).drew)
      have HYd := Lib.hid ((HY2.out.below HB.out).below (Below.refl wr.heap.size wr).drew)
      clear hA HC HGT HTLS HTLB HTL0
      go_wp2
      go_region_held3 (fun W => W.cell? ⟨w1.heap.size, 0, none⟩ = some (.bool na) ∧ W.cell? ⟨w1.heap.size, 1, none⟩ = some (.slice p1 lx c1) ∧ W.cell? ⟨w1.heap.size + 1, 0, none⟩ = some (.bool nb) ∧ W.cell? ⟨w1.heap.size + 1, 1, none⟩ = some (.slice q1 ly d1))
        (first | assumption | exact H0.out)
        (first
          | (go_at_call 54; refine (HTI.out _ _ _ _ _ HXd.out HYd.out).mono ?_; rintro e w5 ⟨p5, c5, rfl, hs5, hb5⟩; have hk5 := Aq4.next H0.out hb5; have HB5 := Lib.hid (bel0 HBd.out hb5); have HS5 := Lib.hid hs5; clear hs5 hb5)
          | (go_at_call 53; refine (HFD.out _ _ _ HS5.out).mono ?_; rintro e w6 ⟨sv6, rfl, hs6, hb6⟩; have hk6 := Aq4.next hk5 hb6; have HB6 := Lib.hid (bel0 HB5.out hb6); have HS6 := Lib.hid hs6; clear hs6 hb6))
      all_goals go_wp2
      all_goals go_ret2
      all_goals exact ⟨_, by rw [HRF.out HBF.out]; rfl, by rw [HRF.out HBF.out]; exact HS6.out, HB6.out⟩
theorem tw_zero {p q : Option Addr} {cp cq : Nat} {la lb : List UInt8} {w : World} (ht : twoC la lb = 0) (hT : Calls Tryd.prog 38 #[.slice p la.length cp, .slice q lb.length cq] w (Tw4 w la lb (twoC la lb))) :
    Calls Tryd.prog 38 #[.slice p la.length cp, .slice q lb.length cq] w (fun e w' => ∃ p c q d, e = .returned (.tuple #[.agg #[.bool (dNeg la), .slice p (dgs (dVal la)).length c], .agg #[.bool (dNeg lb), .slice q (dgs (dVal lb)).length d], .int .i64 0]) ∧ SlI w' p c (dgs (dVal la)) ∧ SlI w' q d (dgs (dVal lb)) ∧ Below w.heap.size w w') :=
  hT.mono fun e w' h => by
    rcases h with ⟨_, h⟩ | ⟨h, _⟩
    · exact h
    · exact absurd ht h
theorem tw_code {p q : Option Addr} {cp cq : Nat} {la lb : List UInt8} {w : World} (ht : twoC la lb ≠ 0) (hT : Calls Tryd.prog 38 #[.slice p la.length cp, .slice q lb.length cq] w (Tw4 w la lb (twoC la lb))) :
    Calls Tryd.prog 38 #[.slice p la.length cp, .slice q lb.length cq] w (New w (.tuple #[.agg #[.bool false, .slice none 0 0], .agg #[.bool false, .slice none 0 0], .int .i64 (twoC la lb : Int)])) :=
  hT.mono fun e w' h => by
    rcases h with ⟨h, _⟩ | ⟨_, h⟩
    · exact absurd h ht
    · exact h
theorem rmul_any (p q : Option Addr) (cp cq : Nat) (la lb : List UInt8) (w : World) (hr : Rd w p la) (hq : Rd w q lb) :
    Calls Tryd.prog 24 #[.slice p la.length cp, .slice q lb.length cq] w (R2Post w (mulL la lb)) := by
  cases hs : szsB la.length lb.length
  · rw [mul_6 hs]
    exact mul6_any p q cp cq la lb w hs
  · obtain ⟨k1, k2, k3⟩ := szs_yes hs
    have hT := rtwo_any p q cp cq la lb w hr hq
    by_cases ht : twoC la lb = 0
    · obtain ⟨_, _, vx, vy⟩ := two_len ht
      have hlx := dgs_31 vx
      have hly := dgs_31 vy
      have hxy : (dgs (dVal la * dVal lb)).length ≤ 1000 := by
        have h1 : dVal la * dVal lb < 10 ^ 80 := Nat.lt_of_lt_of_le (Nat.mul_lt_mul'' vx vy) (by decide)
        have := (dgs_len_le _ 80).2 h1
        omega
      have hv : mulL la lb = if anyNZ (la.take lb.length) then ([], 7) else (fldL (dNeg la != dNeg lb) (dVal la * dVal lb) la.length, 0) := by
        unfold mulL mulC
        rw [if_neg k3, if_neg (show ¬ twoC la lb ≠ 0 by omega)]
        cases anyNZ (la.take lb.length) <;> rfl
      rw [hv]
      have hne : (dNeg la != dNeg lb) = !(dNeg la == dNeg lb) := rfl
      rw [hne]
      refine rmul_core p q cp cq (dgs (dVal la)).length (dgs (dVal lb)).length (dgs (dVal la * dVal lb)).length (dNeg la) (dNeg lb) (ovB (dVal la * dVal lb) la.length) (dgs (dVal la)) (dgs (dVal lb)) (dgs (dVal la * dVal lb)) la lb (fldL (!(dNeg la == dNeg lb)) (dVal la * dVal lb) la.length) (anyNZ (la.take lb.length)) _ w (Lib.hid fun h => by rw [h]; rfl) (Lib.hid fun h => by rw [h]; rfl) hs (Lib.hid hr) rfl (Lib.hid (tw_zero ht hT)) (Lib.hid fun p1 c1 q1 d1 W h1 h2 => ?_) (Lib.hid fun p1 c1 W h1 => ?_)
      · exact times_any p1 q1 c1 d1 (dVal la) (dVal lb) W (by omega) (by omega) h1 h2
      · exact rfield_any _ p1 c1 _ la.length W k1.1 k1.2 hxy h1
    · have hv : mulL la lb = ([], twoC la lb) := by
        have hm : mulC la lb = twoC la lb := by
          unfold mulC
          rw [if_neg k3, if_pos ht]
        unfold mulL
        rw [hm, if_neg ht]
      rw [hv]
      exact mulc_any p q cp cq (twoC la lb) la lb w hs ht (Lib.hid (tw_code ht hT))
set_option maxRecDepth 100000 in
set_option maxHeartbeats 4000000 in
theorem rdiv_zero (p q : Option Addr) (cp cq lx : Nat) (na nb : Bool) (X Y : List (Fin 16)) (la lb : List UInt8) (w : World) (h : szsB la.length lb.length = true)
    (HT : Hid (Calls Tryd.prog 38 #[.slice p la.length cp, .slice q lb.length cq] w (fun e w' => ∃ p c q d, e = .returned (.tuple #[.agg #[.bool na, .slice p lx c], .agg #[.bool nb, .slice q 0 d], .int .i64 0]) ∧ SlI w' p c X ∧ SlI w' q d Y ∧ Below w.heap.size w w'))) :
    Calls Tryd.prog 26 #[.slice p la.length cp, .slice q lb.length cq] w (R2Post w ([], 11)) := by
  have HSZ := Lib.hid (fun W => sizes_any p q cp cq la.length lb.length W)
  rw [h] at HSZ
  clear h
  generalize la.length = nla at *
  generalize lb.length = nlb at *
  go_enter Tryd.func26, Tryd.ntmps26
  go_wp2_with fail
  refine (HSZ.out _).mono ?_
  rintro e w' ⟨rfl, rfl⟩
  go_wp2_with fail
  refine (HT.out).mono ?_
  rintro e w1 ⟨p1, c1, q1, d1, rfl, hx1, hy1, hb⟩
  obtain ⟨W2, hW2⟩ : ∃ W2, W2 = (w1.alloc (.cells #[.bool na, .slice p1 lx c1] 52)).alloc (.cells #[.bool nb, .slice q1 0 d1] 52) := ⟨_, rfl⟩
  have hb2 : Below w1.heap.size w1 W2 := by rw [hW2]; exact below2 w1 _ _
  have hA2 : Aq4 w1.heap.size (w1.heap.size + 1) (.bool na) (.slice p1 lx c1) (.bool nb) (.slice q1 0 d1) W2 := by
    rw [hW2]
    exact Aq4.of ((Bx.new w1 _ _).below (below_new _ _)) (second_new w1 _ _ _ _ rfl)
  have HB2 := Lib.hid (bel0 hb hb2)
  have HX2 := Lib.hid (hx1.below hb2)
  have HY2 := Lib.hid (hy1.below hb2)
  have HA2 := Lib.hid hA2
  clear hb hb2 hx1 hy1 HT hA2
  obtain ⟨a1, a2, a3, a4⟩ := HA2.out
  go_wp2_with fail
  rw [← hW2]
  clear hW2
  go_wp2
  go_ret2
  exact ⟨_, rfl, SvB.nil _, HB2.out⟩
set_option maxRecDepth 100000 in
set_option maxHeartbeats 4000000 in
theorem rdiv_over (p q : Option Addr) (cp cq lx ly l1 l2 n : Nat) (na nb ov2 : Bool) (X Y L1 L2 : List (Fin 16)) (la lb F1 F2 : List UInt8) (w : World) (h : szsB la.length lb.length = true) (hly : ly ≠ 0) (hn : la.length = lb.length + n) (HN1 : Hid (F1.length = n)) (HN2 : Hid (F2.length = lb.length))
    (HT : Hid (Calls Tryd.prog 38 #[.slice p la.length cp, .slice q lb.length cq] w (fun e w' => ∃ p c q d, e = .returned (.tuple #[.agg #[.bool na, .slice p lx c], .agg #[.bool nb, .slice q ly d], .int .i64 0]) ∧ SlI w' p c X ∧ SlI w' q d Y ∧ Below w.heap.size w w')))
    (HQT : Hid (∀ p1 c1 q1 d1 W, SlI W p1 c1 X → SlI W q1 d1 Y → Calls Tryd.prog 56 #[.slice p1 lx c1, .slice q1 ly d1] W (fun e w' => ∃ p c q d, e = .returned (.tuple #[.slice p l1 c, .slice q l2 d]) ∧ SlI w' p c L1 ∧ SlI w' q d L2 ∧ Below W.heap.size W w')))
    (HF1 : Hid (∀ p c W, SlI W p c L1 → Calls Tryd.prog 53 #[.agg #[.bool (!(na == nb)), .slice p l1 c], .int .i64 (n : Int)] W (fun e w' => ∃ sv, e = .returned (.tuple #[sv, .bool true]) ∧ Hold w' W.heap.size sv F1 ∧ Below W.heap.size W w')))
    (HF2 : Hid (∀ p c W, SlI W p c L2 → Calls Tryd.prog 53 #[.agg #[.bool na, .slice p l2 c], .int .i64 (lb.length : Int)] W (fun e w' => ∃ sv, e = .returned (.tuple #[sv, .bool ov2]) ∧ Hold w' W.heap.size sv F2 ∧ Below W.heap.size W w'))) :
    Calls Tryd.prog 26 #[.slice p la.length cp, .slice q lb.length cq] w (R2Post w ([], 11)) := by
  have HSZ := Lib.hid (fun W => sizes_any p q cp cq la.length lb.length W)
  rw [h] at HSZ
  obtain ⟨⟨k1, k2⟩, ⟨k3, k4⟩, k5⟩ := szs_yes h
  have hn16 : n ≤ 16 := by omega
  have hnI : (la.length : Int) - (lb.length : Int) = (n : Int) := by omega
  clear h k5 hn
  generalize la.length = nla at *
  generalize lb.length = nlb at *
  go_enter Tryd.func26, Tryd.ntmps26
  go_wp2_with fail
  refine (HSZ.out _).mono ?_
  rintro e w' ⟨rfl, rfl⟩
  go_wp2_with fail
  refine (HT.out).mono ?_
  rintro e w1 ⟨p1, c1, q1, d1, rfl, hx1, hy1, hb⟩
  obtain ⟨W2, hW2⟩ : ∃ W2, W2 = (w1.alloc (.cells #[.bool na, .slice p1 lx c1] 52)).alloc (.cells #[.bool nb, .slice q1 ly d1] 52) := ⟨_, rfl⟩
  have hb2 : Below w1.heap.size w1 W2 := by rw [hW2]; exact below2 w1 _ _
  have hA2 : Aq4 w1.heap.size (w1.heap.size + 1) (.bool na) (.slice p1 lx c1) (.bool nb) (.slice q1 ly d1) W2 := by
    rw [hW2]
    exact Aq4.of ((Bx.new w1 _ _).below (below_new _ _)) (second_new w1 _ _ _ _ rfl)
  have HB2 := Lib.hid (bel0 hb hb2)
  have HX2 := Lib.hid (hx1.below hb2)
  have HY2 := Lib.hid (hy1.below hb2)
  have HA2 := Lib.hid hA2
  clear hb hb2 hx1 hy1 HT hA2
  obtain ⟨a1, a2, a3, a4⟩ := HA2.out
  go_wp2_with fail
  rw [← hW2]
  clear hW2
  go_wp2_with fail
  refine (HQT.out _ _ _ _ _ HX2.out HY2.out).mono ?_
  rintro e w3 ⟨p3, c3, q3, d3, rfl, hs3, ht3, hb⟩
  have HB3 := Lib.hid (bel0 HB2.out hb)
  have HA3 := Lib.hid (HA2.out.next hb)
  have HS3 := Lib.hid hs3
  have HT3 := Lib.hid ht3
  clear hb hs3 ht3 a1 a2 a3 a4 HA2 HX2 HY2 HQT
  obtain ⟨a1, a2, a3, a4⟩ := HA3.out
  go_wp2_with fail
  refine (HF1.out _ _ _ HS3.out).mono ?_
  rintro e w4 ⟨sv4, rfl, hh4, hb⟩
  have HB4 := Lib.hid (bel0 HB3.out hb)
  have HA4 := Lib.hid (HA3.out.next hb)
  have HT4 := Lib.hid (HT3.out.below hb)
  have HH4 := Lib.hid (Hold.base hh4 HB3.out.size)
  clear hb hh4 a1 a2 a3 a4 HA3 HS3 HT3 HF1
  go_wp2
  go_ret2
  exact ⟨_, rfl, SvB.nil _, HB4.out⟩
set_option maxRecDepth 100000 in
set_option maxHeartbeats 4000000 in
theorem rdiv_fine (p q : Option Addr) (cp cq lx ly l1 l2 n : Nat) (na nb ov2 : Bool) (X Y L1 L2 : List (Fin 16)) (la lb F1 F2 : List UInt8) (w : World) (h : szsB la.length lb.length = true) (hly : ly ≠ 0) (hn : la.length = lb.length + n) (HN1 : Hid (F1.length = n)) (HN2 : Hid (F2.length = lb.length))
    (HT : Hid (Calls Tryd.prog 38 #[.slice p la.length cp, .slice q lb.length cq] w (fun e w' => ∃ p c q d, e = .returned (.tuple #[.agg #[.bool na, .slice p lx c], .agg #[.bool nb, .slice q ly d], .int .i64 0]) ∧ SlI w' p c X ∧ SlI w' q d Y ∧ Below w.heap.size w w')))
    (HQT : Hid (∀ p1 c1 q1 d1 W, SlI W p1 c1 X → SlI W q1 d1 Y → Calls Tryd.prog 56 #[.slice p1 lx c1, .slice q1 ly d1] W (fun e w' => ∃ p c q d, e = .returned (.tuple #[.slice p l1 c, .slice q l2 d]) ∧ SlI w' p c L1 ∧ SlI w' q d L2 ∧ Below W.heap.size W w')))
    (HF1 : Hid (∀ p c W, SlI W p c L1 → Calls Tryd.prog 53 #[.agg #[.bool (!(na == nb)), .slice p l1 c], .int .i64 (n : Int)] W (fun e w' => ∃ sv, e = .returned (.tuple #[sv, .bool false]) ∧ Hold w' W.heap.size sv F1 ∧ Below W.heap.size W w')))
    (HF2 : Hid (∀ p c W, SlI W p c L2 → Calls Tryd.prog 53 #[.agg #[.bool na, .slice p l2 c], .int .i64 (lb.length : Int)] W (fun e w' => ∃ sv, e = .returned (.tuple #[sv, .bool ov2]) ∧ Hold w' W.heap.size sv F2 ∧ Below W.heap.size W w'))) :
    Calls Tryd.prog 26 #[.slice p la.length cp, .slice q lb.length cq] w (R2Post w (F1 ++ F2, 0)) := by
  have HSZ := Lib.hid (fun W => sizes_any p q cp cq la.length lb.length W)
  rw [h] at HSZ
  obtain ⟨⟨k1, k2⟩, ⟨k3, k4⟩, k5⟩ := szs_yes h
  have hn16 : n ≤ 16 := by omega
  have hnI : (la.length : Int) - (lb.length : Int) = (n : Int) := by omega
  clear h k5 hn
  generalize la.length = nla at *
  generalize lb.length = nlb at *
  go_enter Tryd.func26, Tryd.ntmps26
  go_wp2_with fail
  refine (HSZ.out _).mono ?_
  rintro e w' ⟨rfl, rfl⟩
  go_wp2_with fail
  refine (HT.out).mono ?_
  rintro e w1 ⟨p1, c1, q1, d1, rfl, hx1, hy1, hb⟩
  obtain ⟨W2, hW2⟩ : ∃ W2, W2 = (w1.alloc (.cells #[.bool na, .slice p1 lx c1] 52)).alloc (.cells #[.bool nb, .slice q1 ly d1] 52) := ⟨_, rfl⟩
  have hb2 : Below w1.heap.size w1 W2 := by rw [hW2]; exact below2 w1 _ _
  have hA2 : Aq4 w1.heap.size (w1.heap.size + 1) (.bool na) (.slice p1 lx c1) (.bool nb) (.slice q1 ly d1) W2 := by
    rw [hW2]
    exact Aq4.of ((Bx.new w1 _ _).below (below_new _ _)) (second_new w1 _ _ _ _ rfl)
  have HB2 := Lib.hid (bel0 hb hb2)
  have HX2 := Lib.hid (hx1.below hb2)
  have HY2 := Lib.hid (hy1.below hb2)
  have HA2 := Lib.hid hA2
  clear hb hb2 hx1 hy1 HT hA2
  obtain ⟨a1, a2, a3, a4⟩ := HA2.out
  go_wp2_with fail
  rw [← hW2]
  clear hW2
  go_wp2_with fail
  refine (HQT.out _ _ _ _ _ HX2.out HY2.out).mono ?_
  rintro e w3 ⟨p3, c3, q3, d3, rfl, hs3, ht3, hb⟩
  have HB3 := Lib.hid (bel0 HB2.out hb)
  have HA3 := Lib.hid (HA2.out.next hb)
  have HS3 := Lib.hid hs3
  have HT3 := Lib.hid ht3
  clear hb hs3 ht3 a1 a2 a3 a4 HA2 HX2 HY2 HQT
  obtain ⟨a1, a2, a3, a4⟩ := HA3.out
  go_wp2_with fail
  refine (HF1.out _ _ _ HS3.out).mono ?_
  rintro e w4 ⟨sv4, rfl, hh4, hb⟩
  have HB4 := Lib.hid (bel0 HB3.out hb)
  have HA4 := Lib.hid (HA3.out.next hb)
  have HT4 := Lib.hid (HT3.out.below hb)
  have HH4 := Lib.hid (Hold.base hh4 HB3.out.size)
  clear hb hh4 a1 a2 a3 a4 HA3 HS3 HT3 HF1
  obtain ⟨a1, a2, a3, a4⟩ := HA4.out
  go_wp2_with fail
  refine (HF2.out _ _ _ HT4.out).mono ?_
  rintro e w5 ⟨sv5, rfl, hh5, hb⟩
  have HB5 := Lib.hid (bel0 HB4.out hb)
  have HH5 := Lib.hid (own_kept HH4.out hb)
  obtain ⟨p6, c6, rfl, hr6, hc6, _⟩ := Hold.full hh5
  obtain ⟨B6, off6, rfl⟩ := hr6.addr (by rw [HN2.out]; exact k3)
  rw [HN1.out] at HH5
  rw [HN2.out]
  have HR6 := Lib.hid hr6
  obtain ⟨i0, hi, hz0, hz1, hz2⟩ := info_parts info5
  clear hb hh5 hr6 a1 a2 a3 a4 HA4 HT4 HF2 HH4
  go_wp2_with (at_builtin; refine wpList_append_own _ rfl (.tmp 68) (.tmp 69) 22 rfl w.heap.size 5 i0 (.int .u8 0) 1 1 Tryd.underlying22 hi hz0 hz1 hz2 rfl (by decide) _ n (bsU F1) rfl HH5.out ⟨B6, off6, none⟩ nlb c6 (bsU F2) rfl (by rw [bsU_len, HN2.out, Nat.mul_one]) HR6.out.cells4 (bsU_one _) (by unfold maxLen; omega) (by omega) (by have := HB5.out.size; omega) ?_)
  intro v' w7 hown hgrow _
  have HB7 := Lib.hid (HB5.out.grown hgrow HB5.out.size (fun r hr => (HH5.out.lt r hr).1))
  have hsv : SvB w7 v' (F1 ++ F2) := by
    refine Hold.svb (base := w.heap.size) ?_
    unfold Hold
    rw [bsU_app, List.length_append, HN1.out, HN2.out]
    exact hown
  have HSV := Lib.hid hsv
  clear hown hgrow hsv
  go_wp2
  go_ret2
  exact ⟨_, rfl, HSV.out, HB7.out⟩
theorem rdiv_any (p q : Option Addr) (cp cq : Nat) (la lb : List UInt8) (w : World) (hr : Rd w p la) (hq : Rd w q lb) :
    Calls Tryd.prog 26 #[.slice p la.length cp, .slice q lb.length cq] w (R2Post w (divL la lb)) := by
  cases hs : szsB la.length lb.length
  · rw [div_6 hs]
    exact div6_any p q cp cq la lb w hs
  · obtain ⟨k1, k2, k3⟩ := szs_yes hs
    have hT := rtwo_any p q cp cq la lb w hr hq
    by_cases ht : twoC la lb = 0
    · have hT' := tw_zero ht hT
      obtain ⟨_, _, vx, vy⟩ := two_len ht
      have hlx := dgs_31 vx
      have hly := dgs_31 vy
      by_cases hy : dVal lb = 0
      · have hv : divL la lb = ([], 11) := by
          refine divL_not ?_ (by omega)
          unfold divC
          rw [if_neg k3, if_neg (show ¬ twoC la lb ≠ 0 by omega), if_pos hy]
        rw [hv]
        rw [hy, show (dgs 0).length = 0 by rw [dgs_zero]; rfl] at hT'
        exact rdiv_zero p q cp cq (dgs (dVal la)).length (dNeg la) (dNeg lb) (dgs (dVal la)) (dgs 0) la lb w hs (Lib.hid hT')
      · have hq1 : dVal la / dVal lb ≤ dVal la := Nat.div_le_self _ _
        have hq2 : dVal la % dVal lb < dVal lb := Nat.mod_lt _ (by omega)
        have hl1 := dgs_31 (Nat.lt_of_le_of_lt hq1 vx)
        have hl2 := dgs_31 (Nat.lt_trans hq2 vy)
        have hne : (dNeg la != dNeg lb) = !(dNeg la == dNeg lb) := rfl
        have hlz : (dgs (dVal lb)).length ≠ 0 := fun e => hy ((len_zero _).1 e)
        have hQ := fun p1 c1 q1 d1 W h1 h2 => quot_any p1 q1 c1 d1 (dVal la) (dVal lb) W (by omega) (by omega) hy h1 h2
        have hF1 := fun p1 c1 W h1 => rfield_hold (!(dNeg la == dNeg lb)) p1 c1 (dVal la / dVal lb) (la.length - lb.length) W (by omega) (by omega) (by omega) h1
        have hF2 := fun p1 c1 W h1 => rfield_hold (dNeg la) p1 c1 (dVal la % dVal lb) lb.length W k2.1 k2.2 (by omega) h1
        unfold FhPost at hF1
        have hdv : divC la lb = if ovB (dVal la / dVal lb) (la.length - lb.length) then 11 else 0 := by
          unfold divC
          rw [if_neg k3, if_neg (show ¬ twoC la lb ≠ 0 by omega), if_neg hy]
        cases ho : ovB (dVal la / dVal lb) (la.length - lb.length)
        · rw [ho] at hF1 hdv
          have hv : divL la lb = (fldL (dNeg la != dNeg lb) (dVal la / dVal lb) (la.length - lb.length) ++ fldL (dNeg la) (dVal la % dVal lb) lb.length, 0) := by
            unfold divL
            rw [hdv]
            rfl
          rw [hv, hne]
          exact rdiv_fine p q cp cq (dgs (dVal la)).length (dgs (dVal lb)).length (dgs (dVal la / dVal lb)).length (dgs (dVal la % dVal lb)).length (la.length - lb.length) (dNeg la) (dNeg lb) (ovB (dVal la % dVal lb) lb.length) (dgs (dVal la)) (dgs (dVal lb)) (dgs (dVal la / dVal lb)) (dgs (dVal la % dVal lb)) la lb _ _ w hs hlz (by omega) (Lib.hid (fldL_len _ _ _)) (Lib.hid (fldL_len _ _ _)) (Lib.hid hT') (Lib.hid hQ) (Lib.hid hF1) (Lib.hid hF2)
        · rw [ho] at hF1 hdv
          rw [divL_not hdv (by decide)]
          exact rdiv_over p q cp cq (dgs (dVal la)).length (dgs (dVal lb)).length (dgs (dVal la / dVal lb)).length (dgs (dVal la % dVal lb)).length (la.length - lb.length) (dNeg la) (dNeg lb) (ovB (dVal la % dVal lb) lb.length) (dgs (dVal la)) (dgs (dVal lb)) (dgs (dVal la / dVal lb)) (dgs (dVal la % dVal lb)) la lb _ _ w hs hlz (by omega) (Lib.hid (fldL_len _ _ _)) (Lib.hid (fldL_len _ _ _)) (Lib.hid hT') (Lib.hid hQ) (Lib.hid hF1) (Lib.hid hF2)
    · have hv : divL la lb = ([], twoC la lb) := by
        refine divL_not ?_ ht
        unfold divC
        rw [if_neg k3, if_pos ht]
      rw [hv]
      exact divc_any p q cp cq (twoC la lb) la lb w hs ht (Lib.hid (tw_code ht hT))

end E
end Go.Proofs.YtlpekknhaaddcaaDoor

/- The contract of Divide. -/
import Derived.Test.YtbcncohjjnmdcaaGreatDoorRows
import Derived.ArgAppend
import Derived.Test.YtbcncohjjnmdcaaGreatDoorDcMul
namespace Go.Proofs.YtbcncohjjnmdcaaGreatDoor
open Go.RowKit Go.Shelf
set_option linter.unusedVariables false
namespace E

/-- What Divide answers. -/
def divC (la lb : List UInt8) : Nat := if 8 < lb.length ∨ la.length ≤ lb.length then 6 else if twoC la lb ≠ 0 then twoC la lb else if dVal lb = 0 then 11 else if ovB (dVal la / dVal lb) (la.length - lb.length) then 11 else 0
def divL (la lb : List UInt8) : List UInt8 × Nat := if divC la lb = 0 then (fldL (dNeg la != dNeg lb) (dVal la / dVal lb) (la.length - lb.length) ++ fldL (dNeg la) (dVal la % dVal lb) lb.length, 0) else ([], divC la lb)
theorem divL_not {la lb : List UInt8} {k : Nat} (h : divC la lb = k) (hk : k ≠ 0) : divL la lb = ([], k) := by
  unfold divL
  rw [h, if_neg hk]
theorem bsU_app (l m : List UInt8) : bsU (l ++ m) = bsU l ++ bsU m := by simp [bsU]
theorem Blk.cells4 {w : World} {base g : Nat} {l : List UInt8} (h : Blk w base g l) : ∀ j u, (bsU l)[j]? = some u → w.cell? ((⟨g, 0, none⟩ : Addr).add j) = some u := fun j u hu => by
  obtain ⟨hj, rfl⟩ := bsU_at hu
  rw [show ((⟨g, 0, none⟩ : Addr).add j) = ⟨g, j, none⟩ from by by_cases h0 : j = 0 <;> simp [Addr.add, h0]]
  exact h.cell j hj
set_option maxRecDepth 100000 in
set_option maxHeartbeats 4000000 in
theorem pdiv4_any (p q : Option Addr) (cp cq : Nat) (la lb : List UInt8) (w : World) (hcp : la.length ≤ cp) (hcp2 : cp ≤ 9223372036854775807) (hlb2 : lb.length ≤ 9223372036854775807) (hr : Rd w p la) (hq : Rd w q lb) (hg : Sg w) :
    Calls Tryz.prog 113 #[.slice p la.length cp, .slice q lb.length cq] w (R2Post w (divL la lb)) := by
  have HTW := Lib.hid (unequal_any p q cp cq la lb w (by omega) hlb2 hr hq hg)
  obtain ⟨code, hcode⟩ : ∃ code, code = (if 8 < lb.length ∨ la.length ≤ lb.length then 6 else twoC la lb) := ⟨_, rfl⟩
  rw [← hcode] at HTW
  unfold TwPost at HTW
  by_cases hz : code = 0
  · have h8 : ¬ (8 < lb.length ∨ la.length ≤ lb.length) := fun h => by rw [if_pos h] at hcode; omega
    rw [if_neg h8, hz] at hcode
    obtain ⟨hla, hlb, vx, vy⟩ := two_len hcode.symm
    have hmc : divC la lb = if dVal lb = 0 then 11 else if ovB (dVal la / dVal lb) (la.length - lb.length) then 11 else 0 := by unfold divC; rw [if_neg h8, if_neg (by omega)]
    subst hz
    have i1 : lb.length < la.length := by omega
    have i2 : lb.length ≤ 8 := by omega
    have vy15 := dVal_15 hlb.1 i2
    by_cases hy0 : dVal lb = 0
    · rw [if_pos hy0] at hmc
      have HV := Lib.hid (divL_not hmc (by decide))
      rw [hy0] at HTW
      clear hr hq hg hcode hmc vx vy h8 hy0 vy15
      go_enter Tryz.func113, Tryz.ntmps113
      go_wp2_with fail
      refine (HTW.out).mono ?_
      rintro e w1 h
      rcases h with ⟨_, c, d, c', d', h1, h2, rfl, hb⟩ | ⟨hne, _⟩
      case inr => exact absurd rfl hne
      have hc0 : c' = 0 ∧ d' = 0 := by
        obtain ⟨e1, e2⟩ := h2
        omega
      obtain ⟨rfl, rfl⟩ := hc0
      have h00 : (((0 : Nat)) : Int) = 0 := rfl
      rw [h00]
      have HB2 := Lib.hid (bel0 hb (below2 w1 (.cells #[.bool (dNeg la), .int .u64 (c : Int), .int .u64 (d : Int)] 167) (.cells #[.bool (dNeg lb), .int .u64 0, .int .u64 0] 167)))
      clear hb h1 h2 HTW h00
      go_wp2
      go_ret2
      exact ⟨_, by rw [HV.out]; rfl, by rw [HV.out]; exact SvB.nil _, HB2.out⟩
    · rw [if_neg hy0] at hmc
      obtain ⟨n1, hn1⟩ : ∃ n1, n1 = la.length - lb.length := ⟨_, rfl⟩
      have hn1I : (la.length : Int) - (lb.length : Int) = (n1 : Int) := by omega
      have n1a : 1 ≤ n1 := by omega
      have n1b : n1 ≤ 16 := by omega
      obtain ⟨y, hy⟩ : ∃ y, y = dVal lb := ⟨_, rfl⟩
      obtain ⟨x, hx⟩ : ∃ x, x = dVal la := ⟨_, rfl⟩
      have HV0 := Lib.hid (show divL la lb = if divC la lb = 0 then (fldL (dNeg la != dNeg lb) (x / y) n1 ++ fldL (dNeg la) (x % y) lb.length, 0) else ([], divC la lb) by rw [hx, hy, hn1]; rfl)
      rw [← hx, ← hy, ← hn1] at hmc
      rw [← hx] at vx
      rw [← hy] at hy0 vy15
      have hqx : x / y ≤ x := Nat.div_le_self _ _
      have hry : x % y < y := Nat.mod_lt _ (by omega)
      have HDV := Lib.hid (fun W a b (h : Pw x a b) => pdiv_cells x y a b W h (by omega) (by omega) (by omega))
      have HF10 := fun W a b (h : Pw (x / y) a b) => field_any (dNeg la != dNeg lb) (x / y) 0 n1 a b W h (by omega) (by omega) n1a n1b
      have HF20 := fun W => field_any (dNeg la) (x % y) 0 lb.length 0 (x % y) W ⟨by omega, by omega⟩ (by omega) (by omega) hlb.1 hlb.2
      rw [Nat.pow_zero, Nat.mul_one] at HF10 HF20
      have h00 : (((0 : Nat)) : Int) = 0 := rfl
      rw [h00] at HF10 HF20
      obtain ⟨na, hna⟩ : ∃ na, na = dNeg la := ⟨_, rfl⟩
      obtain ⟨nb, hnb⟩ : ∃ nb, nb = dNeg lb := ⟨_, rfl⟩
      rw [← hna, ← hnb] at HF10
      rw [← hna] at HF20
      rw [← hna, ← hnb] at HV0
      have HF1 := Lib.hid HF10
      have HF2 := Lib.hid HF20
      have HL1 := Lib.hid (fldL_len (na != nb) (x / y) n1)
      have HL2 := Lib.hid (fldL_len na (x % y) lb.length)
      unfold FdPost at HF1 HF2
      unfold QcPost at HDV
      generalize fldL (na != nb) (x / y) n1 = F1 at *
      generalize fldL na (x % y) lb.length = F2 at *
      generalize ovB (x / y) n1 = ov at *
      generalize ovB (x % y) lb.length = ov2 at *
      have hbne : (na != nb) = !(na == nb) := rfl
      rw [hbne] at HF1
      have HMC := Lib.hid hmc
      have hyz : ((y : Int) == 0) = false := by
        simp only [beq_eq_false_iff_ne, ne_eq]
        omega
      generalize x / y = xq at *
      generalize x % y = xr at *
      rw [← hx, ← hy, ← hna, ← hnb] at HTW
      clear hr hq hg hcode hmc vx vy h8 hx hy hbne h00 HF10 HF20 hna hnb hn1 hqx
      go_enter Tryz.func113, Tryz.ntmps113
      go_wp2_with fail
      refine (HTW.out).mono ?_
      rintro e w1 h
      rcases h with ⟨_, c, d, c', d', h1, h2, rfl, hb⟩ | ⟨hne, _⟩
      case inr => exact absurd rfl hne
      have hc0 : c' = 0 ∧ d' = y := by
        obtain ⟨e1, e2⟩ := h2
        omega
      obtain ⟨rfl, rfl⟩ := hc0
      have h00 : (((0 : Nat)) : Int) = 0 := rfl
      rw [h00]
      have HB2 := Lib.hid (bel0 hb (below2 w1 (.cells #[.bool na, .int .u64 (c : Int), .int .u64 (d : Int)] 167) (.cells #[.bool nb, .int .u64 0, .int .u64 (d' : Int)] 167)))
      obtain ⟨tn1, tn2⟩ := two_new w1 (.bool na) (.int .u64 (c : Int)) (.int .u64 (d : Int)) (.bool nb) (.int .u64 0) (.int .u64 (d' : Int))
      have HN1 := Lib.hid tn1
      have HN2 := Lib.hid tn2
      have HDV1 := Lib.hid (fun W => HDV.out W c d h1)
      clear hb h1 h2 HTW h00 tn1 tn2 HDV
      go_wp2_with fail
      refine (HDV1.out _).mono ?_
      rintro e w2 ⟨a1, b1, hq1, rfl, hb⟩
      have HB3 := Lib.hid (bel0 HB2.out hb)
      have HN3 := Lib.hid (HN1.out.below hb)
      have HM3 := Lib.hid (HN2.out.below hb)
      have HF3 := Lib.hid (fun W => HF1.out W a1 b1 hq1)
      clear hb hq1 HB2 HN1 HN2 HDV1 HF1
      have HB4 := Lib.hid (bel0 HB3.out (below_new w2 (.cells #[.int .u64 (a1 : Int), .int .u64 (b1 : Int)] 165)))
      have HN4 := Lib.hid (HN3.out.below (below_new w2 (.cells #[.int .u64 (a1 : Int), .int .u64 (b1 : Int)] 165)))
      have HM4 := Lib.hid (HM3.out.below (below_new w2 (.cells #[.int .u64 (a1 : Int), .int .u64 (b1 : Int)] 165)))
      obtain ⟨⟨d1, d2, d3⟩, _⟩ := HN4.out.three
      obtain ⟨⟨e1, e2, e3⟩, _⟩ := HM4.out.three
      obtain ⟨⟨x1, x2⟩, _⟩ := (Bx.new w2 165 #[.int .u64 (a1 : Int), .int .u64 (b1 : Int)]).two
      obtain ⟨⟨y1, y2, y3⟩, _⟩ := HN3.out.three
      obtain ⟨⟨z1, z2, z3⟩, _⟩ := HM3.out.three
      have hz1 : w1.heap.size < w2.heap.size := HN3.out.lt
      have hz2 : w1.heap.size + 1 < w2.heap.size := HM3.out.lt
      have hz3 : w1.heap.size ≠ w2.heap.size := by omega
      have hz4 : w1.heap.size + 1 ≠ w2.heap.size := by omega
      go_wp2_with fail
      refine (HF3.out _).mono ?_
      rintro e w3 ⟨g1, rfl, hk1, hb⟩
      have HB5 := Lib.hid (bel0 HB4.out hb)
      have HN5 := Lib.hid (HN4.out.below hb)
      have HK1 := Lib.hid hk1
      clear hb hk1 HF3 d1 d2 d3 e1 e2 e3 x1 x2 y1 y2 y3 z1 z2 z3 hz1 hz2 hz3 hz4 HB3 HN3 HM3 HB4 HN4 HM4
      obtain ⟨⟨d1, d2, d3⟩, _⟩ := HN5.out.three
      cases ov
      · have hv : divL la lb = (F1 ++ F2, 0) := by
          have hm0 : divC la lb = 0 := by rw [HMC.out]; rfl
          rw [HV0.out, if_pos hm0]
        have HV := Lib.hid hv
        clear hv
        go_wp2_with fail
        refine (HF2.out _).mono ?_
        rintro e w4 ⟨g2, rfl, hk2, hb⟩
        have HB6 := Lib.hid (bel0 HB5.out hb)
        have HK3 := Lib.hid (HK1.out.below hb)
        have HK2 := Lib.hid hk2
        obtain ⟨i0, hi, hz0, hz1, hz2⟩ := info_parts info5
        clear hb hk2 HF2 d1 d2 d3
        go_wp2_with (at_builtin; refine wpList_append_grows _ rfl (.tmp 64) (.tmp 65) 31 rfl 5 i0 (.int .u8 0) 1 1 Tryz.underlying31 hi hz0 hz1 hz2 rfl (by decide) (some ⟨g1, 0, none⟩) n1 n1 (bsU F1) rfl (fun h => by cases h) (by rw [bsU_len, HL1.out, Nat.mul_one]) (fun b hb => by obtain rfl := (Option.some.inj hb); exact HK3.out.cells4) ⟨g2, 0, none⟩ lb.length lb.length (bsU F2) rfl (by rw [bsU_len, HL2.out, Nat.mul_one]) HK2.out.cells4 (bsU_one _) (by omega) (by unfold maxLen; omega) (by omega) ?_)
        intro v' w5 hown hgrow
        have HB7 := Lib.hid (HB6.out.grown hgrow HB6.out.size (fun r hr => by cases hr))
        have hsv : SvB w5 v' (F1 ++ F2) := by
          refine Hold.svb (base := w4.heap.size) ?_
          unfold Hold
          rw [bsU_app, List.length_append, HL1.out, HL2.out]
          exact hown
        have HSV := Lib.hid hsv
        clear hown hgrow hsv
        go_wp2
        go_ret2
        exact ⟨_, by rw [HV.out]; rfl, by rw [HV.out]; exact HSV.out, HB7.out⟩
      · have hv : divL la lb = ([], 11) := divL_not (by rw [HMC.out]; rfl) (by decide)
        have HV := Lib.hid hv
        clear hv
        go_wp2
        go_ret2
        exact ⟨_, by rw [HV.out]; rfl, by rw [HV.out]; exact SvB.nil _, HB5.out⟩
  · have hv : divL la lb = ([], code) := by
      refine divL_not ?_ hz
      unfold divC
      by_cases h8 : 8 < lb.length ∨ la.length ≤ lb.length
      · rw [if_pos h8] at hcode ⊢
        exact hcode.symm
      · rw [if_neg h8] at hcode ⊢
        rw [if_pos (by omega)]
        exact hcode.symm
    have HV := Lib.hid hv
    have HZ := Lib.hid hz
    have hcz : ((code : Int) == 0) = false := by
      simp only [beq_eq_false_iff_ne, ne_eq]
      omega
    clear hv hr hq hg hcode hz
    go_enter Tryz.func113, Tryz.ntmps113
    go_wp2_with fail
    refine (HTW.out).mono ?_
    rintro e w1 h
    rcases h with ⟨h0, _⟩ | ⟨hne, rfl, hb⟩
    · exact absurd h0 HZ.out
    have HB2 := Lib.hid (bel0 hb (below2 w1 (.cells #[.bool false, .int .u64 0, .int .u64 0] 167) (.cells #[.bool false, .int .u64 0, .int .u64 0] 167)))
    clear hb hne HTW
    go_wp2
    go_ret2
    exact ⟨_, by rw [HV.out]; rfl, by rw [HV.out]; exact SvB.nil _, HB2.out⟩

end E
end Go.Proofs.YtbcncohjjnmdcaaGreatDoor
namespace Go.Proofs.YtbcncohjjnmdcaaGreatDoor
open Go.RowKit Go.Shelf
set_option linter.unusedVariables false
namespace E

/-- What Shift answers. -/
def shL (la : List UInt8) (n r : Int) : List UInt8 × Nat × Nat :=
  if n < -32 ∨ 31 < n ∨ opC la = 6 then ([], 0, 6) else if opC la = 7 ∨ r < 0 ∨ 9 < r then ([], 0, 7) else
    resS (dNeg la) (if n < 0 then dropN (dVal la) (-n).toNat r.toNat else dVal la * 10 ^ n.toNat) la.length
theorem dropN_lt {x n r B : Nat} (h : x + 1 < B) : dropN x n r < B := by
  unfold dropN
  have := Nat.div_le_self x (10 ^ n)
  split <;> omega
set_option maxRecDepth 100000 in
set_option maxHeartbeats 4000000 in
theorem pshift_any (p : Option Addr) (cp : Nat) (la : List UInt8) (n r : Int) (w : World) (hn0 : -9223372036854775808 ≤ n) (hn1 : n < 9223372036854775808) (hr : Rd w p la) (hg : Sg w) :
    Calls Tryz.prog 114 #[.slice p la.length cp, .int .i64 n, .int .i64 r] w (R3Post w (shL la n r)) := by
  have HOP := Lib.hid (operand_any p cp la w hr hg)
  unfold OpPost at HOP
  by_cases hlow : n < -32
  · have hv : shL la n r = ([], 0, 6) := by unfold shL; rw [if_pos (.inl hlow)]
    have HV := Lib.hid hv
    clear hv hr hg
    go_enter Tryz.func114, Tryz.ntmps114
    go_wp2
    go_ret3
    exact ⟨_, by rw [HV.out]; rfl, by rw [HV.out]; exact SvB.nil _, Below.refl _ _⟩
  by_cases hhi : 31 < n
  · have hv : shL la n r = ([], 0, 6) := by unfold shL; rw [if_pos (.inr (.inl hhi))]
    have HV := Lib.hid hv
    clear hv hr hg
    go_enter Tryz.func114, Tryz.ntmps114
    go_wp2
    go_ret3
    exact ⟨_, by rw [HV.out]; rfl, by rw [HV.out]; exact SvB.nil _, Below.refl _ _⟩
  by_cases hz : opC la = 0
  · have h6 : ¬ (n < -32 ∨ 31 < n ∨ opC la = 6) := by omega
    obtain ⟨hok, hl1, hl2⟩ := opC_ok hz
    have vx := dVal_31 hl2 hl1
    rw [hz] at HOP
    have h00 : (((0 : Nat)) : Int) = 0 := rfl
    rw [h00] at HOP
    clear h00
    by_cases hr0 : r < 0 ∨ 9 < r
    · have hv : shL la n r = ([], 0, 7) := by unfold shL; rw [if_neg h6, if_pos (.inr hr0)]
      have HV := Lib.hid hv
      clear hv hr hg h6 hok hz
      by_cases hr1 : r < 0
      · clear hr0
        go_enter Tryz.func114, Tryz.ntmps114
        go_wp2_with fail
        refine (HOP.out).mono ?_
        rintro e w1 ⟨c, d, h1, rfl, hb⟩
        have HB2 := Lib.hid (bel0 hb (below_new w1 (.cells #[.bool (dNeg la), .int .u64 (c : Int), .int .u64 (d : Int)] 167)))
        clear hb h1 HOP
        go_wp2
        go_ret3
        exact ⟨_, by rw [HV.out]; rfl, by rw [HV.out]; exact SvB.nil _, HB2.out⟩
      · have hr2 : 9 < r := by omega
        clear hr0
        go_enter Tryz.func114, Tryz.ntmps114
        go_wp2_with fail
        refine (HOP.out).mono ?_
        rintro e w1 ⟨c, d, h1, rfl, hb⟩
        have HB2 := Lib.hid (bel0 hb (below_new w1 (.cells #[.bool (dNeg la), .int .u64 (c : Int), .int .u64 (d : Int)] 167)))
        clear hb h1 HOP
        go_wp2
        go_ret3
        exact ⟨_, by rw [HV.out]; rfl, by rw [HV.out]; exact SvB.nil _, HB2.out⟩
    · have h7 : ¬ (opC la = 7 ∨ r < 0 ∨ 9 < r) := by omega
      obtain ⟨m, rfl⟩ := Int.eq_ofNat_of_zero_le (show 0 ≤ r by omega)
      have hm9 : m ≤ 9 := by omega
      by_cases hneg : n < 0
      · obtain ⟨k, rfl⟩ : ∃ k : Nat, n = -(k : Int) := ⟨(-n).toNat, by omega⟩
        have hk1 : 1 ≤ k := by omega
        have hk2 : k ≤ 100 := by omega
        have hv : shL la (-(k : Int)) (m : Int) = resS (dNeg la) (dropN (dVal la) k m) la.length := by
          unfold shL
          rw [if_neg h6, if_neg h7, if_pos hneg]
          congr 2
          omega
        have HV := Lib.hid hv
        have hdl := dropN_lt (x := dVal la) (n := k) (r := m) (B := 100000000000000000000000000000000) (by omega)
        have HDR := Lib.hid (fun W a b (h : Pw (dVal la) a b) => pdrop_any (dVal la) k m a b W h (by omega) hk1 hk2 hm9)
        have HO0 := fun W c d (h : Pw (dropN (dVal la) k m) c d) => outcome_any (dNeg la) (dropN (dVal la) k m) 0 la.length c d W h hdl (by omega) hl1 hl2
        rw [Nat.pow_zero, Nat.mul_one] at HO0
        have h00 : (((0 : Nat)) : Int) = 0 := rfl
        rw [h00] at HO0
        have HO := Lib.hid HO0
        unfold R3Post at HO
        unfold PwPost at HDR
        generalize dropN (dVal la) k m = v at *
        have hmx : max (-(k : Int)) 0 = 0 := by omega
        have i0 : -(k : Int) < 0 := by omega
        clear hv hr hg h6 h7 hok hz hdl h00 HO0 vx hr0 hneg
        go_enter Tryz.func114, Tryz.ntmps114
        go_wp2_with fail
        refine (HOP.out).mono ?_
        rintro e w1 ⟨c, d, h1, rfl, hb⟩
        have hle1 : w.heap.size ≤ w1.heap.size := hb.size
        have HB2 := Lib.hid (bel0 hb (below_new w1 (.cells #[.bool (dNeg la), .int .u64 (c : Int), .int .u64 (d : Int)] 167)))
        have HN2 := Lib.hid (Bx.new w1 167 #[.bool (dNeg la), .int .u64 (c : Int), .int .u64 (d : Int)])
        have HD1 := Lib.hid (fun W => HDR.out W c d h1)
        clear hb h1 HOP HDR
        go_wp2_with fail
        refine (HD1.out _).mono ?_
        rintro e w2 ⟨a1, b1, hq1, rfl, hb⟩
        have HB3 := Lib.hid (bel0 HB2.out hb)
        have HN3 := Lib.hid (HN2.out.below hb)
        have HO1 := Lib.hid (fun W => HO.out W a1 b1 hq1)
        clear hb hq1 HO HD1
        obtain ⟨⟨d1, d2, d3⟩, f1, f2, f3⟩ := HN3.out.three
        go_wp2_with fail
        refine (HO1.out _).mono ?_
        rintro e w3 ⟨sv, rfl, hsv, hb⟩
        have HB4 := Lib.hid (bel0 ((HB3.out.setCell (p := ⟨w1.heap.size, 1, none⟩) hle1 _).setCell (p := ⟨w1.heap.size, 2, none⟩) hle1 _) hb)
        have HSV := Lib.hid hsv
        clear hb hsv
        go_wp2
        go_ret3
        exact ⟨_, by rw [HV.out]; rfl, by rw [HV.out]; exact HSV.out, HB4.out⟩
      · obtain ⟨k, rfl⟩ := Int.eq_ofNat_of_zero_le (show 0 ≤ n by omega)
        have hk2 : k ≤ 100 := by omega
        have hv : shL la (k : Int) (m : Int) = resS (dNeg la) (dVal la * 10 ^ k) la.length := by
          unfold shL
          rw [if_neg h6, if_neg h7, if_neg hneg, Int.toNat_natCast]
        have HV := Lib.hid hv
        have HO := Lib.hid (fun W c d (h : Pw (dVal la) c d) => outcome_any (dNeg la) (dVal la) k la.length c d W h (by omega) hk2 hl1 hl2)
        unfold R3Post at HO
        have hk31 : k ≤ 31 := by omega
        clear hv hr hg h6 h7 hok hz vx hr0 hneg hlow hhi hn0 hn1
        go_enter Tryz.func114, Tryz.ntmps114
        go_wp2_with fail
        refine (HOP.out).mono ?_
        rintro e w1 ⟨c, d, h1, rfl, hb⟩
        have HB2 := Lib.hid (bel0 hb (below_new w1 (.cells #[.bool (dNeg la), .int .u64 (c : Int), .int .u64 (d : Int)] 167)))
        have HO1 := Lib.hid (fun W => HO.out W c d h1)
        clear hb h1 HOP HO
        go_wp2_with fail
        refine (HO1.out _).mono ?_
        rintro e w3 ⟨sv, rfl, hsv, hb⟩
        have HB4 := Lib.hid (bel0 HB2.out hb)
        have HSV := Lib.hid hsv
        clear hb hsv
        go_wp2
        go_ret3
        exact ⟨_, by rw [HV.out]; rfl, by rw [HV.out]; exact HSV.out, HB4.out⟩
  · have hv : shL la n r = ([], 0, opC la) := by
      unfold shL
      rcases opC_cases la with h | h | h
      · exact absurd h hz
      · rw [if_pos (.inr (.inr h)), h]
      · rw [if_neg (by omega), if_pos (.inl h), h]
    have HV := Lib.hid hv
    have hcz : ((opC la : Int) == 0) = false := by
      simp only [beq_eq_false_iff_ne, ne_eq]
      omega
    clear hv hr hg
    generalize opC la = code at *
    clear hz
    go_enter Tryz.func114, Tryz.ntmps114
    go_wp2_with fail
    refine (HOP.out).mono ?_
    rintro e w1 ⟨c, d, h1, rfl, hb⟩
    have HB2 := Lib.hid (bel0 hb (below_new w1 (.cells #[.bool (dNeg la), .int .u64 (c : Int), .int .u64 (d : Int)] 167)))
    clear hb h1 HOP
    go_wp2
    go_ret3
    exact ⟨_, by rw [HV.out]; rfl, by rw [HV.out]; exact SvB.nil _, HB2.out⟩

theorem w32_range (V : Int) (h1 : -1000000000000000 < V) (h2 : V < 1000000000000000) : (V != wrap64 (wrap32 V)) = !(decide (-2147483648 ≤ V ∧ V ≤ 2147483647)) := by
  have e : wrap64 (wrap32 V) = (V + 2147483648) % 4294967296 - 2147483648 := by
    unfold wrap64 wrap32
    omega
  rw [e]
  by_cases h : -2147483648 ≤ V ∧ V ≤ 2147483647
  · rw [decide_eq_true h]
    have : V = (V + 2147483648) % 4294967296 - 2147483648 := by omega
    rw [← this]
    simp
  · rw [decide_eq_false h]
    have : V ≠ (V + 2147483648) % 4294967296 - 2147483648 := by omega
    simpa using this
/-- What ToBinary answers. -/
def tbV (lb : List UInt8) : Int := if dNeg lb then -(dVal lb : Int) else (dVal lb : Int)
def tbL (lb : List UInt8) : Int × Nat := if lb.length ≠ 8 then (0, 6) else if opC lb ≠ 0 then (0, opC lb) else (tbV lb % 4294967296, if -2147483648 ≤ tbV lb ∧ tbV lb ≤ 2147483647 then 0 else 9)
def TbPost (w : World) (r : Int × Nat) (e : Ending) (w' : World) : Prop := e = .returned (.tuple #[.int .u32 r.1, .int .i64 (r.2 : Int)]) ∧ Below w.heap.size w w'
set_option maxRecDepth 100000 in
set_option maxHeartbeats 4000000 in
theorem ptobin_any (p : Option Addr) (cp : Nat) (la : List UInt8) (w : World) (hlen : la.length ≤ 9223372036854775807) (hr : Rd w p la) (hg : Sg w) :
    Calls Tryz.prog 93 #[.slice p la.length cp] w (TbPost w (tbL la)) := by
  have HOP := Lib.hid (operand_any p cp la w hr hg)
  unfold OpPost at HOP
  by_cases hl : la.length = 8
  · by_cases hz : opC la = 0
    · have vx := dVal_15 (bs := la) (by omega) (by omega)
      have hv : tbL la = (tbV la % 4294967296, if -2147483648 ≤ tbV la ∧ tbV la ≤ 2147483647 then 0 else 9) := by unfold tbL; rw [if_neg (by omega), if_neg (by omega)]
      have HV := Lib.hid hv
      have HTV : Hid (tbV la = if dNeg la then -(dVal la : Int) else (dVal la : Int)) := Lib.hid rfl
      rw [hz] at HOP
      have h00 : (((0 : Nat)) : Int) = 0 := rfl
      rw [h00] at HOP
      obtain ⟨x, hx⟩ : ∃ x, x = dVal la := ⟨_, rfl⟩
      obtain ⟨na, hna⟩ : ∃ na, na = dNeg la := ⟨_, rfl⟩
      rw [← hx, ← hna] at HOP HTV
      rw [← hx] at vx
      rw [hl] at HOP ⊢
      clear hv hr hg h00 hz hx hna hlen hl
      generalize tbV la = V at *
      cases na
      · obtain rfl : V = (x : Int) := HTV.out
        go_enter Tryz.func93, Tryz.ntmps93
        go_wp2_with fail
        refine (HOP.out).mono ?_
        rintro e w1 ⟨c, d, h1, rfl, hb⟩
        have HB2 := Lib.hid (bel0 hb (below_new w1 (.cells #[.bool false, .int .u64 (c : Int), .int .u64 (d : Int)] 167)))
        obtain ⟨e1, e2⟩ := h1
        obtain rfl : c = 0 := by omega
        obtain rfl : d = x := by omega
        clear hb e1 e2 HOP
        go_wp2
        all_goals rename_i hh
        all_goals rw [w32_range _ (by omega) (by omega)] at hh
        all_goals go_ret2
        · refine ⟨?_, HB2.out⟩
          rw [HV.out, if_neg (by simpa using hh)]
          rfl
        · refine ⟨?_, HB2.out⟩
          rw [HV.out, if_pos (by simpa using hh)]
          rfl
      · obtain rfl : V = -(x : Int) := HTV.out
        go_enter Tryz.func93, Tryz.ntmps93
        go_wp2_with fail
        refine (HOP.out).mono ?_
        rintro e w1 ⟨c, d, h1, rfl, hb⟩
        have HB2 := Lib.hid (bel0 hb (below_new w1 (.cells #[.bool true, .int .u64 (c : Int), .int .u64 (d : Int)] 167)))
        obtain ⟨e1, e2⟩ := h1
        obtain rfl : c = 0 := by omega
        obtain rfl : d = x := by omega
        clear hb e1 e2 HOP
        go_wp2
        all_goals rename_i hh
        all_goals rw [w32_range _ (by omega) (by omega)] at hh
        all_goals go_ret2
        · refine ⟨?_, HB2.out⟩
          rw [HV.out, if_neg (by simpa using hh)]
          rfl
        · refine ⟨?_, HB2.out⟩
          rw [HV.out, if_pos (by simpa using hh)]
          rfl
    · have hv : tbL la = (0, opC la) := by unfold tbL; rw [if_neg (by omega), if_pos hz]
      have HV := Lib.hid hv
      have hcz : ((opC la : Int) == 0) = false := by
        simp only [beq_eq_false_iff_ne, ne_eq]
        omega
      rw [hl] at HOP ⊢
      clear hv hr hg hl hlen
      generalize opC la = code at *
      clear hz
      go_enter Tryz.func93, Tryz.ntmps93
      go_wp2_with fail
      refine (HOP.out).mono ?_
      rintro e w1 ⟨c, d, h1, rfl, hb⟩
      have HB2 := Lib.hid (bel0 hb (below_new w1 (.cells #[.bool (dNeg la), .int .u64 (c : Int), .int .u64 (d : Int)] 167)))
      clear hb h1 HOP
      go_wp2
      go_ret2
      exact ⟨by rw [HV.out]; rfl, HB2.out⟩
  · have hv : tbL la = (0, 6) := by unfold tbL; rw [if_pos hl]
    have HV := Lib.hid hv
    have hl8 : ((la.length : Int) == 8) = false := by
      simp only [beq_eq_false_iff_ne, ne_eq]
      omega
    clear hv hr hg HOP
    generalize la.length = n at *
    clear hl
    go_enter Tryz.func93, Tryz.ntmps93
    go_wp2
    go_ret2
    exact ⟨by rw [HV.out]; rfl, Below.refl _ _⟩
/-- What FromBinary answers. -/
def fbL (v : Nat) : List UInt8 := if v < 2147483648 then fldL false v 8 else fldL true (4294967296 - v) 8
theorem fbL_len (v : Nat) : (fbL v).length = 8 := by
  unfold fbL
  split <;> exact fldL_len _ _ _
def R1Post (w : World) (l : List UInt8) (e : Ending) (w' : World) : Prop := ∃ sv, e = .returned sv ∧ SvB w' sv l ∧ Below w.heap.size w w'
set_option maxRecDepth 100000 in
set_option maxHeartbeats 4000000 in
theorem pfrombin_any (v : Nat) (w : World) (hv : v < 4294967296) :
    Calls Tryz.prog 98 #[.int .u32 (v : Int)] w (R1Post w (fbL v)) := by
  have h00 : (((0 : Nat)) : Int) = 0 := rfl
  have h08 : (((8 : Nat)) : Int) = 8 := rfl
  by_cases hlt : v < 2147483648
  · have hf : fbL v = fldL false v 8 := by unfold fbL; rw [if_pos hlt]
    have HF0 := fun W => field_any false v 0 8 0 v W ⟨by omega, by omega⟩ (by omega) (by omega) (by omega) (by omega)
    rw [Nat.pow_zero, Nat.mul_one, h00, h08] at HF0
    have HF := Lib.hid HF0
    have HV := Lib.hid hf
    have HL := Lib.hid (fldL_len false v 8)
    unfold FdPost at HF
    generalize fldL false v 8 = F at *
    have hw : wrap64 (wrap32 (v : Int)) = (v : Int) := by
      unfold wrap64 wrap32
      omega
    have HB0 := Lib.hid (below_new w (.cells #[.bool false, .int .u64 0, .int .u64 (v : Int)] 167))
    clear hf HF0 h00 h08
    go_enter Tryz.func98, Tryz.ntmps98
    go_wp2_with fail
    refine (HF.out _).mono ?_
    rintro e w1 ⟨g, rfl, hk, hb⟩
    have HB1 := Lib.hid (bel0 HB0.out hb)
    have HK := Lib.hid (SvB.blk hk HL.out (by omega))
    clear hk hb
    go_wp2
    go_ret
    exact ⟨_, rfl, by rw [HV.out]; exact HK.out, HB1.out⟩
  · obtain ⟨m, hm⟩ : ∃ m, m = 4294967296 - v := ⟨_, rfl⟩
    have hf : fbL v = fldL true m 8 := by unfold fbL; rw [if_neg hlt, hm]
    have HF0 := fun W => field_any true m 0 8 0 m W ⟨by omega, by omega⟩ (by omega) (by omega) (by omega) (by omega)
    rw [Nat.pow_zero, Nat.mul_one, h00, h08] at HF0
    have HF := Lib.hid HF0
    have HV := Lib.hid hf
    have HL := Lib.hid (fldL_len true m 8)
    unfold FdPost at HF
    generalize fldL true m 8 = F at *
    have hw : wrap64 (wrap32 (v : Int)) = -(m : Int) := by
      unfold wrap64 wrap32
      omega
    have hm1 : 1 ≤ m := by omega
    have hm2 : m ≤ 2147483648 := by omega
    have HB0 := Lib.hid (below_new w (.cells #[.bool true, .int .u64 0, .int .u64 (m : Int)] 167))
    clear hf HF0 h00 h08 hlt hm
    go_enter Tryz.func98, Tryz.ntmps98
    go_wp2_with fail
    refine (HF.out _).mono ?_
    rintro e w1 ⟨g, rfl, hk, hb⟩
    have HB1 := Lib.hid (bel0 HB0.out hb)
    have HK := Lib.hid (SvB.blk hk HL.out (by omega))
    clear hk hb
    go_wp2
    go_ret
    exact ⟨_, rfl, by rw [HV.out]; exact HK.out, HB1.out⟩

end E
end Go.Proofs.YtbcncohjjnmdcaaGreatDoor

/- The contract of Divide. -/
import Derived.Test.YtlpekknhaaddcaaDoorDcMul
import Derived.ArgAppend
namespace Go.Proofs.YtlpekknhaaddcaaDoor
open Go.RowKit Go.Shelf
set_option linter.unusedVariables false
namespace E

/-- What Divide answers. -/
def divC (la lb : List UInt8) : Nat := if 8 < lb.length ∨ la.length ≤ lb.length then 6 else if twoC la lb ≠ 0 then twoC la lb else if dVal lb = 0 then 11 else if ovB (dVal la / dVal lb) (la.length - lb.length) then 11 else 0
def divL (la lb : List UInt8) : List UInt8 × Nat := if divC la lb = 0 then (fldL (dNeg la != dNeg lb) (dVal la / dVal lb) (la.length - lb.length) ++ fldL (dNeg la) (dVal la % dVal lb) lb.length, 0) else ([], divC la lb)
theorem divL_not {la lb : List UInt8} {k : Nat} (h : divC la lb = k) (hk : k ≠ 0) : divL la lb = ([], k) := by
  unfold divL
  rw [h, if_neg hk]
theorem bsU_app (l m : List UInt8) : bsU (l ++ m) = bsU l ++ bsU m := by simp [bsU]
theorem Hold.svb {w : World} {base : Nat} {sv : Value} {l : List UInt8} (h : Hold w base sv l) : SvB w sv l := by
  obtain ⟨p, c, h1, h2, h3, h4, h5⟩ := h.full
  exact ⟨p, c, h1, h2, h3, h4, h5⟩
theorem Blk.cells4 {w : World} {base g : Nat} {l : List UInt8} (h : Blk w base g l) : ∀ j u, (bsU l)[j]? = some u → w.cell? ((⟨g, 0, none⟩ : Addr).add j) = some u := fun j u hu => by
  obtain ⟨hj, rfl⟩ := bsU_at hu
  rw [show ((⟨g, 0, none⟩ : Addr).add j) = ⟨g, j, none⟩ from by by_cases h0 : j = 0 <;> simp [Addr.add, h0]]
  exact h.cell j hj
set_option maxRecDepth 100000 in
set_option maxHeartbeats 4000000 in
theorem pdiv4_any (p q : Option Addr) (cp cq : Nat) (la lb : List UInt8) (w : World) (hcp : la.length ≤ cp) (hcp2 : cp ≤ 9223372036854775807) (hlb2 : lb.length ≤ 9223372036854775807) (hr : Rd w p la) (hq : Rd w q lb) (hg : Sg w) :
    Calls Tryd.prog 25 #[.slice p la.length cp, .slice q lb.length cq] w (R2Post w (divL la lb)) := by
  have HTW := Lib.hid (unequal_any p q cp cq la lb w (by omega) hlb2 hr hq hg)
  obtain ⟨code, hcode⟩ : ∃ code, code = (if 8 < lb.length ∨ la.length ≤ lb.length then 6 else twoC la lb) := ⟨_, rfl⟩
  rw [← hcode] at HTW
  unfold TwPost at HTW
  by_cases hz : code = 0
  · have h8 : ¬ (8 < lb.length ∨ la.length ≤ lb.length) := fun h => by rw [if_pos h] at hcode; omega
    rw [if_neg h8, hz] at hcode
    obtain ⟨hla, hlb, vx, vy⟩ := two_len hcode.symm
    have hmc : divC la lb = if dVal lb = 0 then 11 else if ovB (dVal la / dVal lb) (la.length - lb.length) then 11 else 0 := by unfold divC; rw [if_neg h8, if_neg (by omega)]
    subst hz
    have i1 : lb.length < la.length := by omega
    have i2 : lb.length ≤ 8 := by omega
    have vy15 := dVal_15 hlb.1 i2
    by_cases hy0 : dVal lb = 0
    · rw [if_pos hy0] at hmc
      have HV := Lib.hid (divL_not hmc (by decide))
      rw [hy0] at HTW
      clear hr hq hg hcode hmc vx vy h8 hy0 vy15
      go_enter Tryd.func25, Tryd.ntmps25
      go_wp2_with fail
      refine (HTW.out).mono ?_
      rintro e w1 h
      rcases h with ⟨_, c, d, c', d', h1, h2, rfl, hb⟩ | ⟨hne, _⟩
      case inr => exact absurd rfl hne
      have hc0 : c' = 0 ∧ d' = 0 := by
        obtain ⟨e1, e2⟩ := h2
        omega
      obtain ⟨rfl, rfl⟩ := hc0
      have h00 : (((0 : Nat)) : Int) = 0 := rfl
      rw [h00]
      have HB2 := Lib.hid (bel0 hb (below2 w1 (.cells #[.bool (dNeg la), .int .u64 (c : Int), .int .u64 (d : Int)] 45) (.cells #[.bool (dNeg lb), .int .u64 0, .int .u64 0] 45)))
      clear hb h1 h2 HTW h00
      go_wp2
      go_ret2
      exact ⟨_, by rw [HV.out]; rfl, by rw [HV.out]; exact SvB.nil _, HB2.out⟩
    · rw [if_neg hy0] at hmc
      obtain ⟨n1, hn1⟩ : ∃ n1, n1 = la.length - lb.length := ⟨_, rfl⟩
      have hn1I : (la.length : Int) - (lb.length : Int) = (n1 : Int) := by omega
      have n1a : 1 ≤ n1 := by omega
      have n1b : n1 ≤ 16 := by omega
      obtain ⟨y, hy⟩ : ∃ y, y = dVal lb := ⟨_, rfl⟩
      obtain ⟨x, hx⟩ : ∃ x, x = dVal la := ⟨_, rfl⟩
      have HV0 := Lib.hid (show divL la lb = if divC la lb = 0 then (fldL (dNeg la != dNeg lb) (x / y) n1 ++ fldL (dNeg la) (x % y) lb.length, 0) else ([], divC la lb) by rw [hx, hy, hn1]; rfl)
      rw [← hx, ← hy, ← hn1] at hmc
      rw [← hx] at vx
      rw [← hy] at hy0 vy15
      have hqx : x / y ≤ x := Nat.div_le_self _ _
      have hry : x % y < y := Nat.mod_lt _ (by omega)
      have HDV := Lib.hid (fun W a b (h : Pw x a b) => pdiv_cells x y a b W h (by omega) (by omega) (by omega))
      have HF10 := fun W a b (h : Pw (x / y) a b) => field_any (dNeg la != dNeg lb) (x / y) 0 n1 a b W h (by omega) (by omega) n1a n1b
      have HF20 := fun W => field_any (dNeg la) (x % y) 0 lb.length 0 (x % y) W ⟨by omega, by omega⟩ (by omega) (by omega) hlb.1 hlb.2
      rw [Nat.pow_zero, Nat.mul_one] at HF10 HF20
      have h00 : (((0 : Nat)) : Int) = 0 := rfl
      rw [h00] at HF10 HF20
      obtain ⟨na, hna⟩ : ∃ na, na = dNeg la := ⟨_, rfl⟩
      obtain ⟨nb, hnb⟩ : ∃ nb, nb = dNeg lb := ⟨_, rfl⟩
      rw [← hna, ← hnb] at HF10
      rw [← hna] at HF20
      rw [← hna, ← hnb] at HV0
      have HF1 := Lib.hid HF10
      have HF2 := Lib.hid HF20
      have HL1 := Lib.hid (fldL_len (na != nb) (x / y) n1)
      have HL2 := Lib.hid (fldL_len na (x % y) lb.length)
      unfold FdPost at HF1 HF2
      unfold QcPost at HDV
      generalize fldL (na != nb) (x / y) n1 = F1 at *
      generalize fldL na (x % y) lb.length = F2 at *
      generalize ovB (x / y) n1 = ov at *
      generalize ovB (x % y) lb.length = ov2 at *
      have hbne : (na != nb) = !(na == nb) := rfl
      rw [hbne] at HF1
      have HMC := Lib.hid hmc
      have hyz : ((y : Int) == 0) = false := by
        simp only [beq_eq_false_iff_ne, ne_eq]
        omega
      generalize x / y = xq at *
      generalize x % y = xr at *
      rw [← hx, ← hy, ← hna, ← hnb] at HTW
      clear hr hq hg hcode hmc vx vy h8 hx hy hbne h00 HF10 HF20 hna hnb hn1 hqx
      go_enter Tryd.func25, Tryd.ntmps25
      go_wp2_with fail
      refine (HTW.out).mono ?_
      rintro e w1 h
      rcases h with ⟨_, c, d, c', d', h1, h2, rfl, hb⟩ | ⟨hne, _⟩
      case inr => exact absurd rfl hne
      have hc0 : c' = 0 ∧ d' = y := by
        obtain ⟨e1, e2⟩ := h2
        omega
      obtain ⟨rfl, rfl⟩ := hc0
      have h00 : (((0 : Nat)) : Int) = 0 := rfl
      rw [h00]
      have HB2 := Lib.hid (bel0 hb (below2 w1 (.cells #[.bool na, .int .u64 (c : Int), .int .u64 (d : Int)] 45) (.cells #[.bool nb, .int .u64 0, .int .u64 (d' : Int)] 45)))
      obtain ⟨tn1, tn2⟩ := two_new w1 (.bool na) (.int .u64 (c : Int)) (.int .u64 (d : Int)) (.bool nb) (.int .u64 0) (.int .u64 (d' : Int))
      have HN1 := Lib.hid tn1
      have HN2 := Lib.hid tn2
      have HDV1 := Lib.hid (fun W => HDV.out W c d h1)
      clear hb h1 h2 HTW h00 tn1 tn2 HDV
      go_wp2_with fail
      refine (HDV1.out _).mono ?_
      rintro e w2 ⟨a1, b1, hq1, rfl, hb⟩
      have HB3 := Lib.hid (bel0 HB2.out hb)
      have HN3 := Lib.hid (HN1.out.below hb)
      have HM3 := Lib.hid (HN2.out.below hb)
      have HF3 := Lib.hid (fun W => HF1.out W a1 b1 hq1)
      clear hb hq1 HB2 HN1 HN2 HDV1 HF1
      have HB4 := Lib.hid (bel0 HB3.out (below_new w2 (.cells #[.int .u64 (a1 : Int), .int .u64 (b1 : Int)] 43)))
      have HN4 := Lib.hid (HN3.out.below (below_new w2 (.cells #[.int .u64 (a1 : Int), .int .u64 (b1 : Int)] 43)))
      have HM4 := Lib.hid (HM3.out.below (below_new w2 (.cells #[.int .u64 (a1 : Int), .int .u64 (b1 : Int)] 43)))
      obtain ⟨⟨d1, d2, d3⟩, _⟩ := HN4.out.three
      obtain ⟨⟨e1, e2, e3⟩, _⟩ := HM4.out.three
      obtain ⟨⟨x1, x2⟩, _⟩ := (Bx.new w2 43 #[.int .u64 (a1 : Int), .int .u64 (b1 : Int)]).two
      obtain ⟨⟨y1, y2, y3⟩, _⟩ := HN3.out.three
      obtain ⟨⟨z1, z2, z3⟩, _⟩ := HM3.out.three
      have hz1 : w1.heap.size < w2.heap.size := HN3.out.lt
      have hz2 : w1.heap.size + 1 < w2.heap.size := HM3.out.lt
      have hz3 : w1.heap.size ≠ w2.heap.size := by omega
      have hz4 : w1.heap.size + 1 ≠ w2.heap.size := by omega
      go_wp2_with fail
      refine (HF3.out _).mono ?_
      rintro e w3 ⟨g1, rfl, hk1, hb⟩
      have HB5 := Lib.hid (bel0 HB4.out hb)
      have HN5 := Lib.hid (HN4.out.below hb)
      have HK1 := Lib.hid hk1
      clear hb hk1 HF3 d1 d2 d3 e1 e2 e3 x1 x2 y1 y2 y3 z1 z2 z3 hz1 hz2 hz3 hz4 HB3 HN3 HM3 HB4 HN4 HM4
      obtain ⟨⟨d1, d2, d3⟩, _⟩ := HN5.out.three
      cases ov
      · have hv : divL la lb = (F1 ++ F2, 0) := by
          have hm0 : divC la lb = 0 := by rw [HMC.out]; rfl
          rw [HV0.out, if_pos hm0]
        have HV := Lib.hid hv
        clear hv
        go_wp2_with fail
        refine (HF2.out _).mono ?_
        rintro e w4 ⟨g2, rfl, hk2, hb⟩
        have HB6 := Lib.hid (bel0 HB5.out hb)
        have HK3 := Lib.hid (HK1.out.below hb)
        have HK2 := Lib.hid hk2
        obtain ⟨i0, hi, hz0, hz1, hz2⟩ := info_parts info5
        clear hb hk2 HF2 d1 d2 d3
        go_wp2_with (at_builtin; refine wpList_append_grows _ rfl (.tmp 64) (.tmp 65) 22 rfl 5 i0 (.int .u8 0) 1 1 Tryd.underlying22 hi hz0 hz1 hz2 rfl (by decide) (some ⟨g1, 0, none⟩) n1 n1 (bsU F1) rfl (fun h => by cases h) (by rw [bsU_len, HL1.out, Nat.mul_one]) (fun b hb => by obtain rfl := (Option.some.inj hb); exact HK3.out.cells4) ⟨g2, 0, none⟩ lb.length lb.length (bsU F2) rfl (by rw [bsU_len, HL2.out, Nat.mul_one]) HK2.out.cells4 (bsU_one _) (by omega) (by unfold maxLen; omega) (by omega) ?_)
        intro v' w5 hown hgrow
        have HB7 := Lib.hid (HB6.out.grown hgrow HB6.out.size (fun r hr => by cases hr))
        have hsv : SvB w5 v' (F1 ++ F2) := by
          refine Hold.svb (base := w4.heap.size) ?_
          unfold Hold
          rw [bsU_app, List.length_append, HL1.out, HL2.out]
          exact hown
        have HSV := Lib.hid hsv
        clear hown hgrow hsv
        go_wp2
        go_ret2
        exact ⟨_, by rw [HV.out]; rfl, by rw [HV.out]; exact HSV.out, HB7.out⟩
      · have hv : divL la lb = ([], 11) := divL_not (by rw [HMC.out]; rfl) (by decide)
        have HV := Lib.hid hv
        clear hv
        go_wp2
        go_ret2
        exact ⟨_, by rw [HV.out]; rfl, by rw [HV.out]; exact SvB.nil _, HB5.out⟩
  · have hv : divL la lb = ([], code) := by
      refine divL_not ?_ hz
      unfold divC
      by_cases h8 : 8 < lb.length ∨ la.length ≤ lb.length
      · rw [if_pos h8] at hcode ⊢
        exact hcode.symm
      · rw [if_neg h8] at hcode ⊢
        rw [if_pos (by omega)]
        exact hcode.symm
    have HV := Lib.hid hv
    have HZ := Lib.hid hz
    have hcz : ((code : Int) == 0) = false := by
      simp only [beq_eq_false_iff_ne, ne_eq]
      omega
    clear hv hr hq hg hcode hz
    go_enter Tryd.func25, Tryd.ntmps25
    go_wp2_with fail
    refine (HTW.out).mono ?_
    rintro e w1 h
    rcases h with ⟨h0, _⟩ | ⟨hne, rfl, hb⟩
    · exact absurd h0 HZ.out
    have HB2 := Lib.hid (bel0 hb (below2 w1 (.cells #[.bool false, .int .u64 0, .int .u64 0] 45) (.cells #[.bool false, .int .u64 0, .int .u64 0] 45)))
    clear hb hne HTW
    go_wp2
    go_ret2
    exact ⟨_, by rw [HV.out]; rfl, by rw [HV.out]; exact SvB.nil _, HB2.out⟩

end E
end Go.Proofs.YtlpekknhaaddcaaDoor

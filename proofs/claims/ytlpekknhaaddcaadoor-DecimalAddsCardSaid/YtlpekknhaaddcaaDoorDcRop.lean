/- The document's own Add, Sub, Zap, Compare: their contracts. -/
import Derived.Test.YtlpekknhaaddcaaDoorDcRes
import Derived.Test.YtlpekknhaaddcaaDoorDcOps
namespace Go.Proofs.YtlpekknhaaddcaaDoor
open Go.RowKit
set_option linter.unusedVariables false
namespace E

theorem dgs_31 {x : Nat} (h : x < 10000000000000000000000000000000) : (dgs x).length ≤ 31 := (dgs_len_le x 31).2 (by rw [pow10_31]; exact h)
theorem dgs_32 {x : Nat} (h : x < 20000000000000000000000000000000) : (dgs x).length ≤ 32 := (dgs_len_le x 32).2 (by
  have : (10 : Nat) ^ 32 = 100000000000000000000000000000000 := by decide
  rw [this]
  omega)
set_option maxRecDepth 100000 in
set_option maxHeartbeats 4000000 in
theorem radd_any (p q : Option Addr) (cp cq : Nat) (la lb : List UInt8) (w : World) (hr : Rd w p la) (hq : Rd w q lb) :
    Calls Tryd.prog 14 #[.slice p la.length cp, .slice q lb.length cq] w (R3Post w (addL la lb)) := by
  have HT := Lib.hid (rtwo_any p q cp cq la lb w hr hq)
  obtain ⟨code, hcode⟩ : ∃ code, code = twoC la lb := ⟨_, rfl⟩
  rw [← hcode] at HT
  unfold Tw4 at HT
  by_cases hz : code = 0
  · rw [hz] at hcode
    obtain ⟨⟨a1, a2⟩, _, vx, vy⟩ := two_len hcode.symm
    have hv : addL la lb = resS (sumS (dNeg la) (dVal la) (dNeg lb) (dVal lb)).1 (sumS (dNeg la) (dVal la) (dNeg lb) (dVal lb)).2 la.length := by
      unfold addL
      rw [if_pos hcode.symm]
    have HV := Lib.hid hv
    have hlx := dgs_31 vx
    have hly := dgs_31 vy
    have hsl : (dgs (sumS (dNeg la) (dVal la) (dNeg lb) (dVal lb)).2).length ≤ 32 := dgs_32 (sumS_lt (by omega))
    clear hv hcode vx vy hr hq
    generalize dNeg la = na at *
    generalize dNeg lb = nb at *
    generalize dVal la = x at *
    generalize dVal lb = y at *
    have HSU := Lib.hid (fun p1 q1 c1 d1 W h1 h2 => rsum_any na (nb) p1 q1 c1 d1 x y W (by omega) (by omega) h1 h2)
    unfold NumP at HSU
    obtain ⟨S, hS⟩ : ∃ S, S = sumS na x (nb) y := ⟨_, rfl⟩
    rw [← hS] at HSU HV hsl
    obtain ⟨ns, vs⟩ := S
    simp only at hsl
    have HSU2 : Hid (∀ p1 q1 c1 d1 W, SlI W p1 c1 (dgs x) → SlI W q1 d1 (dgs y) → Calls Tryd.prog 40 #[.agg #[.bool na, .slice p1 (dgs x).length c1], .agg #[.bool (nb), .slice q1 (dgs y).length d1]] W (fun e w' => ∃ p c, e = .returned (.agg #[.bool ns, .slice p (dgs vs).length c]) ∧ SlI w' p c (dgs vs) ∧ Below W.heap.size W w')) := HSU
    have HRS := Lib.hid (fun p3 c3 W h => rresult_any ns p3 c3 vs la.length W a1 a2 (by omega) h)
    unfold R3Post at HRS
    clear hS HSU hsl hlx hly
    generalize (dgs x).length = lx at *
    generalize (dgs y).length = ly at *
    generalize (dgs vs).length = lv at *
    go_enter Tryd.func14, Tryd.ntmps14
    go_wp2_with fail
    refine (HT.out).mono ?_
    rintro e w1 h
    rcases h with ⟨_, p1, c1, q1, d1, rfl, h1, h2, hb⟩ | ⟨hne, _⟩
    case inr => exact absurd hz hne
    have HB1 := Lib.hid (bel0 hb (below2 w1 (.cells #[.bool na, .slice p1 lx c1] 52) (.cells #[.bool (nb), .slice q1 ly d1] 52)))
    have HX := Lib.hid (h1.below (below2 w1 (.cells #[.bool na, .slice p1 lx c1] 52) (.cells #[.bool (nb), .slice q1 ly d1] 52)))
    have HY := Lib.hid (h2.below (below2 w1 (.cells #[.bool na, .slice p1 lx c1] 52) (.cells #[.bool (nb), .slice q1 ly d1] 52)))
    clear hb h1 h2 HT
    go_wp2_with fail
    refine (HSU2.out _ _ _ _ _ HX.out HY.out).mono ?_
    rintro e w2 ⟨p3, c3, rfl, hs3, hb⟩
    have HB2 := Lib.hid (bel0 HB1.out hb)
    have HS3 := Lib.hid hs3
    clear hb hs3 HX HY HB1 HSU2
    go_wp2_with fail
    refine (HRS.out _ _ _ HS3.out).mono ?_
    rintro e w3 ⟨sv, rfl, hsv, hb⟩
    have HB3 := Lib.hid (bel0 HB2.out hb)
    have HSV := Lib.hid hsv
    clear hb hsv
    go_wp2
    go_ret3
    exact ⟨_, by rw [HV.out]; rfl, by rw [HV.out]; exact HSV.out, HB3.out⟩
  · have hv : addL la lb = ([], 0, code) := by
      unfold addL
      rw [if_neg (by rw [← hcode]; exact hz), ← hcode]
    have HV := Lib.hid hv
    have hcz : ((code : Int) == 0) = false := by
      simp only [beq_eq_false_iff_ne, ne_eq]
      omega
    have HZ := Lib.hid hz
    clear hv hcode hr hq hz
    go_enter Tryd.func14, Tryd.ntmps14
    go_wp2_with fail
    refine (HT.out).mono ?_
    rintro e w1 h
    rcases h with ⟨h0, _⟩ | ⟨_, rfl, hb⟩
    · exact absurd h0 HZ.out
    have HB1 := Lib.hid (bel0 hb (below2 w1 (.cells #[.bool false, .slice none 0 0] 52) (.cells #[.bool false, .slice none 0 0] 52)))
    clear hb HT
    go_wp2
    go_ret3
    exact ⟨_, by rw [HV.out]; rfl, by rw [HV.out]; exact SvB.nil _, HB1.out⟩
set_option maxRecDepth 100000 in
set_option maxHeartbeats 4000000 in
theorem rsub_any (p q : Option Addr) (cp cq : Nat) (la lb : List UInt8) (w : World) (hr : Rd w p la) (hq : Rd w q lb) :
    Calls Tryd.prog 16 #[.slice p la.length cp, .slice q lb.length cq] w (R3Post w (subL la lb)) := by
  have HT := Lib.hid (rtwo_any p q cp cq la lb w hr hq)
  obtain ⟨code, hcode⟩ : ∃ code, code = twoC la lb := ⟨_, rfl⟩
  rw [← hcode] at HT
  unfold Tw4 at HT
  by_cases hz : code = 0
  · rw [hz] at hcode
    obtain ⟨⟨a1, a2⟩, _, vx, vy⟩ := two_len hcode.symm
    have hv : subL la lb = resS (sumS (dNeg la) (dVal la) (!dNeg lb) (dVal lb)).1 (sumS (dNeg la) (dVal la) (!dNeg lb) (dVal lb)).2 la.length := by
      unfold subL
      rw [if_pos hcode.symm]
    have HV := Lib.hid hv
    have hlx := dgs_31 vx
    have hly := dgs_31 vy
    have hsl : (dgs (sumS (dNeg la) (dVal la) (!dNeg lb) (dVal lb)).2).length ≤ 32 := dgs_32 (sumS_lt (by omega))
    clear hv hcode vx vy hr hq
    generalize dNeg la = na at *
    generalize dNeg lb = nb at *
    generalize dVal la = x at *
    generalize dVal lb = y at *
    have HSU := Lib.hid (fun p1 q1 c1 d1 W h1 h2 => rsum_any na (!nb) p1 q1 c1 d1 x y W (by omega) (by omega) h1 h2)
    unfold NumP at HSU
    obtain ⟨S, hS⟩ : ∃ S, S = sumS na x (!nb) y := ⟨_, rfl⟩
    rw [← hS] at HSU HV hsl
    obtain ⟨ns, vs⟩ := S
    simp only at hsl
    have HSU2 : Hid (∀ p1 q1 c1 d1 W, SlI W p1 c1 (dgs x) → SlI W q1 d1 (dgs y) → Calls Tryd.prog 40 #[.agg #[.bool na, .slice p1 (dgs x).length c1], .agg #[.bool (!nb), .slice q1 (dgs y).length d1]] W (fun e w' => ∃ p c, e = .returned (.agg #[.bool ns, .slice p (dgs vs).length c]) ∧ SlI w' p c (dgs vs) ∧ Below W.heap.size W w')) := HSU
    have HRS := Lib.hid (fun p3 c3 W h => rresult_any ns p3 c3 vs la.length W a1 a2 (by omega) h)
    unfold R3Post at HRS
    clear hS HSU hsl hlx hly
    generalize (dgs x).length = lx at *
    generalize (dgs y).length = ly at *
    generalize (dgs vs).length = lv at *
    go_enter Tryd.func16, Tryd.ntmps16
    go_wp2_with fail
    refine (HT.out).mono ?_
    rintro e w1 h
    rcases h with ⟨_, p1, c1, q1, d1, rfl, h1, h2, hb⟩ | ⟨hne, _⟩
    case inr => exact absurd hz hne
    have HB1 := Lib.hid (bel0 hb (below2 w1 (.cells #[.bool na, .slice p1 lx c1] 52) (.cells #[.bool (!nb), .slice q1 ly d1] 52)))
    have HX := Lib.hid (h1.below (below2 w1 (.cells #[.bool na, .slice p1 lx c1] 52) (.cells #[.bool (!nb), .slice q1 ly d1] 52)))
    have HY := Lib.hid (h2.below (below2 w1 (.cells #[.bool na, .slice p1 lx c1] 52) (.cells #[.bool (!nb), .slice q1 ly d1] 52)))
    clear hb h1 h2 HT
    go_wp2_with fail
    refine (HSU2.out _ _ _ _ _ HX.out HY.out).mono ?_
    rintro e w2 ⟨p3, c3, rfl, hs3, hb⟩
    have HB2 := Lib.hid (bel0 HB1.out hb)
    have HS3 := Lib.hid hs3
    clear hb hs3 HX HY HB1 HSU2
    go_wp2_with fail
    refine (HRS.out _ _ _ HS3.out).mono ?_
    rintro e w3 ⟨sv, rfl, hsv, hb⟩
    have HB3 := Lib.hid (bel0 HB2.out hb)
    have HSV := Lib.hid hsv
    clear hb hsv
    go_wp2
    go_ret3
    exact ⟨_, by rw [HV.out]; rfl, by rw [HV.out]; exact HSV.out, HB3.out⟩
  · have hv : subL la lb = ([], 0, code) := by
      unfold subL
      rw [if_neg (by rw [← hcode]; exact hz), ← hcode]
    have HV := Lib.hid hv
    have hcz : ((code : Int) == 0) = false := by
      simp only [beq_eq_false_iff_ne, ne_eq]
      omega
    have HZ := Lib.hid hz
    clear hv hcode hr hq hz
    go_enter Tryd.func16, Tryd.ntmps16
    go_wp2_with fail
    refine (HT.out).mono ?_
    rintro e w1 h
    rcases h with ⟨h0, _⟩ | ⟨_, rfl, hb⟩
    · exact absurd h0 HZ.out
    have HB1 := Lib.hid (bel0 hb (below2 w1 (.cells #[.bool false, .slice none 0 0] 52) (.cells #[.bool false, .slice none 0 0] 52)))
    clear hb HT
    go_wp2
    go_ret3
    exact ⟨_, by rw [HV.out]; rfl, by rw [HV.out]; exact SvB.nil _, HB1.out⟩
set_option maxRecDepth 100000 in
set_option maxHeartbeats 4000000 in
theorem rcmp_any (p q : Option Addr) (cp cq : Nat) (la lb : List UInt8) (w : World) (hr : Rd w p la) (hq : Rd w q lb) :
    Calls Tryd.prog 22 #[.slice p la.length cp, .slice q lb.length cq] w (R2iPost w (cmpL la lb)) := by
  have HT := Lib.hid (rtwo_any p q cp cq la lb w hr hq)
  obtain ⟨code, hcode⟩ : ∃ code, code = twoC la lb := ⟨_, rfl⟩
  rw [← hcode] at HT
  unfold Tw4 at HT
  by_cases hz : code = 0
  · rw [hz] at hcode
    obtain ⟨⟨a1, a2⟩, _, vx, vy⟩ := two_len hcode.symm
    have hv : cmpL la lb = (condN (sumS (dNeg la) (dVal la) (!dNeg lb) (dVal lb)).1 (sumS (dNeg la) (dVal la) (!dNeg lb) (dVal lb)).2, 0) := by
      unfold cmpL
      rw [if_pos hcode.symm]
    have HV := Lib.hid hv
    have hlx := dgs_31 vx
    have hly := dgs_31 vy
    have hsl : (dgs (sumS (dNeg la) (dVal la) (!dNeg lb) (dVal lb)).2).length ≤ 32 := dgs_32 (sumS_lt (by omega))
    clear hv hcode vx vy hr hq
    generalize dNeg la = na at *
    generalize dNeg lb = nb at *
    generalize dVal la = x at *
    generalize dVal lb = y at *
    have HSU := Lib.hid (fun p1 q1 c1 d1 W h1 h2 => rsum_any na (!nb) p1 q1 c1 d1 x y W (by omega) (by omega) h1 h2)
    unfold NumP at HSU
    obtain ⟨S, hS⟩ : ∃ S, S = sumS na x (!nb) y := ⟨_, rfl⟩
    rw [← hS] at HSU HV hsl
    obtain ⟨ns, vs⟩ := S
    simp only at hsl
    have HSU2 : Hid (∀ p1 q1 c1 d1 W, SlI W p1 c1 (dgs x) → SlI W q1 d1 (dgs y) → Calls Tryd.prog 40 #[.agg #[.bool na, .slice p1 (dgs x).length c1], .agg #[.bool (!nb), .slice q1 (dgs y).length d1]] W (fun e w' => ∃ p c, e = .returned (.agg #[.bool ns, .slice p (dgs vs).length c]) ∧ SlI w' p c (dgs vs) ∧ Below W.heap.size W w')) := HSU
    have HRS := Lib.hid (fun p3 c3 W => code_any ns p3 c3 vs W)
    clear hS HSU hsl hlx hly
    generalize (dgs x).length = lx at *
    generalize (dgs y).length = ly at *
    generalize (dgs vs).length = lv at *
    go_enter Tryd.func22, Tryd.ntmps22
    go_wp2_with fail
    refine (HT.out).mono ?_
    rintro e w1 h
    rcases h with ⟨_, p1, c1, q1, d1, rfl, h1, h2, hb⟩ | ⟨hne, _⟩
    case inr => exact absurd hz hne
    have HB1 := Lib.hid (bel0 hb (below2 w1 (.cells #[.bool na, .slice p1 lx c1] 52) (.cells #[.bool (!nb), .slice q1 ly d1] 52)))
    have HX := Lib.hid (h1.below (below2 w1 (.cells #[.bool na, .slice p1 lx c1] 52) (.cells #[.bool (!nb), .slice q1 ly d1] 52)))
    have HY := Lib.hid (h2.below (below2 w1 (.cells #[.bool na, .slice p1 lx c1] 52) (.cells #[.bool (!nb), .slice q1 ly d1] 52)))
    clear hb h1 h2 HT
    go_wp2_with fail
    refine (HSU2.out _ _ _ _ _ HX.out HY.out).mono ?_
    rintro e w2 ⟨p3, c3, rfl, hs3, hb⟩
    have HB2 := Lib.hid (bel0 HB1.out hb)
    have HS3 := Lib.hid hs3
    clear hb hs3 HX HY HB1 HSU2
    go_wp2_with fail
    refine (HRS.out _ _ _).mono ?_
    rintro e w3 ⟨rfl, hb⟩
    have HB3 := Lib.hid (bel0 HB2.out hb)
    clear hb
    go_wp2
    go_ret2
    exact ⟨by rw [HV.out]; rfl, HB3.out⟩
  · have hv : cmpL la lb = (0, code) := by
      unfold cmpL
      rw [if_neg (by rw [← hcode]; exact hz), ← hcode]
    have HV := Lib.hid hv
    have hcz : ((code : Int) == 0) = false := by
      simp only [beq_eq_false_iff_ne, ne_eq]
      omega
    have HZ := Lib.hid hz
    clear hv hcode hr hq hz
    go_enter Tryd.func22, Tryd.ntmps22
    go_wp2_with fail
    refine (HT.out).mono ?_
    rintro e w1 h
    rcases h with ⟨h0, _⟩ | ⟨_, rfl, hb⟩
    · exact absurd h0 HZ.out
    have HB1 := Lib.hid (bel0 hb (below2 w1 (.cells #[.bool false, .slice none 0 0] 52) (.cells #[.bool false, .slice none 0 0] 52)))
    clear hb HT
    go_wp2
    go_ret2
    exact ⟨by rw [HV.out]; rfl, HB1.out⟩
set_option maxRecDepth 100000 in
set_option maxHeartbeats 4000000 in
theorem rzap_any (n : Int) (q : Option Addr) (cq : Nat) (lb : List UInt8) (w : World) (hq : Rd w q lb) :
    Calls Tryd.prog 18 #[.int .i64 n, .slice q lb.length cq] w (R3Post w (zapL n lb)) := by
  have HN := Lib.hid (fun W => size4_any n W)
  have HL := Lib.hid (fun W => size4_any (lb.length : Int) W)
  by_cases hn : 1 ≤ n ∧ n ≤ 16
  · rw [decide_eq_true hn] at HN
    by_cases hl : 1 ≤ lb.length ∧ lb.length ≤ 16
    · rw [decide_eq_true (by omega)] at HL
      have HO := Lib.hid (of_any q cq lb w hq)
      unfold OfPost at HO
      obtain ⟨m, rfl⟩ := Int.eq_ofNat_of_zero_le (show 0 ≤ n by omega)
      cases ho : dOk lb
      · have hv : zapL (m : Int) lb = ([], 0, 7) := by
          unfold zapL
          rw [if_pos hn, if_neg (by rw [opC7 hl ho]; omega), opC7 hl ho]
        have HV := Lib.hid hv
        rw [ho] at HO
        clear hv ho hl hn hq
        go_enter Tryd.func18, Tryd.ntmps18
        go_wp2_with fail
        refine (HN.out _).mono ?_
        rintro e w' ⟨rfl, rfl⟩
        go_wp2_with fail
        refine (HL.out _).mono ?_
        rintro e w' ⟨rfl, rfl⟩
        go_wp2_with fail
        refine (HO.out).mono ?_
        rintro e w1 ⟨p1, c1, rfl, h1, hb⟩
        have HB1 := Lib.hid (bel0 hb (below_new w1 (.cells #[.bool (dNeg lb), .slice p1 (dgs (dVal lb)).length c1] 52)))
        clear hb h1
        go_wp2
        go_ret3
        exact ⟨_, by rw [HV.out]; rfl, by rw [HV.out]; exact SvB.nil _, HB1.out⟩
      · have hv : zapL (m : Int) lb = resS (dNeg lb) (dVal lb) m := by
          unfold zapL
          rw [if_pos hn, if_pos (opC0 hl ho), Int.toNat_natCast]
        have HV := Lib.hid hv
        have hvl := two_len (two_ops0 (opC0 hl ho) (opC0 hl ho))
        have hly := dgs_31 hvl.2.2.1
        rw [ho] at HO
        have HRS := Lib.hid (fun p3 c3 W h => rresult_any (dNeg lb) p3 c3 (dVal lb) m W (by omega) (by omega) (by omega) h)
        unfold R3Post at HRS
        clear hv ho hl hn hq hvl hly
        generalize dNeg lb = nb at *
        generalize dVal lb = y at *
        generalize (dgs y).length = ly at *
        go_enter Tryd.func18, Tryd.ntmps18
        go_wp2_with fail
        refine (HN.out _).mono ?_
        rintro e w' ⟨rfl, rfl⟩
        go_wp2_with fail
        refine (HL.out _).mono ?_
        rintro e w' ⟨rfl, rfl⟩
        go_wp2_with fail
        refine (HO.out).mono ?_
        rintro e w1 ⟨p1, c1, rfl, h1, hb⟩
        have HB1 := Lib.hid (bel0 hb (below_new w1 (.cells #[.bool nb, .slice p1 ly c1] 52)))
        have HS1 := Lib.hid (h1.below (below_new w1 (.cells #[.bool nb, .slice p1 ly c1] 52)))
        clear hb h1
        go_wp2_with fail
        refine (HRS.out _ _ _ HS1.out).mono ?_
        rintro e w3 ⟨sv, rfl, hsv, hb⟩
        have HB3 := Lib.hid (bel0 HB1.out hb)
        have HSV := Lib.hid hsv
        clear hb hsv
        go_wp2
        go_ret3
        exact ⟨_, by rw [HV.out]; rfl, by rw [HV.out]; exact HSV.out, HB3.out⟩
    · rw [decide_eq_false (by omega)] at HL
      have hv : zapL n lb = ([], 0, 6) := by
        unfold zapL
        rw [if_pos hn, if_neg (by rw [opC6.2 hl]; omega), opC6.2 hl]
      have HV := Lib.hid hv
      clear hv hl hn hq
      generalize lb.length = nl at *
      go_enter Tryd.func18, Tryd.ntmps18
      go_wp2_with fail
      refine (HN.out _).mono ?_
      rintro e w' ⟨rfl, rfl⟩
      go_wp2_with fail
      refine (HL.out _).mono ?_
      rintro e w' ⟨rfl, rfl⟩
      go_wp2
      go_ret3
      exact ⟨_, by rw [HV.out]; rfl, by rw [HV.out]; exact SvB.nil _, Below.refl _ _⟩
  · rw [decide_eq_false hn] at HN
    have hv : zapL n lb = ([], 0, 6) := by
      unfold zapL
      rw [if_neg hn]
    have HV := Lib.hid hv
    clear hv hn hq HL
    generalize lb.length = nl at *
    go_enter Tryd.func18, Tryd.ntmps18
    go_wp2_with fail
    refine (HN.out _).mono ?_
    rintro e w' ⟨rfl, rfl⟩
    go_wp2
    go_ret3
    exact ⟨_, by rw [HV.out]; rfl, by rw [HV.out]; exact SvB.nil _, Below.refl _ _⟩

end E
end Go.Proofs.YtlpekknhaaddcaaDoor

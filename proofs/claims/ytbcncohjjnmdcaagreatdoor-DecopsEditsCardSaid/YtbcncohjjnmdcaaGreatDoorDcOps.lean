/- The contracts of Add, Sub, Zap and Compare. -/
import Derived.Test.YtbcncohjjnmdcaaGreatDoorRows
import Derived.Test.YtbcncohjjnmdcaaGreatDoorDcOut
namespace Go.Proofs.YtbcncohjjnmdcaaGreatDoor
open Go.RowKit Go.Shelf
set_option linter.unusedVariables false
namespace E

/-- What Add answers, what Sub answers. -/
def addL (la lb : List UInt8) : List UInt8 × Nat × Nat := if twoC la lb = 0 then resS (sumS (dNeg la) (dVal la) (dNeg lb) (dVal lb)).1 (sumS (dNeg la) (dVal la) (dNeg lb) (dVal lb)).2 la.length else ([], 0, twoC la lb)
theorem sumS_lt {na nb : Bool} {x y B : Nat} (h : x + y < B) : (sumS na x nb y).2 < B := by
  unfold sumS
  split
  · exact h
  · split
    · show y - x < B
      omega
    · show x - y < B
      omega
theorem two_len {la lb : List UInt8} (h : twoC la lb = 0) : (1 ≤ la.length ∧ la.length ≤ 16) ∧ (1 ≤ lb.length ∧ lb.length ≤ 16) ∧ dVal la < 10000000000000000000000000000000 ∧ dVal lb < 10000000000000000000000000000000 := by
  obtain ⟨h1, h2⟩ := twoC_zero h
  have h3 := (opC_ok h1).2
  have h4 := (opC_ok h2).2
  exact ⟨h3, h4, dVal_31 h3.2 h3.1, dVal_31 h4.2 h4.1⟩
set_option maxRecDepth 100000 in
set_option maxHeartbeats 2000000 in
theorem padd_any (p q : Option Addr) (cp cq : Nat) (la lb : List UInt8) (w : World) (hr : Rd w p la) (hq : Rd w q lb) (hg : Sg w) :
    Calls Tryz.prog 108 #[.slice p la.length cp, .slice q lb.length cq] w (R3Post w (addL la lb)) := by
  have HTW := Lib.hid (operands_any p q cp cq la lb w hr hq hg)
  by_cases hz : twoC la lb = 0
  · obtain ⟨hla, hlb, vx, vy⟩ := two_len hz
    have hv : addL la lb = resS (sumS (dNeg la) (dVal la) (dNeg lb) (dVal lb)).1 (sumS (dNeg la) (dVal la) (dNeg lb) (dVal lb)).2 la.length := by unfold addL; rw [if_pos hz]
    have HV := Lib.hid hv
    have HZ := Lib.hid hz
    have HS := Lib.hid (fun W c d c' d' (h1 : Pw (dVal la) c d) (h2 : Pw (dVal lb) c' d') => add_any (dNeg la) (dNeg lb) (dVal la) (dVal lb) c d c' d' W h1 h2 (by omega))
    have hlt := sumS_lt (na := dNeg la) (nb := dNeg lb) (x := dVal la) (y := dVal lb) (B := 100000000000000000000000000000000) (by omega)
    have HO0 := fun W c d (h : Pw (sumS (dNeg la) (dVal la) (dNeg lb) (dVal lb)).2 c d) => outcome_any (sumS (dNeg la) (dVal la) (dNeg lb) (dVal lb)).1 (sumS (dNeg la) (dVal la) (dNeg lb) (dVal lb)).2 0 la.length c d W h hlt (by omega) hla.1 hla.2
    rw [Nat.pow_zero, Nat.mul_one] at HO0
    have h00 : (((0 : Nat)) : Int) = 0 := rfl
    rw [h00] at HO0
    have HO := Lib.hid HO0
    unfold TwPost at HTW
    unfold NvPost at HS
    unfold R3Post at HO
    generalize (sumS (dNeg la) (dVal la) (dNeg lb) (dVal lb)).1 = sn at *
    generalize (sumS (dNeg la) (dVal la) (dNeg lb) (dVal lb)).2 = sm at *
    clear hv hr hq hg h00 hlt vx vy hz HO0
    go_enter Tryz.func108, Tryz.ntmps108
    go_wp2_with fail
    refine (HTW.out).mono ?_
    rintro e w1 h
    rcases h with ⟨_, c, d, c', d', h1, h2, rfl, hb⟩ | ⟨hne, _⟩
    case inr => exact absurd HZ.out hne
    have HB1 := Lib.hid hb
    have HS1 := Lib.hid (fun W => HS.out W c d c' d' h1 h2)
    have HB2 := Lib.hid (bel0 hb (below2 w1 (.cells #[.bool (dNeg la), .int .u64 (c : Int), .int .u64 (d : Int)] 167) (.cells #[.bool (dNeg lb), .int .u64 (c' : Int), .int .u64 (d' : Int)] 167)))
    clear hb h1 h2 HS HTW
    go_wp2_with fail
    refine (HS1.out _).mono ?_
    rintro e w2 ⟨a, b, hq2, rfl, hb⟩
    have HB3 := Lib.hid (bel0 HB2.out hb)
    have HO1 := Lib.hid (fun W => HO.out W a b hq2)
    clear hb hq2 HO HS1
    go_wp2_with fail
    refine (HO1.out _).mono ?_
    rintro e w3 ⟨sv, rfl, hsv, hb⟩
    have HB4 := Lib.hid (bel0 HB3.out hb)
    have HSV := Lib.hid hsv
    clear hb hsv
    go_wp2
    go_ret3
    exact ⟨_, by rw [HV.out]; rfl, by rw [HV.out]; exact HSV.out, HB4.out⟩
  · have hv : addL la lb = ([], 0, twoC la lb) := by unfold addL; rw [if_neg hz]
    have HV := Lib.hid hv
    have HZ := Lib.hid hz
    unfold TwPost at HTW
    have hcz : ((twoC la lb : Int) == 0) = false := by
      simp only [beq_eq_false_iff_ne, ne_eq]
      omega
    clear hv hr hq hg
    generalize twoC la lb = code at *
    clear hz
    go_enter Tryz.func108, Tryz.ntmps108
    go_wp2_with fail
    refine (HTW.out).mono ?_
    rintro e w1 h
    rcases h with ⟨h0, _⟩ | ⟨hne, rfl, hb⟩
    · exact absurd h0 HZ.out
    have HB2 := Lib.hid (bel0 hb (below2 w1 (.cells #[.bool false, .int .u64 0, .int .u64 0] 167) (.cells #[.bool false, .int .u64 0, .int .u64 0] 167)))
    clear hb hne HTW
    go_wp2
    go_ret3
    exact ⟨_, by rw [HV.out]; rfl, by rw [HV.out]; exact SvB.nil _, HB2.out⟩
end E
end Go.Proofs.YtbcncohjjnmdcaaGreatDoor

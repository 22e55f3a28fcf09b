/- The contracts of outcome, Add, Sub, Zap and Compare. -/
import Derived.Test.YtbcncohjjnmdcaaGreatDoorRows
import Derived.Test.YtbcncohjjnmdcaaGreatDoorDcField
namespace Go.Proofs.YtbcncohjjnmdcaaGreatDoor
open Go.RowKit Go.Shelf
set_option linter.unusedVariables false
namespace E

theorem SvB.blk {W : World} {base g n : Nat} {l : List UInt8} (h : Blk W base g l) (hl : l.length = n) (hn : n ≤ 1000) : SvB W (.slice (some ⟨g, 0, none⟩) n n) l := ⟨_, n, by rw [hl], h.rd, by omega, by omega, fun h => by cases h⟩
/-- What is answered: a field, a condition code, a code. -/
def R3Post (w : World) (r : List UInt8 × Nat × Nat) (e : Ending) (w' : World) : Prop := ∃ sv, e = .returned (.tuple #[sv, .int .i64 (r.2.1 : Int), .int .i64 (r.2.2 : Int)]) ∧ SvB w' sv r.1 ∧ Below w.heap.size w w'
/-- The result of a number in n bytes. -/
def resS (neg : Bool) (v n : Nat) : List UInt8 × Nat × Nat := (fldL (if v = 0 then false else neg) v n, if ovB v n then 3 else condN (if v = 0 then false else neg) v, if ovB v n then 10 else 0)
theorem zero_pow (m z : Nat) : m * 10 ^ z = 0 ↔ m = 0 := by
  constructor
  · intro h
    rcases Nat.mul_eq_zero.1 h with h | h
    · exact h
    · exact absurd h (Nat.pos_iff_ne_zero.1 (Nat.pow_pos (by omega)))
  · intro h
    rw [h, Nat.zero_mul]
theorem cond_pow (neg : Bool) (m z : Nat) : condN neg (m * 10 ^ z) = condN neg m := by
  unfold condN
  simp only [zero_pow]
set_option maxRecDepth 100000 in
set_option maxHeartbeats 2000000 in
theorem outcome_pre (neg ng : Bool) (m z n c d : Nat) (w : World) (hng : ng = if m = 0 then false else neg) (hp : Pw m c d) (hm : m < 100000000000000000000000000000000) (hz : z ≤ 100) (h1 : 1 ≤ n) (h2 : n ≤ 16) (r : List UInt8 × Nat × Nat)
    (hr : r = (fldL ng (m * 10 ^ z) n, if ovB (m * 10 ^ z) n then 3 else condN ng m, if ovB (m * 10 ^ z) n then 10 else 0)) :
    Calls Tryz.prog 162 #[.agg #[.bool neg, .int .u64 (c : Int), .int .u64 (d : Int)], .int .i64 (z : Int), .int .i64 (n : Int)] w (R3Post w r) := by
  have HFD := Lib.hid (fun W => field_any ng m z n c d W hp hm hz h1 h2)
  have HCN := Lib.hid (fun W => cond_any ng m c d W hp)
  have hlen := fldL_len ng (m * 10 ^ z) n
  have HL := Lib.hid hlen
  have HRR := Lib.hid hr
  have hdec : Hid (Bx (w.alloc (.cells #[.bool ng, .int .u64 (c : Int), .int .u64 (d : Int)] 167)) w.heap.size 167 #[.bool ng, .int .u64 (c : Int), .int .u64 (d : Int)]) := Lib.hid (Bx.new w _ _)
  have HB0 := Lib.hid (below_new w (.cells #[.bool ng, .int .u64 (c : Int), .int .u64 (d : Int)] 167))
  unfold FdPost at HFD
  generalize fldL ng (m * 10 ^ z) n = F at *
  generalize ovB (m * 10 ^ z) n = o at *
  generalize condN ng m = cc at *
  clear hlen hr
  by_cases h0 : m = 0
  · obtain ⟨q1, q2⟩ := hp
    obtain rfl : c = 0 := by omega
    obtain rfl : d = 0 := by omega
    rw [if_pos h0] at hng
    subst hng
    clear h0 q1 q2 hm hz
    go_enter Tryz.func162, Tryz.ntmps162
    go_wp2_with fail
    refine (HFD.out _).mono ?_
    rintro e w1 ⟨g, rfl, hk, hb⟩
    have HB1 := Lib.hid (bel0 HB0.out hb)
    have HN1 := Lib.hid (hdec.out.below hb)
    have HK := Lib.hid (SvB.blk hk HL.out (by omega))
    clear hk hb
    obtain ⟨⟨n1, n2, n3⟩, _⟩ := HN1.out.three
    cases o
    · go_wp2_with fail
      refine (HCN.out _).mono ?_
      rintro e w2 ⟨rfl, hb⟩
      have HB2 := Lib.hid (bel0 HB1.out hb)
      have HK2 := Lib.hid (HK.out.below hb)
      clear hb
      go_wp2
      go_ret3
      exact ⟨_, by rw [HRR.out]; rfl, by rw [HRR.out]; exact HK2.out, HB2.out⟩
    · go_wp2
      go_ret3
      exact ⟨_, by rw [HRR.out]; rfl, by rw [HRR.out]; exact HK.out, HB1.out⟩
  · rw [if_neg h0] at hng
    subst hng
    have hcd : ¬ (c = 0 ∧ d = 0) := fun ⟨e1, e2⟩ => h0 (by rw [hp.1, e1, e2])
    clear h0 hm hz
    by_cases hc0 : c = 0
    · subst hc0
      have hd0 : d ≠ 0 := fun e => hcd ⟨rfl, e⟩
      have hdz : ((d : Int) == 0) = false := by simpa using hd0
      have h00 : (((0 : Nat)) : Int) = 0 := rfl
      rw [h00] at HFD HCN hdec HB0 ⊢
      clear h00 hcd hd0 hp
      go_enter Tryz.func162, Tryz.ntmps162
      go_wp2_with fail
      refine (HFD.out _).mono ?_
      rintro e w1 ⟨g, rfl, hk, hb⟩
      have HB1 := Lib.hid (bel0 HB0.out hb)
      have HN1 := Lib.hid (hdec.out.below hb)
      have HK := Lib.hid (SvB.blk hk HL.out (by omega))
      clear hk hb
      obtain ⟨⟨n1, n2, n3⟩, _⟩ := HN1.out.three
      cases o
      · go_wp2_with fail
        refine (HCN.out _).mono ?_
        rintro e w2 ⟨rfl, hb⟩
        have HB2 := Lib.hid (bel0 HB1.out hb)
        have HK2 := Lib.hid (HK.out.below hb)
        clear hb
        go_wp2
        go_ret3
        exact ⟨_, by rw [HRR.out]; rfl, by rw [HRR.out]; exact HK2.out, HB2.out⟩
      · go_wp2
        go_ret3
        exact ⟨_, by rw [HRR.out]; rfl, by rw [HRR.out]; exact HK.out, HB1.out⟩
    · have hcz : ((c : Int) == 0) = false := by simpa using hc0
      clear hc0 hcd hp
      go_enter Tryz.func162, Tryz.ntmps162
      go_wp2_with fail
      refine (HFD.out _).mono ?_
      rintro e w1 ⟨g, rfl, hk, hb⟩
      have HB1 := Lib.hid (bel0 HB0.out hb)
      have HN1 := Lib.hid (hdec.out.below hb)
      have HK := Lib.hid (SvB.blk hk HL.out (by omega))
      clear hk hb
      obtain ⟨⟨n1, n2, n3⟩, _⟩ := HN1.out.three
      cases o
      · go_wp2_with fail
        refine (HCN.out _).mono ?_
        rintro e w2 ⟨rfl, hb⟩
        have HB2 := Lib.hid (bel0 HB1.out hb)
        have HK2 := Lib.hid (HK.out.below hb)
        clear hb
        go_wp2
        go_ret3
        exact ⟨_, by rw [HRR.out]; rfl, by rw [HRR.out]; exact HK2.out, HB2.out⟩
      · go_wp2
        go_ret3
        exact ⟨_, by rw [HRR.out]; rfl, by rw [HRR.out]; exact HK.out, HB1.out⟩
theorem outcome_any (neg : Bool) (m z n c d : Nat) (w : World) (hp : Pw m c d) (hm : m < 100000000000000000000000000000000) (hz : z ≤ 100) (h1 : 1 ≤ n) (h2 : n ≤ 16) :
    Calls Tryz.prog 162 #[.agg #[.bool neg, .int .u64 (c : Int), .int .u64 (d : Int)], .int .i64 (z : Int), .int .i64 (n : Int)] w (R3Post w (resS neg (m * 10 ^ z) n)) := by
  refine outcome_pre neg (if m = 0 then false else neg) m z n c d w rfl hp hm hz h1 h2 _ ?_
  unfold resS
  rw [cond_pow]
  simp only [zero_pow]

end E
end Go.Proofs.YtbcncohjjnmdcaaGreatDoor
namespace Go.Proofs.YtbcncohjjnmdcaaGreatDoor
open Go.RowKit Go.Shelf
set_option linter.unusedVariables false
namespace E

/-- What Add answers, what Sub answers. -/
def addL (la lb : List UInt8) : List UInt8 × Nat × Nat := if twoC la lb = 0 then resS (sumS (dNeg la) (dVal la) (dNeg lb) (dVal lb)).1 (sumS (dNeg la) (dVal la) (dNeg lb) (dVal lb)).2 la.length else ([], 0, twoC la lb)
def subL4 (la lb : List UInt8) : List UInt8 × Nat × Nat := if twoC la lb = 0 then resS (sumS (dNeg la) (dVal la) (!dNeg lb) (dVal lb)).1 (sumS (dNeg la) (dVal la) (!dNeg lb) (dVal lb)).2 la.length else ([], 0, twoC la lb)
/-- What Zap answers. -/
def zapL (n : Int) (lb : List UInt8) : List UInt8 × Nat × Nat := if 1 ≤ n ∧ n ≤ 16 then (if opC lb = 0 then resS (dNeg lb) (dVal lb) n.toNat else ([], 0, opC lb)) else ([], 0, 6)
/-- What Compare answers. -/
def cmpL (la lb : List UInt8) : Nat × Nat := if twoC la lb = 0 then (condN (sumS (dNeg la) (dVal la) (!dNeg lb) (dVal lb)).1 (sumS (dNeg la) (dVal la) (!dNeg lb) (dVal lb)).2, 0) else (0, twoC la lb)
def R2iPost (w : World) (r : Nat × Nat) (e : Ending) (w' : World) : Prop := e = .returned (.tuple #[.int .i64 (r.1 : Int), .int .i64 (r.2 : Int)]) ∧ Below w.heap.size w w'
theorem sumS_lt {na nb : Bool} {x y B : Nat} (h : x + y < B) : (sumS na x nb y).2 < B := by
  unfold sumS
  split
  · exact h
  · split
    · show y - x < B
      omega
    · show x - y < B
      omega
theorem two_len {la lb : List UInt8} (h : twoC la lb = 0) : (1 ≤ la.length ∧ la.length ≤ 16) ∧ (1 ≤ lb.length ∧ lb.length ≤ 16) ∧ dVal la < 10000000000000000000000000000000 ∧ dVal lb < 10000000000000000000000000000000 := by
  obtain ⟨h1, h2⟩ := twoC_zero h
  have h3 := (opC_ok h1).2
  have h4 := (opC_ok h2).2
  exact ⟨h3, h4, dVal_31 h3.2 h3.1, dVal_31 h4.2 h4.1⟩
theorem two_new (w : World) (a b c x y z : Value) : Bx ((w.alloc (.cells #[a, b, c] 167)).alloc (.cells #[x, y, z] 167)) w.heap.size 167 #[a, b, c] ∧ Bx ((w.alloc (.cells #[a, b, c] 167)).alloc (.cells #[x, y, z] 167)) (w.heap.size + 1) 167 #[x, y, z] :=
  ⟨(Bx.new w _ _).below (below_new _ _), second_new w _ _ _ _ rfl⟩
set_option maxRecDepth 100000 in
set_option maxHeartbeats 2000000 in
theorem padd_any (p q : Option Addr) (cp cq : Nat) (la lb : List UInt8) (w : World) (hr : Rd w p la) (hq : Rd w q lb) (hg : Sg w) :
    Calls Tryz.prog 108 #[.slice p la.length cp, .slice q lb.length cq] w (R3Post w (addL la lb)) := by
  have HTW := Lib.hid (operands_any p q cp cq la lb w hr hq hg)
  by_cases hz : twoC la lb = 0
  · obtain ⟨hla, hlb, vx, vy⟩ := two_len hz
    have hv : addL la lb = resS (sumS (dNeg la) (dVal la) (dNeg lb) (dVal lb)).1 (sumS (dNeg la) (dVal la) (dNeg lb) (dVal lb)).2 la.length := by unfold addL; rw [if_pos hz]
    have HV := Lib.hid hv
    have HZ := Lib.hid hz
    have HS := Lib.hid (fun W c d c' d' (h1 : Pw (dVal la) c d) (h2 : Pw (dVal lb) c' d') => add_any (dNeg la) (dNeg lb) (dVal la) (dVal lb) c d c' d' W h1 h2 (by omega))
    have hlt := sumS_lt (na := dNeg la) (nb := dNeg lb) (x := dVal la) (y := dVal lb) (B := 100000000000000000000000000000000) (by omega)
    have HO0 := fun W c d (h : Pw (sumS (dNeg la) (dVal la) (dNeg lb) (dVal lb)).2 c d) => outcome_any (sumS (dNeg la) (dVal la) (dNeg lb) (dVal lb)).1 (sumS (dNeg la) (dVal la) (dNeg lb) (dVal lb)).2 0 la.length c d W h hlt (by omega) hla.1 hla.2
    rw [Nat.pow_zero, Nat.mul_one] at HO0
    have h00 : (((0 : Nat)) : Int) = 0 := rfl
    rw [h00] at HO0
    have HO := Lib.hid HO0
    unfold TwPost at HTW
    unfold NvPost at HS
    unfold R3Post at HO
    generalize (sumS (dNeg la) (dVal la) (dNeg lb) (dVal lb)).1 = sn at *
    generalize (sumS (dNeg la) (dVal la) (dNeg lb) (dVal lb)).2 = sm at *
    clear hv hr hq hg h00 hlt vx vy hz HO0
    go_enter Tryz.func108, Tryz.ntmps108
    go_wp2_with fail
    refine (HTW.out).mono ?_
    rintro e w1 h
    rcases h with ⟨_, c, d, c', d', h1, h2, rfl, hb⟩ | ⟨hne, _⟩
    case inr => exact absurd HZ.out hne
    have HB1 := Lib.hid hb
    have HS1 := Lib.hid (fun W => HS.out W c d c' d' h1 h2)
    have HB2 := Lib.hid (bel0 hb (below2 w1 (.cells #[.bool (dNeg la), .int .u64 (c : Int), .int .u64 (d : Int)] 167) (.cells #[.bool (dNeg lb), .int .u64 (c' : Int), .int .u64 (d' : Int)] 167)))
    clear hb h1 h2 HS HTW
    go_wp2_with fail
    refine (HS1.out _).mono ?_
    rintro e w2 ⟨a, b, hq2, rfl, hb⟩
    have HB3 := Lib.hid (bel0 HB2.out hb)
    have HO1 := Lib.hid (fun W => HO.out W a b hq2)
    clear hb hq2 HO HS1
    go_wp2_with fail
    refine (HO1.out _).mono ?_
    rintro e w3 ⟨sv, rfl, hsv, hb⟩
    have HB4 := Lib.hid (bel0 HB3.out hb)
    have HSV := Lib.hid hsv
    clear hb hsv
    go_wp2
    go_ret3
    exact ⟨_, by rw [HV.out]; rfl, by rw [HV.out]; exact HSV.out, HB4.out⟩
  · have hv : addL la lb = ([], 0, twoC la lb) := by unfold addL; rw [if_neg hz]
    have HV := Lib.hid hv
    have HZ := Lib.hid hz
    unfold TwPost at HTW
    have hcz : ((twoC la lb : Int) == 0) = false := by
      simp only [beq_eq_false_iff_ne, ne_eq]
      omega
    clear hv hr hq hg
    generalize twoC la lb = code at *
    clear hz
    go_enter Tryz.func108, Tryz.ntmps108
    go_wp2_with fail
    refine (HTW.out).mono ?_
    rintro e w1 h
    rcases h with ⟨h0, _⟩ | ⟨hne, rfl, hb⟩
    · exact absurd h0 HZ.out
    have HB2 := Lib.hid (bel0 hb (below2 w1 (.cells #[.bool false, .int .u64 0, .int .u64 0] 167) (.cells #[.bool false, .int .u64 0, .int .u64 0] 167)))
    clear hb hne HTW
    go_wp2
    go_ret3
    exact ⟨_, by rw [HV.out]; rfl, by rw [HV.out]; exact SvB.nil _, HB2.out⟩
set_option maxRecDepth 100000 in
set_option maxHeartbeats 2000000 in
theorem psub_any (p q : Option Addr) (cp cq : Nat) (la lb : List UInt8) (w : World) (hr : Rd w p la) (hq : Rd w q lb) (hg : Sg w) :
    Calls Tryz.prog 109 #[.slice p la.length cp, .slice q lb.length cq] w (R3Post w (subL4 la lb)) := by
  have HTW := Lib.hid (operands_any p q cp cq la lb w hr hq hg)
  by_cases hz : twoC la lb = 0
  · obtain ⟨hla, hlb, vx, vy⟩ := two_len hz
    have hv : subL4 la lb = resS (sumS (dNeg la) (dVal la) (!dNeg lb) (dVal lb)).1 (sumS (dNeg la) (dVal la) (!dNeg lb) (dVal lb)).2 la.length := by unfold subL4; rw [if_pos hz]
    have HV := Lib.hid hv
    have HZ := Lib.hid hz
    have HS := Lib.hid (fun W c d c' d' (h1 : Pw (dVal la) c d) (h2 : Pw (dVal lb) c' d') => sub_any (dNeg la) (dNeg lb) (dVal la) (dVal lb) c d c' d' W h1 h2 (by omega))
    have hlt := sumS_lt (na := dNeg la) (nb := !dNeg lb) (x := dVal la) (y := dVal lb) (B := 100000000000000000000000000000000) (by omega)
    have HO0 := fun W c d (h : Pw (sumS (dNeg la) (dVal la) (!dNeg lb) (dVal lb)).2 c d) => outcome_any (sumS (dNeg la) (dVal la) (!dNeg lb) (dVal lb)).1 (sumS (dNeg la) (dVal la) (!dNeg lb) (dVal lb)).2 0 la.length c d W h hlt (by omega) hla.1 hla.2
    rw [Nat.pow_zero, Nat.mul_one] at HO0
    have h00 : (((0 : Nat)) : Int) = 0 := rfl
    rw [h00] at HO0
    have HO := Lib.hid HO0
    unfold TwPost at HTW
    unfold NvPost at HS
    unfold R3Post at HO
    generalize (sumS (dNeg la) (dVal la) (!dNeg lb) (dVal lb)).1 = sn at *
    generalize (sumS (dNeg la) (dVal la) (!dNeg lb) (dVal lb)).2 = sm at *
    clear hv hr hq hg h00 hlt vx vy hz HO0
    go_enter Tryz.func109, Tryz.ntmps109
    go_wp2_with fail
    refine (HTW.out).mono ?_
    rintro e w1 h
    rcases h with ⟨_, c, d, c', d', h1, h2, rfl, hb⟩ | ⟨hne, _⟩
    case inr => exact absurd HZ.out hne
    have HB1 := Lib.hid hb
    have HS1 := Lib.hid (fun W => HS.out W c d c' d' h1 h2)
    have HB2 := Lib.hid (bel0 hb (below2 w1 (.cells #[.bool (dNeg la), .int .u64 (c : Int), .int .u64 (d : Int)] 167) (.cells #[.bool (dNeg lb), .int .u64 (c' : Int), .int .u64 (d' : Int)] 167)))
    clear hb h1 h2 HS HTW
    go_wp2_with fail
    refine (HS1.out _).mono ?_
    rintro e w2 ⟨a, b, hq2, rfl, hb⟩
    have HB3 := Lib.hid (bel0 HB2.out hb)
    have HO1 := Lib.hid (fun W => HO.out W a b hq2)
    clear hb hq2 HO HS1
    go_wp2_with fail
    refine (HO1.out _).mono ?_
    rintro e w3 ⟨sv, rfl, hsv, hb⟩
    have HB4 := Lib.hid (bel0 HB3.out hb)
    have HSV := Lib.hid hsv
    clear hb hsv
    go_wp2
    go_ret3
    exact ⟨_, by rw [HV.out]; rfl, by rw [HV.out]; exact HSV.out, HB4.out⟩
  · have hv : subL4 la lb = ([], 0, twoC la lb) := by unfold subL4; rw [if_neg hz]
    have HV := Lib.hid hv
    have HZ := Lib.hid hz
    unfold TwPost at HTW
    have hcz : ((twoC la lb : Int) == 0) = false := by
      simp only [beq_eq_false_iff_ne, ne_eq]
      omega
    clear hv hr hq hg
    generalize twoC la lb = code at *
    clear hz
    go_enter Tryz.func109, Tryz.ntmps109
    go_wp2_with fail
    refine (HTW.out).mono ?_
    rintro e w1 h
    rcases h with ⟨h0, _⟩ | ⟨hne, rfl, hb⟩
    · exact absurd h0 HZ.out
    have HB2 := Lib.hid (bel0 hb (below2 w1 (.cells #[.bool false, .int .u64 0, .int .u64 0] 167) (.cells #[.bool false, .int .u64 0, .int .u64 0] 167)))
    clear hb hne HTW
    go_wp2
    go_ret3
    exact ⟨_, by rw [HV.out]; rfl, by rw [HV.out]; exact SvB.nil _, HB2.out⟩
set_option maxRecDepth 100000 in
set_option maxHeartbeats 2000000 in
theorem pcmp_any (p q : Option Addr) (cp cq : Nat) (la lb : List UInt8) (w : World) (hr : Rd w p la) (hq : Rd w q lb) (hg : Sg w) :
    Calls Tryz.prog 110 #[.slice p la.length cp, .slice q lb.length cq] w (R2iPost w (cmpL la lb)) := by
  have HTW := Lib.hid (operands_any p q cp cq la lb w hr hq hg)
  by_cases hz : twoC la lb = 0
  · obtain ⟨hla, hlb, vx, vy⟩ := two_len hz
    have hv : cmpL la lb = (condN (sumS (dNeg la) (dVal la) (!dNeg lb) (dVal lb)).1 (sumS (dNeg la) (dVal la) (!dNeg lb) (dVal lb)).2, 0) := by unfold cmpL; rw [if_pos hz]
    have HV := Lib.hid hv
    have HZ := Lib.hid hz
    have HS := Lib.hid (fun W c d c' d' (h1 : Pw (dVal la) c d) (h2 : Pw (dVal lb) c' d') => sub_any (dNeg la) (dNeg lb) (dVal la) (dVal lb) c d c' d' W h1 h2 (by omega))
    have hlt := sumS_lt (na := dNeg la) (nb := !dNeg lb) (x := dVal la) (y := dVal lb) (B := 100000000000000000000000000000000) (by omega)
    have HO := Lib.hid (fun W c d (h : Pw (sumS (dNeg la) (dVal la) (!dNeg lb) (dVal lb)).2 c d) => cond_any (sumS (dNeg la) (dVal la) (!dNeg lb) (dVal lb)).1 (sumS (dNeg la) (dVal la) (!dNeg lb) (dVal lb)).2 c d W h)
    unfold TwPost at HTW
    unfold NvPost at HS
    generalize (sumS (dNeg la) (dVal la) (!dNeg lb) (dVal lb)).1 = sn at *
    generalize (sumS (dNeg la) (dVal la) (!dNeg lb) (dVal lb)).2 = sm at *
    clear hv hr hq hg hlt vx vy hz
    go_enter Tryz.func110, Tryz.ntmps110
    go_wp2_with fail
    refine (HTW.out).mono ?_
    rintro e w1 h
    rcases h with ⟨_, c, d, c', d', h1, h2, rfl, hb⟩ | ⟨hne, _⟩
    case inr => exact absurd HZ.out hne
    have HB1 := Lib.hid hb
    have HS1 := Lib.hid (fun W => HS.out W c d c' d' h1 h2)
    have HB2 := Lib.hid (bel0 hb (below2 w1 (.cells #[.bool (dNeg la), .int .u64 (c : Int), .int .u64 (d : Int)] 167) (.cells #[.bool (dNeg lb), .int .u64 (c' : Int), .int .u64 (d' : Int)] 167)))
    clear hb h1 h2 HS HTW
    go_wp2_with fail
    refine (HS1.out _).mono ?_
    rintro e w2 ⟨a, b, hq2, rfl, hb⟩
    have HB3 := Lib.hid (bel0 HB2.out hb)
    have HO1 := Lib.hid (fun W => HO.out W a b hq2)
    clear hb hq2 HO HS1
    go_wp2_with fail
    refine (HO1.out _).mono ?_
    rintro e w3 ⟨rfl, hb⟩
    have HB4 := Lib.hid (bel0 HB3.out hb)
    clear hb
    go_wp2
    go_ret2
    exact ⟨by rw [HV.out]; rfl, HB4.out⟩
  · have hv : cmpL la lb = (0, twoC la lb) := by unfold cmpL; rw [if_neg hz]
    have HV := Lib.hid hv
    have HZ := Lib.hid hz
    unfold TwPost at HTW
    have hcz : ((twoC la lb : Int) == 0) = false := by
      simp only [beq_eq_false_iff_ne, ne_eq]
      omega
    clear hv hr hq hg
    generalize twoC la lb = code at *
    clear hz
    go_enter Tryz.func110, Tryz.ntmps110
    go_wp2_with fail
    refine (HTW.out).mono ?_
    rintro e w1 h
    rcases h with ⟨h0, _⟩ | ⟨hne, rfl, hb⟩
    · exact absurd h0 HZ.out
    have HB2 := Lib.hid (bel0 hb (below2 w1 (.cells #[.bool false, .int .u64 0, .int .u64 0] 167) (.cells #[.bool false, .int .u64 0, .int .u64 0] 167)))
    clear hb hne HTW
    go_wp2
    go_ret2
    exact ⟨by rw [HV.out]; rfl, HB2.out⟩
set_option maxRecDepth 100000 in
set_option maxHeartbeats 2000000 in
theorem pzap_any (n : Int) (q : Option Addr) (cq : Nat) (lb : List UInt8) (w : World) (hq : Rd w q lb) (hg : Sg w) :
    Calls Tryz.prog 107 #[.int .i64 n, .slice q lb.length cq] w (R3Post w (zapL n lb)) := by
  have hs1 := fun W => isSz_any n W
  by_cases hn : 1 ≤ n ∧ n ≤ 16
  · rw [decide_eq_true hn] at hs1
    have S1 := Lib.hid hs1
    obtain ⟨m, rfl⟩ := Int.eq_ofNat_of_zero_le (show 0 ≤ n by omega)
    have HOP := Lib.hid (operand_any q cq lb w hq hg)
    unfold OpPost at HOP
    have hzl : zapL (m : Int) lb = if opC lb = 0 then resS (dNeg lb) (dVal lb) m else ([], 0, opC lb) := by unfold zapL; rw [if_pos hn, Int.toNat_natCast]
    by_cases hz : opC lb = 0
    · rw [if_pos hz] at hzl
      have HV := Lib.hid hzl
      have hl := (opC_ok hz).2
      have hvx := dVal_31 hl.2 hl.1
      have HO0 := fun W c d (h : Pw (dVal lb) c d) => outcome_any (dNeg lb) (dVal lb) 0 m c d W h (by omega) (by omega) (by omega) (by omega)
      rw [Nat.pow_zero, Nat.mul_one] at HO0
      have h00 : (((0 : Nat)) : Int) = 0 := rfl
      rw [h00] at HO0
      have HO := Lib.hid HO0
      unfold R3Post at HO
      rw [hz, h00] at HOP
      clear hzl hq hg h00 HO0 hs1 hl hvx hz
      go_enter Tryz.func107, Tryz.ntmps107
      go_wp2_with fail
      refine (S1.out _).mono ?_
      rintro e w' ⟨rfl, rfl⟩
      go_wp2_with fail
      refine (HOP.out).mono ?_
      rintro e w1 ⟨c, d, h1, rfl, hb⟩
      have HB2 := Lib.hid (bel0 hb (below_new w1 (.cells #[.bool (dNeg lb), .int .u64 (c : Int), .int .u64 (d : Int)] 167)))
      have HO1 := Lib.hid (fun W => HO.out W c d h1)
      clear hb h1 HO HOP
      go_wp2_with fail
      refine (HO1.out _).mono ?_
      rintro e w3 ⟨sv, rfl, hsv, hb⟩
      have HB4 := Lib.hid (bel0 HB2.out hb)
      have HSV := Lib.hid hsv
      clear hb hsv
      go_wp2
      go_ret3
      exact ⟨_, by rw [HV.out]; rfl, by rw [HV.out]; exact HSV.out, HB4.out⟩
    · rw [if_neg hz] at hzl
      have HV := Lib.hid hzl
      have hcz : ((opC lb : Int) == 0) = false := by
        simp only [beq_eq_false_iff_ne, ne_eq]
        omega
      clear hzl hq hg hs1
      generalize opC lb = code at *
      clear hz
      go_enter Tryz.func107, Tryz.ntmps107
      go_wp2_with fail
      refine (S1.out _).mono ?_
      rintro e w' ⟨rfl, rfl⟩
      go_wp2_with fail
      refine (HOP.out).mono ?_
      rintro e w1 ⟨c, d, h1, rfl, hb⟩
      have HB2 := Lib.hid (bel0 hb (below_new w1 (.cells #[.bool (dNeg lb), .int .u64 (c : Int), .int .u64 (d : Int)] 167)))
      clear hb h1 HOP
      go_wp2
      go_ret3
      exact ⟨_, by rw [HV.out]; rfl, by rw [HV.out]; exact SvB.nil _, HB2.out⟩
  · rw [decide_eq_false hn] at hs1
    have S1 := Lib.hid hs1
    have hzl : zapL n lb = ([], 0, 6) := by unfold zapL; rw [if_neg hn]
    have HV := Lib.hid hzl
    clear hs1 hq hg hzl hn
    go_enter Tryz.func107, Tryz.ntmps107
    go_wp2_with fail
    refine (S1.out _).mono ?_
    rintro e w' ⟨rfl, rfl⟩
    go_wp2
    go_ret3
    exact ⟨_, by rw [HV.out]; rfl, by rw [HV.out]; exact SvB.nil _, Below.refl _ _⟩

end E
end Go.Proofs.YtbcncohjjnmdcaaGreatDoor

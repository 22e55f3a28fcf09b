/- The contracts of the two operands of the program's functions. -/
import Derived.Test.YtlpekknhaaddcaaDoorDcOper
namespace Go.Proofs.YtlpekknhaaddcaaDoor
open Go.RowKit Go.Shelf
set_option linter.unusedVariables false
namespace E

/-- The code of two operands. -/
def twoC (a b : List UInt8) : Nat := if opC a = 6 ∨ opC b = 6 then 6 else if opC a = 7 ∨ opC b = 7 then 7 else 0
theorem opC_cases (bs : List UInt8) : opC bs = 0 ∨ opC bs = 6 ∨ opC bs = 7 := by
  unfold opC
  split
  · split <;> omega
  · omega
theorem twoC_zero {a b : List UInt8} (h : twoC a b = 0) : opC a = 0 ∧ opC b = 0 := by
  unfold twoC at h
  have h1 := opC_cases a
  have h2 := opC_cases b
  split at h
  · cases h
  · split at h
    · cases h
    · omega
theorem results_cct {fn : Func} {p q u : Tmp} {t1 t2 : TypeId} (h : fn.results = #[.cell p t1, .cell q t2, .tmp u]) (tmps : Array Value) (P : Program) (w : World) :
    (results fn tmps).run P w =
      ((asAddr (tmps.getD p undef)).run P w).andThen fun a w₁ => ((loadVar t1 a).run P w₁).andThen fun v w₂ => ((asAddr (tmps.getD q undef)).run P w₂).andThen fun b w₃ => ((loadVar t2 b).run P w₃).andThen fun x w₄ => .ok (.tuple #[v, x, tmps.getD u undef]) w₄ := by
  simp only [results, h]
  simp [Sem.run_bind, Result.andThen]
theorem ret_cct {fn : Func} {p q u : Tmp} (h : fn.results = #[.cell p 45, .cell q 45, .tmp u]) {tmps : Array Value} {W : World} {D E : Nat} {n1 n2 : Bool} {a b c d : Value} (h1 : tmps.getD p undef = .pointer (some ⟨D, 0, none⟩)) (h2 : tmps.getD q undef = .pointer (some ⟨E, 0, none⟩))
    (hD : Bx W D 45 #[.bool n1, a, b]) (hE : Bx W E 45 #[.bool n2, c, d]) :
    (results fn tmps).run Tryd.prog W = .ok (.tuple #[.agg #[.bool n1, a, b], .agg #[.bool n2, c, d], tmps.getD u undef]) W := by
  obtain ⟨⟨d1, d2, d3⟩, _⟩ := hD.three
  obtain ⟨⟨e1, e2, e3⟩, _⟩ := hE.three
  rw [results_cct h, h1, h2]
  go_simp
/-- What the two operands leave. -/
def TwPost (w : World) (a b : List UInt8) (code : Nat) (e : Ending) (w' : World) : Prop :=
  (code = 0 ∧ ∃ c d c' d', Pw (dVal a) c d ∧ Pw (dVal b) c' d' ∧ e = .returned (.tuple #[.agg #[.bool (dNeg a), .int .u64 (c : Int), .int .u64 (d : Int)], .agg #[.bool (dNeg b), .int .u64 (c' : Int), .int .u64 (d' : Int)], .int .i64 0]) ∧ Below w.heap.size w w') ∨
  (code ≠ 0 ∧ New w (.tuple #[.agg #[.bool false, .int .u64 0, .int .u64 0], .agg #[.bool false, .int .u64 0, .int .u64 0], .int .i64 (code : Int)]) e w')
set_option maxRecDepth 100000 in
set_option maxHeartbeats 4000000 in
theorem operands_any (p q : Option Addr) (cp cq : Nat) (la lb : List UInt8) (w : World) (hr : Rd w p la) (hq : Rd w q lb) (hg : Sg w) :
    Calls Tryd.prog 35 #[.slice p la.length cp, .slice q lb.length cq] w (TwPost w la lb (twoC la lb)) := by
  have HA := Lib.hid (fun W (h : Rd W p la) (hg : Sg W) => operand_any p cp la W h hg)
  have HBo := Lib.hid (fun W (h : Rd W q lb) (hg : Sg W) => operand_any q cq lb W h hg)
  have HR := Lib.hid hr
  have HQ := Lib.hid hq
  have HG := Lib.hid hg
  have HB0 := Lib.hid (below2 w (.cells #[.bool false, .int .u64 0, .int .u64 0] 45) (.cells #[.bool false, .int .u64 0, .int .u64 0] 45))
  have HD0 := Lib.hid ((Bx.new w 45 #[.bool false, .int .u64 0, .int .u64 0]).below (below_new _ (.cells #[.bool false, .int .u64 0, .int .u64 0] 45)))
  have HE0 := Lib.hid (second_new w (.cells #[.bool false, .int .u64 0, .int .u64 0] 45) (.cells #[.bool false, .int .u64 0, .int .u64 0] 45) _ _ rfl)
  have hca := opC_cases la
  have hcb := opC_cases lb
  have HTC : Hid (twoC la lb = if opC la = 6 ∨ opC lb = 6 then 6 else if opC la = 7 ∨ opC lb = 7 then 7 else 0) := Lib.hid rfl
  clear hr hq hg
  unfold OpPost at HA HBo
  generalize opC la = ca at *
  generalize opC lb = cb at *
  go_enter Tryd.func35, Tryd.ntmps35
  go_wp2_with fail
  refine (HA.out _ (HR.out.below HB0.out) (HG.out.below HB0.out)).mono ?_
  rintro e w1 ⟨c, d, hq1, rfl, hb⟩
  have HB1 := Lib.hid (bel0 HB0.out hb)
  have HD1 := Lib.hid (HD0.out.below hb)
  have HE1 := Lib.hid (HE0.out.below hb)
  have HQ1 := Lib.hid hq1
  clear hb hq1 HA HB0 HD0 HE0
  obtain ⟨⟨r1, r2, r3⟩, q1, q2, q3⟩ := HD1.out.three
  have HB2 := Lib.hid (below_set3 HB1.out (Nat.le_refl _) (.bool (dNeg la)) (.int .u64 (c : Int)) (.int .u64 (d : Int)))
  have HD2 := Lib.hid (HD1.out.all3 (.bool (dNeg la)) (.int .u64 (c : Int)) (.int .u64 (d : Int)))
  have HE2 := Lib.hid (HE1.out.far3 (F := w.heap.size) (by omega) (.bool (dNeg la)) (.int .u64 (c : Int)) (.int .u64 (d : Int)))
  go_wp2_with fail
  refine (HBo.out _ (HQ.out.below HB2.out) (HG.out.below HB2.out)).mono ?_
  rintro e w2 ⟨c', d', hq2, rfl, hb⟩
  have HB3 := Lib.hid (bel0 HB2.out hb)
  have HD3 := Lib.hid (HD2.out.below hb)
  have HE3 := Lib.hid (HE2.out.below hb)
  have HQ2 := Lib.hid hq2
  clear hb hq2 HBo HB1 HD1 HE1 HB2 HD2 HE2 r1 r2 r3 q1 q2 q3
  obtain ⟨⟨d1, d2, d3⟩, x1, x2, x3⟩ := HD3.out.three
  obtain ⟨⟨e1, e2, e3⟩, y1, y2, y3⟩ := HE3.out.three
  by_cases h6 : ca = 6 ∨ cb = 6
  · have ht : twoC la lb = 6 := by rw [HTC.out, if_pos h6]
    have HT := Lib.hid ht
    clear HTC ht
    rcases hca with rfl | rfl | rfl <;> rcases hcb with rfl | rfl | rfl <;> first | (exfalso; omega) | skip
    all_goals clear h6
    all_goals go_wp2
    all_goals refine bodyPost_ret (v := .tuple #[.agg #[.bool false, .int .u64 0, .int .u64 0], .agg #[.bool false, .int .u64 0, .int .u64 0], .int .i64 6]) ?_ rfl (.inr ⟨by rw [HT.out]; decide, by rw [HT.out]; rfl, ?_⟩)
    all_goals first
      | exact below_set3 (below_set3 (below_set3 HB3.out (Nat.le_succ _) _ _ _) (Nat.le_refl _) _ _ _) (Nat.le_succ _) _ _ _
      | (refine ret_cct (p := 4) (q := 5) (u := 6) ?_ ?_ ?_ (((HD3.out.far3 (by omega) _ _ _).all3 _ _ _).far3 (by omega) _ _ _) (((HE3.out.all3 _ _ _).far3 (by omega) _ _ _).all3 _ _ _) <;> rfl)
  · have h6' : ca ≠ 6 ∧ cb ≠ 6 := by omega
    by_cases h7 : ca = 7 ∨ cb = 7
    · have ht : twoC la lb = 7 := by rw [HTC.out, if_neg h6, if_pos h7]
      have HT := Lib.hid ht
      clear HTC ht h6
      rcases hca with rfl | rfl | rfl <;> rcases hcb with rfl | rfl | rfl <;> first | (exfalso; omega) | skip
      all_goals clear h7 h6'
      all_goals go_wp2
      all_goals refine bodyPost_ret (v := .tuple #[.agg #[.bool false, .int .u64 0, .int .u64 0], .agg #[.bool false, .int .u64 0, .int .u64 0], .int .i64 7]) ?_ rfl (.inr ⟨by rw [HT.out]; decide, by rw [HT.out]; rfl, ?_⟩)
      all_goals first
        | exact below_set3 (below_set3 (below_set3 HB3.out (Nat.le_succ _) _ _ _) (Nat.le_refl _) _ _ _) (Nat.le_succ _) _ _ _
        | (refine ret_cct (p := 4) (q := 5) (u := 6) ?_ ?_ ?_ (((HD3.out.far3 (by omega) _ _ _).all3 _ _ _).far3 (by omega) _ _ _) (((HE3.out.all3 _ _ _).far3 (by omega) _ _ _).all3 _ _ _) <;> rfl)
    · have ht : twoC la lb = 0 := by rw [HTC.out, if_neg h6, if_neg h7]
      have HT := Lib.hid ht
      clear HTC ht
      obtain rfl : ca = 0 := by omega
      obtain rfl : cb = 0 := by omega
      clear h6 h7 h6' hca hcb
      obtain ⟨na, hna⟩ : ∃ na, na = dNeg la := ⟨_, rfl⟩
      obtain ⟨nb, hnb⟩ : ∃ nb, nb = dNeg lb := ⟨_, rfl⟩
      rw [← hna] at HD3 d1 ⊢
      rw [← hnb]
      have HNA := Lib.hid hna
      have HNB := Lib.hid hnb
      clear hna hnb
      go_wp2
      go_region
      all_goals go_wp2
      all_goals refine bodyPost_ret (v := .tuple #[.agg #[.bool na, .int .u64 (c : Int), .int .u64 (d : Int)], .agg #[.bool nb, .int .u64 (c' : Int), .int .u64 (d' : Int)], .int .i64 0]) ?_ rfl (.inl ⟨HT.out, c, d, c', d', HQ1.out, HQ2.out, by rw [HNA.out, HNB.out], ?_⟩)
      · refine ret_cct (p := 4) (q := 5) (u := 6) ?_ ?_ ?_ ((((HD3.out.far3 (by omega) _ _ _).all3 _ _ _).far3 (by omega) _ _ _).below (Below.refl _ _).drew) ((((HE3.out.all3 _ _ _).far3 (by omega) _ _ _).all3 _ _ _).below (Below.refl _ _).drew) <;> rfl
      · exact (below_set3 (below_set3 (below_set3 HB3.out (Nat.le_succ _) _ _ _) (Nat.le_refl _) _ _ _) (Nat.le_succ _) _ _ _).drew
set_option maxRecDepth 100000 in
set_option maxHeartbeats 4000000 in
theorem unequal_any (p q : Option Addr) (cp cq : Nat) (la lb : List UInt8) (w : World) (hla : la.length ≤ 9223372036854775807) (hlb : lb.length ≤ 9223372036854775807) (hr : Rd w p la) (hq : Rd w q lb) (hg : Sg w) :
    Calls Tryd.prog 48 #[.slice p la.length cp, .slice q lb.length cq] w (TwPost w la lb (if 8 < lb.length ∨ la.length ≤ lb.length then 6 else twoC la lb)) := by
  have HTW := Lib.hid (fun W (h : Rd W p la) (k : Rd W q lb) (hg : Sg W) => operands_any p q cp cq la lb W h k hg)
  have HR := Lib.hid hr
  have HQ := Lib.hid hq
  have HG := Lib.hid hg
  have HB0 := Lib.hid (below2 w (.cells #[.bool false, .int .u64 0, .int .u64 0] 45) (.cells #[.bool false, .int .u64 0, .int .u64 0] 45))
  have HD0 := Lib.hid ((Bx.new w 45 #[.bool false, .int .u64 0, .int .u64 0]).below (below_new _ (.cells #[.bool false, .int .u64 0, .int .u64 0] 45)))
  have HE0 := Lib.hid (second_new w (.cells #[.bool false, .int .u64 0, .int .u64 0] 45) (.cells #[.bool false, .int .u64 0, .int .u64 0] 45) _ _ rfl)
  have HIF : Hid ((if 8 < lb.length ∨ la.length ≤ lb.length then 6 else twoC la lb) = (if 8 < lb.length ∨ la.length ≤ lb.length then 6 else twoC la lb)) := Lib.hid rfl
  clear hr hq hg
  obtain ⟨code, hcode⟩ : ∃ code, code = (if 8 < lb.length ∨ la.length ≤ lb.length then 6 else twoC la lb) := ⟨_, rfl⟩
  rw [← hcode]
  clear HIF
  by_cases h8 : 8 < lb.length ∨ la.length ≤ lb.length
  · rw [if_pos h8] at hcode
    subst hcode
    generalize la.length = na at *
    generalize lb.length = nb at *
    by_cases h88 : 8 < nb
    · clear h8
      go_enter Tryd.func48, Tryd.ntmps48
      go_wp2
      refine bodyPost_ret (v := .tuple #[.agg #[.bool false, .int .u64 0, .int .u64 0], .agg #[.bool false, .int .u64 0, .int .u64 0], .int .i64 6]) ?_ rfl (.inr ⟨by decide, rfl, ?_⟩)
      · rw [results_cct rfl]
        go_simp
      · exact HB0.out
    · have hle : na ≤ nb := by omega
      clear h8
      have hleb : decide (na ≤ nb) = true := by simpa using hle
      go_enter Tryd.func48, Tryd.ntmps48
      go_wp2
      refine bodyPost_ret (v := .tuple #[.agg #[.bool false, .int .u64 0, .int .u64 0], .agg #[.bool false, .int .u64 0, .int .u64 0], .int .i64 6]) ?_ rfl (.inr ⟨by decide, rfl, ?_⟩)
      · rw [results_cct rfl]
        go_simp
      · exact HB0.out
  · rw [if_neg h8] at hcode
    have h1 : lb.length ≤ 8 := by omega
    have h2 : lb.length < la.length := by omega
    have h2b : decide (la.length ≤ lb.length) = false := by simpa using h2
    have HC := Lib.hid hcode
    clear h8 hcode
    go_enter Tryd.func48, Tryd.ntmps48
    go_wp2_with fail
    refine (HTW.out _ (HR.out.below HB0.out) (HQ.out.below HB0.out) (HG.out.below HB0.out)).mono ?_
    rw [← HC.out]
    rintro e w1 h
    rcases h with ⟨hz, c, d, c', d', hq1, hq2, rfl, hb⟩ | ⟨hz, rfl, hb⟩
    · have HB1 := Lib.hid (bel0 HB0.out hb)
      have HD1 := Lib.hid (HD0.out.below hb)
      have HE1 := Lib.hid (HE0.out.below hb)
      have HQ1 := Lib.hid hq1
      have HQ2 := Lib.hid hq2
      have HZ := Lib.hid hz
      clear hb hq1 hq2 HTW HB0 HD0 HE0 hz
      obtain ⟨⟨d1, d2, d3⟩, x1, x2, x3⟩ := HD1.out.three
      obtain ⟨⟨e1, e2, e3⟩, y1, y2, y3⟩ := HE1.out.three
      go_wp2
      refine bodyPost_ret (v := .tuple #[.agg #[.bool (dNeg la), .int .u64 (c : Int), .int .u64 (d : Int)], .agg #[.bool (dNeg lb), .int .u64 (c' : Int), .int .u64 (d' : Int)], .int .i64 0]) ?_ rfl (.inl ⟨HZ.out, c, d, c', d', HQ1.out, HQ2.out, rfl, ?_⟩)
      · (refine ret_cct (p := 4) (q := 5) (u := 6) ?_ ?_ ?_ ((HD1.out.all3 _ _ _).far3 (by omega) _ _ _) ((HE1.out.far3 (by omega) _ _ _).all3 _ _ _) <;> rfl)
      · exact below_set3 (below_set3 HB1.out (Nat.le_refl _) _ _ _) (Nat.le_succ _) _ _ _
    · have HB1 := Lib.hid (bel0 HB0.out hb)
      have HD1 := Lib.hid (HD0.out.below hb)
      have HE1 := Lib.hid (HE0.out.below hb)
      have HZ := Lib.hid hz
      clear hb HTW HB0 HD0 HE0 hz
      obtain ⟨⟨d1, d2, d3⟩, x1, x2, x3⟩ := HD1.out.three
      obtain ⟨⟨e1, e2, e3⟩, y1, y2, y3⟩ := HE1.out.three
      go_wp2
      refine bodyPost_ret (v := .tuple #[.agg #[.bool false, .int .u64 0, .int .u64 0], .agg #[.bool false, .int .u64 0, .int .u64 0], .int .i64 (code : Int)]) ?_ rfl (.inr ⟨HZ.out, rfl, ?_⟩)
      · (refine ret_cct (p := 4) (q := 5) (u := 6) ?_ ?_ ?_ ((HD1.out.all3 _ _ _).far3 (by omega) _ _ _) ((HE1.out.far3 (by omega) _ _ _).all3 _ _ _) <;> rfl)
      · exact below_set3 (below_set3 HB1.out (Nat.le_refl _) _ _ _) (Nat.le_succ _) _ _ _

end E
end Go.Proofs.YtlpekknhaaddcaaDoor

/- The result and the two numbers of the document's own answers: their contracts. -/
import Derived.Test.YtlpekknhaaddcaaDoorDcOf
namespace Go.Proofs.YtlpekknhaaddcaaDoor
open Go.RowKit
set_option linter.unusedVariables false
namespace E

set_option maxRecDepth 100000 in
set_option maxHeartbeats 4000000 in
theorem res_zero (neg : Bool) (p : Option Addr) (c n cd : Nat) (l : List (Fin 16)) (F : List UInt8) (ov : Bool) (w : World) (hs : SlI w p c l)
    (HF : Hid (∀ W, SlI W p c l → Calls Tryd.prog 53 #[.agg #[.bool false, .slice p 0 c], .int .i64 (n : Int)] W (fun e w' => ∃ sv, e = .returned (.tuple #[sv, .bool ov]) ∧ SvB w' sv F ∧ Below W.heap.size W w')))
    (HC : Hid (∀ W, Calls Tryd.prog 47 #[.agg #[.bool false, .slice p 0 c]] W (New W (.int .i64 (cd : Int))))) :
    Calls Tryd.prog 39 #[.agg #[.bool neg, .slice p 0 c], .int .i64 (n : Int)] w (R3Post w (F, if ov then 3 else cd, if ov then 10 else 0)) := by
  have HB0 := Lib.hid (below_new w (.cells #[.bool neg, .slice p 0 c] 52))
  have HD0 := Lib.hid (Bx.new w 52 #[.bool neg, .slice p 0 c])
  have HS0 := Lib.hid (hs.below HB0.out)
  have hs0 := hs
  obtain ⟨⟨d1, d2⟩, x1, x2⟩ := HD0.out.two
  clear hs
  have HB1 := Lib.hid (below_new w (.cells #[.bool false, .slice p 0 c] 52))
  have HD1 := Lib.hid (Bx.new w 52 #[.bool false, .slice p 0 c])
  have HS1 := Lib.hid (hs0.below HB1.out)
  obtain ⟨⟨y1, y2⟩, _⟩ := HD1.out.two
  clear hs0
  cases ov
  · go_enter Tryd.func39, Tryd.ntmps39
    go_wp2_with fail
    refine (HF.out _ HS1.out).mono ?_
    rintro e w3 ⟨sv, rfl, hsv, hb⟩
    have HB3 := Lib.hid (bel0 HB1.out hb)
    have HSV := Lib.hid hsv
    obtain ⟨⟨z1, z2⟩, _⟩ := (HD1.out.below hb).two
    clear hb hsv d1 d2 x1 x2 y1 y2
    go_wp2_with fail
    refine (HC.out _).mono ?_
    rintro e w4 ⟨rfl, hb⟩
    have HB4 := Lib.hid (bel0 HB3.out hb)
    have HSV4 := Lib.hid (HSV.out.below hb)
    clear hb z1 z2
    go_wp2
    go_ret3
    exact ⟨_, rfl, HSV4.out, HB4.out⟩
  · go_enter Tryd.func39, Tryd.ntmps39
    go_wp2_with fail
    refine (HF.out _ HS1.out).mono ?_
    rintro e w3 ⟨sv, rfl, hsv, hb⟩
    have HB3 := Lib.hid (bel0 HB1.out hb)
    have HSV := Lib.hid hsv
    clear hb hsv d1 d2 x1 x2 y1 y2
    go_wp2
    go_ret3
    exact ⟨_, rfl, HSV.out, HB3.out⟩
set_option maxRecDepth 100000 in
set_option maxHeartbeats 4000000 in
theorem res_more (neg : Bool) (p : Option Addr) (c lv n cd : Nat) (l : List (Fin 16)) (F : List UInt8) (ov : Bool) (w : World) (hlv : lv ≠ 0) (hs : SlI w p c l)
    (HF : Hid (∀ W, SlI W p c l → Calls Tryd.prog 53 #[.agg #[.bool neg, .slice p lv c], .int .i64 (n : Int)] W (fun e w' => ∃ sv, e = .returned (.tuple #[sv, .bool ov]) ∧ SvB w' sv F ∧ Below W.heap.size W w')))
    (HC : Hid (∀ W, Calls Tryd.prog 47 #[.agg #[.bool neg, .slice p lv c]] W (New W (.int .i64 (cd : Int))))) :
    Calls Tryd.prog 39 #[.agg #[.bool neg, .slice p lv c], .int .i64 (n : Int)] w (R3Post w (F, if ov then 3 else cd, if ov then 10 else 0)) := by
  have HB0 := Lib.hid (below_new w (.cells #[.bool neg, .slice p lv c] 52))
  have HD0 := Lib.hid (Bx.new w 52 #[.bool neg, .slice p lv c])
  have HS0 := Lib.hid (hs.below HB0.out)
  have hs0 := hs
  obtain ⟨⟨d1, d2⟩, x1, x2⟩ := HD0.out.two
  clear hs
  have HB1 := HB0
  have HD1 := HD0
  have HS1 := HS0
  obtain ⟨⟨y1, y2⟩, _⟩ := HD1.out.two
  clear hs0
  cases ov
  · go_enter Tryd.func39, Tryd.ntmps39
    go_wp2_with fail
    refine (HF.out _ HS1.out).mono ?_
    rintro e w3 ⟨sv, rfl, hsv, hb⟩
    have HB3 := Lib.hid (bel0 HB1.out hb)
    have HSV := Lib.hid hsv
    obtain ⟨⟨z1, z2⟩, _⟩ := (HD1.out.below hb).two
    clear hb hsv d1 d2 x1 x2 y1 y2
    go_wp2_with fail
    refine (HC.out _).mono ?_
    rintro e w4 ⟨rfl, hb⟩
    have HB4 := Lib.hid (bel0 HB3.out hb)
    have HSV4 := Lib.hid (HSV.out.below hb)
    clear hb z1 z2
    go_wp2
    go_ret3
    exact ⟨_, rfl, HSV4.out, HB4.out⟩
  · go_enter Tryd.func39, Tryd.ntmps39
    go_wp2_with fail
    refine (HF.out _ HS1.out).mono ?_
    rintro e w3 ⟨sv, rfl, hsv, hb⟩
    have HB3 := Lib.hid (bel0 HB1.out hb)
    have HSV := Lib.hid hsv
    clear hb hsv d1 d2 x1 x2 y1 y2
    go_wp2
    go_ret3
    exact ⟨_, rfl, HSV.out, HB3.out⟩
theorem rresult_any (neg : Bool) (p : Option Addr) (c v n : Nat) (w : World) (h1 : 1 ≤ n) (h2 : n ≤ 16) (hv : (dgs v).length ≤ 1000) (hs : SlI w p c (dgs v)) :
    Calls Tryd.prog 39 #[.agg #[.bool neg, .slice p (dgs v).length c], .int .i64 (n : Int)] w (R3Post w (resS neg v n)) := by
  unfold resS
  by_cases h : v = 0
  · rw [if_pos h]
    have hl := (len_zero v).2 h
    have hF := fun W hs => rfield_any false p c v n W h1 h2 hv hs
    have hC := fun W => code_any false p c v W
    rw [hl] at hF hC ⊢
    exact res_zero neg p c n _ (dgs v) _ _ w hs (Lib.hid hF) (Lib.hid hC)
  · rw [if_neg h]
    have hl : (dgs v).length ≠ 0 := fun e => h ((len_zero v).1 e)
    exact res_more neg p c _ n _ (dgs v) _ _ w hl hs (Lib.hid fun W hs => rfield_any neg p c v n W h1 h2 hv hs) (Lib.hid fun W => code_any neg p c v W)
theorem ret_nnt {fn : Func} {p q u : Tmp} (h : fn.results = #[.cell p 52, .cell q 52, .tmp u]) {tmps : Array Value} {W : World} {D E : Nat} {n1 n2 : Bool} {p1 p2 : Option Addr} {k1 k2 c1 c2 : Nat} (h1 : tmps.getD p undef = .pointer (some ⟨D, 0, none⟩)) (h2 : tmps.getD q undef = .pointer (some ⟨E, 0, none⟩))
    (hD : Bx W D 52 #[.bool n1, .slice p1 k1 c1]) (hE : Bx W E 52 #[.bool n2, .slice p2 k2 c2]) :
    (results fn tmps).run Tryd.prog W = .ok (.tuple #[.agg #[.bool n1, .slice p1 k1 c1], .agg #[.bool n2, .slice p2 k2 c2], tmps.getD u undef]) W := by
  obtain ⟨⟨d1, d2⟩, _⟩ := hD.two
  obtain ⟨⟨e1, e2⟩, _⟩ := hE.two
  rw [results_cct h, h1, h2]
  go_simp
theorem Bx.all2 {w : World} {g : Nat} {t : TypeId} {a b : Value} (h : Bx w g t #[a, b]) (x y : Value) : Bx ((w.setCell ⟨g, 0, none⟩ x).setCell ⟨g, 1, none⟩ y) g t #[x, y] := (h.set 0 x).set 1 y
theorem Bx.far2 {w : World} {g F : Nat} {t : TypeId} {cs : Array Value} (h : Bx w g t cs) (hne : F ≠ g) (x y : Value) : Bx ((w.setCell ⟨F, 0, none⟩ x).setCell ⟨F, 1, none⟩ y) g t cs := (h.far hne x).far hne y
/-- The two numbers, or a code. -/
def Tw4 (w : World) (la lb : List UInt8) (code : Nat) (e : Ending) (w' : World) : Prop :=
  (code = 0 ∧ ∃ p c q d, e = .returned (.tuple #[.agg #[.bool (dNeg la), .slice p (dgs (dVal la)).length c], .agg #[.bool (dNeg lb), .slice q (dgs (dVal lb)).length d], .int .i64 0]) ∧ SlI w' p c (dgs (dVal la)) ∧ SlI w' q d (dgs (dVal lb)) ∧ Below w.heap.size w w') ∨
  (code ≠ 0 ∧ New w (.tuple #[.agg #[.bool false, .slice none 0 0], .agg #[.bool false, .slice none 0 0], .int .i64 (code : Int)]) e w')
set_option maxRecDepth 100000 in
set_option maxHeartbeats 4000000 in
theorem two_6a (p q : Option Addr) (cp cq : Nat) (la lb : List UInt8) (w : World) (hA : ¬ (1 ≤ la.length ∧ la.length ≤ 16)) :
    Calls Tryd.prog 38 #[.slice p la.length cp, .slice q lb.length cq] w (New w (.tuple #[.agg #[.bool false, .slice none 0 0], .agg #[.bool false, .slice none 0 0], .int .i64 6])) := by
  have HSA := Lib.hid (fun W => size4_any (la.length : Int) W)
  have HSB := Lib.hid (fun W => size4_any (lb.length : Int) W)
  rw [decide_eq_false (by omega)] at HSA
  have HB0 := Lib.hid (below2 w (.cells #[.bool false, .slice none 0 0] 52) (.cells #[.bool false, .slice none 0 0] 52))
  have HD0 := Lib.hid ((Bx.new w 52 #[.bool false, .slice none 0 0]).below (below_new _ (.cells #[.bool false, .slice none 0 0] 52)))
  have HE0 := Lib.hid (second_new w (.cells #[.bool false, .slice none 0 0] 52) (.cells #[.bool false, .slice none 0 0] 52) _ _ rfl)
  obtain ⟨⟨d1, d2⟩, x1, x2⟩ := HD0.out.two
  obtain ⟨⟨e1, e2⟩, y1, y2⟩ := HE0.out.two
  generalize la.length = na at *
  generalize lb.length = nb at *
  clear hA HSB
  go_enter Tryd.func38, Tryd.ntmps38
  go_wp2_with fail
  refine (HSA.out _).mono ?_
  rintro e w' ⟨rfl, rfl⟩
  go_wp2
  refine bodyPost_ret (v := .tuple #[.agg #[.bool false, .slice none 0 0], .agg #[.bool false, .slice none 0 0], .int .i64 6]) ?_ rfl ⟨rfl, ?_⟩
  · refine ret_nnt (p := 4) (q := 5) (u := 6) ?_ ?_ ?_ HD0.out HE0.out <;> rfl
  · exact HB0.out
set_option maxRecDepth 100000 in
set_option maxHeartbeats 4000000 in
theorem two_6b (p q : Option Addr) (cp cq : Nat) (la lb : List UInt8) (w : World) (hA : 1 ≤ la.length ∧ la.length ≤ 16) (hB : ¬ (1 ≤ lb.length ∧ lb.length ≤ 16)) :
    Calls Tryd.prog 38 #[.slice p la.length cp, .slice q lb.length cq] w (New w (.tuple #[.agg #[.bool false, .slice none 0 0], .agg #[.bool false, .slice none 0 0], .int .i64 6])) := by
  have HSA := Lib.hid (fun W => size4_any (la.length : Int) W)
  have HSB := Lib.hid (fun W => size4_any (lb.length : Int) W)
  rw [decide_eq_true (by omega)] at HSA
  rw [decide_eq_false (by omega)] at HSB
  have HB0 := Lib.hid (below2 w (.cells #[.bool false, .slice none 0 0] 52) (.cells #[.bool false, .slice none 0 0] 52))
  have HD0 := Lib.hid ((Bx.new w 52 #[.bool false, .slice none 0 0]).below (below_new _ (.cells #[.bool false, .slice none 0 0] 52)))
  have HE0 := Lib.hid (second_new w (.cells #[.bool false, .slice none 0 0] 52) (.cells #[.bool false, .slice none 0 0] 52) _ _ rfl)
  obtain ⟨⟨d1, d2⟩, x1, x2⟩ := HD0.out.two
  obtain ⟨⟨e1, e2⟩, y1, y2⟩ := HE0.out.two
  generalize la.length = na at *
  generalize lb.length = nb at *
  clear hA hB
  go_enter Tryd.func38, Tryd.ntmps38
  go_wp2_with fail
  refine (HSA.out _).mono ?_
  rintro e w' ⟨rfl, rfl⟩
  go_wp2_with fail
  refine (HSB.out _).mono ?_
  rintro e w' ⟨rfl, rfl⟩
  go_wp2
  refine bodyPost_ret (v := .tuple #[.agg #[.bool false, .slice none 0 0], .agg #[.bool false, .slice none 0 0], .int .i64 6]) ?_ rfl ⟨rfl, ?_⟩
  · refine ret_nnt (p := 4) (q := 5) (u := 6) ?_ ?_ ?_ HD0.out HE0.out <;> rfl
  · exact HB0.out
set_option maxRecDepth 100000 in
set_option maxHeartbeats 4000000 in
theorem two_7a (p q : Option Addr) (cp cq : Nat) (la lb : List UInt8) (x y : Nat) (ga gb : Bool) (ob : Bool) (w : World) (hA : 1 ≤ la.length ∧ la.length ≤ 16) (hB : 1 ≤ lb.length ∧ lb.length ≤ 16) (HR : Hid (Rd w p la)) (HQ : Hid (Rd w q lb))
    (HA : Hid (∀ W, Rd W p la → Calls Tryd.prog 45 #[.slice p la.length cp] W (fun e w' => ∃ p c, e = .returned (.tuple #[.agg #[.bool ga, .slice p (dgs x).length c], .bool false]) ∧ SlI w' p c (dgs x) ∧ Below W.heap.size W w')))
    (HB : Hid (∀ W, Rd W q lb → Calls Tryd.prog 45 #[.slice q lb.length cq] W (fun e w' => ∃ p c, e = .returned (.tuple #[.agg #[.bool gb, .slice p (dgs y).length c], .bool ob]) ∧ SlI w' p c (dgs y) ∧ Below W.heap.size W w'))) :
    Calls Tryd.prog 38 #[.slice p la.length cp, .slice q lb.length cq] w (New w (.tuple #[.agg #[.bool false, .slice none 0 0], .agg #[.bool false, .slice none 0 0], .int .i64 7])) := by
  have HSA := Lib.hid (fun W => size4_any (la.length : Int) W)
  have HSB := Lib.hid (fun W => size4_any (lb.length : Int) W)
  rw [decide_eq_true (by omega)] at HSA HSB
  have HB0 := Lib.hid (below2 w (.cells #[.bool false, .slice none 0 0] 52) (.cells #[.bool false, .slice none 0 0] 52))
  have HD0 := Lib.hid ((Bx.new w 52 #[.bool false, .slice none 0 0]).below (below_new _ (.cells #[.bool false, .slice none 0 0] 52)))
  have HE0 := Lib.hid (second_new w (.cells #[.bool false, .slice none 0 0] 52) (.cells #[.bool false, .slice none 0 0] 52) _ _ rfl)
  clear hA hB
  generalize (dgs x).length = lx at *
  generalize (dgs y).length = ly at *
  go_enter Tryd.func38, Tryd.ntmps38
  go_wp2_with fail
  refine (HSA.out _).mono ?_
  rintro e w' ⟨rfl, rfl⟩
  go_wp2_with fail
  refine (HSB.out _).mono ?_
  rintro e w' ⟨rfl, rfl⟩
  go_wp2_with fail
  refine (HA.out _ (HR.out.below HB0.out)).mono ?_
  rintro e w1 ⟨p1, c1, rfl, hs1, hb⟩
  have hb1 := below_new w1 (.cells #[.bool ga, .slice p1 lx c1] 52)
  have HB1 := Lib.hid (bel0 (bel0 HB0.out hb) hb1)
  have HD1 := Lib.hid ((HD0.out.below hb).below hb1)
  have HE1 := Lib.hid ((HE0.out.below hb).below hb1)
  have HX1 := Lib.hid (Bx.new w1 52 #[.bool ga, .slice p1 lx c1])
  have HS1 := Lib.hid (hs1.below hb1)
  have HN1 := Lib.hid (HE0.out.below hb).lt
  clear hb hb1 hs1 HA HB0 HD0 HE0
  go_wp2_with fail
  refine (HB.out _ (HQ.out.below HB1.out)).mono ?_
  rintro e w2 ⟨p2, c2, rfl, hs2, hb⟩
  have hb2 := below_new w2 (.cells #[.bool gb, .slice p2 ly c2] 52)
  have HB2 := Lib.hid (bel0 (bel0 HB1.out hb) hb2)
  have HD2 := Lib.hid ((HD1.out.below hb).below hb2)
  have HE2 := Lib.hid ((HE1.out.below hb).below hb2)
  have HX2 := Lib.hid ((HX1.out.below hb).below hb2)
  have HY2 := Lib.hid (Bx.new w2 52 #[.bool gb, .slice p2 ly c2])
  have HS2 := Lib.hid ((HS1.out.below hb).below hb2)
  have HT2 := Lib.hid (hs2.below hb2)
  have hn1 : w.heap.size ≠ w1.heap.size := by have := (HE1.out.below hb).lt; have h1 := HN1.out; omega
  have hn2 : w.heap.size + 1 ≠ w1.heap.size := by have h1 := HN1.out; omega
  have hn3 : w.heap.size ≠ w2.heap.size := by have := (HD1.out.below hb).lt; omega
  have hn4 : w.heap.size + 1 ≠ w2.heap.size := by have := (HE1.out.below hb).lt; omega
  clear hb hb2 hs2 HB HB1 HD1 HE1 HX1 HS1
  obtain ⟨⟨d1, d2⟩, x1, x2⟩ := HD2.out.two
  obtain ⟨⟨e1, e2⟩, y1, y2⟩ := HE2.out.two
  go_wp2
  refine bodyPost_ret (v := .tuple #[.agg #[.bool false, .slice none 0 0], .agg #[.bool false, .slice none 0 0], .int .i64 7]) ?_ rfl ⟨rfl, ?_⟩
  · refine ret_nnt (p := 4) (q := 5) (u := 6) ?_ ?_ ?_ ((HD2.out.all2 _ _).far2 (by omega) _ _) ((HE2.out.far2 (by omega) _ _).all2 _ _) <;> rfl
  · exact below_set2 (below_set2 HB2.out (Nat.le_refl _) _ _) (Nat.le_succ _) _ _
set_option maxRecDepth 100000 in
set_option maxHeartbeats 4000000 in
theorem two_7b (p q : Option Addr) (cp cq : Nat) (la lb : List UInt8) (x y : Nat) (ga gb : Bool) (w : World) (hA : 1 ≤ la.length ∧ la.length ≤ 16) (hB : 1 ≤ lb.length ∧ lb.length ≤ 16) (HR : Hid (Rd w p la)) (HQ : Hid (Rd w q lb))
    (HA : Hid (∀ W, Rd W p la → Calls Tryd.prog 45 #[.slice p la.length cp] W (fun e w' => ∃ p c, e = .returned (.tuple #[.agg #[.bool ga, .slice p (dgs x).length c], .bool true]) ∧ SlI w' p c (dgs x) ∧ Below W.heap.size W w')))
    (HB : Hid (∀ W, Rd W q lb → Calls Tryd.prog 45 #[.slice q lb.length cq] W (fun e w' => ∃ p c, e = .returned (.tuple #[.agg #[.bool gb, .slice p (dgs y).length c], .bool false]) ∧ SlI w' p c (dgs y) ∧ Below W.heap.size W w'))) :
    Calls Tryd.prog 38 #[.slice p la.length cp, .slice q lb.length cq] w (New w (.tuple #[.agg #[.bool false, .slice none 0 0], .agg #[.bool false, .slice none 0 0], .int .i64 7])) := by
  have HSA := Lib.hid (fun W => size4_any (la.length : Int) W)
  have HSB := Lib.hid (fun W => size4_any (lb.length : Int) W)
  rw [decide_eq_true (by omega)] at HSA HSB
  have HB0 := Lib.hid (below2 w (.cells #[.bool false, .slice none 0 0] 52) (.cells #[.bool false, .slice none 0 0] 52))
  have HD0 := Lib.hid ((Bx.new w 52 #[.bool false, .slice none 0 0]).below (below_new _ (.cells #[.bool false, .slice none 0 0] 52)))
  have HE0 := Lib.hid (second_new w (.cells #[.bool false, .slice none 0 0] 52) (.cells #[.bool false, .slice none 0 0] 52) _ _ rfl)
  clear hA hB
  generalize (dgs x).length = lx at *
  generalize (dgs y).length = ly at *
  go_enter Tryd.func38, Tryd.ntmps38
  go_wp2_with fail
  refine (HSA.out _).mono ?_
  rintro e w' ⟨rfl, rfl⟩
  go_wp2_with fail
  refine (HSB.out _).mono ?_
  rintro e w' ⟨rfl, rfl⟩
  go_wp2_with fail
  refine (HA.out _ (HR.out.below HB0.out)).mono ?_
  rintro e w1 ⟨p1, c1, rfl, hs1, hb⟩
  have hb1 := below_new w1 (.cells #[.bool ga, .slice p1 lx c1] 52)
  have HB1 := Lib.hid (bel0 (bel0 HB0.out hb) hb1)
  have HD1 := Lib.hid ((HD0.out.below hb).below hb1)
  have HE1 := Lib.hid ((HE0.out.below hb).below hb1)
  have HX1 := Lib.hid (Bx.new w1 52 #[.bool ga, .slice p1 lx c1])
  have HS1 := Lib.hid (hs1.below hb1)
  have HN1 := Lib.hid (HE0.out.below hb).lt
  clear hb hb1 hs1 HA HB0 HD0 HE0
  go_wp2_with fail
  refine (HB.out _ (HQ.out.below HB1.out)).mono ?_
  rintro e w2 ⟨p2, c2, rfl, hs2, hb⟩
  have hb2 := below_new w2 (.cells #[.bool gb, .slice p2 ly c2] 52)
  have HB2 := Lib.hid (bel0 (bel0 HB1.out hb) hb2)
  have HD2 := Lib.hid ((HD1.out.below hb).below hb2)
  have HE2 := Lib.hid ((HE1.out.below hb).below hb2)
  have HX2 := Lib.hid ((HX1.out.below hb).below hb2)
  have HY2 := Lib.hid (Bx.new w2 52 #[.bool gb, .slice p2 ly c2])
  have HS2 := Lib.hid ((HS1.out.below hb).below hb2)
  have HT2 := Lib.hid (hs2.below hb2)
  have hn1 : w.heap.size ≠ w1.heap.size := by have := (HE1.out.below hb).lt; have h1 := HN1.out; omega
  have hn2 : w.heap.size + 1 ≠ w1.heap.size := by have h1 := HN1.out; omega
  have hn3 : w.heap.size ≠ w2.heap.size := by have := (HD1.out.below hb).lt; omega
  have hn4 : w.heap.size + 1 ≠ w2.heap.size := by have := (HE1.out.below hb).lt; omega
  clear hb hb2 hs2 HB HB1 HD1 HE1 HX1 HS1
  obtain ⟨⟨d1, d2⟩, x1, x2⟩ := HD2.out.two
  obtain ⟨⟨e1, e2⟩, y1, y2⟩ := HE2.out.two
  go_wp2
  refine bodyPost_ret (v := .tuple #[.agg #[.bool false, .slice none 0 0], .agg #[.bool false, .slice none 0 0], .int .i64 7]) ?_ rfl ⟨rfl, ?_⟩
  · refine ret_nnt (p := 4) (q := 5) (u := 6) ?_ ?_ ?_ ((HD2.out.all2 _ _).far2 (by omega) _ _) ((HE2.out.far2 (by omega) _ _).all2 _ _) <;> rfl
  · exact below_set2 (below_set2 HB2.out (Nat.le_refl _) _ _) (Nat.le_succ _) _ _
set_option maxRecDepth 100000 in
set_option maxHeartbeats 4000000 in
theorem two_0 (p q : Option Addr) (cp cq : Nat) (la lb : List UInt8) (x y : Nat) (ga gb : Bool) (w : World) (hA : 1 ≤ la.length ∧ la.length ≤ 16) (hB : 1 ≤ lb.length ∧ lb.length ≤ 16) (HR : Hid (Rd w p la)) (HQ : Hid (Rd w q lb))
    (HA : Hid (∀ W, Rd W p la → Calls Tryd.prog 45 #[.slice p la.length cp] W (fun e w' => ∃ p c, e = .returned (.tuple #[.agg #[.bool ga, .slice p (dgs x).length c], .bool true]) ∧ SlI w' p c (dgs x) ∧ Below W.heap.size W w')))
    (HB : Hid (∀ W, Rd W q lb → Calls Tryd.prog 45 #[.slice q lb.length cq] W (fun e w' => ∃ p c, e = .returned (.tuple #[.agg #[.bool gb, .slice p (dgs y).length c], .bool true]) ∧ SlI w' p c (dgs y) ∧ Below W.heap.size W w'))) :
    Calls Tryd.prog 38 #[.slice p la.length cp, .slice q lb.length cq] w (fun e w' => ∃ p c q d, e = .returned (.tuple #[.agg #[.bool ga, .slice p (dgs x).length c], .agg #[.bool gb, .slice q (dgs y).length d], .int .i64 0]) ∧ SlI w' p c (dgs x) ∧ SlI w' q d (dgs y) ∧ Below w.heap.size w w') := by
  have HSA := Lib.hid (fun W => size4_any (la.length : Int) W)
  have HSB := Lib.hid (fun W => size4_any (lb.length : Int) W)
  rw [decide_eq_true (by omega)] at HSA HSB
  have HB0 := Lib.hid (below2 w (.cells #[.bool false, .slice none 0 0] 52) (.cells #[.bool false, .slice none 0 0] 52))
  have HD0 := Lib.hid ((Bx.new w 52 #[.bool false, .slice none 0 0]).below (below_new _ (.cells #[.bool false, .slice none 0 0] 52)))
  have HE0 := Lib.hid (second_new w (.cells #[.bool false, .slice none 0 0] 52) (.cells #[.bool false, .slice none 0 0] 52) _ _ rfl)
  clear hA hB
  generalize (dgs x).length = lx at *
  generalize (dgs y).length = ly at *
  go_enter Tryd.func38, Tryd.ntmps38
  go_wp2_with fail
  refine (HSA.out _).mono ?_
  rintro e w' ⟨rfl, rfl⟩
  go_wp2_with fail
  refine (HSB.out _).mono ?_
  rintro e w' ⟨rfl, rfl⟩
  go_wp2_with fail
  refine (HA.out _ (HR.out.below HB0.out)).mono ?_
  rintro e w1 ⟨p1, c1, rfl, hs1, hb⟩
  have hb1 := below_new w1 (.cells #[.bool ga, .slice p1 lx c1] 52)
  have HB1 := Lib.hid (bel0 (bel0 HB0.out hb) hb1)
  have HD1 := Lib.hid ((HD0.out.below hb).below hb1)
  have HE1 := Lib.hid ((HE0.out.below hb).below hb1)
  have HX1 := Lib.hid (Bx.new w1 52 #[.bool ga, .slice p1 lx c1])
  have HS1 := Lib.hid (hs1.below hb1)
  have HN1 := Lib.hid (HE0.out.below hb).lt
  clear hb hb1 hs1 HA HB0 HD0 HE0
  go_wp2_with fail
  refine (HB.out _ (HQ.out.below HB1.out)).mono ?_
  rintro e w2 ⟨p2, c2, rfl, hs2, hb⟩
  have hb2 := below_new w2 (.cells #[.bool gb, .slice p2 ly c2] 52)
  have HB2 := Lib.hid (bel0 (bel0 HB1.out hb) hb2)
  have HD2 := Lib.hid ((HD1.out.below hb).below hb2)
  have HE2 := Lib.hid ((HE1.out.below hb).below hb2)
  have HX2 := Lib.hid ((HX1.out.below hb).below hb2)
  have HY2 := Lib.hid (Bx.new w2 52 #[.bool gb, .slice p2 ly c2])
  have HS2 := Lib.hid ((HS1.out.below hb).below hb2)
  have HT2 := Lib.hid (hs2.below hb2)
  have hn1 : w.heap.size ≠ w1.heap.size := by have := (HE1.out.below hb).lt; have h1 := HN1.out; omega
  have hn2 : w.heap.size + 1 ≠ w1.heap.size := by have h1 := HN1.out; omega
  have hn3 : w.heap.size ≠ w2.heap.size := by have := (HD1.out.below hb).lt; omega
  have hn4 : w.heap.size + 1 ≠ w2.heap.size := by have := (HE1.out.below hb).lt; omega
  clear hb hb2 hs2 HB HB1 HD1 HE1 HX1 HS1
  obtain ⟨⟨d1, d2⟩, x1, x2⟩ := HD2.out.two
  obtain ⟨⟨e1, e2⟩, y1, y2⟩ := HE2.out.two
  obtain ⟨⟨f1, f2⟩, _⟩ := HX2.out.two
  obtain ⟨⟨g1, g2⟩, _⟩ := HY2.out.two
  go_wp2
  go_region
  all_goals go_wp2
  all_goals refine bodyPost_ret (v := .tuple #[.agg #[.bool ga, .slice p1 lx c1], .agg #[.bool gb, .slice p2 ly c2], .int .i64 0]) ?_ rfl ⟨p1, c1, p2, c2, rfl, ?_, ?_, ?_⟩
  · refine ret_nnt (p := 4) (q := 5) (u := 6) ?_ ?_ ?_ (((HD2.out.all2 _ _).far2 (by omega) _ _).below (Below.refl _ _).drew) (((HE2.out.far2 (by omega) _ _).all2 _ _).below (Below.refl _ _).drew) <;> rfl
  · exact ((HS2.out.far2 HD2.out _ _).far2 (HE2.out.far2 (by omega) _ _) _ _).below (Below.refl _ _).drew
  · exact ((HT2.out.far2 HD2.out _ _).far2 (HE2.out.far2 (by omega) _ _) _ _).below (Below.refl _ _).drew
  · exact (below_set2 (below_set2 HB2.out (Nat.le_refl _) _ _) (Nat.le_succ _) _ _).drew
theorem opC6 {bs : List UInt8} : opC bs = 6 ↔ ¬ (1 ≤ bs.length ∧ bs.length ≤ 16) := by
  unfold opC
  by_cases h : 1 ≤ bs.length ∧ bs.length ≤ 16
  · rw [if_pos h]
    constructor
    · intro h2
      split at h2 <;> omega
    · intro h2
      exact absurd h h2
  · rw [if_neg h]
    exact ⟨fun _ => h, fun _ => rfl⟩
theorem opC7 {bs : List UInt8} (h : 1 ≤ bs.length ∧ bs.length ≤ 16) (ho : dOk bs = false) : opC bs = 7 := by
  unfold opC
  rw [if_pos h, ho]
  rfl
theorem opC0 {bs : List UInt8} (h : 1 ≤ bs.length ∧ bs.length ≤ 16) (ho : dOk bs = true) : opC bs = 0 := by
  unfold opC
  rw [if_pos h, ho]
  rfl
theorem two_ops0 {la lb : List UInt8} (ha : opC la = 0) (hb : opC lb = 0) : twoC la lb = 0 := by
  unfold twoC
  rw [ha, hb]
  rfl
theorem rtwo_any (p q : Option Addr) (cp cq : Nat) (la lb : List UInt8) (w : World) (hr : Rd w p la) (hq : Rd w q lb) :
    Calls Tryd.prog 38 #[.slice p la.length cp, .slice q lb.length cq] w (Tw4 w la lb (twoC la lb)) := by
  by_cases hA : 1 ≤ la.length ∧ la.length ≤ 16
  · by_cases hB : 1 ≤ lb.length ∧ lb.length ≤ 16
    · have n6a : opC la ≠ 6 := fun e => opC6.1 e hA
      have n6b : opC lb ≠ 6 := fun e => opC6.1 e hB
      have HOA := fun W h => of_any p cp la W h
      have HOB := fun W h => of_any q cq lb W h
      unfold OfPost at HOA HOB
      cases oa : dOk la
      · have ht : twoC la lb = 7 := by
          unfold twoC
          rw [if_neg (by omega), if_pos (.inl (opC7 hA oa))]
        rw [ht]
        rw [oa] at HOA
        exact (two_7a p q cp cq la lb (dVal la) (dVal lb) (dNeg la) (dNeg lb) (dOk lb) w hA hB (Lib.hid hr) (Lib.hid hq) (Lib.hid HOA) (Lib.hid HOB)).mono fun e w' h => .inr ⟨by decide, h⟩
      · rw [oa] at HOA
        cases ob : dOk lb
        · have ht : twoC la lb = 7 := by
            unfold twoC
            rw [if_neg (by omega), if_pos (.inr (opC7 hB ob))]
          rw [ht]
          rw [ob] at HOB
          exact (two_7b p q cp cq la lb (dVal la) (dVal lb) (dNeg la) (dNeg lb) w hA hB (Lib.hid hr) (Lib.hid hq) (Lib.hid HOA) (Lib.hid HOB)).mono fun e w' h => .inr ⟨by decide, h⟩
        · rw [two_ops0 (opC0 hA oa) (opC0 hB ob)]
          rw [ob] at HOB
          exact (two_0 p q cp cq la lb (dVal la) (dVal lb) (dNeg la) (dNeg lb) w hA hB (Lib.hid hr) (Lib.hid hq) (Lib.hid HOA) (Lib.hid HOB)).mono fun e w' h => .inl ⟨rfl, h⟩
    · have ht : twoC la lb = 6 := by
        unfold twoC
        rw [if_pos (.inr (opC6.2 hB))]
      rw [ht]
      exact (two_6b p q cp cq la lb w hA hB).mono fun e w' h => .inr ⟨by decide, h⟩
  · have ht : twoC la lb = 6 := by
      unfold twoC
      rw [if_pos (.inl (opC6.2 hA))]
    rw [ht]
    exact (two_6a p q cp cq la lb w hA).mono fun e w' h => .inr ⟨by decide, h⟩

end E
end Go.Proofs.YtlpekknhaaddcaaDoor

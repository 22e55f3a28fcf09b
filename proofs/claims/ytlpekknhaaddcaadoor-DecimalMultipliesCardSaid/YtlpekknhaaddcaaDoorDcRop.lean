/- The document's own Of, result, two, Add, Sub, Zap, Compare: their contracts. -/
import Derived.Test.YtlpekknhaaddcaaDoorDcFd
import Derived.Test.YtlpekknhaaddcaaDoorPkRef10
import Derived.Test.YtlpekknhaaddcaaDoorDcOps
namespace Go.Proofs.YtlpekknhaaddcaaDoor
open Go.RowKit
set_option linter.unusedVariables false
namespace E

def OfPost (w : World) (bs : List UInt8) (e : Ending) (w' : World) : Prop := ∃ p c, e = .returned (.tuple #[.agg #[.bool (dNeg bs), .slice p (dgs (dVal bs)).length c], .bool (dOk bs)]) ∧ SlI w' p c (dgs (dVal bs)) ∧ Below w.heap.size w w'
theorem SlI.nil (W : World) : SlI W none 0 [] := ⟨.inl rfl, Nat.le_refl _, by omega, fun _ => rfl⟩
set_option maxRecDepth 100000 in
set_option maxHeartbeats 4000000 in
theorem of_no (p : Option Addr) (c n : Nat) (S : ByteArray) (neg : Bool) (w : World)
    (HD : Hid (∀ W, Below w.heap.size w W → Calls Tryd.prog 61 #[.slice p n c] W fun e w' => e = .returned (.tuple #[.agg #[.bool neg, .string S], .bool false]) ∧ Below W.heap.size W w')) :
    Calls Tryd.prog 45 #[.slice p n c] w (New w (.tuple #[.agg #[.bool false, .slice none 0 0], .bool false])) := by
  have HB0 := Lib.hid (below_new w (.cells #[.bool false, .slice none 0 0] 52))
  have HX0 := Lib.hid (Bx.new w 52 #[.bool false, .slice none 0 0])
  go_enter Tryd.func45, Tryd.ntmps45
  go_wp2_with fail
  refine (HD.out _ HB0.out).mono ?_
  rintro e w1 ⟨rfl, hb⟩
  have hb2 := below_new w1 (.cells #[.bool neg, .string S] 78)
  have HB2 := Lib.hid (bel0 (bel0 HB0.out hb) hb2)
  obtain ⟨⟨d1, d2⟩, x1, x2⟩ := ((HX0.out.below hb).below hb2).two
  clear hb hb2 HD
  go_wp2
  refine bodyPost_ret (v := .tuple #[.agg #[.bool false, .slice none 0 0], .bool false]) ?_ rfl ⟨rfl, below_set2 HB2.out (Nat.le_refl _) _ _⟩
  rw [results_cell_tmp rfl]
  go_simp
set_option maxRecDepth 100000 in
set_option maxHeartbeats 4000000 in
theorem of_yes (p : Option Addr) (c n v : Nat) (S : ByteArray) (L : List UInt8) (neg : Bool) (w : World) (hs : S.data.toList = L) (hL : L.length ≤ 31) (hd : ∀ j, j < L.length → isD (gt L j) = true) (hv : val (fg L) = v)
    (HD : Hid (∀ W, Below w.heap.size w W → Calls Tryd.prog 61 #[.slice p n c] W fun e w' => e = .returned (.tuple #[.agg #[.bool neg, .string S], .bool true]) ∧ Below W.heap.size W w')) :
    Calls Tryd.prog 45 #[.slice p n c] w (fun e w' => ∃ p c, e = .returned (.tuple #[.agg #[.bool neg, .slice p (dgs v).length c], .bool true]) ∧ SlI w' p c (dgs v) ∧ Below w.heap.size w w') := by
  obtain ⟨i0, hi, hz0, hz1, hz2⟩ := info_parts info3
  have hln : L.length = S.size := by rw [← hs]; rfl
  have hstr : ∀ k (h : k < S.size), S[k] = gt L k := fun k h => by rw [← hs]; exact str_at S k h
  have h9 : ok9 (fg L) := fun d hd' => by
    obtain ⟨i, hi, rfl⟩ := List.getElem_of_mem hd'
    have := fg_getD9 hd i
    rw [List.getD_eq_getElem?_getD, List.getElem?_eq_getElem hi] at this
    exact this
  have hft : ∀ t k, t + (k + 1) = S.size → (fg L).take (t + 1) = (fg L).take t ++ [dgt (gt L k)] := fun t k h => fg_take (by omega)
  have HFT := Lib.hid hft
  have HFL : Hid ((fg L).length = S.size) := Lib.hid (by rw [fg_len, hln])
  have HTR := Lib.hid (fun p5 c5 W (h : SlI W p5 c5 (fg L)) => TrPost.rn h (trim_any p5 c5 (fg L) W (by rw [fg_len]; omega) h9 h))
  rw [hv] at HTR
  have HS := Lib.hid hstr
  have HDD : Hid (∀ k, k < S.size → isD (gt L k) = true) := Lib.hid (fun k hk => hd k (by omega))
  have hS31 : S.size ≤ 31 := by omega
  unfold RnPost at HTR
  generalize fg L = G at *
  clear hs hL hd hv hln hstr h9 hft
  have HB0 := Lib.hid (below_new w (.cells #[.bool false, .slice none 0 0] 52))
  have HX0 := Lib.hid (Bx.new w 52 #[.bool false, .slice none 0 0])
  go_enter Tryd.func45, Tryd.ntmps45
  go_wp2_with fail
  refine (HD.out _ HB0.out).mono ?_
  rintro e w1 ⟨rfl, hb⟩
  obtain ⟨W2, hW2⟩ : ∃ W2, W2 = w1.alloc (.cells #[.bool neg, .string S] 78) := ⟨_, rfl⟩
  have hb2 : Below w1.heap.size w1 W2 := by rw [hW2]; exact below_new _ _
  have HB2 := Lib.hid (bel0 (bel0 HB0.out hb) hb2)
  have HX2 := Lib.hid ((HX0.out.below hb).below hb2)
  have HE2 : Hid (Bx W2 w1.heap.size 78 #[.bool neg, .string S]) := Lib.hid (by rw [hW2]; exact Bx.new _ _ _)
  have hne : w.heap.size ≠ w1.heap.size := by have := (HX0.out.below hb).lt; omega
  obtain ⟨⟨e1, e2⟩, _⟩ := HE2.out.two
  clear hb hb2 HD
  go_wp2_with fail
  rw [← hW2]
  clear hW2
  go_wp2
  clear e1 e2
  go_loopw [6, 7] (fun sv i wr => Below W2.heap.size W2 wr ∧ ∃ t k : Nat, t + k = S.size ∧ i = .int .i64 ((k : Int) - 1) ∧ wr.ownsRow W2.heap.size 3 1 sv t (bsI (G.take t))) (fun _ i _ => (intOf i + 1).toNat)
  case atStart => exact ⟨Below.refl _ _, 0, S.size, by omega, rfl, World.ownsRow_nil _ _ _ _⟩
  case round =>
    obtain ⟨hbw, t, k, htk, rfl, hown⟩ := hrel
    have HB := Lib.hid hbw
    have HO := Lib.hid hown
    obtain ⟨⟨e1, e2⟩, _⟩ := (HE2.out.below hbw).two
    have HXr := Lib.hid (HX2.out.below hbw)
    clear hbw hown
    cases k with
    | succ k =>
      have hk1 : (((k + 1 : Nat) : Int) - 1) = (k : Int) := by omega
      have hlt : k < S.size := by omega
      have hst := HS.out k hlt
      have hd2 := (isD_iff _).1 (HDD.out k hlt)
      have hv : ((gt L k).toNat : Int) - 48 = ((dgt (gt L k)).val : Int) := by rw [dgt_nat hd2]; omega
      have HV := Lib.hid hv
      have HT := Lib.hid (HFT.out t k htk)
      have HMS : Hid (t + 1 + k = S.size) := Lib.hid (by omega)
      have HTT : Hid (t ≤ 31) := Lib.hid (by omega)
      have hk31 : k ≤ 31 := by omega
      rw [hk1]
      clear htk hk1 hv
      generalize gt L k = x at *
      go_wp2_with (at_builtin; refine wpList_append_own _ rfl (.tmp 24) (.tmp 31) 50 rfl W2.heap.size 3 i0 (.int .i64 0) 1 8 Tryd.underlying50 hi hz0 hz1 hz2 rfl (by decide) _ t _ rfl (HO.out.alloc _) ⟨wr.heap.size, 0, none⟩ 1 1 [_] rfl rfl (cellNew _ _ _) (by intro u hu; simp at hu; subst hu; rfl) (by unfold maxLen; have := HTT.out; omega) (by have := HTT.out; omega) (by have := HB.out.size; simp; omega) ?_)
      intro v' w3 hown' hgrow _
      have hb1 := (HB.out.alloc HB.out.size _).grown hgrow (by have := HB.out.size; simp; omega) (fun r hr => (HO.out.lt r hr).1)
      clear hgrow
      go_wp2
      go_roundw
      case rel => exact ⟨hb1, t + 1, k, HMS.out, by go_num, by rw [HT.out, bsI_snoc, ← HV.out]; exact hown'⟩
      case measure => simp [intOf]
    | zero =>
      obtain rfl : t = S.size := by omega
      have hown := HO.out
      rw [List.take_of_length_le (by rw [HFL.out]; exact Nat.le_refl _)] at hown
      have hoi : HoldI wr W2.heap.size u6 G := by unfold HoldI; rw [HFL.out]; exact hown
      obtain ⟨p5, c5, rfl, hs5⟩ := hoi.sl
      rw [HFL.out]
      have htr := HTR.out p5 c5 wr.drew (hs5.below (Below.refl _ _).drew)
      rw [HFL.out] at htr
      have HTT := Lib.hid htr
      have H0 : Hid (wr.drew.cell? ⟨w1.heap.size, 0, none⟩ = some (.bool neg)) := Lib.hid (keepC e1 (Below.refl _ _).drew)
      have HXd := Lib.hid (HXr.out.below (Below.refl wr.heap.size wr).drew)
      have HBd := Lib.hid ((bel0 HB2.out HB.out).drew)
      clear hown hoi hs5 HO htk htr
      go_wp2
      go_region_held3 (fun W => W.cell? ⟨w1.heap.size, 0, none⟩ = some (.bool neg))
        (first | assumption | exact H0.out | exact cell_far hne _ (cell_far hne _ (by assumption)))
        (first
          | (go_at_call 60; refine (HTT.out).mono ?_; rintro e w5 ⟨p6, c6, rfl, hs6, hb5⟩; have hk5 := keepC H0.out hb5; have HX5 := Lib.hid (HXd.out.below hb5); have HB5 := Lib.hid (bel0 HBd.out hb5); have HS6 := Lib.hid hs6; obtain ⟨⟨r1, r2⟩, q1, q2⟩ := HX5.out.two; clear hb5 hs6))
      all_goals go_wp2
      all_goals refine bodyPost_ret (v := .tuple #[.agg #[.bool neg, .slice p6 (dgs v).length c6], .bool true]) ?_ rfl ⟨p6, c6, rfl, HS6.out.far2 HX5.out _ _, below_set2 HB5.out (Nat.le_refl _) _ _⟩
      all_goals rw [results_cell_tmp rfl]
      all_goals go_simp
theorem of_any (p : Option Addr) (c : Nat) (bs : List UInt8) (w : World) (hr : Rd w p bs) :
    Calls Tryd.prog 45 #[.slice p bs.length c] w (OfPost w bs) := by
  by_cases h : dOk bs = true
  · have hk := (okL_iff _).1 (dDig_ok bs h)
    refine (of_yes p c bs.length (dVal bs) ⟨(dDig bs).toArray⟩ (dDig bs) (dNeg bs) w rfl hk.1.2.1 hk.2 rfl (Lib.hid fun W hb => ?_)).mono fun e w' h1 => ?_
    · have h2 := rdecode_any p c bs W (hr.below hb)
      unfold DecPost at h2
      rw [h] at h2
      exact h2
    · unfold OfPost
      rw [h]
      exact h1
  · have h' : dOk bs = false := by simpa using h
    refine (of_no p c bs.length ⟨(dDig bs).toArray⟩ (dNeg bs) w (Lib.hid fun W hb => ?_)).mono fun e w' h1 => ?_
    · have h2 := rdecode_any p c bs W (hr.below hb)
      unfold DecPost at h2
      rw [h'] at h2
      exact h2
    · unfold OfPost
      rw [h', (dVal_not bs h').1, (dVal_not bs h').2, dgs_zero]
      exact ⟨none, 0, h1.1, SlI.nil _, h1.2⟩

end E
end Go.Proofs.YtlpekknhaaddcaaDoor
namespace Go.Proofs.YtlpekknhaaddcaaDoor
open Go.RowKit
set_option linter.unusedVariables false
namespace E

set_option maxRecDepth 100000 in
set_option maxHeartbeats 4000000 in
theorem res_zero (neg : Bool) (p : Option Addr) (c n cd : Nat) (l : List (Fin 16)) (F : List UInt8) (ov : Bool) (w : World) (hs : SlI w p c l)
    (HF : Hid (∀ W, SlI W p c l → Calls Tryd.prog 53 #[.agg #[.bool false, .slice p 0 c], .int .i64 (n : Int)] W (fun e w' => ∃ sv, e = .returned (.tuple #[sv, .bool ov]) ∧ SvB w' sv F ∧ Below W.heap.size W w')))
    (HC : Hid (∀ W, Calls Tryd.prog 47 #[.agg #[.bool false, .slice p 0 c]] W (New W (.int .i64 (cd : Int))))) :
    Calls Tryd.prog 39 #[.agg #[.bool neg, .slice p 0 c], .int .i64 (n : Int)] w (R3Post w (F, if ov then 3 else cd, if ov then 10 else 0)) := by
  have HB0 := Lib.hid (below_new w (.cells #[.bool neg, .slice p 0 c] 52))
  have HD0 := Lib.hid (Bx.new w 52 #[.bool neg, .slice p 0 c])
  have HS0 := Lib.hid (hs.below HB0.out)
  have hs0 := hs
  obtain ⟨⟨d1, d2⟩, x1, x2⟩ := HD0.out.two
  clear hs
  have HB1 := Lib.hid (below_new w (.cells #[.bool false, .slice p 0 c] 52))
  have HD1 := Lib.hid (Bx.new w 52 #[.bool false, .slice p 0 c])
  have HS1 := Lib.hid (hs0.below HB1.out)
  obtain ⟨⟨y1, y2⟩, _⟩ := HD1.out.two
  clear hs0
  cases ov
  · go_enter Tryd.func39, Tryd.ntmps39
    go_wp2_with fail
    refine (HF.out _ HS1.out).mono ?_
    rintro e w3 ⟨sv, rfl, hsv, hb⟩
    have HB3 := Lib.hid (bel0 HB1.out hb)
    have HSV := Lib.hid hsv
    obtain ⟨⟨z1, z2⟩, _⟩ := (HD1.out.below hb).two
    clear hb hsv d1 d2 x1 x2 y1 y2
    go_wp2_with fail
    refine (HC.out _).mono ?_
    rintro e w4 ⟨rfl, hb⟩
    have HB4 := Lib.hid (bel0 HB3.out hb)
    have HSV4 := Lib.hid (HSV.out.below hb)
    clear hb z1 z2
    go_wp2
    go_ret3
    exact ⟨_, rfl, HSV4.out, HB4.out⟩
  · go_enter Tryd.func39, Tryd.ntmps39
    go_wp2_with fail
    refine (HF.out _ HS1.out).mono ?_
    rintro e w3 ⟨sv, rfl, hsv, hb⟩
    have HB3 := Lib.hid (bel0 HB1.out hb)
    have HSV := Lib.hid hsv
    clear hb hsv d1 d2 x1 x2 y1 y2
    go_wp2
    go_ret3
    exact ⟨_, rfl, HSV.out, HB3.out⟩
set_option maxRecDepth 100000 in
set_option maxHeartbeats 4000000 in
theorem res_more (neg : Bool) (p : Option Addr) (c lv n cd : Nat) (l : List (Fin 16)) (F : List UInt8) (ov : Bool) (w : World) (hlv : lv ≠ 0) (hs : SlI w p c l)
    (HF : Hid (∀ W, SlI W p c l → Calls Tryd.prog 53 #[.agg #[.bool neg, .slice p lv c], .int .i64 (n : Int)] W (fun e w' => ∃ sv, e = .returned (.tuple #[sv, .bool ov]) ∧ SvB w' sv F ∧ Below W.heap.size W w')))
    (HC : Hid (∀ W, Calls Tryd.prog 47 #[.agg #[.bool neg, .slice p lv c]] W (New W (.int .i64 (cd : Int))))) :
    Calls Tryd.prog 39 #[.agg #[.bool neg, .slice p lv c], .int .i64 (n : Int)] w (R3Post w (F, if ov then 3 else cd, if ov then 10 else 0)) := by
  have HB0 := Lib.hid (below_new w (.cells #[.bool neg, .slice p lv c] 52))
  have HD0 := Lib.hid (Bx.new w 52 #[.bool neg, .slice p lv c])
  have HS0 := Lib.hid (hs.below HB0.out)
  have hs0 := hs
  obtain ⟨⟨d1, d2⟩, x1, x2⟩ := HD0.out.two
  clear hs
  have HB1 := HB0
  have HD1 := HD0
  have HS1 := HS0
  obtain ⟨⟨y1, y2⟩, _⟩ := HD1.out.two
  clear hs0
  cases ov
  · go_enter Tryd.func39, Tryd.ntmps39
    go_wp2_with fail
    refine (HF.out _ HS1.out).mono ?_
    rintro e w3 ⟨sv, rfl, hsv, hb⟩
    have HB3 := Lib.hid (bel0 HB1.out hb)
    have HSV := Lib.hid hsv
    obtain ⟨⟨z1, z2⟩, _⟩ := (HD1.out.below hb).two
    clear hb hsv d1 d2 x1 x2 y1 y2
    go_wp2_with fail
    refine (HC.out _).mono ?_
    rintro e w4 ⟨rfl, hb⟩
    have HB4 := Lib.hid (bel0 HB3.out hb)
    have HSV4 := Lib.hid (HSV.out.below hb)
    clear hb z1 z2
    go_wp2
    go_ret3
    exact ⟨_, rfl, HSV4.out, HB4.out⟩
  · go_enter Tryd.func39, Tryd.ntmps39
    go_wp2_with fail
    refine (HF.out _ HS1.out).mono ?_
    rintro e w3 ⟨sv, rfl, hsv, hb⟩
    have HB3 := Lib.hid (bel0 HB1.out hb)
    have HSV := Lib.hid hsv
    clear hb hsv d1 d2 x1 x2 y1 y2
    go_wp2
    go_ret3
    exact ⟨_, rfl, HSV.out, HB3.out⟩
theorem rresult_any (neg : Bool) (p : Option Addr) (c v n : Nat) (w : World) (h1 : 1 ≤ n) (h2 : n ≤ 16) (hv : (dgs v).length ≤ 1000) (hs : SlI w p c (dgs v)) :
    Calls Tryd.prog 39 #[.agg #[.bool neg, .slice p (dgs v).length c], .int .i64 (n : Int)] w (R3Post w (resS neg v n)) := by
  unfold resS
  by_cases h : v = 0
  · rw [if_pos h]
    have hl := (len_zero v).2 h
    have hF := fun W hs => rfield_any false p c v n W h1 h2 hv hs
    have hC := fun W => code_any false p c v W
    rw [hl] at hF hC ⊢
    exact res_zero neg p c n _ (dgs v) _ _ w hs (Lib.hid hF) (Lib.hid hC)
  · rw [if_neg h]
    have hl : (dgs v).length ≠ 0 := fun e => h ((len_zero v).1 e)
    exact res_more neg p c _ n _ (dgs v) _ _ w hl hs (Lib.hid fun W hs => rfield_any neg p c v n W h1 h2 hv hs) (Lib.hid fun W => code_any neg p c v W)
theorem ret_nnt {fn : Func} {p q u : Tmp} (h : fn.results = #[.cell p 52, .cell q 52, .tmp u]) {tmps : Array Value} {W : World} {D E : Nat} {n1 n2 : Bool} {p1 p2 : Option Addr} {k1 k2 c1 c2 : Nat} (h1 : tmps.getD p undef = .pointer (some ⟨D, 0, none⟩)) (h2 : tmps.getD q undef = .pointer (some ⟨E, 0, none⟩))
    (hD : Bx W D 52 #[.bool n1, .slice p1 k1 c1]) (hE : Bx W E 52 #[.bool n2, .slice p2 k2 c2]) :
    (results fn tmps).run Tryd.prog W = .ok (.tuple #[.agg #[.bool n1, .slice p1 k1 c1], .agg #[.bool n2, .slice p2 k2 c2], tmps.getD u undef]) W := by
  obtain ⟨⟨d1, d2⟩, _⟩ := hD.two
  obtain ⟨⟨e1, e2⟩, _⟩ := hE.two
  rw [results_cct h, h1, h2]
  go_simp
theorem Bx.all2 {w : World} {g : Nat} {t : TypeId} {a b : Value} (h : Bx w g t #[a, b]) (x y : Value) : Bx ((w.setCell ⟨g, 0, none⟩ x).setCell ⟨g, 1, none⟩ y) g t #[x, y] := (h.set 0 x).set 1 y
theorem Bx.far2 {w : World} {g F : Nat} {t : TypeId} {cs : Array Value} (h : Bx w g t cs) (hne : F ≠ g) (x y : Value) : Bx ((w.setCell ⟨F, 0, none⟩ x).setCell ⟨F, 1, none⟩ y) g t cs := (h.far hne x).far hne y
/-- The two numbers, or a code. -/
def Tw4 (w : World) (la lb : List UInt8) (code : Nat) (e : Ending) (w' : World) : Prop :=
  (code = 0 ∧ ∃ p c q d, e = .returned (.tuple #[.agg #[.bool (dNeg la), .slice p (dgs (dVal la)).length c], .agg #[.bool (dNeg lb), .slice q (dgs (dVal lb)).length d], .int .i64 0]) ∧ SlI w' p c (dgs (dVal la)) ∧ SlI w' q d (dgs (dVal lb)) ∧ Below w.heap.size w w') ∨
  (code ≠ 0 ∧ New w (.tuple #[.agg #[.bool false, .slice none 0 0], .agg #[.bool false, .slice none 0 0], .int .i64 (code : Int)]) e w')
set_option maxRecDepth 100000 in
set_option maxHeartbeats 4000000 in
theorem two_6a (p q : Option Addr) (cp cq : Nat) (la lb : List UInt8) (w : World) (hA : ¬ (1 ≤ la.length ∧ la.length ≤ 16)) :
    Calls Tryd.prog 38 #[.slice p la.length cp, .slice q lb.length cq] w (New w (.tuple #[.agg #[.bool false, .slice none 0 0], .agg #[.bool false, .slice none 0 0], .int .i64 6])) := by
  have HSA := Lib.hid (fun W => size4_any (la.length : Int) W)
  have HSB := Lib.hid (fun W => size4_any (lb.length : Int) W)
  rw [decide_eq_false (by omega)] at HSA
  have HB0 := Lib.hid (below2 w (.cells #[.bool false, .slice none 0 0] 52) (.cells #[.bool false, .slice none 0 0] 52))
  have HD0 := Lib.hid ((Bx.new w 52 #[.bool false, .slice none 0 0]).below (below_new _ (.cells #[.bool false, .slice none 0 0] 52)))
  have HE0 := Lib.hid (second_new w (.cells #[.bool false, .slice none 0 0] 52) (.cells #[.bool false, .slice none 0 0] 52) _ _ rfl)
  obtain ⟨⟨d1, d2⟩, x1, x2⟩ := HD0.out.two
  obtain ⟨⟨e1, e2⟩, y1, y2⟩ := HE0.out.two
  generalize la.length = na at *
  generalize lb.length = nb at *
  clear hA HSB
  go_enter Tryd.func38, Tryd.ntmps38
  go_wp2_with fail
  refine (HSA.out _).mono ?_
  rintro e w' ⟨rfl, rfl⟩
  go_wp2
  refine bodyPost_ret (v := .tuple #[.agg #[.bool false, .slice none 0 0], .agg #[.bool false, .slice none 0 0], .int .i64 6]) ?_ rfl ⟨rfl, ?_⟩
  · refine ret_nnt (p := 4) (q := 5) (u := 6) ?_ ?_ ?_ HD0.out HE0.out <;> rfl
  · exact HB0.out
set_option maxRecDepth 100000 in
set_option maxHeartbeats 4000000 in
theorem two_6b (p q : Option Addr) (cp cq : Nat) (la lb : List UInt8) (w : World) (hA : 1 ≤ la.length ∧ la.length ≤ 16) (hB : ¬ (1 ≤ lb.length ∧ lb.length ≤ 16)) :
    Calls Tryd.prog 38 #[.slice p la.length cp, .slice q lb.length cq] w (New w (.tuple #[.agg #[.bool false, .slice none 0 0], .agg #[.bool false, .slice none 0 0], .int .i64 6])) := by
  have HSA := Lib.hid (fun W => size4_any (la.length : Int) W)
  have HSB := Lib.hid (fun W => size4_any (lb.length : Int) W)
  rw [decide_eq_true (by omega)] at HSA
  rw [decide_eq_false (by omega)] at HSB
  have HB0 := Lib.hid (below2 w (.cells #[.bool false, .slice none 0 0] 52) (.cells #[.bool false, .slice none 0 0] 52))
  have HD0 := Lib.hid ((Bx.new w 52 #[.bool false, .slice none 0 0]).below (below_new _ (.cells #[.bool false, .slice none 0 0] 52)))
  have HE0 := Lib.hid (second_new w (.cells #[.bool false, .slice none 0 0] 52) (.cells #[.bool false, .slice none 0 0] 52) _ _ rfl)
  obtain ⟨⟨d1, d2⟩, x1, x2⟩ := HD0.out.two
  obtain ⟨⟨e1, e2⟩, y1, y2⟩ := HE0.out.two
  generalize la.length = na at *
  generalize lb.length = nb at *
  clear hA hB
  go_enter Tryd.func38, Tryd.ntmps38
  go_wp2_with fail
  refine (HSA.out _).mono ?_
  rintro e w' ⟨rfl, rfl⟩
  go_wp2_with fail
  refine (HSB.out _).mono ?_
  rintro e w' ⟨rfl, rfl⟩
  go_wp2
  refine bodyPost_ret (v := .tuple #[.agg #[.bool false, .slice none 0 0], .agg #[.bool false, .slice none 0 0], .int .i64 6]) ?_ rfl ⟨rfl, ?_⟩
  · refine ret_nnt (p := 4) (q := 5) (u := 6) ?_ ?_ ?_ HD0.out HE0.out <;> rfl
  · exact HB0.out
set_option maxRecDepth 100000 in
set_option maxHeartbeats 4000000 in
theorem two_7a (p q : Option Addr) (cp cq : Nat) (la lb : List UInt8) (x y : Nat) (ga gb : Bool) (ob : Bool) (w : World) (hA : 1 ≤ la.length ∧ la.length ≤ 16) (hB : 1 ≤ lb.length ∧ lb.length ≤ 16) (HR : Hid (Rd w p la)) (HQ : Hid (Rd w q lb))
    (HA : Hid (∀ W, Rd W p la → Calls Tryd.prog 45 #[.slice p la.length cp] W (fun e w' => ∃ p c, e = .returned (.tuple #[.agg #[.bool ga, .slice p (dgs x).length c], .bool false]) ∧ SlI w' p c (dgs x) ∧ Below W.heap.size W w')))
    (HB : Hid (∀ W, Rd W q lb → Calls Tryd.prog 45 #[.slice q lb.length cq] W (fun e w' => ∃ p c, e = .returned (.tuple #[.agg #[.bool gb, .slice p (dgs y).length c], .bool ob]) ∧ SlI w' p c (dgs y) ∧ Below W.heap.size W w'))) :
    Calls Tryd.prog 38 #[.slice p la.length cp, .slice q lb.length cq] w (New w (.tuple #[.agg #[.bool false, .slice none 0 0], .agg #[.bool false, .slice none 0 0], .int .i64 7])) := by
  have HSA := Lib.hid (fun W => size4_any (la.length : Int) W)
  have HSB := Lib.hid (fun W => size4_any (lb.length : Int) W)
  rw [decide_eq_true (by omega)] at HSA HSB
  have HB0 := Lib.hid (below2 w (.cells #[.bool false, .slice none 0 0] 52) (.cells #[.bool false, .slice none 0 0] 52))
  have HD0 := Lib.hid ((Bx.new w 52 #[.bool false, .slice none 0 0]).below (below_new _ (.cells #[.bool false, .slice none 0 0] 52)))
  have HE0 := Lib.hid (second_new w (.cells #[.bool false, .slice none 0 0] 52) (.cells #[.bool false, .slice none 0 0] 52) _ _ rfl)
  clear hA hB
  generalize (dgs x).length = lx at *
  generalize (dgs y).length = ly at *
  go_enter Tryd.func38, Tryd.ntmps38
  go_wp2_with fail
  refine (HSA.out _).mono ?_
  rintro e w' ⟨rfl, rfl⟩
  go_wp2_with fail
  refine (HSB.out _).mono ?_
  rintro e w' ⟨rfl, rfl⟩
  go_wp2_with fail
  refine (HA.out _ (HR.out.below HB0.out)).mono ?_
  rintro e w1 ⟨p1, c1, rfl, hs1, hb⟩
  have hb1 := below_new w1 (.cells #[.bool ga, .slice p1 lx c1] 52)
  have HB1 := Lib.hid (bel0 (bel0 HB0.out hb) hb1)
  have HD1 := Lib.hid ((HD0.out.below hb).below hb1)
  have HE1 := Lib.hid ((HE0.out.below hb).below hb1)
  have HX1 := Lib.hid (Bx.new w1 52 #[.bool ga, .slice p1 lx c1])
  have HS1 := Lib.hid (hs1.below hb1)
  have HN1 := Lib.hid (HE0.out.below hb).lt
  clear hb hb1 hs1 HA HB0 HD0 HE0
  go_wp2_with fail
  refine (HB.out _ (HQ.out.below HB1.out)).mono ?_
  rintro e w2 ⟨p2, c2, rfl, hs2, hb⟩
  have hb2 := below_new w2 (.cells #[.bool gb, .slice p2 ly c2] 52)
  have HB2 := Lib.hid (bel0 (bel0 HB1.out hb) hb2)
  have HD2 := Lib.hid ((HD1.out.below hb).below hb2)
  have HE2 := Lib.hid ((HE1.out.below hb).below hb2)
  have HX2 := Lib.hid ((HX1.out.below hb).below hb2)
  have HY2 := Lib.hid (Bx.new w2 52 #[.bool gb, .slice p2 ly c2])
  have HS2 := Lib.hid ((HS1.out.below hb).below hb2)
  have HT2 := Lib.hid (hs2.below hb2)
  have hn1 : w.heap.size ≠ w1.heap.size := by have := (HE1.out.below hb).lt; have h1 := HN1.out; omega
  have hn2 : w.heap.size + 1 ≠ w1.heap.size := by have h1 := HN1.out; omega
  have hn3 : w.heap.size ≠ w2.heap.size := by have := (HD1.out.below hb).lt; omega
  have hn4 : w.heap.size + 1 ≠ w2.heap.size := by have := (HE1.out.below hb).lt; omega
  clear hb hb2 hs2 HB HB1 HD1 HE1 HX1 HS1
  obtain ⟨⟨d1, d2⟩, x1, x2⟩ := HD2.out.two
  obtain ⟨⟨e1, e2⟩, y1, y2⟩ := HE2.out.two
  go_wp2
  refine bodyPost_ret (v := .tuple #[.agg #[.bool false, .slice none 0 0], .agg #[.bool false, .slice none 0 0], .int .i64 7]) ?_ rfl ⟨rfl, ?_⟩
  · refine ret_nnt (p := 4) (q := 5) (u := 6) ?_ ?_ ?_ ((HD2.out.all2 _ _).far2 (by omega) _ _) ((HE2.out.far2 (by omega) _ _).all2 _ _) <;> rfl
  · exact below_set2 (below_set2 HB2.out (Nat.le_refl _) _ _) (Nat.le_succ _) _ _
set_option maxRecDepth 100000 in
set_option maxHeartbeats 4000000 in
theorem two_7b (p q : Option Addr) (cp cq : Nat) (la lb : List UInt8) (x y : Nat) (ga gb : Bool) (w : World) (hA : 1 ≤ la.length ∧ la.length ≤ 16) (hB : 1 ≤ lb.length ∧ lb.length ≤ 16) (HR : Hid (Rd w p la)) (HQ : Hid (Rd w q lb))
    (HA : Hid (∀ W, Rd W p la → Calls Tryd.prog 45 #[.slice p la.length cp] W (fun e w' => ∃ p c, e = .returned (.tuple #[.agg #[.bool ga, .slice p (dgs x).length c], .bool true]) ∧ SlI w' p c (dgs x) ∧ Below W.heap.size W w')))
    (HB : Hid (∀ W, Rd W q lb → Calls Tryd.prog 45 #[.slice q lb.length cq] W (fun e w' => ∃ p c, e = .returned (.tuple #[.agg #[.bool gb, .slice p (dgs y).length c], .bool false]) ∧ SlI w' p c (dgs y) ∧ Below W.heap.size W w'))) :
    Calls Tryd.prog 38 #[.slice p la.length cp, .slice q lb.length cq] w (New w (.tuple #[.agg #[.bool false, .slice none 0 0], .agg #[.bool false, .slice none 0 0], .int .i64 7])) := by
  have HSA := Lib.hid (fun W => size4_any (la.length : Int) W)
  have HSB := Lib.hid (fun W => size4_any (lb.length : Int) W)
  rw [decide_eq_true (by omega)] at HSA HSB
  have HB0 := Lib.hid (below2 w (.cells #[.bool false, .slice none 0 0] 52) (.cells #[.bool false, .slice none 0 0] 52))
  have HD0 := Lib.hid ((Bx.new w 52 #[.bool false, .slice none 0 0]).below (below_new _ (.cells #[.bool false, .slice none 0 0] 52)))
  have HE0 := Lib.hid (second_new w (.cells #[.bool false, .slice none 0 0] 52) (.cells #[.bool false, .slice none 0 0] 52) _ _ rfl)
  clear hA hB
  generalize (dgs x).length = lx at *
  generalize (dgs y).length = ly at *
  go_enter Tryd.func38, Tryd.ntmps38
  go_wp2_with fail
  refine (HSA.out _).mono ?_
  rintro e w' ⟨rfl, rfl⟩
  go_wp2_with fail
  refine (HSB.out _).mono ?_
  rintro e w' ⟨rfl, rfl⟩
  go_wp2_with fail
  refine (HA.out _ (HR.out.below HB0.out)).mono ?_
  rintro e w1 ⟨p1, c1, rfl, hs1, hb⟩
  have hb1 := below_new w1 (.cells #[.bool ga, .slice p1 lx c1] 52)
  have HB1 := Lib.hid (bel0 (bel0 HB0.out hb) hb1)
  have HD1 := Lib.hid ((HD0.out.below hb).below hb1)
  have HE1 := Lib.hid ((HE0.out.below hb).below hb1)
  have HX1 := Lib.hid (Bx.new w1 52 #[.bool ga, .slice p1 lx c1])
  have HS1 := Lib.hid (hs1.below hb1)
  have HN1 := Lib.hid (HE0.out.below hb).lt
  clear hb hb1 hs1 HA HB0 HD0 HE0
  go_wp2_with fail
  refine (HB.out _ (HQ.out.below HB1.out)).mono ?_
  rintro e w2 ⟨p2, c2, rfl, hs2, hb⟩
  have hb2 := below_new w2 (.cells #[.bool gb, .slice p2 ly c2] 52)
  have HB2 := Lib.hid (bel0 (bel0 HB1.out hb) hb2)
  have HD2 := Lib.hid ((HD1.out.below hb).below hb2)
  have HE2 := Lib.hid ((HE1.out.below hb).below hb2)
  have HX2 := Lib.hid ((HX1.out.below hb).below hb2)
  have HY2 := Lib.hid (Bx.new w2 52 #[.bool gb, .slice p2 ly c2])
  have HS2 := Lib.hid ((HS1.out.below hb).below hb2)
  have HT2 := Lib.hid (hs2.below hb2)
  have hn1 : w.heap.size ≠ w1.heap.size := by have := (HE1.out.below hb).lt; have h1 := HN1.out; omega
  have hn2 : w.heap.size + 1 ≠ w1.heap.size := by have h1 := HN1.out; omega
  have hn3 : w.heap.size ≠ w2.heap.size := by have := (HD1.out.below hb).lt; omega
  have hn4 : w.heap.size + 1 ≠ w2.heap.size := by have := (HE1.out.below hb).lt; omega
  clear hb hb2 hs2 HB HB1 HD1 HE1 HX1 HS1
  obtain ⟨⟨d1, d2⟩, x1, x2⟩ := HD2.out.two
  obtain ⟨⟨e1, e2⟩, y1, y2⟩ := HE2.out.two
  go_wp2
  refine bodyPost_ret (v := .tuple #[.agg #[.bool false, .slice none 0 0], .agg #[.bool false, .slice none 0 0], .int .i64 7]) ?_ rfl ⟨rfl, ?_⟩
  · refine ret_nnt (p := 4) (q := 5) (u := 6) ?_ ?_ ?_ ((HD2.out.all2 _ _).far2 (by omega) _ _) ((HE2.out.far2 (by omega) _ _).all2 _ _) <;> rfl
  · exact below_set2 (below_set2 HB2.out (Nat.le_refl _) _ _) (Nat.le_succ _) _ _
set_option maxRecDepth 100000 in
set_option maxHeartbeats 4000000 in
theorem two_0 (p q : Option Addr) (cp cq : Nat) (la lb : List UInt8) (x y : Nat) (ga gb : Bool) (w : World) (hA : 1 ≤ la.length ∧ la.length ≤ 16) (hB : 1 ≤ lb.length ∧ lb.length ≤ 16) (HR : Hid (Rd w p la)) (HQ : Hid (Rd w q lb))
    (HA : Hid (∀ W, Rd W p la → Calls Tryd.prog 45 #[.slice p la.length cp] W (fun e w' => ∃ p c, e = .returned (.tuple #[.agg #[.bool ga, .slice p (dgs x).length c], .bool true]) ∧ SlI w' p c (dgs x) ∧ Below W.heap.size W w')))
    (HB : Hid (∀ W, Rd W q lb → Calls Tryd.prog 45 #[.slice q lb.length cq] W (fun e w' => ∃ p c, e = .returned (.tuple #[.agg #[.bool gb, .slice p (dgs y).length c], .bool true]) ∧ SlI w' p c (dgs y) ∧ Below W.heap.size W w'))) :
    Calls Tryd.prog 38 #[.slice p la.length cp, .slice q lb.length cq] w (fun e w' => ∃ p c q d, e = .returned (.tuple #[.agg #[.bool ga, .slice p (dgs x).length c], .agg #[.bool gb, .slice q (dgs y).length d], .int .i64 0]) ∧ SlI w' p c (dgs x) ∧ SlI w' q d (dgs y) ∧ Below w.heap.size w w') := by
  have HSA := Lib.hid (fun W => size4_any (la.length : Int) W)
  have HSB := Lib.hid (fun W => size4_any (lb.length : Int) W)
  rw [decide_eq_true (by omega)] at HSA HSB
  have HB0 := Lib.hid (below2 w (.cells #[.bool false, .slice none 0 0] 52) (.cells #[.bool false, .slice none 0 0] 52))
  have HD0 := Lib.hid ((Bx.new w 52 #[.bool false, .slice none 0 0]).below (below_new _ (.cells #[.bool false, .slice none 0 0] 52)))
  have HE0 := Lib.hid (second_new w (.cells #[.bool false, .slice none 0 0] 52) (.cells #[.bool false, .slice none 0 0] 52) _ _ rfl)
  clear hA hB
  generalize (dgs x).length = lx at *
  generalize (dgs y).length = ly at *
  go_enter Tryd.func38, Tryd.ntmps38
  go_wp2_with fail
  refine (HSA.out _).mono ?_
  rintro e w' ⟨rfl, rfl⟩
  go_wp2_with fail
  refine (HSB.out _).mono ?_
  rintro e w' ⟨rfl, rfl⟩
  go_wp2_with fail
  refine (HA.out _ (HR.out.below HB0.out)).mono ?_
  rintro e w1 ⟨p1, c1, rfl, hs1, hb⟩
  have hb1 := below_new w1 (.cells #[.bool ga, .slice p1 lx c1] 52)
  have HB1 := Lib.hid (bel0 (bel0 HB0.out hb) hb1)
  have HD1 := Lib.hid ((HD0.out.below hb).below hb1)
  have HE1 := Lib.hid ((HE0.out.below hb).below hb1)
  have HX1 := Lib.hid (Bx.new w1 52 #[.bool ga, .slice p1 lx c1])
  have HS1 := Lib.hid (hs1.below hb1)
  have HN1 := Lib.hid (HE0.out.below hb).lt
  clear hb hb1 hs1 HA HB0 HD0 HE0
  go_wp2_with fail
  refine (HB.out _ (HQ.out.below HB1.out)).mono ?_
  rintro e w2 ⟨p2, c2, rfl, hs2, hb⟩
  have hb2 := below_new w2 (.cells #[.bool gb, .slice p2 ly c2] 52)
  have HB2 := Lib.hid (bel0 (bel0 HB1.out hb) hb2)
  have HD2 := Lib.hid ((HD1.out.below hb).below hb2)
  have HE2 := Lib.hid ((HE1.out.below hb).below hb2)
  have HX2 := Lib.hid ((HX1.out.below hb).below hb2)
  have HY2 := Lib.hid (Bx.new w2 52 #[.bool gb, .slice p2 ly c2])
  have HS2 := Lib.hid ((HS1.out.below hb).below hb2)
  have HT2 := Lib.hid (hs2.below hb2)
  have hn1 : w.heap.size ≠ w1.heap.size := by have := (HE1.out.below hb).lt; have h1 := HN1.out; omega
  have hn2 : w.heap.size + 1 ≠ w1.heap.size := by have h1 := HN1.out; omega
  have hn3 : w.heap.size ≠ w2.heap.size := by have := (HD1.out.below hb).lt; omega
  have hn4 : w.heap.size + 1 ≠ w2.heap.size := by have := (HE1.out.below hb).lt; omega
  clear hb hb2 hs2 HB HB1 HD1 HE1 HX1 HS1
  obtain ⟨⟨d1, d2⟩, x1, x2⟩ := HD2.out.two
  obtain ⟨⟨e1, e2⟩, y1, y2⟩ := HE2.out.two
  obtain ⟨⟨f1, f2⟩, _⟩ := HX2.out.two
  obtain ⟨⟨g1, g2⟩, _⟩ := HY2.out.two
  go_wp2
  go_region
  all_goals go_wp2
  all_goals refine bodyPost_ret (v := .tuple #[.agg #[.bool ga, .slice p1 lx c1], .agg #[.bool gb, .slice p2 ly c2], .int .i64 0]) ?_ rfl ⟨p1, c1, p2, c2, rfl, ?_, ?_, ?_⟩
  · refine ret_nnt (p := 4) (q := 5) (u := 6) ?_ ?_ ?_ (((HD2.out.all2 _ _).far2 (by omega) _ _).below (Below.refl _ _).drew) (((HE2.out.far2 (by omega) _ _).all2 _ _).below (Below.refl _ _).drew) <;> rfl
  · exact ((HS2.out.far2 HD2.out _ _).far2 (HE2.out.far2 (by omega) _ _) _ _).below (Below.refl _ _).drew
  · exact ((HT2.out.far2 HD2.out _ _).far2 (HE2.out.far2 (by omega) _ _) _ _).below (Below.refl _ _).drew
  · exact (below_set2 (below_set2 HB2.out (Nat.le_refl _) _ _) (Nat.le_succ _) _ _).drew
theorem opC6 {bs : List UInt8} : opC bs = 6 ↔ ¬ (1 ≤ bs.length ∧ bs.length ≤ 16) := by
  unfold opC
  by_cases h : 1 ≤ bs.length ∧ bs.length ≤ 16
  · rw [if_pos h]
    constructor
    · intro h2
      split at h2 <;> omega
    · intro h2
      exact absurd h h2
  · rw [if_neg h]
    exact ⟨fun _ => h, fun _ => rfl⟩
theorem opC7 {bs : List UInt8} (h : 1 ≤ bs.length ∧ bs.length ≤ 16) (ho : dOk bs = false) : opC bs = 7 := by
  unfold opC
  rw [if_pos h, ho]
  rfl
theorem opC0 {bs : List UInt8} (h : 1 ≤ bs.length ∧ bs.length ≤ 16) (ho : dOk bs = true) : opC bs = 0 := by
  unfold opC
  rw [if_pos h, ho]
  rfl
theorem two_ops0 {la lb : List UInt8} (ha : opC la = 0) (hb : opC lb = 0) : twoC la lb = 0 := by
  unfold twoC
  rw [ha, hb]
  rfl
theorem rtwo_any (p q : Option Addr) (cp cq : Nat) (la lb : List UInt8) (w : World) (hr : Rd w p la) (hq : Rd w q lb) :
    Calls Tryd.prog 38 #[.slice p la.length cp, .slice q lb.length cq] w (Tw4 w la lb (twoC la lb)) := by
  by_cases hA : 1 ≤ la.length ∧ la.length ≤ 16
  · by_cases hB : 1 ≤ lb.length ∧ lb.length ≤ 16
    · have n6a : opC la ≠ 6 := fun e => opC6.1 e hA
      have n6b : opC lb ≠ 6 := fun e => opC6.1 e hB
      have HOA := fun W h => of_any p cp la W h
      have HOB := fun W h => of_any q cq lb W h
      unfold OfPost at HOA HOB
      cases oa : dOk la
      · have ht : twoC la lb = 7 := by
          unfold twoC
          rw [if_neg (by omega), if_pos (.inl (opC7 hA oa))]
        rw [ht]
        rw [oa] at HOA
        exact (two_7a p q cp cq la lb (dVal la) (dVal lb) (dNeg la) (dNeg lb) (dOk lb) w hA hB (Lib.hid hr) (Lib.hid hq) (Lib.hid HOA) (Lib.hid HOB)).mono fun e w' h => .inr ⟨by decide, h⟩
      · rw [oa] at HOA
        cases ob : dOk lb
        · have ht : twoC la lb = 7 := by
            unfold twoC
            rw [if_neg (by omega), if_pos (.inr (opC7 hB ob))]
          rw [ht]
          rw [ob] at HOB
          exact (two_7b p q cp cq la lb (dVal la) (dVal lb) (dNeg la) (dNeg lb) w hA hB (Lib.hid hr) (Lib.hid hq) (Lib.hid HOA) (Lib.hid HOB)).mono fun e w' h => .inr ⟨by decide, h⟩
        · rw [two_ops0 (opC0 hA oa) (opC0 hB ob)]
          rw [ob] at HOB
          exact (two_0 p q cp cq la lb (dVal la) (dVal lb) (dNeg la) (dNeg lb) w hA hB (Lib.hid hr) (Lib.hid hq) (Lib.hid HOA) (Lib.hid HOB)).mono fun e w' h => .inl ⟨rfl, h⟩
    · have ht : twoC la lb = 6 := by
        unfold twoC
        rw [if_pos (.inr (opC6.2 hB))]
      rw [ht]
      exact (two_6b p q cp cq la lb w hA hB).mono fun e w' h => .inr ⟨by decide, h⟩
  · have ht : twoC la lb = 6 := by
      unfold twoC
      rw [if_pos (.inl (opC6.2 hA))]
    rw [ht]
    exact (two_6a p q cp cq la lb w hA).mono fun e w' h => .inr ⟨by decide, h⟩

end E
end Go.Proofs.YtlpekknhaaddcaaDoor
namespace Go.Proofs.YtlpekknhaaddcaaDoor
open Go.RowKit
set_option linter.unusedVariables false
namespace E

theorem dgs_31 {x : Nat} (h : x < 10000000000000000000000000000000) : (dgs x).length ≤ 31 := (dgs_len_le x 31).2 (by rw [pow10_31]; exact h)
theorem dgs_32 {x : Nat} (h : x < 20000000000000000000000000000000) : (dgs x).length ≤ 32 := (dgs_len_le x 32).2 (by
  have : (10 : Nat) ^ 32 = 100000000000000000000000000000000 := by decide
  rw [this]
  omega)
set_option maxRecDepth 100000 in
set_option maxHeartbeats 4000000 in
theorem radd_any (p q : Option Addr) (cp cq : Nat) (la lb : List UInt8) (w : World) (hr : Rd w p la) (hq : Rd w q lb) :
    Calls Tryd.prog 14 #[.slice p la.length cp, .slice q lb.length cq] w (R3Post w (addL la lb)) := by
  have HT := Lib.hid (rtwo_any p q cp cq la lb w hr hq)
  obtain ⟨code, hcode⟩ : ∃ code, code = twoC la lb := ⟨_, rfl⟩
  rw [← hcode] at HT
  unfold Tw4 at HT
  by_cases hz : code = 0
  · rw [hz] at hcode
    obtain ⟨⟨a1, a2⟩, _, vx, vy⟩ := two_len hcode.symm
    have hv : addL la lb = resS (sumS (dNeg la) (dVal la) (dNeg lb) (dVal lb)).1 (sumS (dNeg la) (dVal la) (dNeg lb) (dVal lb)).2 la.length := by
      unfold addL
      rw [if_pos hcode.symm]
    have HV := Lib.hid hv
    have hlx := dgs_31 vx
    have hly := dgs_31 vy
    have hsl : (dgs (sumS (dNeg la) (dVal la) (dNeg lb) (dVal lb)).2).length ≤ 32 := dgs_32 (sumS_lt (by omega))
    clear hv hcode vx vy hr hq
    generalize dNeg la = na at *
    generalize dNeg lb = nb at *
    generalize dVal la = x at *
    generalize dVal lb = y at *
    have HSU := Lib.hid (fun p1 q1 c1 d1 W h1 h2 => rsum_any na (nb) p1 q1 c1 d1 x y W (by omega) (by omega) h1 h2)
    unfold NumP at HSU
    obtain ⟨S, hS⟩ : ∃ S, S = sumS na x (nb) y := ⟨_, rfl⟩
    rw [← hS] at HSU HV hsl
    obtain ⟨ns, vs⟩ := S
    simp only at hsl
    have HSU2 : Hid (∀ p1 q1 c1 d1 W, SlI W p1 c1 (dgs x) → SlI W q1 d1 (dgs y) → Calls Tryd.prog 40 #[.agg #[.bool na, .slice p1 (dgs x).length c1], .agg #[.bool (nb), .slice q1 (dgs y).length d1]] W (fun e w' => ∃ p c, e = .returned (.agg #[.bool ns, .slice p (dgs vs).length c]) ∧ SlI w' p c (dgs vs) ∧ Below W.heap.size W w')) := HSU
    have HRS := Lib.hid (fun p3 c3 W h => rresult_any ns p3 c3 vs la.length W a1 a2 (by omega) h)
    unfold R3Post at HRS
    clear hS HSU hsl hlx hly
    generalize (dgs x).length = lx at *
    generalize (dgs y).length = ly at *
    generalize (dgs vs).length = lv at *
    go_enter Tryd.func14, Tryd.ntmps14
    go_wp2_with fail
    refine (HT.out).mono ?_
    rintro e w1 h
    rcases h with ⟨_, p1, c1, q1, d1, rfl, h1, h2, hb⟩ | ⟨hne, _⟩
    case inr => exact absurd hz hne
    have HB1 := Lib.hid (bel0 hb (below2 w1 (.cells #[.bool na, .slice p1 lx c1] 52) (.cells #[.bool (nb), .slice q1 ly d1] 52)))
    have HX := Lib.hid (h1.below (below2 w1 (.cells #[.bool na, .slice p1 lx c1] 52) (.cells #[.bool (nb), .slice q1 ly d1] 52)))
    have HY := Lib.hid (h2.below (below2 w1 (.cells #[.bool na, .slice p1 lx c1] 52) (.cells #[.bool (nb), .slice q1 ly d1] 52)))
    clear hb h1 h2 HT
    go_wp2_with fail
    refine (HSU2.out _ _ _ _ _ HX.out HY.out).mono ?_
    rintro e w2 ⟨p3, c3, rfl, hs3, hb⟩
    have HB2 := Lib.hid (bel0 HB1.out hb)
    have HS3 := Lib.hid hs3
    clear hb hs3 HX HY HB1 HSU2
    go_wp2_with fail
    refine (HRS.out _ _ _ HS3.out).mono ?_
    rintro e w3 ⟨sv, rfl, hsv, hb⟩
    have HB3 := Lib.hid (bel0 HB2.out hb)
    have HSV := Lib.hid hsv
    clear hb hsv
    go_wp2
    go_ret3
    exact ⟨_, by rw [HV.out]; rfl, by rw [HV.out]; exact HSV.out, HB3.out⟩
  · have hv : addL la lb = ([], 0, code) := by
      unfold addL
      rw [if_neg (by rw [← hcode]; exact hz), ← hcode]
    have HV := Lib.hid hv
    have hcz : ((code : Int) == 0) = false := by
      simp only [beq_eq_false_iff_ne, ne_eq]
      omega
    have HZ := Lib.hid hz
    clear hv hcode hr hq hz
    go_enter Tryd.func14, Tryd.ntmps14
    go_wp2_with fail
    refine (HT.out).mono ?_
    rintro e w1 h
    rcases h with ⟨h0, _⟩ | ⟨_, rfl, hb⟩
    · exact absurd h0 HZ.out
    have HB1 := Lib.hid (bel0 hb (below2 w1 (.cells #[.bool false, .slice none 0 0] 52) (.cells #[.bool false, .slice none 0 0] 52)))
    clear hb HT
    go_wp2
    go_ret3
    exact ⟨_, by rw [HV.out]; rfl, by rw [HV.out]; exact SvB.nil _, HB1.out⟩
set_option maxRecDepth 100000 in
set_option maxHeartbeats 4000000 in
theorem rsub_any (p q : Option Addr) (cp cq : Nat) (la lb : List UInt8) (w : World) (hr : Rd w p la) (hq : Rd w q lb) :
    Calls Tryd.prog 16 #[.slice p la.length cp, .slice q lb.length cq] w (R3Post w (subL la lb)) := by
  have HT := Lib.hid (rtwo_any p q cp cq la lb w hr hq)
  obtain ⟨code, hcode⟩ : ∃ code, code = twoC la lb := ⟨_, rfl⟩
  rw [← hcode] at HT
  unfold Tw4 at HT
  by_cases hz : code = 0
  · rw [hz] at hcode
    obtain ⟨⟨a1, a2⟩, _, vx, vy⟩ := two_len hcode.symm
    have hv : subL la lb = resS (sumS (dNeg la) (dVal la) (!dNeg lb) (dVal lb)).1 (sumS (dNeg la) (dVal la) (!dNeg lb) (dVal lb)).2 la.length := by
      unfold subL
      rw [if_pos hcode.symm]
    have HV := Lib.hid hv
    have hlx := dgs_31 vx
    have hly := dgs_31 vy
    have hsl : (dgs (sumS (dNeg la) (dVal la) (!dNeg lb) (dVal lb)).2).length ≤ 32 := dgs_32 (sumS_lt (by omega))
    clear hv hcode vx vy hr hq
    generalize dNeg la = na at *
    generalize dNeg lb = nb at *
    generalize dVal la = x at *
    generalize dVal lb = y at *
    have HSU := Lib.hid (fun p1 q1 c1 d1 W h1 h2 => rsum_any na (!nb) p1 q1 c1 d1 x y W (by omega) (by omega) h1 h2)
    unfold NumP at HSU
    obtain ⟨S, hS⟩ : ∃ S, S = sumS na x (!nb) y := ⟨_, rfl⟩
    rw [← hS] at HSU HV hsl
    obtain ⟨ns, vs⟩ := S
    simp only at hsl
    have HSU2 : Hid (∀ p1 q1 c1 d1 W, SlI W p1 c1 (dgs x) → SlI W q1 d1 (dgs y) → Calls Tryd.prog 40 #[.agg #[.bool na, .slice p1 (dgs x).length c1], .agg #[.bool (!nb), .slice q1 (dgs y).length d1]] W (fun e w' => ∃ p c, e = .returned (.agg #[.bool ns, .slice p (dgs vs).length c]) ∧ SlI w' p c (dgs vs) ∧ Below W.heap.size W w')) := HSU
    have HRS := Lib.hid (fun p3 c3 W h => rresult_any ns p3 c3 vs la.length W a1 a2 (by omega) h)
    unfold R3Post at HRS
    clear hS HSU hsl hlx hly
    generalize (dgs x).length = lx at *
    generalize (dgs y).length = ly at *
    generalize (dgs vs).length = lv at *
    go_enter Tryd.func16, Tryd.ntmps16
    go_wp2_with fail
    refine (HT.out).mono ?_
    rintro e w1 h
    rcases h with ⟨_, p1, c1, q1, d1, rfl, h1, h2, hb⟩ | ⟨hne, _⟩
    case inr => exact absurd hz hne
    have HB1 := Lib.hid (bel0 hb (below2 w1 (.cells #[.bool na, .slice p1 lx c1] 52) (.cells #[.bool (!nb), .slice q1 ly d1] 52)))
    have HX := Lib.hid (h1.below (below2 w1 (.cells #[.bool na, .slice p1 lx c1] 52) (.cells #[.bool (!nb), .slice q1 ly d1] 52)))
    have HY := Lib.hid (h2.below (below2 w1 (.cells #[.bool na, .slice p1 lx c1] 52) (.cells #[.bool (!nb), .slice q1 ly d1] 52)))
    clear hb h1 h2 HT
    go_wp2_with fail
    refine (HSU2.out _ _ _ _ _ HX.out HY.out).mono ?_
    rintro e w2 ⟨p3, c3, rfl, hs3, hb⟩
    have HB2 := Lib.hid (bel0 HB1.out hb)
    have HS3 := Lib.hid hs3
    clear hb hs3 HX HY HB1 HSU2
    go_wp2_with fail
    refine (HRS.out _ _ _ HS3.out).mono ?_
    rintro e w3 ⟨sv, rfl, hsv, hb⟩
    have HB3 := Lib.hid (bel0 HB2.out hb)
    have HSV := Lib.hid hsv
    clear hb hsv
    go_wp2
    go_ret3
    exact ⟨_, by rw [HV.out]; rfl, by rw [HV.out]; exact HSV.out, HB3.out⟩
  · have hv : subL la lb = ([], 0, code) := by
      unfold subL
      rw [if_neg (by rw [← hcode]; exact hz), ← hcode]
    have HV := Lib.hid hv
    have hcz : ((code : Int) == 0) = false := by
      simp only [beq_eq_false_iff_ne, ne_eq]
      omega
    have HZ := Lib.hid hz
    clear hv hcode hr hq hz
    go_enter Tryd.func16, Tryd.ntmps16
    go_wp2_with fail
    refine (HT.out).mono ?_
    rintro e w1 h
    rcases h with ⟨h0, _⟩ | ⟨_, rfl, hb⟩
    · exact absurd h0 HZ.out
    have HB1 := Lib.hid (bel0 hb (below2 w1 (.cells #[.bool false, .slice none 0 0] 52) (.cells #[.bool false, .slice none 0 0] 52)))
    clear hb HT
    go_wp2
    go_ret3
    exact ⟨_, by rw [HV.out]; rfl, by rw [HV.out]; exact SvB.nil _, HB1.out⟩
set_option maxRecDepth 100000 in
set_option maxHeartbeats 4000000 in
theorem rcmp_any (p q : Option Addr) (cp cq : Nat) (la lb : List UInt8) (w : World) (hr : Rd w p la) (hq : Rd w q lb) :
    Calls Tryd.prog 22 #[.slice p la.length cp, .slice q lb.length cq] w (R2iPost w (cmpL la lb)) := by
  have HT := Lib.hid (rtwo_any p q cp cq la lb w hr hq)
  obtain ⟨code, hcode⟩ : ∃ code, code = twoC la lb := ⟨_, rfl⟩
  rw [← hcode] at HT
  unfold Tw4 at HT
  by_cases hz : code = 0
  · rw [hz] at hcode
    obtain ⟨⟨a1, a2⟩, _, vx, vy⟩ := two_len hcode.symm
    have hv : cmpL la lb = (condN (sumS (dNeg la) (dVal la) (!dNeg lb) (dVal lb)).1 (sumS (dNeg la) (dVal la) (!dNeg lb) (dVal lb)).2, 0) := by
      unfold cmpL
      rw [if_pos hcode.symm]
    have HV := Lib.hid hv
    have hlx := dgs_31 vx
    have hly := dgs_31 vy
    have hsl : (dgs (sumS (dNeg la) (dVal la) (!dNeg lb) (dVal lb)).2).length ≤ 32 := dgs_32 (sumS_lt (by omega))
    clear hv hcode vx vy hr hq
    generalize dNeg la = na at *
    generalize dNeg lb = nb at *
    generalize dVal la = x at *
    generalize dVal lb = y at *
    have HSU := Lib.hid (fun p1 q1 c1 d1 W h1 h2 => rsum_any na (!nb) p1 q1 c1 d1 x y W (by omega) (by omega) h1 h2)
    unfold NumP at HSU
    obtain ⟨S, hS⟩ : ∃ S, S = sumS na x (!nb) y := ⟨_, rfl⟩
    rw [← hS] at HSU HV hsl
    obtain ⟨ns, vs⟩ := S
    simp only at hsl
    have HSU2 : Hid (∀ p1 q1 c1 d1 W, SlI W p1 c1 (dgs x) → SlI W q1 d1 (dgs y) → Calls Tryd.prog 40 #[.agg #[.bool na, .slice p1 (dgs x).length c1], .agg #[.bool (!nb), .slice q1 (dgs y).length d1]] W (fun e w' => ∃ p c, e = .returned (.agg #[.bool ns, .slice p (dgs vs).length c]) ∧ SlI w' p c (dgs vs) ∧ Below W.heap.size W w')) := HSU
    have HRS := Lib.hid (fun p3 c3 W => code_any ns p3 c3 vs W)
    clear hS HSU hsl hlx hly
    generalize (dgs x).length = lx at *
    generalize (dgs y).length = ly at *
    generalize (dgs vs).length = lv at *
    go_enter Tryd.func22, Tryd.ntmps22
    go_wp2_with fail
    refine (HT.out).mono ?_
    rintro e w1 h
    rcases h with ⟨_, p1, c1, q1, d1, rfl, h1, h2, hb⟩ | ⟨hne, _⟩
    case inr => exact absurd hz hne
    have HB1 := Lib.hid (bel0 hb (below2 w1 (.cells #[.bool na, .slice p1 lx c1] 52) (.cells #[.bool (!nb), .slice q1 ly d1] 52)))
    have HX := Lib.hid (h1.below (below2 w1 (.cells #[.bool na, .slice p1 lx c1] 52) (.cells #[.bool (!nb), .slice q1 ly d1] 52)))
    have HY := Lib.hid (h2.below (below2 w1 (.cells #[.bool na, .slice p1 lx c1] 52) (.cells #[.bool (!nb), .slice q1 ly d1] 52)))
    clear hb h1 h2 HT
    go_wp2_with fail
    refine (HSU2.out _ _ _ _ _ HX.out HY.out).mono ?_
    rintro e w2 ⟨p3, c3, rfl, hs3, hb⟩
    have HB2 := Lib.hid (bel0 HB1.out hb)
    have HS3 := Lib.hid hs3
    clear hb hs3 HX HY HB1 HSU2
    go_wp2_with fail
    refine (HRS.out _ _ _).mono ?_
    rintro e w3 ⟨rfl, hb⟩
    have HB3 := Lib.hid (bel0 HB2.out hb)
    clear hb
    go_wp2
    go_ret2
    exact ⟨by rw [HV.out]; rfl, HB3.out⟩
  · have hv : cmpL la lb = (0, code) := by
      unfold cmpL
      rw [if_neg (by rw [← hcode]; exact hz), ← hcode]
    have HV := Lib.hid hv
    have hcz : ((code : Int) == 0) = false := by
      simp only [beq_eq_false_iff_ne, ne_eq]
      omega
    have HZ := Lib.hid hz
    clear hv hcode hr hq hz
    go_enter Tryd.func22, Tryd.ntmps22
    go_wp2_with fail
    refine (HT.out).mono ?_
    rintro e w1 h
    rcases h with ⟨h0, _⟩ | ⟨_, rfl, hb⟩
    · exact absurd h0 HZ.out
    have HB1 := Lib.hid (bel0 hb (below2 w1 (.cells #[.bool false, .slice none 0 0] 52) (.cells #[.bool false, .slice none 0 0] 52)))
    clear hb HT
    go_wp2
    go_ret2
    exact ⟨by rw [HV.out]; rfl, HB1.out⟩
set_option maxRecDepth 100000 in
set_option maxHeartbeats 4000000 in
theorem rzap_any (n : Int) (q : Option Addr) (cq : Nat) (lb : List UInt8) (w : World) (hq : Rd w q lb) :
    Calls Tryd.prog 18 #[.int .i64 n, .slice q lb.length cq] w (R3Post w (zapL n lb)) := by
  have HN := Lib.hid (fun W => size4_any n W)
  have HL := Lib.hid (fun W => size4_any (lb.length : Int) W)
  by_cases hn : 1 ≤ n ∧ n ≤ 16
  · rw [decide_eq_true hn] at HN
    by_cases hl : 1 ≤ lb.length ∧ lb.length ≤ 16
    · rw [decide_eq_true (by omega)] at HL
      have HO := Lib.hid (of_any q cq lb w hq)
      unfold OfPost at HO
      obtain ⟨m, rfl⟩ := Int.eq_ofNat_of_zero_le (show 0 ≤ n by omega)
      cases ho : dOk lb
      · have hv : zapL (m : Int) lb = ([], 0, 7) := by
          unfold zapL
          rw [if_pos hn, if_neg (by rw [opC7 hl ho]; omega), opC7 hl ho]
        have HV := Lib.hid hv
        rw [ho] at HO
        clear hv ho hl hn hq
        go_enter Tryd.func18, Tryd.ntmps18
        go_wp2_with fail
        refine (HN.out _).mono ?_
        rintro e w' ⟨rfl, rfl⟩
        go_wp2_with fail
        refine (HL.out _).mono ?_
        rintro e w' ⟨rfl, rfl⟩
        go_wp2_with fail
        refine (HO.out).mono ?_
        rintro e w1 ⟨p1, c1, rfl, h1, hb⟩
        have HB1 := Lib.hid (bel0 hb (below_new w1 (.cells #[.bool (dNeg lb), .slice p1 (dgs (dVal lb)).length c1] 52)))
        clear hb h1
        go_wp2
        go_ret3
        exact ⟨_, by rw [HV.out]; rfl, by rw [HV.out]; exact SvB.nil _, HB1.out⟩
      · have hv : zapL (m : Int) lb = resS (dNeg lb) (dVal lb) m := by
          unfold zapL
          rw [if_pos hn, if_pos (opC0 hl ho), Int.toNat_natCast]
        have HV := Lib.hid hv
        have hvl := two_len (two_ops0 (opC0 hl ho) (opC0 hl ho))
        have hly := dgs_31 hvl.2.2.1
        rw [ho] at HO
        have HRS := Lib.hid (fun p3 c3 W h => rresult_any (dNeg lb) p3 c3 (dVal lb) m W (by omega) (by omega) (by omega) h)
        unfold R3Post at HRS
        clear hv ho hl hn hq hvl hly
        generalize dNeg lb = nb at *
        generalize dVal lb = y at *
        generalize (dgs y).length = ly at *
        go_enter Tryd.func18, Tryd.ntmps18
        go_wp2_with fail
        refine (HN.out _).mono ?_
        rintro e w' ⟨rfl, rfl⟩
        go_wp2_with fail
        refine (HL.out _).mono ?_
        rintro e w' ⟨rfl, rfl⟩
        go_wp2_with fail
        refine (HO.out).mono ?_
        rintro e w1 ⟨p1, c1, rfl, h1, hb⟩
        have HB1 := Lib.hid (bel0 hb (below_new w1 (.cells #[.bool nb, .slice p1 ly c1] 52)))
        have HS1 := Lib.hid (h1.below (below_new w1 (.cells #[.bool nb, .slice p1 ly c1] 52)))
        clear hb h1
        go_wp2_with fail
        refine (HRS.out _ _ _ HS1.out).mono ?_
        rintro e w3 ⟨sv, rfl, hsv, hb⟩
        have HB3 := Lib.hid (bel0 HB1.out hb)
        have HSV := Lib.hid hsv
        clear hb hsv
        go_wp2
        go_ret3
        exact ⟨_, by rw [HV.out]; rfl, by rw [HV.out]; exact HSV.out, HB3.out⟩
    · rw [decide_eq_false (by omega)] at HL
      have hv : zapL n lb = ([], 0, 6) := by
        unfold zapL
        rw [if_pos hn, if_neg (by rw [opC6.2 hl]; omega), opC6.2 hl]
      have HV := Lib.hid hv
      clear hv hl hn hq
      generalize lb.length = nl at *
      go_enter Tryd.func18, Tryd.ntmps18
      go_wp2_with fail
      refine (HN.out _).mono ?_
      rintro e w' ⟨rfl, rfl⟩
      go_wp2_with fail
      refine (HL.out _).mono ?_
      rintro e w' ⟨rfl, rfl⟩
      go_wp2
      go_ret3
      exact ⟨_, by rw [HV.out]; rfl, by rw [HV.out]; exact SvB.nil _, Below.refl _ _⟩
  · rw [decide_eq_false hn] at HN
    have hv : zapL n lb = ([], 0, 6) := by
      unfold zapL
      rw [if_neg hn]
    have HV := Lib.hid hv
    clear hv hn hq HL
    generalize lb.length = nl at *
    go_enter Tryd.func18, Tryd.ntmps18
    go_wp2_with fail
    refine (HN.out _).mono ?_
    rintro e w' ⟨rfl, rfl⟩
    go_wp2
    go_ret3
    exact ⟨_, by rw [HV.out]; rfl, by rw [HV.out]; exact SvB.nil _, Below.refl _ _⟩

end E
end Go.Proofs.YtlpekknhaaddcaaDoor

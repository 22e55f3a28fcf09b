/- The program: what replaces the first operand; both operands. -/
import Derived.Test.YtbcncohjjnmdcaaGreatDoorRows
import Derived.Test.YtbcncohjjnmdcaaGreatDoorDcField
import Derived.Test.YtbcncohjjnmdcaaGreatDoorDpFetch
namespace Go.Proofs.YtbcncohjjnmdcaaGreatDoor
namespace E
end E
open Go.RowKit Go.Shelf E
set_option linter.unusedVariables false
namespace M

theorem ex_u8 (A : Nat) (q : Qn) (R : Nat → Int) (p : Psw) (c : Int) (i : Nat) (x : Int) : (exA A q R p c)[i]? ≠ some (.int .u8 x) := by
  intro e
  have h := Array.mem_of_getElem? e
  simp [exA] at h
theorem svb_ex {w : World} {E A : Nat} {q : Qn} {R : Nat → Int} {p : Psw} {c : Int} (hx : Ex w E A q R p c) {v : Value} {b : List UInt8} (hv : SvB w v b) (i : Nat) (u : Value) : SvB (w.setCell ⟨E, i, none⟩ u) v b := by
  obtain ⟨a, k, h1, h2, h3⟩ := hv
  refine ⟨a, k, h1, ?_, h3⟩
  rcases h2 with h2 | ⟨B, off, rfl, hc⟩
  · exact .inl h2
  · by_cases h0 : b.length = 0
    · exact .inl (List.length_eq_zero_iff.1 h0)
    · refine .inr ⟨B, off, rfl, fun j hj => ?_⟩
      have hne : B ≠ E := fun e => by
        have h5 := hc 0 (by omega)
        rw [e, Bx.cell hx] at h5
        exact ex_u8 A q R p c _ _ h5
      rw [← hc j hj]
      have h6 := heap_setCell_other w ⟨E, i, none⟩ B u (fun e => hne (by simpa using e))
      simp only [World.cell?, h6]
/-- What replacing leaves. -/
def PutPost2 (w : World) (E A : Nat) (q : Qn) (R : Nat → Int) (p : Psw) (g h n m : Nat) (bs ks : List UInt8) (c : Int) (a : Nat) (b : List UInt8) (C : Int) (e : Ending) (w' : World) : Prop := ((C = 0 ∧ e = .returned (.tuple #[])) ∨ (C ≠ 0 ∧ e = Stop C)) ∧ Ex w' E A q R p c ∧ Sto w' A g h n m (if C = 0 then putL bs a b else bs) ks ∧ Kp w w' [g]
set_option maxRecDepth 100000 in
set_option maxHeartbeats 1000000 in
theorem replace_post (E A : Nat) (q : Qn) (R : Nat → Int) (p : Psw) (g h n m : Nat) (bs ks : List UInt8) (c : Int) (v : Value) (b : List UInt8) (C : Int) (w : World) (hx : Ex w E A q R p c) (hs : Sto w A g h n m bs ks) (hv : SvB w v b) (hR : RegOk R) (hq : QOk q) (hc : stC p n ks (adF q R) b.length = C) : Calls Tryz.prog 100 #[.pointer (some ⟨E, 0, none⟩), v] w (PutPost2 w E A q R p g h n m bs ks c (adF q R) b C) := by
  unfold PutPost2
  have HF := Lib.hid (first_any E A q R p c w hx hR hq)
  have HP : Hid (∀ W, Below w.heap.size w W → Calls Tryz.prog 97 #[.pointer (some ⟨E, 0, none⟩), .int .i64 (adF q R : Int), v] W fun e w' => ((C = 0 ∧ e = .returned (.tuple #[])) ∨ (C ≠ 0 ∧ e = Stop C)) ∧ Ex w' E A q R p c ∧ Sto w' A g h n m (if C = 0 then putL bs (adF q R) b else bs) ks ∧ Kp w w' [g]) := Lib.hid (fun W hb => (put_post E A q R p c g h n m bs ks (adF q R) v b C W (hx.below hb) (hs.below hb) (hv.below hb) (by have := adF_lt q R; omega) hc).mono (fun e w' h => ⟨h.1, h.2.1, h.2.2.1, (Kp.bel hb).trans h.2.2.2⟩))
  clear hx hs hv hR hq hc
  generalize (if C = 0 then putL bs (adF q R) b else bs) = bs' at HP ⊢
  generalize adF q R = a1 at HF HP
  generalize q.l1 + 1 = k1 at HF
  go_enter Tryz.func100, Tryz.ntmps100
  go_wp2_with fail
  refine HF.out.mono ?_
  rintro e w1 ⟨rfl, hb⟩
  have HQ := Lib.hid (HP.out w1 hb)
  clear hb HP HF
  go_wp2_with fail
  refine HQ.out.mono ?_
  rintro e w2 ⟨hE, h2⟩
  have H2 := Lib.hid h2
  clear h2 HQ
  rcases hE with ⟨hC, rfl⟩ | ⟨hC, rfl⟩
  · go_wp2
    go_end0
    exact ⟨.inl ⟨hC, rfl⟩, H2.out⟩
  · unfold Stop
    go_wp2
    exact ⟨rfl, .inr ⟨hC, rfl⟩, H2.out⟩
/-- Both operands, or a code. -/
def OpsPost (w : World) (C : Int) (x y : List UInt8) (e : Ending) (w' : World) : Prop := Below w.heap.size w w' ∧ ((C = 0 ∧ ∃ s t, e = .returned (.tuple #[s, t]) ∧ SvB w' s x ∧ SvB w' t y) ∨ (C ≠ 0 ∧ e = Stop C))
theorem fX {E A : Nat} {q : Qn} {R : Nat → Int} {p : Psw} {c : Int} {g h n m : Nat} {bs ks : List UInt8} {w : World} (hx : Ex w E A q R p c) (hs : Sto w A g h n m bs ks) : ∀ W, Below w.heap.size w W → Calls Tryz.prog 94 #[.pointer (some ⟨E, 0, none⟩), .int .i64 (adF q R : Int), .int .i64 ((q.l1 + 1 : Nat) : Int)] W (FchPost W (cX q R p n ks) (opX q R bs)) := fun W hb => fetch_post E A q R p c g h n m bs ks (adF q R) (q.l1 + 1) _ W (hx.below hb) (hs.below hb) (by have := adF_lt q R; omega) rfl
theorem fY {E A : Nat} {q : Qn} {R : Nat → Int} {p : Psw} {c : Int} {g h n m : Nat} {bs ks : List UInt8} {w : World} (hx : Ex w E A q R p c) (hs : Sto w A g h n m bs ks) : ∀ W, Below w.heap.size w W → Calls Tryz.prog 94 #[.pointer (some ⟨E, 0, none⟩), .int .i64 (adT q R : Int), .int .i64 ((q.l2 + 1 : Nat) : Int)] W (FchPost W (cY q R p n ks) (opY q R bs)) := fun W hb => fetch_post E A q R p c g h n m bs ks (adT q R) (q.l2 + 1) _ W (hx.below hb) (hs.below hb) (by have := adT_lt q R; omega) rfl
set_option maxRecDepth 100000 in
set_option maxHeartbeats 1000000 in
theorem operands_post (E A : Nat) (q : Qn) (R : Nat → Int) (p : Psw) (g h n m : Nat) (bs ks : List UInt8) (c : Int) (w : World) (hx : Ex w E A q R p c) (hs : Sto w A g h n m bs ks) (hR : RegOk R) (hq : QOk q) : Calls Tryz.prog 105 #[.pointer (some ⟨E, 0, none⟩)] w (OpsPost w (cXY q R p n ks) (opX q R bs) (opY q R bs)) := by
  unfold OpsPost cXY
  have HF := Lib.hid (fun W (hb : Below w.heap.size w W) => first_any E A q R p c W (hx.below hb) hR hq)
  have HS := Lib.hid (fun W (hb : Below w.heap.size w W) => second_any E A q R p c W (hx.below hb) hR hq)
  have H1 := Lib.hid (fX hx hs)
  have H2 := Lib.hid (fY hx hs)
  clear hx hs hR hq
  generalize opX q R bs = x at H1 ⊢
  generalize opY q R bs = y at H2 ⊢
  generalize cX q R p n ks = C1 at H1 ⊢
  generalize cY q R p n ks = C2 at H2 ⊢
  generalize adF q R = a1 at HF H1
  generalize adT q R = a2 at HS H2
  generalize q.l1 + 1 = k1 at HF H1
  generalize q.l2 + 1 = k2 at HS H2
  by_cases hC1 : C1 = 0
  · rw [if_pos hC1]
    go_enter Tryz.func105, Tryz.ntmps105
    go_wp2_with fail
    refine (HF.out _ (Below.refl _ _)).mono ?_
    rintro e w1 ⟨rfl, hb⟩
    have HB1 := Lib.hid hb
    clear hb HF
    go_wp2_with fail
    refine (H1.out _ HB1.out).mono ?_
    rintro e w2 ⟨hb, hE⟩
    have HB2 := Lib.hid (bel0 HB1.out hb)
    clear hb HB1 H1
    rcases hE with ⟨_, sx, rfl, hv⟩ | ⟨h, _⟩
    rotate_left
    · exact absurd hC1 h
    have HV := Lib.hid hv
    clear hv
    go_wp2_with fail
    refine (HS.out _ HB2.out).mono ?_
    rintro e w3 ⟨rfl, hb⟩
    have HB3 := Lib.hid (bel0 HB2.out hb)
    have HV3 := Lib.hid (HV.out.below hb)
    clear hb HB2 HS HV
    go_wp2_with fail
    refine (H2.out _ HB3.out).mono ?_
    rintro e w4 ⟨hb, hE⟩
    have HB4 := Lib.hid (bel0 HB3.out hb)
    have HV4 := Lib.hid (HV3.out.below hb)
    clear hb HB3 H2 HV3
    rcases hE with ⟨hC2, sy, rfl, hv⟩ | ⟨hC2, rfl⟩
    · have HY := Lib.hid hv
      clear hv
      go_wp2
      refine bodyPost_ret (results_tt rfl rfl rfl) rfl ?_
      exact ⟨HB4.out, .inl ⟨hC2, sx, sy, rfl, HV4.out, HY.out⟩⟩
    · unfold Stop
      go_wp2
      exact ⟨rfl, HB4.out, .inr ⟨hC2, rfl⟩⟩
  · rw [if_neg hC1]
    go_enter Tryz.func105, Tryz.ntmps105
    go_wp2_with fail
    refine (HF.out _ (Below.refl _ _)).mono ?_
    rintro e w1 ⟨rfl, hb⟩
    have HB1 := Lib.hid hb
    clear hb HF
    go_wp2_with fail
    refine (H1.out _ HB1.out).mono ?_
    rintro e w2 ⟨hb, hE⟩
    have HB2 := Lib.hid (bel0 HB1.out hb)
    clear hb HB1 H1
    rcases hE with ⟨h, _⟩ | ⟨_, rfl⟩
    · exact absurd h hC1
    · clear HS H2
      unfold Stop
      go_wp2
      exact ⟨rfl, HB2.out, .inr ⟨hC1, rfl⟩⟩
set_option maxRecDepth 100000 in
set_option maxHeartbeats 2000000 in
theorem become_ten (E A : Nat) (q : Qn) (R : Nat → Int) (p : Psw) (g h n m : Nat) (bs ks : List UInt8) (field : Value) (l : List UInt8) (cc : Int) (w : World) (hx : Ex w E A q R p 0) (hs : Sto w A g h n m bs ks) (hv : SvB w field l) (hR0 : RegOk R) (hq0 : QOk q) : Calls Tryz.prog 106 #[.pointer (some ⟨E, 0, none⟩), field, .int .i64 cc, .int .i64 10] w (ActPost w E A g h n m q bs ks (becO q R p n bs ks l cc 10)) := by
  have hR := Lib.hid hR0
  have hq := Lib.hid hq0
  have c0 := hx.pm
  have c1 := hx.pk
  have c2 := hx.pma
  have c3 := hx.pwa
  have c4 := hx.ppr
  have c5 := hx.pco
  have c6 := hx.pil
  have c7 := hx.pcc
  have c8 := hx.ppg
  have c9 := hx.pad
  have HA : Hid (∀ W, Calls Tryz.prog 160 #[.agg #[.int .i64 p.m, .int .i64 p.k, .bool p.ma, .bool p.wa, .bool p.pr, .int .i64 p.co, .int .i64 p.il, .int .i64 p.cc, .int .i64 p.pg, .int .i64 p.ad], .int .i64 3, .int .i64 10, .int .i64 0] W (New W (.bool (adB p 3 10 0)))) := Lib.hid (fun W => adm_any _ 3 10 0 W)
  obtain ⟨v1, v2, v3⟩ := hx.ne_sto hs
  have HNE := Lib.hid (And.intro v1 (And.intro v2 v3))
  have HX0 := Lib.hid hx
  have HS0 := Lib.hid hs
  have HV0 := Lib.hid hv
  have HO0 : Hid (becO q R p n bs ks l cc 10 = putO p n bs ks (adF q R) R { p with cc := cc } (if adB p 3 10 0 = true then 10 else 0) l) := Lib.hid (by
    unfold becO enC ovC
    rw [if_pos rfl, thenO_go _ rfl]
    simp)
  clear hx hs hv hR0 hq0 v1 v2 v3
  generalize adB p 3 10 0 = B at HA HO0
  go_enter Tryz.func106, Tryz.ntmps106
  go_wp2_with fail
  refine (HA.out _).mono ?_
  clear HA
  rintro e w1 ⟨rfl, hb⟩
  have HX1 := Lib.hid (HX0.out.below hb)
  have HS1 := Lib.hid (HS0.out.below hb)
  have HV1 := Lib.hid (HV0.out.below hb)
  have HK1 : Hid (Kp w w1 [E, g]) := Lib.hid (Kp.bel hb)
  clear hb c0 c1 c2 c3 c4 c5 c6 c7 c8 c9 HX0 HS0 HV0
  cases B with
  | false =>
    have HO := HO0
    rw [if_neg (by simp)] at HO
    have HX := HX1
    have HS := HS1
    have HV := HV1
    have HK := HK1
    clear HO0 HX1 HS1 HV1 HK1 HNE
    obtain ⟨t1, t2, t3⟩ := HX.out.ne_sto HS.out
    have HP := Lib.hid (replace_post E A q R p g h n m bs ks 0 field l (stC p n ks (adF q R) l.length) _ HX.out HS.out HV.out hR.out hq.out rfl)
    have HFIN : Hid (∀ w2, Ex w2 E A q R p 0 → Sto w2 A g h n m (putL bs (adF q R) l) ks → Kp w1 w2 [g] → stC p n ks (adF q R) l.length = 0 → w2.cell? ⟨E, 35, none⟩ = some (.int .i64 p.cc) ∧ w2.frozen? ⟨E, 35, none⟩ = false ∧ ActPost w E A g h n m q bs ks (becO q R p n bs ks l cc 10) (.returned (.tuple #[])) (w2.setCell ⟨E, 35, none⟩ (.int .i64 cc))) := Lib.hid (fun w2 hx2 hs2 hk2 h0 => by
      rw [HO.out]
      unfold putO
      rw [thenO_go _ h0]
      exact ⟨hx2.pcc, hx2.fz 35, rfl, hx2.setCc cc, Sto.far hs2 t1 t2 t3 _, (HK.out.trans (Kp.more2 hk2)).trans (kp_set _ _ _ _ _ (by simp))⟩)
    have HBAD : Hid (∀ w2, Sto w2 A g h n m bs ks → Kp w1 w2 [g] → stC p n ks (adF q R) l.length ≠ 0 → ActPost w E A g h n m q bs ks (becO q R p n bs ks l cc 10) (Stop (stC p n ks (adF q R) l.length)) w2) := Lib.hid (fun w2 hs2 hk2 h0 => by
      rw [HO.out]
      unfold putO
      rw [thenO_stop _ h0]
      exact ⟨rfl, hs2, HK.out.trans (Kp.more2 hk2)⟩)
    clear t1 t2 t3 HX HS HV HK HO hR hq
    generalize stC p n ks (adF q R) l.length = C at HP HFIN HBAD
    generalize adF q R = a1 at HP HFIN
    go_wp2_with fail
    refine HP.out.mono ?_
    rintro e w9 ⟨hE, hx9, hs9, hk9⟩
    rcases hE with ⟨hC, rfl⟩ | ⟨hC, rfl⟩
    · rw [if_pos hC] at hs9
      obtain ⟨z1, z2, z3⟩ := HFIN.out w9 hx9 hs9 hk9 hC
      have HZ := Lib.hid z3
      clear hx9 hs9 hk9 z3 HFIN HBAD HP hC
      go_wp2
      go_end0
      exact HZ.out
    · rw [if_neg hC] at hs9
      have HZ := Lib.hid (HBAD.out w9 hs9 hk9 hC)
      clear hx9 hs9 hk9 HFIN HBAD HP
      unfold Stop at HZ ⊢
      go_wp2
      exact ⟨rfl, HZ.out⟩
  | true =>
    have HO := HO0
    rw [if_pos rfl] at HO
    have d1 := HX1.out.cd
    have d2 := HX1.out.fz 39
    obtain ⟨w3, hw3⟩ : ∃ w3, w3 = w1.setCell ⟨E, 39, none⟩ (.int .i64 10) := ⟨_, rfl⟩
    have HX : Hid (Ex w3 E A q R p 10) := Lib.hid (by rw [hw3]; exact HX1.out.setCd 10)
    have HS : Hid (Sto w3 A g h n m bs ks) := Lib.hid (by rw [hw3]; exact Sto.far HS1.out HNE.out.1 HNE.out.2.1 HNE.out.2.2 _)
    have HV : Hid (SvB w3 field l) := Lib.hid (by rw [hw3]; exact svb_ex HX1.out HV1.out 39 _)
    have HK : Hid (Kp w w3 [E, g]) := Lib.hid (by rw [hw3]; exact HK1.out.trans (kp_set _ _ _ _ _ (by simp)))
    have HW := Lib.hid hw3
    clear HO0 HX1 HS1 HV1 HK1 HNE hw3
    go_wp2_with fail
    rw [← HW.out]
    clear HW d1 d2
    obtain ⟨t1, t2, t3⟩ := HX.out.ne_sto HS.out
    have HP := Lib.hid (replace_post E A q R p g h n m bs ks 10 field l (stC p n ks (adF q R) l.length) _ HX.out HS.out HV.out hR.out hq.out rfl)
    have HFIN : Hid (∀ w2, Ex w2 E A q R p 10 → Sto w2 A g h n m (putL bs (adF q R) l) ks → Kp w3 w2 [g] → stC p n ks (adF q R) l.length = 0 → w2.cell? ⟨E, 35, none⟩ = some (.int .i64 p.cc) ∧ w2.frozen? ⟨E, 35, none⟩ = false ∧ ActPost w E A g h n m q bs ks (becO q R p n bs ks l cc 10) (.returned (.tuple #[])) (w2.setCell ⟨E, 35, none⟩ (.int .i64 cc))) := Lib.hid (fun w2 hx2 hs2 hk2 h0 => by
      rw [HO.out]
      unfold putO
      rw [thenO_go _ h0]
      exact ⟨hx2.pcc, hx2.fz 35, rfl, hx2.setCc cc, Sto.far hs2 t1 t2 t3 _, (HK.out.trans (Kp.more2 hk2)).trans (kp_set _ _ _ _ _ (by simp))⟩)
    have HBAD : Hid (∀ w2, Sto w2 A g h n m bs ks → Kp w3 w2 [g] → stC p n ks (adF q R) l.length ≠ 0 → ActPost w E A g h n m q bs ks (becO q R p n bs ks l cc 10) (Stop (stC p n ks (adF q R) l.length)) w2) := Lib.hid (fun w2 hs2 hk2 h0 => by
      rw [HO.out]
      unfold putO
      rw [thenO_stop _ h0]
      exact ⟨rfl, hs2, HK.out.trans (Kp.more2 hk2)⟩)
    clear t1 t2 t3 HX HS HV HK HO hR hq
    generalize stC p n ks (adF q R) l.length = C at HP HFIN HBAD
    generalize adF q R = a1 at HP HFIN
    go_wp2_with fail
    refine HP.out.mono ?_
    rintro e w9 ⟨hE, hx9, hs9, hk9⟩
    rcases hE with ⟨hC, rfl⟩ | ⟨hC, rfl⟩
    · rw [if_pos hC] at hs9
      obtain ⟨z1, z2, z3⟩ := HFIN.out w9 hx9 hs9 hk9 hC
      have HZ := Lib.hid z3
      clear hx9 hs9 hk9 z3 HFIN HBAD HP hC
      go_wp2
      go_end0
      exact HZ.out
    · rw [if_neg hC] at hs9
      have HZ := Lib.hid (HBAD.out w9 hs9 hk9 hC)
      clear hx9 hs9 hk9 HFIN HBAD HP
      unfold Stop at HZ ⊢
      go_wp2
      exact ⟨rfl, HZ.out⟩
set_option maxRecDepth 100000 in
set_option maxHeartbeats 2000000 in
theorem become_not (E A : Nat) (q : Qn) (R : Nat → Int) (p : Psw) (g h n m : Nat) (bs ks : List UInt8) (field : Value) (l : List UInt8) (cc code : Int) (h10 : code ≠ 10) (w : World) (hx : Ex w E A q R p 0) (hs : Sto w A g h n m bs ks) (hv : SvB w field l) (hR0 : RegOk R) (hq0 : QOk q) : Calls Tryz.prog 106 #[.pointer (some ⟨E, 0, none⟩), field, .int .i64 cc, .int .i64 code] w (ActPost w E A g h n m q bs ks (becO q R p n bs ks l cc code)) := by
  have hR := Lib.hid hR0
  have hq := Lib.hid hq0
  have n10 : (code != 10) = true := by simpa using h10
  have m10 : (code == 10) = false := by simpa using h10
  have HY := Lib.hid endOn_yes
  have HN := Lib.hid (endOn_no code)
  by_cases h0 : code = 0
  · subst h0
    have HX := Lib.hid hx
    have HS := Lib.hid hs
    have HV := Lib.hid hv
    have HK := Lib.hid (Kp.refl w [E, g])
    have HO : Hid (becO q R p n bs ks l cc 0 = putO p n bs ks (adF q R) R { p with cc := cc } 0 l) := Lib.hid (by
      unfold becO enC ovC
      rw [if_neg (by decide), thenO_go _ rfl, if_neg (by simp)])
    clear hx hs hv hR0 hq0 HN
    go_enter Tryz.func106, Tryz.ntmps106
    go_wp2_with fail
    refine (HY.out _).mono ?_
    rintro e w1 ⟨rfl, rfl⟩
    clear HY
    obtain ⟨t1, t2, t3⟩ := HX.out.ne_sto HS.out
    have HP := Lib.hid (replace_post E A q R p g h n m bs ks 0 field l (stC p n ks (adF q R) l.length) _ HX.out HS.out HV.out hR.out hq.out rfl)
    have HFIN : Hid (∀ w2, Ex w2 E A q R p 0 → Sto w2 A g h n m (putL bs (adF q R) l) ks → Kp w w2 [g] → stC p n ks (adF q R) l.length = 0 → w2.cell? ⟨E, 35, none⟩ = some (.int .i64 p.cc) ∧ w2.frozen? ⟨E, 35, none⟩ = false ∧ ActPost w E A g h n m q bs ks (becO q R p n bs ks l cc 0) (.returned (.tuple #[])) (w2.setCell ⟨E, 35, none⟩ (.int .i64 cc))) := Lib.hid (fun w2 hx2 hs2 hk2 h0 => by
      rw [HO.out]
      unfold putO
      rw [thenO_go _ h0]
      exact ⟨hx2.pcc, hx2.fz 35, rfl, hx2.setCc cc, Sto.far hs2 t1 t2 t3 _, (HK.out.trans (Kp.more2 hk2)).trans (kp_set _ _ _ _ _ (by simp))⟩)
    have HBAD : Hid (∀ w2, Sto w2 A g h n m bs ks → Kp w w2 [g] → stC p n ks (adF q R) l.length ≠ 0 → ActPost w E A g h n m q bs ks (becO q R p n bs ks l cc 0) (Stop (stC p n ks (adF q R) l.length)) w2) := Lib.hid (fun w2 hs2 hk2 h0 => by
      rw [HO.out]
      unfold putO
      rw [thenO_stop _ h0]
      exact ⟨rfl, hs2, HK.out.trans (Kp.more2 hk2)⟩)
    clear t1 t2 t3 HX HS HV HK HO hR hq
    generalize stC p n ks (adF q R) l.length = C at HP HFIN HBAD
    generalize adF q R = a1 at HP HFIN
    go_wp2_with fail
    refine HP.out.mono ?_
    rintro e w9 ⟨hE, hx9, hs9, hk9⟩
    rcases hE with ⟨hC, rfl⟩ | ⟨hC, rfl⟩
    · rw [if_pos hC] at hs9
      obtain ⟨z1, z2, z3⟩ := HFIN.out w9 hx9 hs9 hk9 hC
      have HZ := Lib.hid z3
      clear hx9 hs9 hk9 z3 HFIN HBAD HP hC
      go_wp2
      go_end0
      exact HZ.out
    · rw [if_neg hC] at hs9
      have HZ := Lib.hid (HBAD.out w9 hs9 hk9 hC)
      clear hx9 hs9 hk9 HFIN HBAD HP
      unfold Stop at HZ ⊢
      go_wp2
      exact ⟨rfl, HZ.out⟩
  · have HO : Hid (ActPost w E A g h n m q bs ks (becO q R p n bs ks l cc code) (Stop code) w) := Lib.hid (by
      unfold becO enC
      rw [if_neg h10, thenO_stop _ h0]
      exact ⟨rfl, hs, Kp.refl w _⟩)
    clear hx hs hv hR0 hq0 HY hR hq
    generalize becO q R p n bs ks l cc code = o at HO ⊢
    go_enter Tryz.func106, Tryz.ntmps106
    go_wp2_with fail
    refine (HN.out _ h0).mono ?_
    rintro e w1 ⟨rfl, rfl⟩
    unfold Stop at HO ⊢
    go_wp2
    exact ⟨rfl, HO.out⟩
theorem become_post (E A : Nat) (q : Qn) (R : Nat → Int) (p : Psw) (g h n m : Nat) (bs ks : List UInt8) (field : Value) (l : List UInt8) (cc code : Int) (w : World) (hx : Ex w E A q R p 0) (hs : Sto w A g h n m bs ks) (hv : SvB w field l) (hR : RegOk R) (hq : QOk q) : Calls Tryz.prog 106 #[.pointer (some ⟨E, 0, none⟩), field, .int .i64 cc, .int .i64 code] w (ActPost w E A g h n m q bs ks (becO q R p n bs ks l cc code)) := by
  by_cases h10 : code = 10
  · subst h10
    exact become_ten E A q R p g h n m bs ks field l cc w hx hs hv hR hq
  · exact become_not E A q R p g h n m bs ks field l cc code h10 w hx hs hv hR hq

end M
end Go.Proofs.YtbcncohjjnmdcaaGreatDoor

/- The program: ZAP, CP, MVO, MP and DP. -/
import Derived.Test.YtbcncohjjnmdcaaGreatDoorRows
import Derived.Test.YtbcncohjjnmdcaaGreatDoorDpV
namespace Go.Proofs.YtbcncohjjnmdcaaGreatDoor
namespace E
end E
open Go.RowKit Go.Shelf E
set_option linter.unusedVariables false
namespace M

/-- What ZAP comes to. -/
def zapR (q : Qn) (R : Nat → Int) (bs : List UInt8) : List UInt8 × Nat × Nat := zapL ((q.l1 + 1 : Nat) : Int) (opY q R bs)
def zapO (q : Qn) (R : Nat → Int) (p : Psw) (n : Nat) (bs ks : List UInt8) : Out := thenO (cY q R p n ks) (becO q R p n bs ks (zapR q R bs).1 ((zapR q R bs).2.1 : Int) ((zapR q R bs).2.2 : Int))
set_option maxRecDepth 100000 in
set_option maxHeartbeats 1000000 in
theorem zeroAndAdd_act (E A : Nat) (q : Qn) (R : Nat → Int) (p : Psw) (g h n m : Nat) (bs ks : List UInt8) (w : World) (hx : Ex w E A q R p 0) (hs : Sto w A g h n m bs ks) (hg : Sg w) (hR : RegOk R) (hq : QOk q) : Calls Tryz.prog 49 #[.pointer (some ⟨E, 0, none⟩)] w (ActPost w E A g h n m q bs ks (zapO q R p n bs ks)) := by
  have HF := Lib.hid (first_any E A q R p 0 w hx hR hq)
  have HS := Lib.hid (fun W (hb : Below w.heap.size w W) => second_any E A q R p 0 W (hx.below hb) hR hq)
  have H2 := Lib.hid (fY hx hs)
  have HM : Hid (∀ W sv, Below w.heap.size w W → SvB W sv (opY q R bs) → Calls Tryz.prog 107 #[.int .i64 ((q.l1 + 1 : Nat) : Int), sv] W (R3Post W (zapR q R bs))) := Lib.hid (fun W sv hb h1 => by
    obtain ⟨a, k, rfl, r1, _⟩ := h1
    exact pzap_any _ a k _ W r1 (hg.below hb))
  have HP : Hid (cY q R p n ks = 0 → ∀ W sv, Below w.heap.size w W → SvB W sv (zapR q R bs).1 → Calls Tryz.prog 106 #[.pointer (some ⟨E, 0, none⟩), sv, .int .i64 ((zapR q R bs).2.1 : Int), .int .i64 ((zapR q R bs).2.2 : Int)] W (ActPost w E A g h n m q bs ks (zapO q R p n bs ks))) := Lib.hid (fun hC W sv hb hv => by
    unfold zapO
    rw [thenO_go _ hC]
    exact (become_post E A q R p g h n m bs ks sv _ _ _ W (hx.below hb) (hs.below hb) hv hR hq).mono (fun e w' hp => act_below hb hp))
  have HST := Lib.hid (fun W (hb : Below w.heap.size w W) (hC : cY q R p n ks ≠ 0) => (show ActPost w E A g h n m q bs ks (zapO q R p n bs ks) (Stop (cY q R p n ks)) W from act_stop (E := E) q _ hs hb hC))
  clear hx hs hR hq hg
  unfold R3Post at HM
  generalize zapO q R p n bs ks = o at HP HST ⊢
  generalize zapR q R bs = r at HM HP
  generalize r.1 = l at HM HP
  generalize (r.2.1 : Int) = cc at HM HP
  generalize (r.2.2 : Int) = code at HM HP
  generalize opY q R bs = y at H2 HM
  generalize cY q R p n ks = C at H2 HP HST
  generalize adF q R = a1 at HF
  generalize adT q R = a2 at HS H2
  generalize q.l1 + 1 = k1 at HF HM
  generalize q.l2 + 1 = k2 at HS H2
  go_enter Tryz.func49, Tryz.ntmps49
  go_wp2_with fail
  refine HF.out.mono ?_
  rintro e w1 ⟨rfl, hb⟩
  have HB1 := Lib.hid hb
  clear hb HF
  go_wp2_with fail
  refine (HS.out _ HB1.out).mono ?_
  rintro e w2 ⟨rfl, hb⟩
  have HB2 := Lib.hid (bel0 HB1.out hb)
  clear hb HS HB1
  go_wp2_with fail
  refine (H2.out _ HB2.out).mono ?_
  rintro e w3 ⟨hb, hE⟩
  have HB3 := Lib.hid (bel0 HB2.out hb)
  clear hb H2 HB2
  rcases hE with ⟨hC, sv, rfl, hv⟩ | ⟨hC, rfl⟩
  · have HM1 := Lib.hid (HM.out w3 sv HB3.out hv)
    have HP := Lib.hid (HP.out hC)
    clear hv HM HST hC
    go_wp2_with fail
    refine HM1.out.mono ?_
    rintro e w4 ⟨s4, rfl, hv, hb⟩
    have HBC := Lib.hid (HP.out w4 s4 (bel0 HB3.out hb) hv)
    clear hv hb HB3 HP HM1
    go_wp2_with fail
    refine HBC.out.mono ?_
    intro e w9 hp
    have HP := Lib.hid hp
    rcases act_cases hp with rfl | ⟨C9, rfl⟩
    · clear hp
      go_wp2
      go_end0
      exact HP.out
    · clear hp
      unfold Stop at HP ⊢
      go_wp2
      exact ⟨rfl, HP.out⟩
  · have HZ := Lib.hid (HST.out w3 HB3.out hC)
    clear HB3 HP HM HST
    unfold Stop at HZ ⊢
    go_wp2
    exact ⟨rfl, HZ.out⟩
/-- What MVO comes to. -/
def mvoR (q : Qn) (R : Nat → Int) (bs : List UInt8) : List UInt8 := mvL (szB (opX q R bs).length ((opY q R bs).length : Int)) (offL (opX q R bs) (opY q R bs))
def mvoO (q : Qn) (R : Nat → Int) (p : Psw) (n : Nat) (bs ks : List UInt8) : Out := thenO (cXY q R p n ks) (putO p n bs ks (adF q R) R p 0 (mvoR q R bs))
set_option maxRecDepth 100000 in
set_option maxHeartbeats 1000000 in
theorem moveOffset_act (E A : Nat) (q : Qn) (R : Nat → Int) (p : Psw) (g h n m : Nat) (bs ks : List UInt8) (w : World) (hx : Ex w E A q R p 0) (hs : Sto w A g h n m bs ks) (hR : RegOk R) (hq : QOk q) : Calls Tryz.prog 48 #[.pointer (some ⟨E, 0, none⟩)] w (ActPost w E A g h n m q bs ks (mvoO q R p n bs ks)) := by
  have HO := Lib.hid (operands_post E A q R p g h n m bs ks 0 w hx hs hR hq)
  have HM : Hid (∀ W s t, SvB W s (opX q R bs) → SvB W t (opY q R bs) → Calls Tryz.prog 104 #[s, t] W fun e W' => ∃ z, e = .returned z ∧ SvB W' z (mvoR q R bs) ∧ Below W.heap.size W W') := Lib.hid (fun W s t h1 h2 => by
    obtain ⟨a, k, rfl, r1, _⟩ := h1
    obtain ⟨b, k2, rfl, r2, _⟩ := h2
    refine (offset_any a b k k2 _ _ W r1 r2).mono (fun e W' hp => ?_)
    exact mv_sv hp (fun h0 => by have := sz_two h0; rw [offL_len]; omega))
  have HP : Hid (cXY q R p n ks = 0 → ∀ W sv, Below w.heap.size w W → SvB W sv (mvoR q R bs) → Calls Tryz.prog 100 #[.pointer (some ⟨E, 0, none⟩), sv] W (ActPost w E A g h n m q bs ks (mvoO q R p n bs ks))) := Lib.hid (fun hC W sv hb hv => by
    unfold mvoO
    rw [thenO_go _ hC]
    exact (replace_post E A q R p g h n m bs ks 0 sv _ _ W (hx.below hb) (hs.below hb) hv hR hq rfl).mono (fun e w' hp => act_put hb rfl hp))
  have HST := Lib.hid (fun W (hb : Below w.heap.size w W) (hC : cXY q R p n ks ≠ 0) => (show ActPost w E A g h n m q bs ks (mvoO q R p n bs ks) (Stop (cXY q R p n ks)) W from act_stop (E := E) q _ hs hb hC))
  clear hx hs hR hq
  generalize mvoO q R p n bs ks = o at HP HST ⊢
  generalize mvoR q R bs = r at HM HP
  generalize opX q R bs = x at HO HM
  generalize opY q R bs = y at HO HM
  generalize cXY q R p n ks = C at HO HP HST
  go_enter Tryz.func48, Tryz.ntmps48
  go_wp2_with fail
  refine HO.out.mono ?_
  rintro e w1 ⟨hb, hE⟩
  have HB1 := Lib.hid hb
  clear hb HO
  rcases hE with ⟨hC, s, t, rfl, h1, h2⟩ | ⟨hC, rfl⟩
  · have HM1 := Lib.hid (HM.out w1 s t h1 h2)
    have HP := Lib.hid (HP.out hC)
    clear h1 h2 HM HST hC
    go_wp2_with fail
    refine HM1.out.mono ?_
    rintro e w4 ⟨s4, rfl, hv, hb⟩
    have HBC := Lib.hid (HP.out w4 s4 (bel0 HB1.out hb) hv)
    clear hv hb HB1 HP HM1
    go_wp2_with fail
    refine HBC.out.mono ?_
    intro e w9 hp
    have HP := Lib.hid hp
    rcases act_cases hp with rfl | ⟨C9, rfl⟩
    · clear hp
      go_wp2
      go_end0
      exact HP.out
    · clear hp
      unfold Stop at HP ⊢
      go_wp2
      exact ⟨rfl, HP.out⟩
  · have HZ := Lib.hid (HST.out w1 HB1.out hC)
    clear HB1 HP HM HST
    unfold Stop at HZ ⊢
    go_wp2
    exact ⟨rfl, HZ.out⟩
/-- What CP comes to. -/
def cmpR (q : Qn) (R : Nat → Int) (bs : List UInt8) : Nat × Nat := cmpL (opX q R bs) (opY q R bs)
def cmpO (q : Qn) (R : Nat → Int) (p : Psw) (n : Nat) (bs ks : List UInt8) : Out := thenO (cXY q R p n ks) (thenO ((cmpR q R bs).2 : Int) (.go R { p with cc := ((cmpR q R bs).1 : Int) } 0 bs))
set_option maxRecDepth 100000 in
set_option maxHeartbeats 1000000 in
theorem compare_act (E A : Nat) (q : Qn) (R : Nat → Int) (p : Psw) (g h n m : Nat) (bs ks : List UInt8) (w : World) (hx : Ex w E A q R p 0) (hs : Sto w A g h n m bs ks) (hg : Sg w) (hR : RegOk R) (hq : QOk q) : Calls Tryz.prog 52 #[.pointer (some ⟨E, 0, none⟩)] w (ActPost w E A g h n m q bs ks (cmpO q R p n bs ks)) := by
  obtain ⟨t1, t2, t3⟩ := hx.ne_sto hs
  have HO := Lib.hid (operands_post E A q R p g h n m bs ks 0 w hx hs hR hq)
  have HM : Hid (∀ W s t, Below w.heap.size w W → SvB W s (opX q R bs) → SvB W t (opY q R bs) → Calls Tryz.prog 110 #[s, t] W (R2iPost W (cmpR q R bs))) := Lib.hid (fun W s t hb h1 h2 => by
    obtain ⟨a, k, rfl, r1, _⟩ := h1
    obtain ⟨b, k2, rfl, r2, _⟩ := h2
    exact pcmp_any a b k k2 _ _ W r1 r2 (hg.below hb))
  have HY := Lib.hid endOn_yes
  have HN := Lib.hid endOn_no
  have HX := Lib.hid (fun W (hb : Below w.heap.size w W) => And.intro (hx.below hb).pcc ((hx.below hb).fz 35))
  have HST := Lib.hid (fun W (hb : Below w.heap.size w W) (hC : cXY q R p n ks ≠ 0) => (show ActPost w E A g h n m q bs ks (cmpO q R p n bs ks) (Stop (cXY q R p n ks)) W from act_stop (E := E) q _ hs hb hC))
  have HS2 : Hid (cXY q R p n ks = 0 → ∀ W, Below w.heap.size w W → ((cmpR q R bs).2 : Int) ≠ 0 → ActPost w E A g h n m q bs ks (cmpO q R p n bs ks) (Stop ((cmpR q R bs).2 : Int)) W) := Lib.hid (fun h1 W hb hC => by
    unfold cmpO
    rw [thenO_go _ h1]
    exact act_stop (E := E) q _ hs hb hC)
  have HFIN : Hid (cXY q R p n ks = 0 → ((cmpR q R bs).2 : Int) = 0 → ∀ W, Below w.heap.size w W → ActPost w E A g h n m q bs ks (cmpO q R p n bs ks) (.returned (.tuple #[])) (W.setCell ⟨E, 35, none⟩ (.int .i64 ((cmpR q R bs).1 : Int)))) := Lib.hid (fun h1 h2 W hb => by
    unfold cmpO
    rw [thenO_go _ h1, thenO_go _ h2]
    exact ⟨rfl, (hx.below hb).setCc _, Sto.far (hs.below hb) t1 t2 t3 _, (Kp.bel hb).trans (kp_set _ _ _ _ _ (by simp))⟩)
  clear hx hs hR hq hg t1 t2 t3
  unfold R2iPost at HM
  generalize cmpO q R p n bs ks = o at HST HS2 HFIN ⊢
  generalize cmpR q R bs = r at HM HS2 HFIN
  generalize (r.1 : Int) = cc at HM HFIN
  generalize (r.2 : Int) = code at HM HS2 HFIN
  generalize opX q R bs = x at HO HM
  generalize opY q R bs = y at HO HM
  generalize cXY q R p n ks = C at HO HST HS2 HFIN
  go_enter Tryz.func52, Tryz.ntmps52
  go_wp2_with fail
  refine HO.out.mono ?_
  rintro e w1 ⟨hb, hE⟩
  have HB1 := Lib.hid hb
  clear hb HO
  rcases hE with ⟨hC, s, t, rfl, h1, h2⟩ | ⟨hC, rfl⟩
  rotate_left
  · have HZ := Lib.hid (HST.out w1 HB1.out hC)
    clear HB1 HS2 HFIN HM HST HX HY HN
    unfold Stop at HZ ⊢
    go_wp2
    exact ⟨rfl, HZ.out⟩
  have HM1 := Lib.hid (HM.out w1 s t HB1.out h1 h2)
  have HS2 := Lib.hid (HS2.out hC)
  have HFIN := Lib.hid (HFIN.out hC)
  clear h1 h2 HM HST hC
  go_wp2_with fail
  refine HM1.out.mono ?_
  rintro e w2 ⟨rfl, hb⟩
  have HB2 := Lib.hid (bel0 HB1.out hb)
  clear hb HB1 HM1
  by_cases h0 : code = 0
  rotate_left
  · go_wp2_with fail
    refine (HN.out _ _ h0).mono ?_
    rintro e w3 ⟨rfl, rfl⟩
    have HZ := Lib.hid (HS2.out w2 HB2.out h0)
    clear HB2 HS2 HFIN HX HY HN
    unfold Stop at HZ ⊢
    go_wp2
    exact ⟨rfl, HZ.out⟩
  have HZ := Lib.hid (HFIN.out h0 w2 HB2.out)
  obtain ⟨z1, z2⟩ := HX.out w2 HB2.out
  subst h0
  go_wp2_with fail
  refine (HY.out _).mono ?_
  rintro e w3 ⟨rfl, rfl⟩
  clear HB2 HS2 HFIN HX HY HN
  go_wp2
  go_end0
  exact HZ.out

end M
end Go.Proofs.YtbcncohjjnmdcaaGreatDoor
namespace Go.Proofs.YtbcncohjjnmdcaaGreatDoor
namespace E
end E
open Go.RowKit Go.Shelf E
set_option linter.unusedVariables false
namespace M

/-- By how many places SRP shifts. -/
def plN (q : Qn) (R : Nat → Int) : Int := if adT q R % 64 < 32 then ((adT q R % 64 : Nat) : Int) else ((adT q R % 64 : Nat) : Int) - 64
set_option maxRecDepth 100000 in
theorem places_any (E A : Nat) (q : Qn) (R : Nat → Int) (p : Psw) (c : Int) (w : World) (h : Ex w E A q R p c) (hR : RegOk R) (hq : QOk q) : Calls Tryz.prog 115 #[.pointer (some ⟨E, 0, none⟩)] w (New w (.int .i64 (plN q R))) := by
  have HA := Lib.hid (second_any E A q R p c w h hR hq)
  have hlt := adT_lt q R
  unfold plN
  clear h hR hq
  generalize adT q R = a at *
  generalize q.l2 + 1 = k at HA
  have hm : (a : Int) % 64 = ((a % 64 : Nat) : Int) := by omega
  obtain ⟨r, hr⟩ : ∃ r, r = a % 64 := ⟨_, rfl⟩
  rw [← hr] at hm ⊢
  have hr2 : (r : Int) < 64 := by omega
  clear hr
  by_cases h1 : r < 32
  · rw [if_pos h1]
    have h2 : ¬ (32 ≤ (r : Int)) := by omega
    clear h1
    go_enter Tryz.func115, Tryz.ntmps115
    go_wp2_with fail
    refine HA.out.mono ?_
    rintro e w1 ⟨rfl, hb⟩
    have HB := Lib.hid hb
    clear hb HA
    go_wp2
    go_ret
    refine ⟨?_, HB.out⟩
    first | rfl | (rw [← hm]; rfl)
  · rw [if_neg h1]
    have h2 : 32 ≤ (r : Int) := by omega
    clear h1
    go_enter Tryz.func115, Tryz.ntmps115
    go_wp2_with fail
    refine HA.out.mono ?_
    rintro e w1 ⟨rfl, hb⟩
    have HB := Lib.hid hb
    clear hb HA
    go_wp2
    go_ret
    refine ⟨?_, HB.out⟩
    first | rfl | (rw [← hm]; rfl)
/-- What SRP comes to. -/
def srpR (q : Qn) (R : Nat → Int) (bs : List UInt8) : List UInt8 × Nat × Nat := shL (opX q R bs) (plN q R) (q.l2 : Int)
def srpO (q : Qn) (R : Nat → Int) (p : Psw) (n : Nat) (bs ks : List UInt8) : Out := thenO (cX q R p n ks) (becO q R p n bs ks (srpR q R bs).1 ((srpR q R bs).2.1 : Int) ((srpR q R bs).2.2 : Int))
theorem act_l2 {w : World} {E A g h n m : Nat} {q : Qn} {bs ks : List UInt8} {o : Out} {w' : World} (hp : ActPost w E A g h n m q bs ks o (.returned (.tuple #[])) w') : w'.cell? ⟨E, 10, none⟩ = some (.int .i64 (q.l2 : Int)) := by
  cases o with
  | stop C => cases hp.1
  | go R p c b => exact hp.2.1.l2
set_option maxRecDepth 100000 in
set_option maxHeartbeats 1000000 in
theorem shift_act (E A : Nat) (q : Qn) (R : Nat → Int) (p : Psw) (g h n m : Nat) (bs ks : List UInt8) (w : World) (hx : Ex w E A q R p 0) (hs : Sto w A g h n m bs ks) (hg : Sg w) (hR : RegOk R) (hq : QOk q) : Calls Tryz.prog 55 #[.pointer (some ⟨E, 0, none⟩)] w (ActPost w E A g h n m q bs ks (srpO q R p n bs ks)) := by
  have HF := Lib.hid (first_any E A q R p 0 w hx hR hq)
  have H1 := Lib.hid (fX hx hs)
  have HPL := Lib.hid (fun W (hb : Below w.heap.size w W) => places_any E A q R p 0 W (hx.below hb) hR hq)
  have hpl : -9223372036854775808 ≤ plN q R ∧ plN q R < 9223372036854775808 := by unfold plN; split <;> omega
  have HSH : Hid (∀ W sv, Below w.heap.size w W → SvB W sv (opX q R bs) → Calls Tryz.prog 114 #[sv, .int .i64 (plN q R), .int .i64 (q.l2 : Int)] W (R3Post W (srpR q R bs))) := Lib.hid (fun W sv hb h1 => by
    obtain ⟨a, k, rfl, r1, _⟩ := h1
    exact pshift_any a k _ _ _ W hpl.1 hpl.2 r1 (hg.below hb))
  have HB : Hid (cX q R p n ks = 0 → ∀ W sv, Below w.heap.size w W → SvB W sv (srpR q R bs).1 → Calls Tryz.prog 106 #[.pointer (some ⟨E, 0, none⟩), sv, .int .i64 ((srpR q R bs).2.1 : Int), .int .i64 ((srpR q R bs).2.2 : Int)] W (ActPost w E A g h n m q bs ks (srpO q R p n bs ks))) := Lib.hid (fun hC W sv hb hv => by
    unfold srpO
    rw [thenO_go _ hC]
    exact (become_post E A q R p g h n m bs ks sv _ _ _ W (hx.below hb) (hs.below hb) hv hR hq).mono (fun e w' hp => act_below hb hp))
  have HST := Lib.hid (fun W (hb : Below w.heap.size w W) (hC : cX q R p n ks ≠ 0) => (show ActPost w E A g h n m q bs ks (srpO q R p n bs ks) (Stop (cX q R p n ks)) W from act_stop (E := E) q _ hs hb hC))
  have HL2 := Lib.hid (fun W (hb : Below w.heap.size w W) => (hx.below hb).l2)
  have HL3 : Hid (∀ x3, ActPost w E A g h n m q bs ks (srpO q R p n bs ks) (.returned (.tuple #[])) x3 → x3.cell? ⟨E, 10, none⟩ = some (.int .i64 (q.l2 : Int))) := Lib.hid (fun x3 hp => act_l2 hp)
  clear hx hs hR hq hg hpl
  unfold R3Post at HSH
  generalize srpO q R p n bs ks = o at HB HST HL3 ⊢
  generalize srpR q R bs = r at HSH HB
  generalize r.1 = l at HSH HB
  generalize (r.2.1 : Int) = cc at HSH HB
  generalize (r.2.2 : Int) = code at HSH HB
  generalize opX q R bs = x at H1 HSH
  generalize plN q R = P at HPL HSH
  generalize cX q R p n ks = C at H1 HB HST
  generalize adF q R = a1 at HF H1
  generalize q.l1 + 1 = k1 at HF H1
  go_enter Tryz.func55, Tryz.ntmps55
  go_wp2_with fail
  refine HF.out.mono ?_
  rintro e w1 ⟨rfl, hb⟩
  have HB1 := Lib.hid hb
  clear hb HF
  go_wp2_with fail
  refine (H1.out _ HB1.out).mono ?_
  rintro e w2 ⟨hb, hE⟩
  have HB2 := Lib.hid (bel0 HB1.out hb)
  clear hb H1 HB1
  rcases hE with ⟨hC, px, rfl, hv⟩ | ⟨hC, rfl⟩
  rotate_left
  · have HZ := Lib.hid (HST.out w2 HB2.out hC)
    clear HB2 HB HSH HST HL2 HL3 HPL
    unfold Stop at HZ ⊢
    go_wp2
    exact ⟨rfl, HZ.out⟩
  have HBE := Lib.hid (HB.out hC)
  have HV := Lib.hid hv
  clear HB HST hC hv
  go_wp2_with fail
  have B0 := Lib.hid (bel0 HB2.out (bel_drew w2))
  have HV0 := Lib.hid (HV.out.below (bel_drew w2))
  have k00 := HL2.out _ B0.out
  refine wp_region_held_drew (S := fun W => W.cell? ⟨E, 10, none⟩ = some (.int .i64 (q.l2 : Int))) (by kernel_rfl) k00 (fun k0 => ?_)
  obtain ⟨x0, hx0⟩ : ∃ zz, zz = w2.drew := ⟨_, rfl⟩
  rw [← hx0] at B0 HV0 k0 ⊢
  clear hx0 k00
  show wpAnyH _ _ _ _ _ 14 #[false, false, false, false, false, false, false, false, false, false, false, false, false, false] _ _
  refine wpAnyH_take (i := 0) (oi := { dst := some 9, op := Go.Op.move (Go.Operand.tmp 0), type := 90, pos := "arithmetic.go:73", after := #[], guard := none }) (v := .pointer (some ⟨E, 0, none⟩)) rfl (by kernel_rfl) (by kernel_rfl) (by kernel_rfl) (fun _ _ _ h => h) (Or.inl ⟨by rfl, fun W hSw => by (try dsimp only at hSw); go_simp⟩) k0 ?_
  try simp only [Act.put, List.setIfInBounds_toArray, List.set_cons_zero, List.set_cons_succ]
  refine wpAnyH_take (i := 1) (oi := { dst := some 10, op := Go.Op.move (Go.Operand.tmp 2), type := 31, pos := "arithmetic.go:73", after := #[], guard := none }) (v := px) rfl (by kernel_rfl) (by kernel_rfl) (by kernel_rfl) (fun _ _ _ h => h) (Or.inl ⟨by rfl, fun W hSw => by (try dsimp only at hSw); go_simp⟩) k0 ?_
  try simp only [Act.put, List.setIfInBounds_toArray, List.set_cons_zero, List.set_cons_succ]
  refine wpAnyH_take (i := 2) (oi := { dst := some 11, op := Go.Op.move (Go.Operand.tmp 0), type := 90, pos := "arithmetic.go:73", after := #[], guard := none }) (v := .pointer (some ⟨E, 0, none⟩)) rfl (by kernel_rfl) (by kernel_rfl) (by kernel_rfl) (fun _ _ _ h => h) (Or.inl ⟨by rfl, fun W hSw => by (try dsimp only at hSw); go_simp⟩) k0 ?_
  try simp only [Act.put, List.setIfInBounds_toArray, List.set_cons_zero, List.set_cons_succ]
  refine wpAnyH_take (i := 4) (oi := { dst := some 13, op := Go.Op.move (Go.Operand.tmp 0), type := 90, pos := "arithmetic.go:73", after := #[], guard := none }) (v := .pointer (some ⟨E, 0, none⟩)) rfl (by kernel_rfl) (by kernel_rfl) (by kernel_rfl) (fun _ _ _ h => h) (Or.inl ⟨by rfl, fun W hSw => by (try dsimp only at hSw); go_simp⟩) k0 ?_
  try simp only [Act.put, List.setIfInBounds_toArray, List.set_cons_zero, List.set_cons_succ]
  refine wpAnyH_take (i := 5) (oi := { dst := some 14, op := Go.Op.nilCheck (Go.Operand.tmp 13), type := 0, pos := "arithmetic.go:73", after := #[{ on := 4, ground := Go.Ground.data }], guard := none }) (v := .pointer (some ⟨E, 0, none⟩)) rfl (by kernel_rfl) (by kernel_rfl) (by kernel_rfl) (fun _ _ _ h => h) (Or.inl ⟨by rfl, fun W hSw => by (try dsimp only at hSw); go_simp⟩) k0 ?_
  try simp only [Act.put, List.setIfInBounds_toArray, List.set_cons_zero, List.set_cons_succ]
  refine wpAnyH_take (i := 6) (oi := { dst := some 15, op := Go.Op.fieldAddr 76 (Go.Operand.tmp 14) 0, type := 0, pos := "arithmetic.go:73", after := #[{ on := 5, ground := Go.Ground.data }], guard := none }) (v := .pointer (some ⟨E, 0, none⟩)) rfl (by kernel_rfl) (by kernel_rfl) (by kernel_rfl) (fun _ _ _ h => h) (Or.inl ⟨by rfl, fun W hSw => by (try dsimp only at hSw); go_simp⟩) k0 ?_
  try simp only [Act.put, List.setIfInBounds_toArray, List.set_cons_zero, List.set_cons_succ]
  refine wpAnyH_take (i := 7) (oi := { dst := some 16, op := Go.Op.fieldAddr 25 (Go.Operand.tmp 15) 10, type := 0, pos := "arithmetic.go:73", after := #[{ on := 6, ground := Go.Ground.data }], guard := none }) (v := .pointer (some ⟨E, 10, none⟩)) rfl (by kernel_rfl) (by kernel_rfl) (by kernel_rfl) (fun _ _ _ h => h) (Or.inl ⟨by rfl, fun W hSw => by (try dsimp only at hSw); go_simp⟩) k0 ?_
  try simp only [Act.put, List.setIfInBounds_toArray, List.set_cons_zero, List.set_cons_succ]
  refine wpAnyH_take (i := 8) (oi := { dst := some 17, op := Go.Op.load 3 (Go.Operand.tmp 16), type := 3, pos := "arithmetic.go:73", after := #[{ on := 7, ground := Go.Ground.data }], guard := none }) (v := .int .i64 (q.l2 : Int)) rfl (by kernel_rfl) (by kernel_rfl) (by kernel_rfl) (fun _ _ _ h => h) (Or.inl ⟨by rfl, fun W hSw => by have cq := hSw; clear hSw; go_simp⟩) k0 ?_
  try simp only [Act.put, List.setIfInBounds_toArray, List.set_cons_zero, List.set_cons_succ]
  refine wpAnyH_ready (rs := [3]) (by kernel_rfl) (by simp) ?_
  refine AllReadyH.cons (o := { dst := some 12, op := Go.Op.call { callee := Go.Callee.value (Go.Operand.func 115), args := #[Go.Operand.tmp 11], argTypes := #[90] }, type := 3, pos := "arithmetic.go:73", after := #[{ on := 2, ground := Go.Ground.data }], guard := none }) rfl (fun K hK => ?_) AllReadyH.nil
  go_simp
  go_at_call 115
  refine (HPL.out _ B0.out).mono ?_
  rintro e x1 ⟨rfl, hb⟩
  have B1 := Lib.hid (bel0 B0.out hb)
  have HV1 := Lib.hid (HV0.out.below hb)
  have k2 : x1.cell? ⟨E, 10, none⟩ = some (.int .i64 (q.l2 : Int)) := HL2.out x1 B1.out
  clear hb
  go_wp2_with fail
  refine hK.out _ _ k2 (fun k1 => ?_)
  clear k2
  clear hK K
  try simp only [List.setIfInBounds_toArray, List.set_cons_zero, List.set_cons_succ]
  refine wpAnyH_ready (rs := [9]) (by kernel_rfl) (by simp) ?_
  refine AllReadyH.cons (o := { dst := some 18, op := Go.Op.call { callee := Go.Callee.value (Go.Operand.func 114), args := #[Go.Operand.tmp 10, Go.Operand.tmp 12, Go.Operand.tmp 17], argTypes := #[31, 3, 3] }, type := 113, pos := "arithmetic.go:73", after := #[{ on := 1, ground := Go.Ground.data }, { on := 3, ground := Go.Ground.data }, { on := 8, ground := Go.Ground.data }, { on := 3, ground := Go.Ground.chain }], guard := none }) rfl (fun K hK => ?_) AllReadyH.nil
  go_simp
  go_at_call 114
  refine (HSH.out _ _ B1.out (HV1.out)).mono ?_
  rintro e x2 ⟨sv2, rfl, hv, hb⟩
  have B2 := Lib.hid (bel0 B1.out hb)
  have HV2 := Lib.hid hv
  have k4 : x2.cell? ⟨E, 10, none⟩ = some (.int .i64 (q.l2 : Int)) := HL2.out x2 B2.out
  clear hb hv
  go_wp2_with fail
  refine hK.out _ _ k4 (fun k3 => ?_)
  clear k4
  clear hK K
  try simp only [List.setIfInBounds_toArray, List.set_cons_zero, List.set_cons_succ]
  refine wpAnyH_take (i := 10) (oi := { dst := some 19, op := Go.Op.extract (Go.Operand.tmp 18) 0, type := 31, pos := "arithmetic.go:73", after := #[{ on := 9, ground := Go.Ground.data }], guard := none }) (v := sv2) rfl (by kernel_rfl) (by kernel_rfl) (by kernel_rfl) (fun _ _ _ h => h) (Or.inl ⟨by rfl, fun W hSw => by (try dsimp only at hSw); go_simp⟩) k3 ?_
  try simp only [Act.put, List.setIfInBounds_toArray, List.set_cons_zero, List.set_cons_succ]
  refine wpAnyH_take (i := 11) (oi := { dst := some 20, op := Go.Op.extract (Go.Operand.tmp 18) 1, type := 3, pos := "arithmetic.go:73", after := #[{ on := 9, ground := Go.Ground.data }], guard := none }) (v := .int .i64 cc) rfl (by kernel_rfl) (by kernel_rfl) (by kernel_rfl) (fun _ _ _ h => h) (Or.inl ⟨by rfl, fun W hSw => by (try dsimp only at hSw); go_simp⟩) k3 ?_
  try simp only [Act.put, List.setIfInBounds_toArray, List.set_cons_zero, List.set_cons_succ]
  refine wpAnyH_take (i := 12) (oi := { dst := some 21, op := Go.Op.extract (Go.Operand.tmp 18) 2, type := 3, pos := "arithmetic.go:73", after := #[{ on := 9, ground := Go.Ground.data }], guard := none }) (v := .int .i64 code) rfl (by kernel_rfl) (by kernel_rfl) (by kernel_rfl) (fun _ _ _ h => h) (Or.inl ⟨by rfl, fun W hSw => by (try dsimp only at hSw); go_simp⟩) k3 ?_
  try simp only [Act.put, List.setIfInBounds_toArray, List.set_cons_zero, List.set_cons_succ]
  refine wpAnyH_ready (rs := [13]) (by kernel_rfl) (by simp) ?_
  refine AllReadyH.cons (o := { dst := some 22, op := Go.Op.call { callee := Go.Callee.value (Go.Operand.func 106), args := #[Go.Operand.tmp 9, Go.Operand.tmp 19, Go.Operand.tmp 20, Go.Operand.tmp 21], argTypes := #[90, 31, 3, 3] }, type := 0, pos := "arithmetic.go:73", after := #[{ on := 0, ground := Go.Ground.data }, { on := 10, ground := Go.Ground.data }, { on := 11, ground := Go.Ground.data }, { on := 12, ground := Go.Ground.data }, { on := 9, ground := Go.Ground.chain }], guard := none }) rfl (fun K hK => ?_) AllReadyH.nil
  go_simp
  go_at_call 106
  refine (HBE.out _ _ B2.out HV2.out).mono ?_
  intro e x3 hp
  have HZ := Lib.hid hp
  rcases act_cases hp with rfl | ⟨C9, rfl⟩
  rotate_left
  · clear hp
    unfold Stop at HZ ⊢
    go_wp2_with fail
    exact ⟨rfl, HZ.out⟩
  have k6 := HL3.out x3 hp
  clear hp
  go_wp2_with fail
  refine hK.out _ _ k6 (fun _ => ?_)
  clear k6
  clear hK K
  try simp only [List.setIfInBounds_toArray, List.set_cons_zero, List.set_cons_succ]
  refine wpAnyH_done (by kernel_rfl) ?_ _
  refine id ?_
  go_wp2
  go_end0
  exact HZ.out

end M
end Go.Proofs.YtbcncohjjnmdcaaGreatDoor

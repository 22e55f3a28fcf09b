/- The program: AP and SP. -/
import Derived.Test.YtbcncohjjnmdcaaGreatDoorRows
import Derived.Test.YtbcncohjjnmdcaaGreatDoorDcDs
import Derived.Test.YtbcncohjjnmdcaaGreatDoorDpO
import Derived.Test.YtbcncohjjnmdcaaGreatDoorPkV
namespace Go.Proofs.YtbcncohjjnmdcaaGreatDoor
namespace E
end E
open Go.RowKit Go.Shelf E
set_option linter.unusedVariables false
namespace M

/-- What add comes to. -/
def apO (q : Qn) (R : Nat → Int) (p : Psw) (n : Nat) (bs ks : List UInt8) : Out := thenO (cXY q R p n ks) (becO q R p n bs ks (addL (opX q R bs) (opY q R bs)).1 ((addL (opX q R bs) (opY q R bs)).2.1 : Int) ((addL (opX q R bs) (opY q R bs)).2.2 : Int))
set_option maxRecDepth 100000 in
set_option maxHeartbeats 1000000 in
theorem add_act (E A : Nat) (q : Qn) (R : Nat → Int) (p : Psw) (g h n m : Nat) (bs ks : List UInt8) (w : World) (hx : Ex w E A q R p 0) (hs : Sto w A g h n m bs ks) (hg : Sg w) (hR : RegOk R) (hq : QOk q) : Calls Tryz.prog 50 #[.pointer (some ⟨E, 0, none⟩)] w (ActPost w E A g h n m q bs ks (apO q R p n bs ks)) := by
  unfold apO
  have HO := Lib.hid (operands_post E A q R p g h n m bs ks 0 w hx hs hR hq)
  have HD : Hid (∀ W s t, Below w.heap.size w W → SvB W s (opX q R bs) → SvB W t (opY q R bs) → Calls Tryz.prog 108 #[s, t] W (R3Post W (addL (opX q R bs) (opY q R bs)))) := Lib.hid (fun W s t hb h1 h2 => by
    obtain ⟨a, k, rfl, r1, _⟩ := h1
    obtain ⟨b, k2, rfl, r2, _⟩ := h2
    exact padd_any a b k k2 _ _ W r1 r2 (hg.below hb))
  obtain ⟨r, hr⟩ : ∃ r, r = addL (opX q R bs) (opY q R bs) := ⟨_, rfl⟩
  rw [← hr] at HD ⊢
  have HB : Hid (cXY q R p n ks = 0 → ∀ W sv, Below w.heap.size w W → SvB W sv r.1 → Calls Tryz.prog 106 #[.pointer (some ⟨E, 0, none⟩), sv, .int .i64 (r.2.1 : Int), .int .i64 (r.2.2 : Int)] W (ActPost w E A g h n m q bs ks (thenO (cXY q R p n ks) (becO q R p n bs ks r.1 (r.2.1 : Int) (r.2.2 : Int))))) := Lib.hid (fun hC W sv hb hv => by
    rw [thenO_go _ hC]
    exact (become_post E A q R p g h n m bs ks sv r.1 (r.2.1 : Int) (r.2.2 : Int) W (hx.below hb) (hs.below hb) hv hR hq).mono (fun e w' hp => act_below hb hp))
  have HST := Lib.hid (fun W (hb : Below w.heap.size w W) (hC : cXY q R p n ks ≠ 0) => act_stop (E := E) q (becO q R p n bs ks r.1 (r.2.1 : Int) (r.2.2 : Int)) hs hb hC)
  unfold R3Post at HD
  clear hx hs hg hR hq hr
  generalize thenO (cXY q R p n ks) (becO q R p n bs ks r.1 (r.2.1 : Int) (r.2.2 : Int)) = o at HB HST ⊢
  generalize cXY q R p n ks = C at HO HB HST
  generalize opX q R bs = x at HO HD
  generalize opY q R bs = y at HO HD
  generalize r.1 = l at HD HB
  generalize (r.2.1 : Int) = cc at HD HB
  generalize (r.2.2 : Int) = code at HD HB
  go_enter Tryz.func50, Tryz.ntmps50
  go_wp2_with fail
  refine HO.out.mono ?_
  rintro e w1 ⟨hb, hE⟩
  have HB1 := Lib.hid hb
  clear hb HO
  rcases hE with ⟨hC, s, t, rfl, h1, h2⟩ | ⟨hC, rfl⟩
  · have HD1 := Lib.hid (HD.out w1 s t HB1.out h1 h2)
    have HB := Lib.hid (HB.out hC)
    clear h1 h2 HD HST hC
    go_wp2_with fail
    refine HD1.out.mono ?_
    rintro e w2 ⟨sv, rfl, hv, hb⟩
    have HBC := Lib.hid (HB.out w2 sv (bel0 HB1.out hb) hv)
    clear hv hb HB1 HB HD1
    go_wp2_with fail
    refine HBC.out.mono ?_
    intro e w9 hp
    have HP := Lib.hid hp
    rcases act_cases hp with rfl | ⟨C9, rfl⟩
    · clear hp
      go_wp2
      go_end0
      exact HP.out
    · clear hp
      unfold Stop at HP ⊢
      go_wp2
      exact ⟨rfl, HP.out⟩
  · have HZ := Lib.hid (HST.out w1 HB1.out hC)
    clear HB1 HB HD HST
    unfold Stop at HZ ⊢
    go_wp2
    exact ⟨rfl, HZ.out⟩
/-- What subtract comes to. -/
def spO (q : Qn) (R : Nat → Int) (p : Psw) (n : Nat) (bs ks : List UInt8) : Out := thenO (cXY q R p n ks) (becO q R p n bs ks (subL4 (opX q R bs) (opY q R bs)).1 ((subL4 (opX q R bs) (opY q R bs)).2.1 : Int) ((subL4 (opX q R bs) (opY q R bs)).2.2 : Int))
set_option maxRecDepth 100000 in
set_option maxHeartbeats 1000000 in
theorem subtract_act (E A : Nat) (q : Qn) (R : Nat → Int) (p : Psw) (g h n m : Nat) (bs ks : List UInt8) (w : World) (hx : Ex w E A q R p 0) (hs : Sto w A g h n m bs ks) (hg : Sg w) (hR : RegOk R) (hq : QOk q) : Calls Tryz.prog 51 #[.pointer (some ⟨E, 0, none⟩)] w (ActPost w E A g h n m q bs ks (spO q R p n bs ks)) := by
  unfold spO
  have HO := Lib.hid (operands_post E A q R p g h n m bs ks 0 w hx hs hR hq)
  have HD : Hid (∀ W s t, Below w.heap.size w W → SvB W s (opX q R bs) → SvB W t (opY q R bs) → Calls Tryz.prog 109 #[s, t] W (R3Post W (subL4 (opX q R bs) (opY q R bs)))) := Lib.hid (fun W s t hb h1 h2 => by
    obtain ⟨a, k, rfl, r1, _⟩ := h1
    obtain ⟨b, k2, rfl, r2, _⟩ := h2
    exact psub_any a b k k2 _ _ W r1 r2 (hg.below hb))
  obtain ⟨r, hr⟩ : ∃ r, r = subL4 (opX q R bs) (opY q R bs) := ⟨_, rfl⟩
  rw [← hr] at HD ⊢
  have HB : Hid (cXY q R p n ks = 0 → ∀ W sv, Below w.heap.size w W → SvB W sv r.1 → Calls Tryz.prog 106 #[.pointer (some ⟨E, 0, none⟩), sv, .int .i64 (r.2.1 : Int), .int .i64 (r.2.2 : Int)] W (ActPost w E A g h n m q bs ks (thenO (cXY q R p n ks) (becO q R p n bs ks r.1 (r.2.1 : Int) (r.2.2 : Int))))) := Lib.hid (fun hC W sv hb hv => by
    rw [thenO_go _ hC]
    exact (become_post E A q R p g h n m bs ks sv r.1 (r.2.1 : Int) (r.2.2 : Int) W (hx.below hb) (hs.below hb) hv hR hq).mono (fun e w' hp => act_below hb hp))
  have HST := Lib.hid (fun W (hb : Below w.heap.size w W) (hC : cXY q R p n ks ≠ 0) => act_stop (E := E) q (becO q R p n bs ks r.1 (r.2.1 : Int) (r.2.2 : Int)) hs hb hC)
  unfold R3Post at HD
  clear hx hs hg hR hq hr
  generalize thenO (cXY q R p n ks) (becO q R p n bs ks r.1 (r.2.1 : Int) (r.2.2 : Int)) = o at HB HST ⊢
  generalize cXY q R p n ks = C at HO HB HST
  generalize opX q R bs = x at HO HD
  generalize opY q R bs = y at HO HD
  generalize r.1 = l at HD HB
  generalize (r.2.1 : Int) = cc at HD HB
  generalize (r.2.2 : Int) = code at HD HB
  go_enter Tryz.func51, Tryz.ntmps51
  go_wp2_with fail
  refine HO.out.mono ?_
  rintro e w1 ⟨hb, hE⟩
  have HB1 := Lib.hid hb
  clear hb HO
  rcases hE with ⟨hC, s, t, rfl, h1, h2⟩ | ⟨hC, rfl⟩
  · have HD1 := Lib.hid (HD.out w1 s t HB1.out h1 h2)
    have HB := Lib.hid (HB.out hC)
    clear h1 h2 HD HST hC
    go_wp2_with fail
    refine HD1.out.mono ?_
    rintro e w2 ⟨sv, rfl, hv, hb⟩
    have HBC := Lib.hid (HB.out w2 sv (bel0 HB1.out hb) hv)
    clear hv hb HB1 HB HD1
    go_wp2_with fail
    refine HBC.out.mono ?_
    intro e w9 hp
    have HP := Lib.hid hp
    rcases act_cases hp with rfl | ⟨C9, rfl⟩
    · clear hp
      go_wp2
      go_end0
      exact HP.out
    · clear hp
      unfold Stop at HP ⊢
      go_wp2
      exact ⟨rfl, HP.out⟩
  · have HZ := Lib.hid (HST.out w1 HB1.out hC)
    clear HB1 HB HD HST
    unfold Stop at HZ ⊢
    go_wp2
    exact ⟨rfl, HZ.out⟩

end M
end Go.Proofs.YtbcncohjjnmdcaaGreatDoor
namespace Go.Proofs.YtbcncohjjnmdcaaGreatDoor
namespace E
end E
open Go.RowKit Go.Shelf E
set_option linter.unusedVariables false
namespace M

/-- The code of an address that must be divisible by 8. -/
def alC (q : Qn) (R : Nat → Int) : Int := if adT q R % 8 = 0 then 0 else 6
set_option maxRecDepth 100000 in
theorem double_post (E A : Nat) (q : Qn) (R : Nat → Int) (p : Psw) (c : Int) (w : World) (h : Ex w E A q R p c) (hR : RegOk R) (hq : QOk q) : Calls Tryz.prog 95 #[.pointer (some ⟨E, 0, none⟩)] w (OrStop w (.int .i64 (adT q R : Int)) (alC q R)) := by
  have HA := Lib.hid (second_any E A q R p c w h hR hq)
  have HN := Lib.hid (endOn_no 6)
  have hlt := adT_lt q R
  unfold alC
  clear h hR hq
  generalize adT q R = a at *
  generalize q.l2 + 1 = k at HA
  by_cases ha : a % 8 = 0
  · have hz : (a : Int) % 8 = 0 := by omega
    have hzn : ((a : Int) % 8 != 0) = false := by simpa using hz
    rw [if_pos ha]
    clear ha
    go_enter Tryz.func95, Tryz.ntmps95
    go_wp2_with fail
    refine HA.out.mono ?_
    rintro e w1 ⟨rfl, hb⟩
    have HB := Lib.hid hb
    clear hb HA
    go_wp2
    go_ret
    exact ⟨HB.out, .inl ⟨rfl, rfl⟩⟩
  · have hz' : ¬ (a : Int) % 8 = 0 := by omega
    have hz : ((a : Int) % 8 == 0) = false := by simpa using hz'
    have hzn : ((a : Int) % 8 != 0) = true := by simpa using hz'
    clear hz'
    rw [if_neg ha]
    clear ha
    go_enter Tryz.func95, Tryz.ntmps95
    go_wp2_with fail
    refine HA.out.mono ?_
    rintro e w1 ⟨rfl, hb⟩
    have HB := Lib.hid hb
    clear hb HA
    go_wp2_with fail
    refine (HN.out _ (by decide)).mono ?_
    rintro e w2 ⟨rfl, rfl⟩
    unfold Stop
    go_wp2
    exact ⟨rfl, HB.out, .inr ⟨by decide, rfl⟩⟩
/-- What CVB comes to. -/
def cvbO (q : Qn) (R : Nat → Int) (p : Psw) (n : Nat) (bs ks : List UInt8) : Out := thenO (alC q R) (thenO (ftC p n ks (adT q R) 8) (thenO ((tbL (subL bs (adT q R) 8)).2 : Int) (.go (upd R q.r1 (tbL (subL bs (adT q R) 8)).1) p 0 bs)))
/-- What CVD comes to. -/
def cvdO (q : Qn) (R : Nat → Int) (p : Psw) (n : Nat) (bs ks : List UInt8) : Out := thenO (alC q R) (putO p n bs ks (adT q R) R p 0 (fbL (R q.r1).toNat))
theorem nz_cvb (q : Qn) (R : Nat → Int) (p : Psw) (n : Nat) (bs ks : List UInt8) : Nz (cvbO q R p n bs ks) := nz_then (nz_then (nz_then (nz_go _ _ _ _)))
theorem nz_cvd (q : Qn) (R : Nat → Int) (p : Psw) (n : Nat) (bs ks : List UInt8) : Nz (cvdO q R p n bs ks) := nz_then (nz_put _ _ _ _ _ _ _ _ _)
set_option maxRecDepth 100000 in
set_option maxHeartbeats 1000000 in
theorem toBinary_act (E A : Nat) (q : Qn) (R : Nat → Int) (p : Psw) (g h n m : Nat) (bs ks : List UInt8) (w : World) (hx : Ex w E A q R p 0) (hs : Sto w A g h n m bs ks) (hg : Sg w) (hR : RegOk R) (hq : QOk q) : Calls Tryz.prog 44 #[.pointer (some ⟨E, 0, none⟩)] w (ActPost w E A g h n m q bs ks (cvbO q R p n bs ks)) := by
  have HD := Lib.hid (double_post E A q R p 0 w hx hR hq)
  have HF := Lib.hid (fun W (hb : Below w.heap.size w W) => fetch_post E A q R p 0 g h n m bs ks (adT q R) 8 _ W (hx.below hb) (hs.below hb) (by have := adT_lt q R; omega) rfl)
  have hlen : (subL bs (adT q R) 8).length ≤ 9223372036854775807 := by
    have : (subL bs (adT q R) 8).length ≤ 8 := by unfold subL; rw [List.length_take]; omega
    omega
  have HT : Hid (∀ W sv, Below w.heap.size w W → SvB W sv (subL bs (adT q R) 8) → Calls Tryz.prog 93 #[sv] W (TbPost W (tbL (subL bs (adT q R) 8)))) := Lib.hid (fun W sv hb h1 => by
    obtain ⟨a, k, rfl, r1, _⟩ := h1
    exact ptobin_any a k _ W hlen r1 (hg.below hb))
  have HY := Lib.hid endOn_yes
  have HN := Lib.hid endOn_no
  have hr1 : (q.r1 : Int) < 16 := by have := hq.r1; omega
  have HR1 := Lib.hid hq.r1
  have HX := Lib.hid (fun W (hb : Below w.heap.size w W) => And.intro (hx.below hb) (hs.below hb))
  obtain ⟨t1, t2, t3⟩ := hx.ne_sto hs
  have HNE := Lib.hid (And.intro t1 (And.intro t2 t3))
  -- what each end comes to
  have HO : Hid (∀ o, o = cvbO q R p n bs ks → (∀ W, Below w.heap.size w W → alC q R ≠ 0 → ActPost w E A g h n m q bs ks o (Stop (alC q R)) W) ∧ (alC q R = 0 → ∀ W, Below w.heap.size w W → ftC p n ks (adT q R) 8 ≠ 0 → ActPost w E A g h n m q bs ks o (Stop (ftC p n ks (adT q R) 8)) W) ∧ (alC q R = 0 → ftC p n ks (adT q R) 8 = 0 → ∀ W, Below w.heap.size w W → ((tbL (subL bs (adT q R) 8)).2 : Int) ≠ 0 → ActPost w E A g h n m q bs ks o (Stop ((tbL (subL bs (adT q R) 8)).2 : Int)) W) ∧ (alC q R = 0 → ftC p n ks (adT q R) 8 = 0 → ((tbL (subL bs (adT q R) 8)).2 : Int) = 0 → ∀ W, Below w.heap.size w W → ActPost w E A g h n m q bs ks o (.returned (.tuple #[])) (W.setCell ⟨E, 12 + q.r1, none⟩ (.int .u32 (tbL (subL bs (adT q R) 8)).1)))) := Lib.hid (fun o ho => by
    unfold cvbO at ho
    subst ho
    refine ⟨fun W hb hC => act_stop q _ hs hb hC, fun h1 W hb hC => ?_, fun h1 h2 W hb hC => ?_, fun h1 h2 h3 W hb => ?_⟩
    · rw [thenO_go _ h1]
      exact act_stop q _ hs hb hC
    · rw [thenO_go _ h1, thenO_go _ h2]
      exact act_stop q _ hs hb hC
    · rw [thenO_go _ h1, thenO_go _ h2, thenO_go _ h3]
      exact ⟨rfl, (HX.out W hb).1.setReg HR1.out _, Sto.far (HX.out W hb).2 t1 t2 t3 _, (Kp.bel hb).trans (kp_set _ _ _ _ _ (by simp))⟩)
  obtain ⟨o, ho⟩ : ∃ o, o = cvbO q R p n bs ks := ⟨_, rfl⟩
  have HO := Lib.hid (HO.out o ho)
  rw [← ho]
  clear ho hx hs hg hR hq hlen t1 t2 t3 HNE
  generalize alC q R = C0 at HD HO
  generalize ftC p n ks (adT q R) 8 = C1 at HF HO
  generalize subL bs (adT q R) 8 = x at HF HT HO
  generalize adT q R = a at HD HF
  unfold TbPost at HT
  generalize ((tbL x).2 : Int) = C2 at HT HO
  generalize (tbL x).1 = v at HT HO
  go_enter Tryz.func44, Tryz.ntmps44
  go_wp2_with fail
  refine HD.out.mono ?_
  rintro e w1 ⟨hb, hE⟩
  have HB1 := Lib.hid hb
  clear hb HD
  rcases hE with ⟨h0, rfl⟩ | ⟨h0, rfl⟩
  rotate_left
  · have HZ := Lib.hid (HO.out.1 w1 HB1.out h0)
    clear HO HF HT HY HN HX HB1
    unfold Stop at HZ ⊢
    go_wp2
    exact ⟨rfl, HZ.out⟩
  have HO := Lib.hid (And.intro (HO.out.2.1 h0) (And.intro (HO.out.2.2.1 h0) (HO.out.2.2.2 h0)))
  clear h0
  go_wp2_with fail
  refine (HF.out _ HB1.out).mono ?_
  rintro e w2 ⟨hb, hE⟩
  have HB2 := Lib.hid (bel0 HB1.out hb)
  clear hb HF HB1
  rcases hE with ⟨h0, sv, rfl, hv⟩ | ⟨h0, rfl⟩
  rotate_left
  · have HZ := Lib.hid (HO.out.1 w2 HB2.out h0)
    clear HO HT HY HN HX HB2
    unfold Stop at HZ ⊢
    go_wp2
    exact ⟨rfl, HZ.out⟩
  have HO := Lib.hid (And.intro (HO.out.2.1 h0) (HO.out.2.2 h0))
  have HT := Lib.hid (HT.out w2 sv HB2.out hv)
  clear h0 hv
  go_wp2_with fail
  refine HT.out.mono ?_
  rintro e w3 ⟨rfl, hb⟩
  have HB3 := Lib.hid (bel0 HB2.out hb)
  clear hb HT HB2
  by_cases h0 : C2 = 0
  rotate_left
  · go_wp2_with fail
    refine (HN.out _ _ h0).mono ?_
    rintro e w4 ⟨rfl, rfl⟩
    have HZ := Lib.hid (HO.out.1 w3 HB3.out h0)
    clear HO HY HN HX HB3
    unfold Stop at HZ ⊢
    go_wp2
    exact ⟨rfl, HZ.out⟩
  have HOf := Lib.hid (HO.out.2 h0)
  clear HO
  subst h0
  go_wp2_with fail
  refine (HY.out _).mono ?_
  rintro e w4 ⟨rfl, rfl⟩
  have c2 := (HX.out w3 HB3.out).1.r1
  have fz := (HX.out w3 HB3.out).1.fz (12 + q.r1)
  have cr := (HX.out w3 HB3.out).1.reg HR1.out
  have HZ := Lib.hid (HOf.out w3.drew (bel0 HB3.out (bel_drew w3)))
  clear HOf HY HN HX HB3 HR1
  generalize R q.r1 = y at cr
  generalize q.r1 = i at c2 fz cr hr1 HZ
  go_wp2_with fail
  go_still_tail 10, (by kernel_rfl)
  change wpList _ _ _ _ _ w3.drew
  go_wp2
  go_end0
  exact HZ.out
set_option maxRecDepth 100000 in
set_option maxHeartbeats 2000000 in
theorem toDecimal_act (E A : Nat) (q : Qn) (R : Nat → Int) (p : Psw) (g h n m : Nat) (bs ks : List UInt8) (w : World) (hx : Ex w E A q R p 0) (hs : Sto w A g h n m bs ks) (hR : RegOk R) (hq : QOk q) : Calls Tryz.prog 45 #[.pointer (some ⟨E, 0, none⟩)] w (ActPost w E A g h n m q bs ks (cvdO q R p n bs ks)) := by
  have HD := Lib.hid (fun W (hb : Below w.heap.size w W) => double_post E A q R p 0 W (hx.below hb) hR hq)
  have hv := hR q.r1
  have hvn : ((R q.r1).toNat : Int) = R q.r1 := by omega
  have HFB : Hid (∀ W, Calls Tryz.prog 98 #[.int .u32 (R q.r1)] W (R1Post W (fbL (R q.r1).toNat))) := Lib.hid (fun W => by
    have h1 := pfrombin_any (R q.r1).toNat W (by omega)
    rw [hvn] at h1
    exact h1)
  have HP : Hid (∀ W sv, Below w.heap.size w W → SvB W sv (fbL (R q.r1).toNat) → Calls Tryz.prog 97 #[.pointer (some ⟨E, 0, none⟩), .int .i64 (adT q R : Int), sv] W fun e w' => ((stC p n ks (adT q R) (fbL (R q.r1).toNat).length = 0 ∧ e = .returned (.tuple #[])) ∨ (stC p n ks (adT q R) (fbL (R q.r1).toNat).length ≠ 0 ∧ e = Stop (stC p n ks (adT q R) (fbL (R q.r1).toNat).length))) ∧ Ex w' E A q R p 0 ∧ Sto w' A g h n m (if stC p n ks (adT q R) (fbL (R q.r1).toNat).length = 0 then putL bs (adT q R) (fbL (R q.r1).toNat) else bs) ks ∧ Kp W w' [g]) := Lib.hid (fun W sv hb hv => put_post E A q R p 0 g h n m bs ks (adT q R) sv (fbL (R q.r1).toNat) _ W (hx.below hb) (hs.below hb) hv (by have := adT_lt q R; omega) rfl)
  have hr1 : (q.r1 : Int) < 16 := by have := hq.r1; omega
  have HR1 := Lib.hid hq.r1
  have H0 : Hid (PS E A q R p 0 g w w.drew) := Lib.hid ⟨kp_drew w _, hx.drew⟩
  have HO : Hid (∀ o, o = cvdO q R p n bs ks → (∀ W, Below w.heap.size w W → alC q R ≠ 0 → ActPost w E A g h n m q bs ks o (Stop (alC q R)) W) ∧ (alC q R = 0 → ∀ W e w', Below w.heap.size w W → (((stC p n ks (adT q R) (fbL (R q.r1).toNat).length = 0 ∧ e = .returned (.tuple #[])) ∨ (stC p n ks (adT q R) (fbL (R q.r1).toNat).length ≠ 0 ∧ e = Stop (stC p n ks (adT q R) (fbL (R q.r1).toNat).length))) ∧ Ex w' E A q R p 0 ∧ Sto w' A g h n m (if stC p n ks (adT q R) (fbL (R q.r1).toNat).length = 0 then putL bs (adT q R) (fbL (R q.r1).toNat) else bs) ks ∧ Kp W w' [g]) → ActPost w E A g h n m q bs ks o e w')) := Lib.hid (fun o ho => by
    unfold cvdO at ho
    subst ho
    refine ⟨fun W hb hC => act_stop q _ hs hb hC, fun h1 W e w' hb hp => ?_⟩
    rw [thenO_go _ h1]
    exact act_put hb rfl hp)
  obtain ⟨o, ho⟩ : ∃ o, o = cvdO q R p n bs ks := ⟨_, rfl⟩
  have HO := Lib.hid (HO.out o ho)
  rw [← ho]
  clear ho hx hs hR hq hv hvn
  generalize alC q R = C0 at HD HO
  unfold R1Post at HFB
  generalize fbL (R q.r1).toNat = l at HFB HP HO
  generalize stC p n ks (adT q R) l.length = C1 at HP HO
  generalize (if C1 = 0 then putL bs (adT q R) l else bs) = bs' at HP HO
  generalize adT q R = a at HD HP
  go_enter Tryz.func45, Tryz.ntmps45
  go_wp2_with fail
  refine wp_region_held_drew (S := PS E A q R p 0 g w) (by kernel_rfl) H0.out (fun k0 => ?_)
  show wpAnyH _ _ _ _ _ 15 #[false, false, false, false, false, false, false, false, false, false, false, false, false, false, false] _ _
  refine wpAnyH_take (i := 0) (oi := { dst := some 2, op := Go.Op.move (Go.Operand.tmp 0), type := 90, pos := "digits.go:17", after := #[], guard := none }) (v := .pointer (some ⟨E, 0, none⟩)) rfl (by kernel_rfl) (by kernel_rfl) (by kernel_rfl) (fun _ _ _ h => h) (Or.inl ⟨by rfl, fun W hSw => by (try dsimp only at hSw); go_simp⟩) k0 ?_
  try simp only [Act.put, List.setIfInBounds_toArray, List.set_cons_zero, List.set_cons_succ]
  refine wpAnyH_take (i := 1) (oi := { dst := some 3, op := Go.Op.move (Go.Operand.tmp 0), type := 90, pos := "digits.go:17", after := #[], guard := none }) (v := .pointer (some ⟨E, 0, none⟩)) rfl (by kernel_rfl) (by kernel_rfl) (by kernel_rfl) (fun _ _ _ h => h) (Or.inl ⟨by rfl, fun W hSw => by (try dsimp only at hSw); go_simp⟩) k0 ?_
  try simp only [Act.put, List.setIfInBounds_toArray, List.set_cons_zero, List.set_cons_succ]
  refine wpAnyH_take (i := 3) (oi := { dst := some 5, op := Go.Op.move (Go.Operand.tmp 0), type := 90, pos := "digits.go:17", after := #[], guard := none }) (v := .pointer (some ⟨E, 0, none⟩)) rfl (by kernel_rfl) (by kernel_rfl) (by kernel_rfl) (fun _ _ _ h => h) (Or.inl ⟨by rfl, fun W hSw => by (try dsimp only at hSw); go_simp⟩) k0 ?_
  try simp only [Act.put, List.setIfInBounds_toArray, List.set_cons_zero, List.set_cons_succ]
  refine wpAnyH_take (i := 4) (oi := { dst := some 6, op := Go.Op.move (Go.Operand.tmp 0), type := 90, pos := "digits.go:17", after := #[], guard := none }) (v := .pointer (some ⟨E, 0, none⟩)) rfl (by kernel_rfl) (by kernel_rfl) (by kernel_rfl) (fun _ _ _ h => h) (Or.inl ⟨by rfl, fun W hSw => by (try dsimp only at hSw); go_simp⟩) k0 ?_
  try simp only [Act.put, List.setIfInBounds_toArray, List.set_cons_zero, List.set_cons_succ]
  refine wpAnyH_take (i := 5) (oi := { dst := some 7, op := Go.Op.nilCheck (Go.Operand.tmp 6), type := 0, pos := "digits.go:17", after := #[{ on := 4, ground := Go.Ground.data }], guard := none }) (v := .pointer (some ⟨E, 0, none⟩)) rfl (by kernel_rfl) (by kernel_rfl) (by kernel_rfl) (fun _ _ _ h => h) (Or.inl ⟨by rfl, fun W hSw => by (try dsimp only at hSw); go_simp⟩) k0 ?_
  try simp only [Act.put, List.setIfInBounds_toArray, List.set_cons_zero, List.set_cons_succ]
  refine wpAnyH_take (i := 6) (oi := { dst := some 8, op := Go.Op.fieldAddr 76 (Go.Operand.tmp 7) 0, type := 0, pos := "digits.go:17", after := #[{ on := 5, ground := Go.Ground.data }], guard := none }) (v := .pointer (some ⟨E, 0, none⟩)) rfl (by kernel_rfl) (by kernel_rfl) (by kernel_rfl) (fun _ _ _ h => h) (Or.inl ⟨by rfl, fun W hSw => by (try dsimp only at hSw); go_simp⟩) k0 ?_
  try simp only [Act.put, List.setIfInBounds_toArray, List.set_cons_zero, List.set_cons_succ]
  refine wpAnyH_take (i := 7) (oi := { dst := some 9, op := Go.Op.fieldAddr 25 (Go.Operand.tmp 8) 2, type := 0, pos := "digits.go:17", after := #[{ on := 6, ground := Go.Ground.data }], guard := none }) (v := .pointer (some ⟨E, 2, none⟩)) rfl (by kernel_rfl) (by kernel_rfl) (by kernel_rfl) (fun _ _ _ h => h) (Or.inl ⟨by rfl, fun W hSw => by (try dsimp only at hSw); go_simp⟩) k0 ?_
  try simp only [Act.put, List.setIfInBounds_toArray, List.set_cons_zero, List.set_cons_succ]
  refine wpAnyH_take (i := 8) (oi := { dst := some 10, op := Go.Op.load 3 (Go.Operand.tmp 9), type := 3, pos := "digits.go:17", after := #[{ on := 7, ground := Go.Ground.data }], guard := none }) (v := .int .i64 (q.r1 : Int)) rfl (by kernel_rfl) (by kernel_rfl) (by kernel_rfl) (fun _ _ _ h => h) (Or.inl ⟨by rfl, fun W hSw => by have cq := hSw.2.r1; clear hSw; go_simp⟩) k0 ?_
  try simp only [Act.put, List.setIfInBounds_toArray, List.set_cons_zero, List.set_cons_succ]
  refine wpAnyH_take (i := 9) (oi := { dst := some 11, op := Go.Op.nilCheck (Go.Operand.tmp 5), type := 0, pos := "digits.go:17", after := #[{ on := 3, ground := Go.Ground.data }], guard := none }) (v := .pointer (some ⟨E, 0, none⟩)) rfl (by kernel_rfl) (by kernel_rfl) (by kernel_rfl) (fun _ _ _ h => h) (Or.inl ⟨by rfl, fun W hSw => by (try dsimp only at hSw); go_simp⟩) k0 ?_
  try simp only [Act.put, List.setIfInBounds_toArray, List.set_cons_zero, List.set_cons_succ]
  refine wpAnyH_take (i := 10) (oi := { dst := some 12, op := Go.Op.fieldAddr 76 (Go.Operand.tmp 11) 1, type := 0, pos := "digits.go:17", after := #[{ on := 9, ground := Go.Ground.data }], guard := none }) (v := .pointer (some ⟨E, 12, none⟩)) rfl (by kernel_rfl) (by kernel_rfl) (by kernel_rfl) (fun _ _ _ h => h) (Or.inl ⟨by rfl, fun W hSw => by (try dsimp only at hSw); go_simp⟩) k0 ?_
  try simp only [Act.put, List.setIfInBounds_toArray, List.set_cons_zero, List.set_cons_succ]
  refine wpAnyH_take (i := 11) (oi := { dst := some 13, op := Go.Op.indexAddr 28 (Go.Operand.tmp 12) (Go.Operand.tmp 10), type := 0, pos := "digits.go:17", after := #[{ on := 10, ground := Go.Ground.data }, { on := 8, ground := Go.Ground.data }], guard := none }) (v := .pointer (some ⟨E, 12 + q.r1, none⟩)) rfl (by kernel_rfl) (by kernel_rfl) (by kernel_rfl) (fun _ _ _ h => h) (Or.inl ⟨by rfl, fun W hSw => by clear hSw; go_simp⟩) k0 ?_
  try simp only [Act.put, List.setIfInBounds_toArray, List.set_cons_zero, List.set_cons_succ]
  refine wpAnyH_take (i := 12) (oi := { dst := some 14, op := Go.Op.load 26 (Go.Operand.tmp 13), type := 26, pos := "digits.go:17", after := #[{ on := 11, ground := Go.Ground.data }], guard := none }) (v := .int .u32 (R q.r1)) rfl (by kernel_rfl) (by kernel_rfl) (by kernel_rfl) (fun _ _ _ h => h) (Or.inl ⟨by rfl, fun W hSw => by have cq := hSw.2.reg HR1.out; clear hSw; go_simp⟩) k0 ?_
  try simp only [Act.put, List.setIfInBounds_toArray, List.set_cons_zero, List.set_cons_succ]
  refine wpAnyH_ready (rs := [2]) (by kernel_rfl) (by simp) ?_
  refine AllReadyH.cons (o := { dst := some 4, op := Go.Op.call { callee := Go.Callee.value (Go.Operand.func 95), args := #[Go.Operand.tmp 3], argTypes := #[90] }, type := 3, pos := "digits.go:17", after := #[{ on := 1, ground := Go.Ground.data }], guard := none }) rfl (fun K hK => ?_) AllReadyH.nil
  have B0 := Lib.hid (bel_drew w)
  by_cases h0 : C0 = 0
  rotate_left
  · go_simp
    go_at_call 95
    refine (HD.out _ B0.out).mono ?_
    rintro e x1 ⟨hb, hE⟩
    have k1 := bel0 B0.out hb
    rcases hE with ⟨h1, _⟩ | ⟨_, rfl⟩
    · exact absurd h1 h0
    have HZ := Lib.hid (HO.out.1 x1 k1 h0)
    clear HO HD HP HFB hb k1
    unfold Stop at HZ ⊢
    go_wp2_with fail
    exact ⟨rfl, HZ.out⟩
  go_simp
  go_at_call 95
  refine (HD.out _ B0.out).mono ?_
  rintro e x1 ⟨hb, hE⟩
  have B1 := Lib.hid (bel0 B0.out hb)
  have k2 : PS E A q R p 0 g w x1 := ⟨k0.1.trans (Kp.bel hb), k0.2.below hb⟩
  clear hb
  rcases hE with ⟨_, rfl⟩ | ⟨h1, _⟩
  rotate_left
  · exact absurd h0 h1
  go_wp2_with fail
  refine hK.out _ _ k2 (fun k1 => ?_)
  clear k2
  clear hK K
  try simp only [List.setIfInBounds_toArray, List.set_cons_zero, List.set_cons_succ]
  refine wpAnyH_ready (rs := [13]) (by kernel_rfl) (by simp) ?_
  refine AllReadyH.cons (o := { dst := some 15, op := Go.Op.call { callee := Go.Callee.value (Go.Operand.func 98), args := #[Go.Operand.tmp 14], argTypes := #[26] }, type := 31, pos := "digits.go:17", after := #[{ on := 12, ground := Go.Ground.data }, { on := 2, ground := Go.Ground.chain }], guard := none }) rfl (fun K hK => ?_) AllReadyH.nil
  go_simp
  go_at_call 98
  refine (HFB.out _).mono ?_
  rintro e x2 ⟨sv, rfl, hv, hb⟩
  have HV := Lib.hid hv
  have B2 := Lib.hid (bel0 B1.out hb)
  have k4 : PS E A q R p 0 g w x2 := ⟨k1.1.trans (Kp.bel hb), k1.2.below hb⟩
  clear hv hb
  go_wp2_with fail
  refine hK.out _ _ k4 (fun k3 => ?_)
  clear k4
  clear hK K
  try simp only [List.setIfInBounds_toArray, List.set_cons_zero, List.set_cons_succ]
  refine wpAnyH_ready (rs := [14]) (by kernel_rfl) (by simp) ?_
  refine AllReadyH.cons (o := { dst := some 16, op := Go.Op.call { callee := Go.Callee.value (Go.Operand.func 97), args := #[Go.Operand.tmp 2, Go.Operand.tmp 4, Go.Operand.tmp 15], argTypes := #[90, 3, 31] }, type := 0, pos := "digits.go:17", after := #[{ on := 0, ground := Go.Ground.data }, { on := 2, ground := Go.Ground.data }, { on := 13, ground := Go.Ground.data }, { on := 13, ground := Go.Ground.chain }], guard := none }) rfl (fun K hK => ?_) AllReadyH.nil
  go_simp
  go_at_call 97
  refine (HP.out _ _ B2.out HV.out).mono ?_
  intro e x3 hp
  have HZ := Lib.hid (HO.out.2 h0 _ e _ B2.out hp)
  have k5 : PS E A q R p 0 g w x3 := ⟨k3.1.trans hp.2.2.2, hp.2.1⟩
  rcases hp.1 with ⟨_, rfl⟩ | ⟨_, rfl⟩
  rotate_left
  · clear hp HO HD HP HFB
    unfold Stop at HZ ⊢
    go_wp2_with fail
    exact ⟨rfl, HZ.out⟩
  clear hp HO HD HP HFB
  go_wp2_with fail
  refine hK.out _ _ k5 (fun _ => ?_)
  clear hK K
  try simp only [List.setIfInBounds_toArray, List.set_cons_zero, List.set_cons_succ]
  refine wpAnyH_done (by kernel_rfl) ?_ _
  refine id ?_
  go_wp2
  go_end0
  exact HZ.out
theorem runs_79 (q : Qn) (R : Nat → Int) (p : Psw) (n : Nat) (bs ks : List UInt8) (hR : RegOk R) (hq : QOk q) (hop : q.op = 79) : Runs q R p n bs ks (cvbO q R p n bs ks) :=
  ⟨nz_cvb _ _ _ _ _ _, 44, enters_of Tryz.func44 (by kernel_rfl) rfl, fun X => by rw [hop]; exact action_79 X, fun E A g h m X hgX hX hsX => toBinary_act E A q R p g h n m bs ks X hX hsX hgX hR hq⟩
theorem runs_78 (q : Qn) (R : Nat → Int) (p : Psw) (n : Nat) (bs ks : List UInt8) (hR : RegOk R) (hq : QOk q) (hop : q.op = 78) : Runs q R p n bs ks (cvdO q R p n bs ks) :=
  ⟨nz_cvd _ _ _ _ _ _, 45, enters_of Tryz.func45 (by kernel_rfl) rfl, fun X => by rw [hop]; exact action_78 X, fun E A g h m X hgX hX hsX => toDecimal_act E A q R p g h n m bs ks X hX hsX hR hq⟩

end M
end Go.Proofs.YtbcncohjjnmdcaaGreatDoor
namespace Go.Proofs.YtbcncohjjnmdcaaGreatDoor
namespace E
end E
open Go.RowKit Go.Shelf E
set_option linter.unusedVariables false
namespace M

/-- What a move returns. -/
def mvL (ok : Bool) (l : List UInt8) : List UInt8 := if ok = true then l else []
theorem mv_sv {w : World} {ok : Bool} {n : Int} {l : List UInt8} {e : Ending} {w' : World} (h : MvPost w ok n l e w') (hl : ok = true → (l.length : Int) = n ∧ l.length ≤ 1000) : ∃ sv, e = .returned sv ∧ SvB w' sv (mvL ok l) ∧ Below w.heap.size w w' := by
  rcases h with ⟨h0, g, rfl, hb, hk⟩ | ⟨h0, rfl, hb⟩
  · obtain ⟨h1, h2⟩ := hl h0
    have h3 : n.toNat = l.length := by omega
    refine ⟨_, rfl, ?_, hk⟩
    unfold mvL
    rw [if_pos h0, h3]
    exact ⟨_, _, rfl, hb.rd, Nat.le_refl _, by omega, fun h => by cases h⟩
  · refine ⟨_, rfl, ?_, hb⟩
    unfold mvL
    rw [if_neg (by rw [h0]; decide)]
    exact SvB.nil _
theorem sz_two {m : Nat} {n : Int} (h : szB m n = true) : (1 ≤ m ∧ m ≤ 16) ∧ (1 ≤ n ∧ n ≤ 16) := by
  unfold szB at h
  rw [Bool.and_eq_true] at h
  exact ⟨of_decide_eq_true h.1, of_decide_eq_true h.2⟩
/-- What pack comes to. -/
def pkR (q : Qn) (R : Nat → Int) (bs : List UInt8) : List UInt8 := mvL (szB (opY q R bs).length ((q.l1 + 1 : Nat) : Int)) (packL (opY q R bs) (q.l1 + 1))
def pkO (q : Qn) (R : Nat → Int) (p : Psw) (n : Nat) (bs ks : List UInt8) : Out := thenO (cY q R p n ks) (putO p n bs ks (adF q R) R p 0 (pkR q R bs))
set_option maxRecDepth 100000 in
set_option maxHeartbeats 1000000 in
theorem pack_act (E A : Nat) (q : Qn) (R : Nat → Int) (p : Psw) (g h n m : Nat) (bs ks : List UInt8) (w : World) (hx : Ex w E A q R p 0) (hs : Sto w A g h n m bs ks) (hR : RegOk R) (hq : QOk q) : Calls Tryz.prog 46 #[.pointer (some ⟨E, 0, none⟩)] w (ActPost w E A g h n m q bs ks (pkO q R p n bs ks)) := by
  have HF := Lib.hid (first_any E A q R p 0 w hx hR hq)
  have HS := Lib.hid (fun W (hb : Below w.heap.size w W) => second_any E A q R p 0 W (hx.below hb) hR hq)
  have H2 := Lib.hid (fY hx hs)
  have HM : Hid (∀ W sv, SvB W sv (opY q R bs) → Calls Tryz.prog 101 #[sv, .int .i64 ((q.l1 + 1 : Nat) : Int)] W fun e W' => ∃ s, e = .returned s ∧ SvB W' s (pkR q R bs) ∧ Below W.heap.size W W') := Lib.hid (fun W sv h1 => by
    obtain ⟨a, k, rfl, r1, _⟩ := h1
    refine (pack_any a k ((q.l1 + 1 : Nat) : Int) _ W r1).mono (fun e W' hp => ?_)
    exact mv_sv hp (fun h0 => by have := sz_two h0; rw [packL_len]; omega))
  have HP : Hid (cY q R p n ks = 0 → ∀ W sv, Below w.heap.size w W → SvB W sv (pkR q R bs) → Calls Tryz.prog 100 #[.pointer (some ⟨E, 0, none⟩), sv] W (ActPost w E A g h n m q bs ks (pkO q R p n bs ks))) := Lib.hid (fun hC W sv hb hv => by
    unfold pkO
    rw [thenO_go _ hC]
    exact (replace_post E A q R p g h n m bs ks 0 sv _ _ W (hx.below hb) (hs.below hb) hv hR hq rfl).mono (fun e w' hp => act_put hb rfl hp))
  have HST := Lib.hid (fun W (hb : Below w.heap.size w W) (hC : cY q R p n ks ≠ 0) => (show ActPost w E A g h n m q bs ks (pkO q R p n bs ks) (Stop (cY q R p n ks)) W from act_stop (E := E) q _ hs hb hC))
  clear hx hs hR hq
  generalize pkO q R p n bs ks = o at HP HST ⊢
  generalize pkR q R bs = r at HM HP
  generalize opY q R bs = y at H2 HM
  generalize cY q R p n ks = C at H2 HP HST
  generalize adF q R = a1 at HF
  generalize adT q R = a2 at HS H2
  generalize q.l1 + 1 = k1 at HF HM
  generalize q.l2 + 1 = k2 at HS H2
  go_enter Tryz.func46, Tryz.ntmps46
  go_wp2_with fail
  refine HF.out.mono ?_
  rintro e w1 ⟨rfl, hb⟩
  have HB1 := Lib.hid hb
  clear hb HF
  go_wp2_with fail
  refine (HS.out _ HB1.out).mono ?_
  rintro e w2 ⟨rfl, hb⟩
  have HB2 := Lib.hid (bel0 HB1.out hb)
  clear hb HS HB1
  go_wp2_with fail
  refine (H2.out _ HB2.out).mono ?_
  rintro e w3 ⟨hb, hE⟩
  have HB3 := Lib.hid (bel0 HB2.out hb)
  clear hb H2 HB2
  rcases hE with ⟨hC, sv, rfl, hv⟩ | ⟨hC, rfl⟩
  · have HM1 := Lib.hid (HM.out w3 sv hv)
    have HP := Lib.hid (HP.out hC)
    clear hv HM HST hC
    go_wp2_with fail
    refine HM1.out.mono ?_
    rintro e w4 ⟨s4, rfl, hv, hb⟩
    have HBC := Lib.hid (HP.out w4 s4 (bel0 HB3.out hb) hv)
    clear hv hb HB3 HP HM1
    go_wp2_with fail
    refine HBC.out.mono ?_
    intro e w9 hp
    have HP := Lib.hid hp
    rcases act_cases hp with rfl | ⟨C9, rfl⟩
    · clear hp
      go_wp2
      go_end0
      exact HP.out
    · clear hp
      unfold Stop at HP ⊢
      go_wp2
      exact ⟨rfl, HP.out⟩
  · have HZ := Lib.hid (HST.out w3 HB3.out hC)
    clear HB3 HP HM HST
    unfold Stop at HZ ⊢
    go_wp2
    exact ⟨rfl, HZ.out⟩
/-- What unpack comes to. -/
def unR (q : Qn) (R : Nat → Int) (bs : List UInt8) : List UInt8 := mvL (szB (opY q R bs).length ((q.l1 + 1 : Nat) : Int)) (unpackL (opY q R bs) (q.l1 + 1))
def unO (q : Qn) (R : Nat → Int) (p : Psw) (n : Nat) (bs ks : List UInt8) : Out := thenO (cY q R p n ks) (putO p n bs ks (adF q R) R p 0 (unR q R bs))
set_option maxRecDepth 100000 in
set_option maxHeartbeats 1000000 in
theorem unpack_act (E A : Nat) (q : Qn) (R : Nat → Int) (p : Psw) (g h n m : Nat) (bs ks : List UInt8) (w : World) (hx : Ex w E A q R p 0) (hs : Sto w A g h n m bs ks) (hR : RegOk R) (hq : QOk q) : Calls Tryz.prog 47 #[.pointer (some ⟨E, 0, none⟩)] w (ActPost w E A g h n m q bs ks (unO q R p n bs ks)) := by
  have HF := Lib.hid (first_any E A q R p 0 w hx hR hq)
  have HS := Lib.hid (fun W (hb : Below w.heap.size w W) => second_any E A q R p 0 W (hx.below hb) hR hq)
  have H2 := Lib.hid (fY hx hs)
  have HM : Hid (∀ W sv, SvB W sv (opY q R bs) → Calls Tryz.prog 103 #[sv, .int .i64 ((q.l1 + 1 : Nat) : Int)] W fun e W' => ∃ s, e = .returned s ∧ SvB W' s (unR q R bs) ∧ Below W.heap.size W W') := Lib.hid (fun W sv h1 => by
    obtain ⟨a, k, rfl, r1, _⟩ := h1
    refine (unpack_any a k ((q.l1 + 1 : Nat) : Int) _ W r1).mono (fun e W' hp => ?_)
    exact mv_sv hp (fun h0 => by have := sz_two h0; rw [unpackL_len]; omega))
  have HP : Hid (cY q R p n ks = 0 → ∀ W sv, Below w.heap.size w W → SvB W sv (unR q R bs) → Calls Tryz.prog 100 #[.pointer (some ⟨E, 0, none⟩), sv] W (ActPost w E A g h n m q bs ks (unO q R p n bs ks))) := Lib.hid (fun hC W sv hb hv => by
    unfold unO
    rw [thenO_go _ hC]
    exact (replace_post E A q R p g h n m bs ks 0 sv _ _ W (hx.below hb) (hs.below hb) hv hR hq rfl).mono (fun e w' hp => act_put hb rfl hp))
  have HST := Lib.hid (fun W (hb : Below w.heap.size w W) (hC : cY q R p n ks ≠ 0) => (show ActPost w E A g h n m q bs ks (unO q R p n bs ks) (Stop (cY q R p n ks)) W from act_stop (E := E) q _ hs hb hC))
  clear hx hs hR hq
  generalize unO q R p n bs ks = o at HP HST ⊢
  generalize unR q R bs = r at HM HP
  generalize opY q R bs = y at H2 HM
  generalize cY q R p n ks = C at H2 HP HST
  generalize adF q R = a1 at HF
  generalize adT q R = a2 at HS H2
  generalize q.l1 + 1 = k1 at HF HM
  generalize q.l2 + 1 = k2 at HS H2
  go_enter Tryz.func47, Tryz.ntmps47
  go_wp2_with fail
  refine HF.out.mono ?_
  rintro e w1 ⟨rfl, hb⟩
  have HB1 := Lib.hid hb
  clear hb HF
  go_wp2_with fail
  refine (HS.out _ HB1.out).mono ?_
  rintro e w2 ⟨rfl, hb⟩
  have HB2 := Lib.hid (bel0 HB1.out hb)
  clear hb HS HB1
  go_wp2_with fail
  refine (H2.out _ HB2.out).mono ?_
  rintro e w3 ⟨hb, hE⟩
  have HB3 := Lib.hid (bel0 HB2.out hb)
  clear hb H2 HB2
  rcases hE with ⟨hC, sv, rfl, hv⟩ | ⟨hC, rfl⟩
  · have HM1 := Lib.hid (HM.out w3 sv hv)
    have HP := Lib.hid (HP.out hC)
    clear hv HM HST hC
    go_wp2_with fail
    refine HM1.out.mono ?_
    rintro e w4 ⟨s4, rfl, hv, hb⟩
    have HBC := Lib.hid (HP.out w4 s4 (bel0 HB3.out hb) hv)
    clear hv hb HB3 HP HM1
    go_wp2_with fail
    refine HBC.out.mono ?_
    intro e w9 hp
    have HP := Lib.hid hp
    rcases act_cases hp with rfl | ⟨C9, rfl⟩
    · clear hp
      go_wp2
      go_end0
      exact HP.out
    · clear hp
      unfold Stop at HP ⊢
      go_wp2
      exact ⟨rfl, HP.out⟩
  · have HZ := Lib.hid (HST.out w3 HB3.out hC)
    clear HB3 HP HM HST
    unfold Stop at HZ ⊢
    go_wp2
    exact ⟨rfl, HZ.out⟩
theorem nz_pk (q : Qn) (R : Nat → Int) (p : Psw) (n : Nat) (bs ks : List UInt8) : Nz (pkO q R p n bs ks) := nz_then (nz_put _ _ _ _ _ _ _ _ _)
theorem runs_242 (q : Qn) (R : Nat → Int) (p : Psw) (n : Nat) (bs ks : List UInt8) (hR : RegOk R) (hq : QOk q) (hop : q.op = 242) : Runs q R p n bs ks (pkO q R p n bs ks) :=
  ⟨nz_pk _ _ _ _ _ _, 46, enters_of Tryz.func46 (by kernel_rfl) rfl, fun X => by rw [hop]; exact action_242 X, fun E A g h m X hgX hX hsX => pack_act E A q R p g h n m bs ks X hX hsX hR hq⟩
theorem nz_un (q : Qn) (R : Nat → Int) (p : Psw) (n : Nat) (bs ks : List UInt8) : Nz (unO q R p n bs ks) := nz_then (nz_put _ _ _ _ _ _ _ _ _)
theorem runs_243 (q : Qn) (R : Nat → Int) (p : Psw) (n : Nat) (bs ks : List UInt8) (hR : RegOk R) (hq : QOk q) (hop : q.op = 243) : Runs q R p n bs ks (unO q R p n bs ks) :=
  ⟨nz_un _ _ _ _ _ _, 47, enters_of Tryz.func47 (by kernel_rfl) rfl, fun X => by rw [hop]; exact action_243 X, fun E A g h m X hgX hX hsX => unpack_act E A q R p g h n m bs ks X hX hsX hR hq⟩

end M
end Go.Proofs.YtbcncohjjnmdcaaGreatDoor

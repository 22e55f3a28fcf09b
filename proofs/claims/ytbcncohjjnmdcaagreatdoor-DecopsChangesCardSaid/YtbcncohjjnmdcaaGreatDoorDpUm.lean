/- The program: EDMK. -/
import Derived.Test.YtbcncohjjnmdcaaGreatDoorRows
import Derived.Test.YtbcncohjjnmdcaaGreatDoorDcDs
import Derived.Test.YtbcncohjjnmdcaaGreatDoorDpE
namespace Go.Proofs.YtbcncohjjnmdcaaGreatDoor
namespace E
end E
open Go.RowKit Go.Shelf E
set_option linter.unusedVariables false
namespace M

/-- The register that EDMK sets. -/
def mkV (q : Qn) (R : Nat → Int) (mk : Int) : Int := bits .or .u32 (bits .andNot .u32 (R 1) 16777215) (wrap64 ((adF q R : Int) + mk) % 4294967296)
def edmR (q : Qn) (R : Nat → Int) (mk : Int) : Nat → Int := if 0 ≤ mk then upd R 1 (mkV q R mk) else R
def mapO (f : Nat → Int) : Out → Out
  | .stop C => .stop C
  | .go _ p c b => .go f p c b
def edmO (q : Qn) (R : Nat → Int) (p : Psw) (n : Nat) (bs ks : List UInt8) : Out := mapO (edmR q R (edRR q R p n bs ks).2.2.1) (edtO q R p n bs ks)
theorem edt_regs (q : Qn) (R : Nat → Int) (p : Psw) (n : Nat) (bs ks : List UInt8) : (∃ C, edtO q R p n bs ks = .stop C) ∨ ∃ p' c b, edtO q R p n bs ks = .go R p' c b := by
  unfold edtO putO thenO
  repeat' split
  all_goals first | exact .inl ⟨_, rfl⟩ | exact .inr ⟨_, _, _, rfl⟩
set_option maxRecDepth 100000 in
set_option maxHeartbeats 1000000 in
theorem editAndMark_act (E A : Nat) (q : Qn) (R : Nat → Int) (p : Psw) (g h n m : Nat) (bs ks : List UInt8) (w : World) (hx : Ex w E A q R p 0) (hs : Sto w A g h n m bs ks) (hR : RegOk R) (hq : QOk q) : Calls Tryz.prog 57 #[.pointer (some ⟨E, 0, none⟩)] w (ActPost w E A g h n m q bs ks (edmO q R p n bs ks)) := by
  have HF := Lib.hid (first_any E A q R p 0 w hx hR hq)
  have HT : Hid (∀ W, Below w.heap.size w W → Calls Tryz.prog 116 #[.pointer (some ⟨E, 0, none⟩)] W (EdtPost W E A g h n m q bs ks (edtO q R p n bs ks) (edRR q R p n bs ks).2.2.1)) := Lib.hid (fun W hb => editText_post E A q R p g h n m bs ks W (hx.below hb) (hs.below hb) hR hq)
  obtain ⟨t1, t2, t3⟩ := hx.ne_sto hs
  have HNE := Lib.hid (And.intro t1 (And.intro t2 t3))
  have hmk : -9223372036854775808 ≤ (adF q R : Int) ∧ (adF q R : Int) < 16777216 := by have := adF_lt q R; omega
  have HER := Lib.hid (edt_regs q R p n bs ks)
  obtain ⟨o, ho⟩ : ∃ o, o = edtO q R p n bs ks := ⟨_, rfl⟩
  unfold edmO
  rw [← ho] at HT HER ⊢
  unfold edmR mkV
  clear ho hx hs hR hq t1 t2 t3
  generalize (edRR q R p n bs ks).2.2.1 = mk at HT ⊢
  generalize adF q R = a1 at HF hmk ⊢
  generalize q.l1 + 1 = k1 at HF
  rcases HER.out with ⟨C, rfl⟩ | ⟨p', c', b', rfl⟩
  · unfold mapO
    go_enter Tryz.func57, Tryz.ntmps57
    go_wp2_with fail
    refine HF.out.mono ?_
    rintro e w1 ⟨rfl, hb⟩
    have HB1 := Lib.hid hb
    have HT1 := Lib.hid (HT.out w1 hb)
    clear hb HF HT HER
    go_wp2_with fail
    refine HT1.out.mono ?_
    clear HT1
    rintro e w2 ⟨rfl, h2, h3⟩
    have HZ : Hid (ActPost w E A g h n m q bs ks (.stop C) (Stop C) w2) := Lib.hid ⟨rfl, h2, (Kp.bel HB1.out).trans h3⟩
    clear h2 h3 HB1
    unfold Stop at HZ ⊢
    go_wp2
    exact ⟨rfl, HZ.out⟩
  · unfold mapO
    by_cases h0 : 0 ≤ mk
    · rw [if_pos h0]
      go_enter Tryz.func57, Tryz.ntmps57
      go_wp2_with fail
      refine HF.out.mono ?_
      rintro e w1 ⟨rfl, hb⟩
      have HB1 := Lib.hid hb
      have HT1 := Lib.hid (HT.out w1 hb)
      clear hb HF HT HER
      go_wp2_with fail
      refine HT1.out.mono ?_
      clear HT1
      rintro e w2 ⟨rfl, hx2, hs2, hk2⟩
      have c13 := hx2.reg (show 1 < 16 by decide)
      have fz := hx2.fz 13
      have HZ : Hid (ActPost w E A g h n m q bs ks (.go (upd R 1 (bits .or .u32 (bits .andNot .u32 (R 1) 16777215) (wrap64 ((a1 : Int) + mk) % 4294967296))) p' c' b') (.returned (.tuple #[])) (w2.setCell ⟨E, 12 + 1, none⟩ (.int .u32 (bits .or .u32 (bits .andNot .u32 (R 1) 16777215) (wrap64 ((a1 : Int) + mk) % 4294967296)))).drew) := Lib.hid ⟨rfl, (hx2.setReg (by decide) _).drew, (Sto.far hs2 HNE.out.1 HNE.out.2.1 HNE.out.2.2 _).below (bel_drew _), (((Kp.bel HB1.out).trans hk2).trans (kp_set _ _ _ _ _ (by simp))).trans (kp_drew _ _)⟩
      clear hx2 hs2 hk2 HB1 HNE
      go_wp2_with fail
      go_still_tail 15, (by kernel_rfl)
      change wpList _ _ _ _ _ w2.drew
      go_wp2
      go_end0
      exact HZ.out
    · rw [if_neg h0]
      go_enter Tryz.func57, Tryz.ntmps57
      go_wp2_with fail
      refine HF.out.mono ?_
      rintro e w1 ⟨rfl, hb⟩
      have HB1 := Lib.hid hb
      have HT1 := Lib.hid (HT.out w1 hb)
      clear hb HF HT HER
      go_wp2_with fail
      refine HT1.out.mono ?_
      clear HT1
      rintro e w2 ⟨rfl, hx2, hs2, hk2⟩
      have HZ : Hid (ActPost w E A g h n m q bs ks (.go R p' c' b') (.returned (.tuple #[])) w2) := Lib.hid ⟨rfl, hx2, hs2, (Kp.bel HB1.out).trans hk2⟩
      clear hx2 hs2 hk2 HNE HB1
      go_wp2
      go_end0
      exact HZ.out

end M
end Go.Proofs.YtbcncohjjnmdcaaGreatDoor
namespace Go.Proofs.YtbcncohjjnmdcaaGreatDoor
namespace E
end E
open Go.RowKit Go.Shelf E
set_option linter.unusedVariables false
namespace M

/-- The code of the lengths of MP and DP. -/
def unC (q : Qn) : Int := if 8 < q.l2 + 1 ∨ q.l1 + 1 ≤ q.l2 + 1 then 6 else 0
set_option maxRecDepth 100000 in
set_option maxHeartbeats 1000000 in
theorem unequal_post (E A : Nat) (q : Qn) (R : Nat → Int) (p : Psw) (g h n m : Nat) (bs ks : List UInt8) (c : Int) (w : World) (hx : Ex w E A q R p c) (hs : Sto w A g h n m bs ks) (hR : RegOk R) (hq : QOk q) : Calls Tryz.prog 112 #[.pointer (some ⟨E, 0, none⟩)] w (OpsPost w (if unC q = 0 then cXY q R p n ks else unC q) (opX q R bs) (opY q R bs)) := by
  unfold OpsPost
  have HF := Lib.hid (first_any E A q R p c w hx hR hq)
  have HS := Lib.hid (fun W (hb : Below w.heap.size w W) => second_any E A q R p c W (hx.below hb) hR hq)
  have HO : Hid (∀ W, Below w.heap.size w W → Calls Tryz.prog 105 #[.pointer (some ⟨E, 0, none⟩)] W (OpsPost W (cXY q R p n ks) (opX q R bs) (opY q R bs))) := Lib.hid (fun W hb => operands_post E A q R p g h n m bs ks c W (hx.below hb) (hs.below hb) hR hq)
  have HN := Lib.hid (endOn_no 6)
  clear hx hs hR
  have hl1 := hq.l1
  have hl2 := hq.l2
  clear hq
  unfold unC
  generalize opX q R bs = x at HO ⊢
  generalize opY q R bs = y at HO ⊢
  generalize cXY q R p n ks = C at HO ⊢
  generalize adF q R = a1 at HF
  generalize adT q R = a2 at HS
  obtain ⟨k1, hk1⟩ : ∃ k, k = q.l1 + 1 := ⟨_, rfl⟩
  obtain ⟨k2, hk2⟩ : ∃ k, k = q.l2 + 1 := ⟨_, rfl⟩
  rw [← hk1] at HF ⊢
  rw [← hk2] at HS ⊢
  clear hk1 hk2 hl1 hl2
  by_cases hc : 8 < k2 ∨ k1 ≤ k2
  · rw [if_pos hc, if_neg (by decide)]
    have hu : 8 < (k2 : Int) ∨ (¬ (8 < (k2 : Int)) ∧ (k1 : Int) ≤ (k2 : Int)) := by omega
    clear hc
    rcases hu with hu | ⟨hu, hv⟩
    · skip
      go_enter Tryz.func112, Tryz.ntmps112
      go_wp2_with fail
      refine HF.out.mono ?_
      rintro e w1 ⟨rfl, hb⟩
      have HB1 := Lib.hid hb
      clear hb HF
      go_wp2_with fail
      refine (HS.out _ HB1.out).mono ?_
      rintro e w2 ⟨rfl, hb⟩
      have HB2 := Lib.hid (bel0 HB1.out hb)
      clear hb HS HB1
      go_wp2_with fail
      refine (HN.out _ (by decide)).mono ?_
      rintro e w3 ⟨rfl, rfl⟩
      unfold Stop
      go_wp2
      exact ⟨rfl, HB2.out, .inr ⟨by decide, rfl⟩⟩
    · skip
      go_enter Tryz.func112, Tryz.ntmps112
      go_wp2_with fail
      refine HF.out.mono ?_
      rintro e w1 ⟨rfl, hb⟩
      have HB1 := Lib.hid hb
      clear hb HF
      go_wp2_with fail
      refine (HS.out _ HB1.out).mono ?_
      rintro e w2 ⟨rfl, hb⟩
      have HB2 := Lib.hid (bel0 HB1.out hb)
      clear hb HS HB1
      go_wp2_with fail
      refine (HN.out _ (by decide)).mono ?_
      rintro e w3 ⟨rfl, rfl⟩
      unfold Stop
      go_wp2
      exact ⟨rfl, HB2.out, .inr ⟨by decide, rfl⟩⟩
  · rw [if_neg hc, if_pos rfl]
    have hu : ¬ (8 < (k2 : Int)) := by omega
    have hv : ¬ ((k1 : Int) ≤ (k2 : Int)) := by omega
    clear hc
    go_enter Tryz.func112, Tryz.ntmps112
    go_wp2_with fail
    refine HF.out.mono ?_
    rintro e w1 ⟨rfl, hb⟩
    have HB1 := Lib.hid hb
    clear hb HF
    go_wp2_with fail
    refine (HS.out _ HB1.out).mono ?_
    rintro e w2 ⟨rfl, hb⟩
    have HB2 := Lib.hid (bel0 HB1.out hb)
    clear hb HS HB1
    go_wp2_with fail
    refine (HO.out _ HB2.out).mono ?_
    rintro e w3 ⟨hb, hE⟩
    have HB3 := Lib.hid (bel0 HB2.out hb)
    clear hb HO HB2
    rcases hE with ⟨hC, s, t, rfl, h1, h2⟩ | ⟨hC, rfl⟩
    · have H1 := Lib.hid h1
      have H2 := Lib.hid h2
      clear h1 h2
      go_wp2
      refine bodyPost_ret (results_tt rfl rfl rfl) rfl ?_
      exact ⟨HB3.out, .inl ⟨hC, s, t, rfl, H1.out, H2.out⟩⟩
    · unfold Stop
      go_wp2
      exact ⟨rfl, HB3.out, .inr ⟨hC, rfl⟩⟩
/-- What multiply comes to. -/
def mpR (q : Qn) (R : Nat → Int) (bs : List UInt8) : List UInt8 × Nat := mulL (opX q R bs) (opY q R bs)
def mpO (q : Qn) (R : Nat → Int) (p : Psw) (n : Nat) (bs ks : List UInt8) : Out := thenO (if unC q = 0 then cXY q R p n ks else unC q) (thenO ((mpR q R bs).2 : Int) (putO p n bs ks (adF q R) R p 0 (mpR q R bs).1))
set_option maxRecDepth 100000 in
set_option maxHeartbeats 1000000 in
theorem multiply_act (E A : Nat) (q : Qn) (R : Nat → Int) (p : Psw) (g h n m : Nat) (bs ks : List UInt8) (w : World) (hx : Ex w E A q R p 0) (hs : Sto w A g h n m bs ks) (hg : Sg w) (hR : RegOk R) (hq : QOk q) : Calls Tryz.prog 53 #[.pointer (some ⟨E, 0, none⟩)] w (ActPost w E A g h n m q bs ks (mpO q R p n bs ks)) := by
  have HO := Lib.hid (unequal_post E A q R p g h n m bs ks 0 w hx hs hR hq)
  have hlx : (opX q R bs).length ≤ 9223372036854775807 := by
    have := hq.l1
    unfold opX subL
    rw [List.length_take]
    omega
  have hly : (opY q R bs).length ≤ 9223372036854775807 := by
    have := hq.l2
    unfold opY subL
    rw [List.length_take]
    omega
  have HM : Hid (∀ W s t, Below w.heap.size w W → SvB W s (opX q R bs) → SvB W t (opY q R bs) → Calls Tryz.prog 111 #[s, t] W (R2Post W (mpR q R bs))) := Lib.hid (fun W s t hb h1 h2 => by
    obtain ⟨a, k, rfl, r1, z1, z2, _⟩ := h1
    obtain ⟨b, k2, rfl, r2, _⟩ := h2
    exact pmul_any a b k k2 _ _ W z1 z2 hly r1 r2 (hg.below hb))
  have HY := Lib.hid endOn_yes
  have HN := Lib.hid endOn_no
  have HST := Lib.hid (fun W (hb : Below w.heap.size w W) (hC : (if unC q = 0 then cXY q R p n ks else unC q) ≠ 0) => (show ActPost w E A g h n m q bs ks (mpO q R p n bs ks) (Stop (if unC q = 0 then cXY q R p n ks else unC q)) W from act_stop (E := E) q _ hs hb hC))
  have HS2 : Hid ((if unC q = 0 then cXY q R p n ks else unC q) = 0 → ∀ W, Below w.heap.size w W → ((mpR q R bs).2 : Int) ≠ 0 → ActPost w E A g h n m q bs ks (mpO q R p n bs ks) (Stop ((mpR q R bs).2 : Int)) W) := Lib.hid (fun h1 W hb hC => by
    unfold mpO
    rw [thenO_go _ h1]
    exact act_stop (E := E) q _ hs hb hC)
  have HP : Hid ((if unC q = 0 then cXY q R p n ks else unC q) = 0 → ((mpR q R bs).2 : Int) = 0 → ∀ W sv, Below w.heap.size w W → SvB W sv (mpR q R bs).1 → Calls Tryz.prog 100 #[.pointer (some ⟨E, 0, none⟩), sv] W (ActPost w E A g h n m q bs ks (mpO q R p n bs ks))) := Lib.hid (fun hC h2 W sv hb hv => by
    unfold mpO
    rw [thenO_go _ hC, thenO_go _ h2]
    exact (replace_post E A q R p g h n m bs ks 0 sv _ _ W (hx.below hb) (hs.below hb) hv hR hq rfl).mono (fun e w' hp => act_put hb rfl hp))
  clear hx hs hR hq hg hlx hly
  unfold R2Post at HM
  generalize mpO q R p n bs ks = o at HST HS2 HP ⊢
  generalize mpR q R bs = r at HM HS2 HP
  generalize r.1 = l at HM HP
  generalize (r.2 : Int) = code at HM HS2 HP
  generalize opX q R bs = x at HO HM
  generalize opY q R bs = y at HO HM
  generalize (if unC q = 0 then cXY q R p n ks else unC q) = C at HO HST HS2 HP
  go_enter Tryz.func53, Tryz.ntmps53
  go_wp2_with fail
  refine HO.out.mono ?_
  rintro e w1 ⟨hb, hE⟩
  have HB1 := Lib.hid hb
  clear hb HO
  rcases hE with ⟨hC, s, t, rfl, h1, h2⟩ | ⟨hC, rfl⟩
  rotate_left
  · have HZ := Lib.hid (HST.out w1 HB1.out hC)
    clear HB1 HS2 HP HM HST HY HN
    unfold Stop at HZ ⊢
    go_wp2
    exact ⟨rfl, HZ.out⟩
  have HM1 := Lib.hid (HM.out w1 s t HB1.out h1 h2)
  have HS2 := Lib.hid (HS2.out hC)
  have HP := Lib.hid (HP.out hC)
  clear h1 h2 HM HST hC
  go_wp2_with fail
  refine HM1.out.mono ?_
  rintro e w2 ⟨sv, rfl, hv, hb⟩
  have HB2 := Lib.hid (bel0 HB1.out hb)
  have HV := Lib.hid hv
  clear hb HB1 HM1 hv
  by_cases h0 : code = 0
  rotate_left
  · go_wp2_with fail
    refine (HN.out _ _ h0).mono ?_
    rintro e w3 ⟨rfl, rfl⟩
    have HZ := Lib.hid (HS2.out w2 HB2.out h0)
    clear HB2 HS2 HP HY HN HV
    unfold Stop at HZ ⊢
    go_wp2
    exact ⟨rfl, HZ.out⟩
  have HBC := Lib.hid (HP.out h0 w2 sv HB2.out HV.out)
  subst h0
  go_wp2_with fail
  refine (HY.out _).mono ?_
  rintro e w3 ⟨rfl, rfl⟩
  clear HB2 HS2 HP HY HN HV
  go_wp2_with fail
  refine HBC.out.mono ?_
  intro e w9 hp
  have HP := Lib.hid hp
  rcases act_cases hp with rfl | ⟨C9, rfl⟩
  · clear hp
    go_wp2
    go_end0
    exact HP.out
  · clear hp
    unfold Stop at HP ⊢
    go_wp2
    exact ⟨rfl, HP.out⟩
/-- What divide comes to. -/
def dpR (q : Qn) (R : Nat → Int) (bs : List UInt8) : List UInt8 × Nat := divL (opX q R bs) (opY q R bs)
def dpO (q : Qn) (R : Nat → Int) (p : Psw) (n : Nat) (bs ks : List UInt8) : Out := thenO (if unC q = 0 then cXY q R p n ks else unC q) (thenO ((dpR q R bs).2 : Int) (putO p n bs ks (adF q R) R p 0 (dpR q R bs).1))
set_option maxRecDepth 100000 in
set_option maxHeartbeats 1000000 in
theorem divide_act (E A : Nat) (q : Qn) (R : Nat → Int) (p : Psw) (g h n m : Nat) (bs ks : List UInt8) (w : World) (hx : Ex w E A q R p 0) (hs : Sto w A g h n m bs ks) (hg : Sg w) (hR : RegOk R) (hq : QOk q) : Calls Tryz.prog 54 #[.pointer (some ⟨E, 0, none⟩)] w (ActPost w E A g h n m q bs ks (dpO q R p n bs ks)) := by
  have HO := Lib.hid (unequal_post E A q R p g h n m bs ks 0 w hx hs hR hq)
  have hlx : (opX q R bs).length ≤ 9223372036854775807 := by
    have := hq.l1
    unfold opX subL
    rw [List.length_take]
    omega
  have hly : (opY q R bs).length ≤ 9223372036854775807 := by
    have := hq.l2
    unfold opY subL
    rw [List.length_take]
    omega
  have HM : Hid (∀ W s t, Below w.heap.size w W → SvB W s (opX q R bs) → SvB W t (opY q R bs) → Calls Tryz.prog 113 #[s, t] W (R2Post W (dpR q R bs))) := Lib.hid (fun W s t hb h1 h2 => by
    obtain ⟨a, k, rfl, r1, z1, z2, _⟩ := h1
    obtain ⟨b, k2, rfl, r2, _⟩ := h2
    exact pdiv4_any a b k k2 _ _ W z1 z2 hly r1 r2 (hg.below hb))
  have HY := Lib.hid endOn_yes
  have HN := Lib.hid endOn_no
  have HST := Lib.hid (fun W (hb : Below w.heap.size w W) (hC : (if unC q = 0 then cXY q R p n ks else unC q) ≠ 0) => (show ActPost w E A g h n m q bs ks (dpO q R p n bs ks) (Stop (if unC q = 0 then cXY q R p n ks else unC q)) W from act_stop (E := E) q _ hs hb hC))
  have HS2 : Hid ((if unC q = 0 then cXY q R p n ks else unC q) = 0 → ∀ W, Below w.heap.size w W → ((dpR q R bs).2 : Int) ≠ 0 → ActPost w E A g h n m q bs ks (dpO q R p n bs ks) (Stop ((dpR q R bs).2 : Int)) W) := Lib.hid (fun h1 W hb hC => by
    unfold dpO
    rw [thenO_go _ h1]
    exact act_stop (E := E) q _ hs hb hC)
  have HP : Hid ((if unC q = 0 then cXY q R p n ks else unC q) = 0 → ((dpR q R bs).2 : Int) = 0 → ∀ W sv, Below w.heap.size w W → SvB W sv (dpR q R bs).1 → Calls Tryz.prog 100 #[.pointer (some ⟨E, 0, none⟩), sv] W (ActPost w E A g h n m q bs ks (dpO q R p n bs ks))) := Lib.hid (fun hC h2 W sv hb hv => by
    unfold dpO
    rw [thenO_go _ hC, thenO_go _ h2]
    exact (replace_post E A q R p g h n m bs ks 0 sv _ _ W (hx.below hb) (hs.below hb) hv hR hq rfl).mono (fun e w' hp => act_put hb rfl hp))
  clear hx hs hR hq hg hlx hly
  unfold R2Post at HM
  generalize dpO q R p n bs ks = o at HST HS2 HP ⊢
  generalize dpR q R bs = r at HM HS2 HP
  generalize r.1 = l at HM HP
  generalize (r.2 : Int) = code at HM HS2 HP
  generalize opX q R bs = x at HO HM
  generalize opY q R bs = y at HO HM
  generalize (if unC q = 0 then cXY q R p n ks else unC q) = C at HO HST HS2 HP
  go_enter Tryz.func54, Tryz.ntmps54
  go_wp2_with fail
  refine HO.out.mono ?_
  rintro e w1 ⟨hb, hE⟩
  have HB1 := Lib.hid hb
  clear hb HO
  rcases hE with ⟨hC, s, t, rfl, h1, h2⟩ | ⟨hC, rfl⟩
  rotate_left
  · have HZ := Lib.hid (HST.out w1 HB1.out hC)
    clear HB1 HS2 HP HM HST HY HN
    unfold Stop at HZ ⊢
    go_wp2
    exact ⟨rfl, HZ.out⟩
  have HM1 := Lib.hid (HM.out w1 s t HB1.out h1 h2)
  have HS2 := Lib.hid (HS2.out hC)
  have HP := Lib.hid (HP.out hC)
  clear h1 h2 HM HST hC
  go_wp2_with fail
  refine HM1.out.mono ?_
  rintro e w2 ⟨sv, rfl, hv, hb⟩
  have HB2 := Lib.hid (bel0 HB1.out hb)
  have HV := Lib.hid hv
  clear hb HB1 HM1 hv
  by_cases h0 : code = 0
  rotate_left
  · go_wp2_with fail
    refine (HN.out _ _ h0).mono ?_
    rintro e w3 ⟨rfl, rfl⟩
    have HZ := Lib.hid (HS2.out w2 HB2.out h0)
    clear HB2 HS2 HP HY HN HV
    unfold Stop at HZ ⊢
    go_wp2
    exact ⟨rfl, HZ.out⟩
  have HBC := Lib.hid (HP.out h0 w2 sv HB2.out HV.out)
  subst h0
  go_wp2_with fail
  refine (HY.out _).mono ?_
  rintro e w3 ⟨rfl, rfl⟩
  clear HB2 HS2 HP HY HN HV
  go_wp2_with fail
  refine HBC.out.mono ?_
  intro e w9 hp
  have HP := Lib.hid hp
  rcases act_cases hp with rfl | ⟨C9, rfl⟩
  · clear hp
    go_wp2
    go_end0
    exact HP.out
  · clear hp
    unfold Stop at HP ⊢
    go_wp2
    exact ⟨rfl, HP.out⟩

end M
end Go.Proofs.YtbcncohjjnmdcaaGreatDoor

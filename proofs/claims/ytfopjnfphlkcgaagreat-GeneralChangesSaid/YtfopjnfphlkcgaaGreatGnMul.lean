/- The program: fields that are compared. -/
import Derived.Test.YtfopjnfphlkcgaaGreatRows
import Derived.Test.YtfopjnfphlkcgaaGreatGnRepl
import Derived.Test.YtfopjnfphlkcgaaGreatGnTest
namespace Go.Proofs.YtfopjnfphlkcgaaGreat
open Go.RowKit Go.Shelf E
set_option linter.unusedVariables false
namespace M

/-- How the first bytes that differ are ordered. -/
def cpF (T U : List UInt8) : Nat → Nat → Int
  | _, 0 => 0
  | k, f + 1 => if (gt T k).toNat = (gt U k).toNat then cpF T U (k + 1) f else W.ord ((gt T k).toNat : Int) ((gt U k).toNat : Int)
/-- The code of an instruction that fetches two fields. -/
def cpC (q : Qn) (R : Nat → Int) (p : Psw) (n : Nat) (ks : List UInt8) : Int := if codeV (ftP p.k) n ks (adF q R : Int) ((q.l1 + 1 : Nat) : Int) = 0 then codeV (ftP p.k) n ks (adT q R : Int) ((q.l1 + 1 : Nat) : Int) else codeV (ftP p.k) n ks (adF q R : Int) ((q.l1 + 1 : Nat) : Int)
def cpV (q : Qn) (R : Nat → Int) (bs : List UInt8) : Int := cpF (subL bs (adF q R) (q.l1 + 1)) (subL bs (adT q R) (q.l1 + 1)) 0 (q.l1 + 1)
set_option maxRecDepth 100000 in
set_option maxHeartbeats 2000000 in
theorem compareFields_any (E A : Nat) (q : Qn) (R : Nat → Int) (p : Psw) (c : Int) (g h n m : Nat) (bs ks : List UInt8) (w : World) (hx : Ex w E A q R p c) (hs : Sto w A g h n m bs ks) (hR : RegOk R) (hq : QOk q) : Calls Tryz.prog 72 #[.pointer (some ⟨E, 0, none⟩)] w (RegPost w E A q (cpC q R p n ks) R { p with cc := cpV q R bs } c) := by
  have hl := hq.l1
  have hA1 := adF_lt q R
  have hA2 := adT_lt q R
  have HA := Lib.hid (fields_any E A q R p c w hx hR hq)
  have HF1 := Lib.hid (fun X (hX : Below w.heap.size w X) (h0 : codeV (ftP p.k) n ks (adF q R : Int) ((q.l1 + 1 : Nat) : Int) = 0) => fetch_ok E A q R p c g h n m bs ks (adF q R) (q.l1 + 1) X (hx.below hX) (hs.below hX) (by omega) h0)
  have HG1 := Lib.hid (fun X (hX : Below w.heap.size w X) (h0 : codeV (ftP p.k) n ks (adF q R : Int) ((q.l1 + 1 : Nat) : Int) ≠ 0) => fetch_no E A q R p c g h n m bs ks (adF q R) (q.l1 + 1) _ h0 X (hx.below hX) (hs.below hX) (by omega) rfl)
  have HF2 := Lib.hid (fun X (hX : Below w.heap.size w X) (h0 : codeV (ftP p.k) n ks (adT q R : Int) ((q.l1 + 1 : Nat) : Int) = 0) => fetch_ok E A q R p c g h n m bs ks (adT q R) (q.l1 + 1) X (hx.below hX) (hs.below hX) (by omega) h0)
  have HG2 := Lib.hid (fun X (hX : Below w.heap.size w X) (h0 : codeV (ftP p.k) n ks (adT q R : Int) ((q.l1 + 1 : Nat) : Int) ≠ 0) => fetch_no E A q R p c g h n m bs ks (adT q R) (q.l1 + 1) _ h0 X (hx.below hX) (hs.below hX) (by omega) rfl)
  have HL1 := Lib.hid (fun (h0 : codeV (ftP p.k) n ks (adF q R : Int) ((q.l1 + 1 : Nat) : Int) = 0) => code_len (k := q.l1 + 1) hs.nums.1 h0)
  have HL2 := Lib.hid (fun (h0 : codeV (ftP p.k) n ks (adT q R : Int) ((q.l1 + 1 : Nat) : Int) = 0) => code_len (k := q.l1 + 1) hs.nums.1 h0)
  have HX := Lib.hid (fun X (hX : Below w.heap.size w X) => hx.below hX)
  have HK := Lib.hid (show codeV (ftP p.k) n ks (adF q R : Int) ((q.l1 + 1 : Nat) : Int) ≠ 0 → cpC q R p n ks = codeV (ftP p.k) n ks (adF q R : Int) ((q.l1 + 1 : Nat) : Int) from fun h0 => if_neg h0)
  have HK2 := Lib.hid (show codeV (ftP p.k) n ks (adF q R : Int) ((q.l1 + 1 : Nat) : Int) = 0 → cpC q R p n ks = codeV (ftP p.k) n ks (adT q R : Int) ((q.l1 + 1 : Nat) : Int) from fun h0 => if_pos h0)
  have hV : cpV q R bs = cpF (subL bs (adF q R) (q.l1 + 1)) (subL bs (adT q R) (q.l1 + 1)) 0 (q.l1 + 1) := rfl
  generalize cpC q R p n ks = CC at HK HK2 ⊢
  generalize cpV q R bs = V at hV ⊢
  generalize codeV (ftP p.k) n ks (adF q R : Int) ((q.l1 + 1 : Nat) : Int) = C1 at HF1 HG1 HL1 HK HK2
  generalize codeV (ftP p.k) n ks (adT q R : Int) ((q.l1 + 1 : Nat) : Int) = C2 at HF2 HG2 HL2 HK2
  generalize subL bs (adF q R) (q.l1 + 1) = T at HF1 HL1 hV
  generalize subL bs (adT q R) (q.l1 + 1) = U at HF2 HL2 hV
  generalize adF q R = a1 at *
  generalize adT q R = a2 at *
  have hN0 : 0 < q.l1 + 1 := by omega
  have hN1 : q.l1 + 1 < 257 := by omega
  clear hx hs hR hq hl
  generalize q.l1 + 1 = N at *
  have HV := Lib.hid hV
  clear hV
  go_enter Tryz.func72, Tryz.ntmps72
  go_wp2_with fail
  refine HA.out.mono ?_
  rintro e w1 ⟨rfl, hb⟩
  have HB := Lib.hid hb
  clear hb HA
  by_cases h1 : C1 = 0
  · go_wp2_with fail
    refine (HF1.out _ HB.out h1).mono ?_
    rintro e w2 ⟨sv, rfl, hh, hb⟩
    obtain ⟨B1, cap1, rfl, hB1, hr1, hcap1⟩ := hold_n hh (HL1.out h1) hN0
    have hb2 := bel0 HB.out hb
    have hB1' : w.heap.size ≤ B1 := by
      have := HB.out.size
      omega
    clear hh hb HF1 HG1 HK
    go_wp2_with fail
    by_cases h2 : C2 = 0
    · refine (HF2.out _ hb2 h2).mono ?_
      rintro e x3 ⟨sv2, rfl, hh, hb⟩
      obtain ⟨B2, cap2, rfl, hB2, hr2, _⟩ := hold_n hh (HL2.out h2) hN0
      have hb3 := bel0 hb2 hb
      have hx3 := HX.out _ hb3
      have hEB1 : B1 ≠ E := by
        have := (HX.out w (Below.refl _ _)).lt
        omega
      have hEB2 : B2 ≠ E := by
        have := (HX.out w (Below.refl _ _)).lt
        have := hb2.size
        omega
      have c1 := hx3.pcc
      have c2 := hx3.fz 35
      have h4 := hx3.setCc 0
      have r1 := hr1.below hb
      have HE4 : Hid (Ex (x3.setCell ⟨E, 35, none⟩ (.int .i64 0)) E A q R { p with cc := 0 } c) := Lib.hid h4
      have HR1 : Hid (Row (x3.setCell ⟨E, 35, none⟩ (.int .i64 0)) B1 5 (bsU T) cap1) := Lib.hid (r1.kp (kp_set x3 E 35 _ [E] (by simp)) (by simpa using hEB1))
      have HR2 : Hid (Row (x3.setCell ⟨E, 35, none⟩ (.int .i64 0)) B2 5 (bsU U) cap2) := Lib.hid (hr2.kp (kp_set x3 E 35 _ [E] (by simp)) (by simpa using hEB2))
      have HKP : Hid (Kp w (x3.setCell ⟨E, 35, none⟩ (.int .i64 0)) [E]) := Lib.hid ((Kp.bel hb3).trans (kp_set x3 E 35 _ [E] (by simp)))
      have HT := Lib.hid (HL1.out h1)
      have HU := Lib.hid (HL2.out h2)
      have HCC := Lib.hid ((HK2.out h1).trans h2)
      clear HF2 HG2 HK2 hh hb hB2 hr2 hb3 h1 h2 HL1 HL2 hx3 h4 r1 hr1 hb2 hB1 hB1' hEB1 hEB2 HX HB
      go_wp2
      clear c1 c2
      generalize x3.setCell ⟨E, 35, none⟩ (.int .i64 0) = x4 at HE4 HR1 HR2 HKP ⊢
      go_loopw [28] (fun i wr => ∃ k : Nat, k ≤ N ∧ i = .int .i64 (k : Int) ∧ Below x4.heap.size x4 wr ∧ V = cpF T U k (N - k)) (fun i _ => N - (intOf i).toNat)
      case atStart => exact ⟨0, Nat.zero_le _, rfl, Below.refl _ _, HV.out⟩
      case round =>
        obtain ⟨k, hk, rfl, hb, hv⟩ := hrel
        by_cases hlt : k < N
        · have hlt' : (k : Int) < (N : Int) := by omega
          have b5 := bel0 hb (bel_drew wr)
          have d1 := (HR1.out.below hb).cell k (by rw [bsU_len, HT.out]; exact hlt)
          rw [bsU_get _ _ (by rw [HT.out]; exact hlt)] at d1
          have d2 := (HR2.out.below hb).cell k (by rw [bsU_len, HU.out]; exact hlt)
          rw [bsU_get _ _ (by rw [HU.out]; exact hlt)] at d2
          have f1 := (HR1.out.below b5).cell k (by rw [bsU_len, HT.out]; exact hlt)
          rw [bsU_get _ _ (by rw [HT.out]; exact hlt)] at f1
          have f2 := (HR2.out.below b5).cell k (by rw [bsU_len, HU.out]; exact hlt)
          rw [bsU_get _ _ (by rw [HU.out]; exact hlt)] at f2
          have e1 : N - k = (N - (k + 1)) + 1 := by omega
          rw [e1] at hv
          have hv2 : V = if (gt T k).toNat = (gt U k).toNat then cpF T U (k + 1) (N - (k + 1)) else W.ord ((gt T k).toNat : Int) ((gt U k).toNat : Int) := hv
          have l1 := (gt T k).toNat_lt
          have l2 := (gt U k).toNat_lt
          obtain ⟨x, hx0⟩ : ∃ x, (gt T k).toNat = x := ⟨_, rfl⟩
          obtain ⟨y, hy0⟩ : ∃ y, (gt U k).toNat = y := ⟨_, rfl⟩
          rw [hx0] at d1 f1 hv2 l1
          rw [hy0] at d2 f2 hv2 l2
          have HX1 := Lib.hid hx0
          have HX2 := Lib.hid hy0
          clear hx0 hy0
          have HB5 := Lib.hid b5
          clear hv e1 hb b5
          by_cases hxy : x = y
          · subst hxy
            rw [if_pos rfl] at hv2
            have HV2 := Lib.hid hv2
            clear hv2
            go_wp2_with fail
            go_still (by kernel_rfl)
            go_wp2
            go_roundw
            case rel => exact ⟨k + 1, hlt, by go_num, HB5.out, HV2.out⟩
            case measure => simp [intOf]; omega
          · rw [if_neg hxy] at hv2
            have hne : ((x : Int) == (y : Int)) = false := beq_eq_false_iff_ne.2 (fun h => hxy (by omega))
            have HC : Hid (∀ X, Calls Tryz.prog 135 #[.int .u32 (IntKind.u32.wrap (x : Int)), .int .u32 (IntKind.u32.wrap (y : Int))] X fun e X' => e = .returned (.int .i64 V) ∧ X = X') := Lib.hid (fun X => by
              rw [show IntKind.u32.wrap (x : Int) = (x : Int) by show (x : Int) % 4294967296 = _; omega, show IntKind.u32.wrap (y : Int) = (y : Int) by show (y : Int) % 4294967296 = _; omega, hv2]
              exact W.wCompareLogical_any (x : Int) (y : Int) X)
            obtain ⟨wz, hwz⟩ : ∃ wz, wz = wr.drew := ⟨_, rfl⟩
            have b6 : Below x4.heap.size x4 wz.drew := by
              rw [hwz]
              exact bel0 HB5.out (bel_drew wr.drew)
            have g1 := (HR1.out.below b6).cell k (by rw [bsU_len, HT.out]; exact hlt)
            rw [bsU_get _ _ (by rw [HT.out]; exact hlt), HX1.out] at g1
            have g2 := (HR2.out.below b6).cell k (by rw [bsU_len, HU.out]; exact hlt)
            rw [bsU_get _ _ (by rw [HU.out]; exact hlt), HX2.out] at g2
            have hE := HE4.out.below b6
            have c1 := hE.pcc
            have c2 := hE.fz 35
            have HE6 := Lib.hid (hE.setCc V)
            have HK6 := Lib.hid ((HKP.out.trans (Kp.bel b6)).trans (kp_set _ E 35 (.int .i64 V) [E] (by simp)))
            clear hv2 hE hxy HR1 HR2 HE4 HKP b6
            go_wp2_with fail
            go_still (by kernel_rfl)
            change Exit.then _ _ Exit.normal _ wr.drew
            rw [← hwz]
            clear hwz d1 d2 f1 f2
            go_wp2_with fail
            refine wp_region_still_tail 12 (by kernel_rfl) (by kernel_rfl) ?_
            simp only [List.take_succ_cons, List.take_zero, List.drop_succ_cons, List.drop_zero]
            repeat still_step
            still_call ((HC.out _).mono (fun _ _ h => ⟨h.1, h.2.symm⟩))
            repeat still_step
            refine wpStill_nil ?_
            change wpList _ _ _ _ _ wz.drew
            go_wp2
            go_end0
            exact .inr ⟨HCC.out, rfl, HE6.out, HK6.out⟩
        · obtain rfl : k = N := by omega
          have e0 : V = 0 := by
            rw [hv, Nat.sub_self]
            rfl
          have HE6 := Lib.hid (HE4.out.below hb)
          have HK6 := Lib.hid (HKP.out.trans (Kp.bel (l := [E]) hb))
          have E0 := Lib.hid e0
          clear hv e0 hb
          go_wp2
          go_end0
          exact .inr ⟨HCC.out, rfl, by rw [E0.out]; exact HE6.out, HK6.out⟩
    · have H2 := Lib.hid h2
      refine (HG2.out _ hb2 h2).mono ?_
      rintro e x3 ⟨rfl, hb⟩
      have HB3 := Lib.hid (bel0 hb2 hb)
      have HCC := Lib.hid (HK2.out h1)
      clear hb h2 hr1 hb2 HG2
      unfold Stop
      go_wp2
      exact ⟨rfl, .inl ⟨by rw [HCC.out]; exact H2.out, by rw [HCC.out]; rfl, Kp.bel HB3.out⟩⟩
  · have H1 := Lib.hid h1
    go_wp2_with fail
    refine (HG1.out _ HB.out h1).mono ?_
    rintro e w2 ⟨rfl, hb⟩
    have HB3 := Lib.hid (bel0 HB.out hb)
    have HCC := Lib.hid (HK.out h1)
    clear hb h1
    unfold Stop
    go_wp2
    exact ⟨rfl, .inl ⟨by rw [HCC.out]; exact H1.out, by rw [HCC.out]; rfl, Kp.bel HB3.out⟩⟩

end M
end Go.Proofs.YtfopjnfphlkcgaaGreat
namespace Go.Proofs.YtfopjnfphlkcgaaGreat
open Go.RowKit Go.Shelf E
set_option linter.unusedVariables false
namespace M

set_option maxRecDepth 100000 in
set_option maxHeartbeats 1000000 in
theorem multiply_any (E A : Nat) (q : Qn) (R : Nat → Int) (p : Psw) (c : Int) (g h n m : Nat) (bs ks : List UInt8) (w : World) (hx : Ex w E A q R p c) (hs : Sto w A g h n m bs ks) (hR : RegOk R) (hq : QOk q) : Calls Tryz.prog 56 #[.pointer (some ⟨E, 0, none⟩)] w (RegPost w E A q (if q.r1 % 2 = 0 then opC q R p n ks else 6) (upd (upd R q.r1 (W.sg (R (q.r1 + 1)) * W.sg (opV q R bs) % 18446744073709551616 / 4294967296)) (q.r1 + 1) (W.sg (R (q.r1 + 1)) * W.sg (opV q R bs) % 4294967296)) p c) := by
  have HP := Lib.hid (pair_any E A q R p c w hx hq.r1)
  have HX := Lib.hid hx
  by_cases hev : q.r1 % 2 = 0
  · rw [if_pos hev] at HP ⊢
    have h15 : q.r1 < 15 := by have := hq.r1; omega
    have H15 := Lib.hid (show q.r1 + 1 < 16 by omega)
    have HO := Lib.hid (fun (X : World) (hW : Below w.heap.size w X) => operand_any E A q R p c g h n m bs ks X (hx.below hW) (hs.below hW) hR hq)
    have HW := Lib.hid (fun (X : World) => W.wMul_any (R (q.r1 + 1)) (opV q R bs) (hR _).1 (hR _).2 (opV_bd hR).1 (opV_bd hR).2 X)
    have HS := Lib.hid (fun (X : World) (hW : Below w.heap.size w X) => setPair_any E A q R p c (W.sg (R (q.r1 + 1)) * W.sg (opV q R bs) % 18446744073709551616 / 4294967296) (W.sg (R (q.r1 + 1)) * W.sg (opV q R bs) % 4294967296) X (hx.below hW) h15)
    have hr1 : ((q.r1 + 1 : Nat) : Int) < 16 := by omega
    generalize opC q R p n ks = C at HO ⊢
    generalize opV q R bs = v at HO HW HS ⊢
    clear hx hs hR hq hev h15
    go_enter Tryz.func56, Tryz.ntmps56
    go_wp2_with fail
    refine HP.out.mono ?_
    rintro e w1 ⟨hb, ⟨-, rfl⟩ | ⟨hn, -⟩⟩
    rotate_left
    · exact absurd rfl hn
    have HB := Lib.hid hb
    clear hb HP
    go_wp2_with fail
    refine (HO.out _ HB.out).mono ?_
    rintro e w2 ⟨hb, ⟨h0, rfl⟩ | ⟨hn, rfl⟩⟩
    rotate_left
    · have HB2 := Lib.hid (bel0 HB.out hb)
      have HN := Lib.hid hn
      clear hb hn HO HB
      unfold Stop
      go_wp2
      exact ⟨rfl, .inl ⟨HN.out, rfl, Kp.bel HB2.out⟩⟩
    have c2 := (HX.out.below (bel0 HB.out hb)).reg H15.out
    have HB2 := Lib.hid (bel0 HB.out hb)
    have H0 := Lib.hid h0
    clear hb h0 HO HB HX H15
    go_wp2_with fail
    refine (HW.out _).mono ?_
    rintro e w3 ⟨rfl, rfl⟩
    clear c2 hr1 HW
    go_wp2_with fail
    refine (HS.out _ HB2.out).mono ?_
    rintro e w4 ⟨rfl, h2, k2⟩
    have H2 := Lib.hid h2
    have K2 := Lib.hid ((Kp.bel HB2.out).trans k2)
    clear h2 k2 HS HB2
    go_wp2
    go_end0
    exact .inr ⟨H0.out, rfl, H2.out, K2.out⟩
  · rw [if_neg hev] at HP ⊢
    clear hx hs hR hq hev
    go_enter Tryz.func56, Tryz.ntmps56
    go_wp2_with fail
    refine HP.out.mono ?_
    rintro e w1 ⟨hb, ⟨h6, -⟩ | ⟨-, rfl⟩⟩
    · exact absurd h6 (by decide)
    · have HB := Lib.hid hb
      clear hb HP
      unfold Stop
      go_wp2
      exact ⟨rfl, .inl ⟨by decide, rfl, Kp.bel HB.out⟩⟩
set_option maxRecDepth 100000 in
set_option maxHeartbeats 1000000 in
theorem divide_any (E A : Nat) (q : Qn) (R : Nat → Int) (p : Psw) (c : Int) (g h n m : Nat) (bs ks : List UInt8) (w : World) (hx : Ex w E A q R p c) (hs : Sto w A g h n m bs ks) (hR : RegOk R) (hq : QOk q) : Calls Tryz.prog 58 #[.pointer (some ⟨E, 0, none⟩)] w (RegPost w E A q (if q.r1 % 2 = 0 then (if opC q R p n ks = 0 then (if W.dOk (W.sgd (R q.r1) (R (q.r1 + 1))) (W.sg (opV q R bs)) = true then 0 else 9) else opC q R p n ks) else 6) (upd (upd R q.r1 (W.dR (W.sgd (R q.r1) (R (q.r1 + 1))) (W.sg (opV q R bs)))) (q.r1 + 1) (W.dQ (W.sgd (R q.r1) (R (q.r1 + 1))) (W.sg (opV q R bs)))) p c) := by
  have HP := Lib.hid (pair_any E A q R p c w hx hq.r1)
  have HX := Lib.hid hx
  by_cases hev : q.r1 % 2 = 0
  · rw [if_pos hev] at HP ⊢
    have h15 : q.r1 < 15 := by have := hq.r1; omega
    have H15 := Lib.hid (show q.r1 + 1 < 16 by omega)
    have H14 := Lib.hid hq.r1
    have HO := Lib.hid (fun (X : World) (hW : Below w.heap.size w X) => operand_any E A q R p c g h n m bs ks X (hx.below hW) (hs.below hW) hR hq)
    have HW := Lib.hid (fun (X : World) => W.wDiv_any (R q.r1) (R (q.r1 + 1)) (opV q R bs) (hR _).1 (hR _).2 (hR _).1 (hR _).2 (opV_bd hR).1 (opV_bd hR).2 X)
    have HS := Lib.hid (fun (X : World) (hW : Below w.heap.size w X) => setPair_any E A q R p c (W.dR (W.sgd (R q.r1) (R (q.r1 + 1))) (W.sg (opV q R bs))) (W.dQ (W.sgd (R q.r1) (R (q.r1 + 1))) (W.sg (opV q R bs))) X (hx.below hW) h15)
    have HY := Lib.hid (require_yes 9)
    have HN9 := Lib.hid (require_no 9)
    have hr1 : ((q.r1 + 1 : Nat) : Int) < 16 := by omega
    have hr0 : ((q.r1 : Nat) : Int) < 16 := by omega
    generalize opC q R p n ks = C at HO ⊢
    generalize opV q R bs = v at HO HW HS ⊢
    generalize W.dR (W.sgd (R q.r1) (R (q.r1 + 1))) (W.sg v) = dr at HW HS ⊢
    generalize W.dQ (W.sgd (R q.r1) (R (q.r1 + 1))) (W.sg v) = dq at HW HS ⊢
    generalize W.dOk (W.sgd (R q.r1) (R (q.r1 + 1))) (W.sg v) = dk at HW ⊢
    generalize q.r1 + 1 = r' at HP HW HS H15 hr1 ⊢
    generalize hCC : (if C = 0 then (if dk = true then (0 : Int) else 9) else C) = CC
    have HCC := Lib.hid hCC
    clear hCC
    clear hx hs hR hq hev h15
    go_enter Tryz.func58, Tryz.ntmps58
    go_wp2_with fail
    refine HP.out.mono ?_
    rintro e w1 ⟨hb, ⟨-, rfl⟩ | ⟨hn, -⟩⟩
    rotate_left
    · exact absurd rfl hn
    have HB := Lib.hid hb
    clear hb HP
    go_wp2_with fail
    refine (HO.out _ HB.out).mono ?_
    rintro e w2 ⟨hb, ⟨h0, rfl⟩ | ⟨hn, rfl⟩⟩
    rotate_left
    · have HB2 := Lib.hid (bel0 HB.out hb)
      have HN := Lib.hid hn
      clear hb hn HO HB
      unfold Stop
      go_wp2
      exact ⟨rfl, .inl ⟨by rw [← HCC.out, if_neg HN.out]; exact HN.out, by rw [← HCC.out, if_neg HN.out]; rfl, Kp.bel HB2.out⟩⟩
    have HB2 := Lib.hid (bel0 HB.out hb)
    have HE := Lib.hid (ES.next ⟨HB2.out, HX.out.below HB2.out⟩ (bel_drew _))
    have H0 := Lib.hid h0
    clear hb h0 HO HB HX
    go_wp2_with fail
    refine wp_region_held_drew (S := ES E A q R p c w) (by kernel_rfl) HE.out (fun k0 => ?_)
    show wpAnyH _ _ _ _ _ 21 #[false, false, false, false, false, false, false, false, false, false, false, false, false, false, false, false, false, false, false, false, false] _ _
    refine wpAnyH_take (i := 0) (oi := ⟨some 16, _, _, _, _, _⟩) (v := .pointer (some ⟨E, 0, none⟩)) rfl (by kernel_rfl) (by kernel_rfl) (by kernel_rfl) (fun _ _ _ h => h) (Or.inl ⟨by rfl, fun W hSw => by (try dsimp only at hSw); go_simp⟩) k0 ?_
    try simp only [Act.put, List.setIfInBounds_toArray, List.set_cons_zero, List.set_cons_succ]
    refine wpAnyH_take (i := 1) (oi := ⟨some 17, _, _, _, _, _⟩) (v := .int .i64 (q.r1 : Int)) rfl (by kernel_rfl) (by kernel_rfl) (by kernel_rfl) (fun _ _ _ h => h) (Or.inl ⟨by rfl, fun W hSw => by (try dsimp only at hSw); go_simp⟩) k0 ?_
    try simp only [Act.put, List.setIfInBounds_toArray, List.set_cons_zero, List.set_cons_succ]
    refine wpAnyH_take (i := 2) (oi := ⟨some 18, _, _, _, _, _⟩) (v := .pointer (some ⟨E, 0, none⟩)) rfl (by kernel_rfl) (by kernel_rfl) (by kernel_rfl) (fun _ _ _ h => h) (Or.inl ⟨by rfl, fun W hSw => by (try dsimp only at hSw); go_simp⟩) k0 ?_
    try simp only [Act.put, List.setIfInBounds_toArray, List.set_cons_zero, List.set_cons_succ]
    refine wpAnyH_take (i := 3) (oi := ⟨some 19, _, _, _, _, _⟩) (v := .pointer (some ⟨E, 12, none⟩)) rfl (by kernel_rfl) (by kernel_rfl) (by kernel_rfl) (fun _ _ _ h => h) (Or.inl ⟨by rfl, fun W hSw => by (try dsimp only at hSw); go_simp⟩) k0 ?_
    try simp only [Act.put, List.setIfInBounds_toArray, List.set_cons_zero, List.set_cons_succ]
    refine wpAnyH_take (i := 4) (oi := ⟨some 20, _, _, _, _, _⟩) (v := .pointer (some ⟨E, 12 + q.r1, none⟩)) rfl (by kernel_rfl) (by kernel_rfl) (by kernel_rfl) (fun _ _ _ h => h) (Or.inl ⟨by rfl, fun W hSw => by clear hSw; go_simp⟩) k0 ?_
    try simp only [Act.put, List.setIfInBounds_toArray, List.set_cons_zero, List.set_cons_succ]
    refine wpAnyH_take (i := 5) (oi := ⟨some 21, _, _, _, _, _⟩) (v := .int .u32 (R q.r1)) rfl (by kernel_rfl) (by kernel_rfl) (by kernel_rfl) (fun _ _ _ h => h) (Or.inl ⟨by rfl, fun W hSw => by have cq := hSw.2.reg H14.out; clear hSw; go_simp⟩) k0 ?_
    try simp only [Act.put, List.setIfInBounds_toArray, List.set_cons_zero, List.set_cons_succ]
    refine wpAnyH_take (i := 6) (oi := ⟨some 22, _, _, _, _, _⟩) (v := .pointer (some ⟨E, 0, none⟩)) rfl (by kernel_rfl) (by kernel_rfl) (by kernel_rfl) (fun _ _ _ h => h) (Or.inl ⟨by rfl, fun W hSw => by (try dsimp only at hSw); go_simp⟩) k0 ?_
    try simp only [Act.put, List.setIfInBounds_toArray, List.set_cons_zero, List.set_cons_succ]
    refine wpAnyH_take (i := 7) (oi := ⟨some 23, _, _, _, _, _⟩) (v := .int .i64 (r' : Int)) rfl (by kernel_rfl) (by kernel_rfl) (by kernel_rfl) (fun _ _ _ h => h) (Or.inl ⟨by rfl, fun W hSw => by (try dsimp only at hSw); go_simp⟩) k0 ?_
    try simp only [Act.put, List.setIfInBounds_toArray, List.set_cons_zero, List.set_cons_succ]
    refine wpAnyH_take (i := 8) (oi := ⟨some 24, _, _, _, _, _⟩) (v := .pointer (some ⟨E, 0, none⟩)) rfl (by kernel_rfl) (by kernel_rfl) (by kernel_rfl) (fun _ _ _ h => h) (Or.inl ⟨by rfl, fun W hSw => by (try dsimp only at hSw); go_simp⟩) k0 ?_
    try simp only [Act.put, List.setIfInBounds_toArray, List.set_cons_zero, List.set_cons_succ]
    refine wpAnyH_take (i := 9) (oi := ⟨some 25, _, _, _, _, _⟩) (v := .pointer (some ⟨E, 12, none⟩)) rfl (by kernel_rfl) (by kernel_rfl) (by kernel_rfl) (fun _ _ _ h => h) (Or.inl ⟨by rfl, fun W hSw => by (try dsimp only at hSw); go_simp⟩) k0 ?_
    try simp only [Act.put, List.setIfInBounds_toArray, List.set_cons_zero, List.set_cons_succ]
    refine wpAnyH_take (i := 10) (oi := ⟨some 26, _, _, _, _, _⟩) (v := .pointer (some ⟨E, 12 + r', none⟩)) rfl (by kernel_rfl) (by kernel_rfl) (by kernel_rfl) (fun _ _ _ h => h) (Or.inl ⟨by rfl, fun W hSw => by clear hSw; go_simp⟩) k0 ?_
    try simp only [Act.put, List.setIfInBounds_toArray, List.set_cons_zero, List.set_cons_succ]
    refine wpAnyH_take (i := 11) (oi := ⟨some 27, _, _, _, _, _⟩) (v := .int .u32 (R r')) rfl (by kernel_rfl) (by kernel_rfl) (by kernel_rfl) (fun _ _ _ h => h) (Or.inl ⟨by rfl, fun W hSw => by have cq := hSw.2.reg H15.out; clear hSw; go_simp⟩) k0 ?_
    try simp only [Act.put, List.setIfInBounds_toArray, List.set_cons_zero, List.set_cons_succ]
    refine wpAnyH_take (i := 12) (oi := ⟨some 28, _, _, _, _, _⟩) (v := .int .u32 v) rfl (by kernel_rfl) (by kernel_rfl) (by kernel_rfl) (fun _ _ _ h => h) (Or.inl ⟨by rfl, fun W hSw => by (try dsimp only at hSw); go_simp⟩) k0 ?_
    try simp only [Act.put, List.setIfInBounds_toArray, List.set_cons_zero, List.set_cons_succ]
    refine wpAnyH_ready (rs := [13]) (by kernel_rfl) (by simp) ?_
    refine AllReadyH.cons (o := ⟨some 29, _, _, _, _, _⟩) rfl (fun K hK => ?_) AllReadyH.nil
    go_simp
    go_at_call 141
    refine (HW.out _).mono ?_
    rintro e x2 ⟨rfl, rfl⟩
    go_wp2_with fail
    refine hK.out _ _ k0 (fun k1 => ?_)
    clear hK K
    try simp only [List.setIfInBounds_toArray, List.set_cons_zero, List.set_cons_succ]
    refine wpAnyH_take (i := 14) (oi := ⟨some 15, _, _, _, _, _⟩) (v := .tuple #[.int .u32 dr, .int .u32 dq, .bool dk]) rfl (by kernel_rfl) (by kernel_rfl) (by kernel_rfl) (fun _ _ _ h => h) (Or.inl ⟨by rfl, fun W hSw => by (try dsimp only at hSw); go_simp⟩) k1 ?_
    try simp only [Act.put, List.setIfInBounds_toArray, List.set_cons_zero, List.set_cons_succ]
    refine wpAnyH_take (i := 15) (oi := ⟨some 30, _, _, _, _, _⟩) (v := .int .u32 dr) rfl (by kernel_rfl) (by kernel_rfl) (by kernel_rfl) (fun _ _ _ h => h) (Or.inl ⟨by rfl, fun W hSw => by (try dsimp only at hSw); go_simp⟩) k1 ?_
    try simp only [Act.put, List.setIfInBounds_toArray, List.set_cons_zero, List.set_cons_succ]
    refine wpAnyH_take (i := 16) (oi := ⟨some 31, _, _, _, _, _⟩) (v := .int .u32 dq) rfl (by kernel_rfl) (by kernel_rfl) (by kernel_rfl) (fun _ _ _ h => h) (Or.inl ⟨by rfl, fun W hSw => by (try dsimp only at hSw); go_simp⟩) k1 ?_
    try simp only [Act.put, List.setIfInBounds_toArray, List.set_cons_zero, List.set_cons_succ]
    refine wpAnyH_take (i := 17) (oi := ⟨some 32, _, _, _, _, _⟩) (v := .bool dk) rfl (by kernel_rfl) (by kernel_rfl) (by kernel_rfl) (fun _ _ _ h => h) (Or.inl ⟨by rfl, fun W hSw => by (try dsimp only at hSw); go_simp⟩) k1 ?_
    try simp only [Act.put, List.setIfInBounds_toArray, List.set_cons_zero, List.set_cons_succ]
    refine wpAnyH_take (i := 18) (oi := ⟨some 5, _, _, _, _, _⟩) (v := .int .u32 dr) rfl (by kernel_rfl) (by kernel_rfl) (by kernel_rfl) (fun _ _ _ h => h) (Or.inl ⟨by rfl, fun W hSw => by (try dsimp only at hSw); go_simp⟩) k1 ?_
    try simp only [Act.put, List.setIfInBounds_toArray, List.set_cons_zero, List.set_cons_succ]
    refine wpAnyH_take (i := 19) (oi := ⟨some 6, _, _, _, _, _⟩) (v := .int .u32 dq) rfl (by kernel_rfl) (by kernel_rfl) (by kernel_rfl) (fun _ _ _ h => h) (Or.inl ⟨by rfl, fun W hSw => by (try dsimp only at hSw); go_simp⟩) k1 ?_
    try simp only [Act.put, List.setIfInBounds_toArray, List.set_cons_zero, List.set_cons_succ]
    refine wpAnyH_take (i := 20) (oi := ⟨some 7, _, _, _, _, _⟩) (v := .bool dk) rfl (by kernel_rfl) (by kernel_rfl) (by kernel_rfl) (fun _ _ _ h => h) (Or.inl ⟨by rfl, fun W hSw => by (try dsimp only at hSw); go_simp⟩) k1 ?_
    try simp only [Act.put, List.setIfInBounds_toArray, List.set_cons_zero, List.set_cons_succ]
    refine wpAnyH_done (by kernel_rfl) ?_ _
    refine id ?_
    have HB2 := Lib.hid k1.1
    clear k0 k1 H14 H15
    clear hr1 hr0 HW HE
    cases dk with
    | false =>
      go_wp2_with fail
      refine (HN9.out _).mono ?_
      rintro e w3 ⟨rfl, rfl⟩
      unfold Stop
      go_wp2
      have e9 : CC = 9 := by rw [← HCC.out, if_pos H0.out]; rfl
      exact ⟨rfl, .inl ⟨by rw [e9]; decide, by rw [e9]; rfl, Kp.bel HB2.out⟩⟩
    | true =>
      go_wp2_with fail
      refine (HY.out _).mono ?_
      rintro e w3 ⟨rfl, rfl⟩
      go_wp2_with fail
      refine (HS.out _ HB2.out).mono ?_
      rintro e w4 ⟨rfl, h2, k2⟩
      have H2 := Lib.hid h2
      have K2 := Lib.hid ((Kp.bel HB2.out).trans k2)
      clear h2 k2 HS HB2
      go_wp2
      go_end0
      exact .inr ⟨by rw [← HCC.out, if_pos H0.out]; rfl, rfl, H2.out, K2.out⟩
  · rw [if_neg hev] at HP ⊢
    clear hx hs hR hq hev
    go_enter Tryz.func58, Tryz.ntmps58
    go_wp2_with fail
    refine HP.out.mono ?_
    rintro e w1 ⟨hb, ⟨h6, -⟩ | ⟨-, rfl⟩⟩
    · exact absurd h6 (by decide)
    · have HB := Lib.hid hb
      clear hb HP
      unfold Stop
      go_wp2
      exact ⟨rfl, .inl ⟨by decide, rfl, Kp.bel HB.out⟩⟩

end M
end Go.Proofs.YtfopjnfphlkcgaaGreat

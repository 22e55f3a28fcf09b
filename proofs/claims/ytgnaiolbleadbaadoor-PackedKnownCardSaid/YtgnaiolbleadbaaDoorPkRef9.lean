/- The document's own Zoned: its contract. -/
import Derived.Test.YtgnaiolbleadbaaDoorPkRef8
namespace Go.Proofs.YtgnaiolbleadbaaDoor
open Go.RowKit Go.Shelf
set_option linter.unusedVariables false
namespace E

theorem rzoned_no (neg : Bool) (s : ByteArray) (n : Int) (w : World) (h : enB s.data.toList n = false) : Calls Tryd.prog 40 #[.agg #[.bool neg, .string s], .int .i64 n] w (New w (.tuple #[.slice none 0 0, .bool false])) := by
  have hv := fun W => rvalid_any neg s W
  have hsz := fun W => size_any n W
  unfold enB at h
  have HB := Lib.hid (below_new w (.cells #[.bool neg, .string s] 26))
  cases hok : okL s.data.toList
  · rw [hok] at hv
    have HV := Lib.hid hv
    clear hv hsz h hok
    go_enter Tryd.func40, Tryd.ntmps40
    go_wp2_with fail
    refine (HV.out _).mono ?_
    rintro e w1 ⟨rfl, hb⟩
    have HB1 := Lib.hid (bel0 HB.out hb)
    clear hb
    go_wp2
    go_ret2
    exact ⟨rfl, HB1.out⟩
  · rw [hok] at hv h
    rw [Bool.true_and] at h
    rw [h] at hsz
    have HV := Lib.hid hv
    have HS := Lib.hid hsz
    clear hv hsz h hok
    go_enter Tryd.func40, Tryd.ntmps40
    go_wp2_with fail
    refine (HV.out _).mono ?_
    rintro e w1 ⟨rfl, hb⟩
    have HB1 := Lib.hid (bel0 HB.out hb)
    clear hb
    go_wp2_with fail
    refine (HS.out _).mono ?_
    rintro e w2 ⟨rfl, rfl⟩
    go_wp2
    go_ret2
    exact ⟨rfl, HB1.out⟩
set_option maxRecDepth 100000 in
set_option maxHeartbeats 1000000 in
theorem rzoned_yes (neg : Bool) (s : ByteArray) (n : Nat) (bs : List UInt8) (w : World) (hs : s.data.toList = bs) (hok : okL bs = true) (h3 : 1 ≤ n) (h4 : n ≤ 16) :
    Calls Tryd.prog 40 #[.agg #[.bool neg, .string s], .int .i64 (n : Int)] w (RzPost w (zonL neg bs n) (decide (n < bs.length))) := by
  obtain ⟨i0, hi0, hz0, hz1, hz2⟩ := info_parts info5
  have hv := fun W => rvalid_any neg s W
  have hsz := fun W => size_any (n : Int) W
  rw [decide_eq_true (by omega)] at hsz
  rw [hs, hok] at hv
  have HV := Lib.hid hv
  have HSZ := Lib.hid hsz
  have hokk := (okL_iff bs).1 hok
  have hvl : ∀ W, Calls Tryd.prog 34 #[.agg #[.bool neg, .string s]] W fun e w' => ∃ p c, e = .returned (.slice p s.size c) ∧ RdI w' p (bs.map dgt) ∧ Below W.heap.size W w' := fun W =>
    (values_any neg s bs W hs (by omega) hokk.2).mono fun e w' ⟨sv, he, ho, hb⟩ => by
      obtain ⟨p, c, rfl, hr, _⟩ := ho.rd
      have hll : (bs.map dgt).length = s.size := by rw [List.length_map, ← hs]; rfl
      rw [hll] at he
      exact ⟨p, c, he, hr, hb⟩
  have HVL := Lib.hid hvl
  have HSG := Lib.hid (fun W => sign_any neg s W)
  have hbl : bs.length = s.size := by rw [← hs]; rfl
  have HE := Lib.hid (zon_eq neg bs n)
  have hB0 := below_new w (.cells #[.bool neg, .string s] 26)
  have hD0 := DecB.new w neg s
  have HB := Lib.hid hB0
  have HD := Lib.hid hD0
  have hri := fun p c W (h : RdI W p (bs.map dgt)) => right_any p c n (bs.map dgt) W (by omega) (by rw [List.length_map, hbl]; omega) h
  rw [List.length_map, hbl] at hri
  have HRI := Lib.hid hri
  have hov : decide (n < bs.length) = decide ((n : Int) < (s.size : Int)) := by
    rw [hbl]; exact decide_eq_decide.2 (by omega)
  rw [hov]
  clear hv hsz hokk hvl hbl hB0 hD0 hri hov hok hs
  go_enter Tryd.func40, Tryd.ntmps40
  go_wp2_with fail
  refine (HV.out _).mono ?_
  rintro e w1 ⟨rfl, hb⟩
  have HB1 := Lib.hid (bel0 HB.out hb)
  have HD1 := Lib.hid (HD.out.below hb)
  obtain ⟨⟨c1, c2⟩, _⟩ := HD1.out.cells
  clear hb
  go_wp2_with fail
  refine (HSZ.out _).mono ?_
  rintro e w2 ⟨rfl, rfl⟩
  go_wp2_with fail
  refine (HVL.out _).mono ?_
  rintro e w2 ⟨pv, cv, rfl, hrv, hb2⟩
  have HB2 := Lib.hid (bel0 HB1.out hb2)
  have HD2 := Lib.hid (HD1.out.below hb2)
  have HRV := Lib.hid hrv
  clear hrv hb2 c1 c2
  go_wp2_with fail
  refine (HRI.out _ _ _ HRV.out).mono ?_
  rintro e w3 ⟨sv2, rfl, ho2, hb3⟩
  obtain ⟨p2, c2, rfl, hr2, _⟩ := ho2.rd
  rw [rgtL_len]
  obtain ⟨B2, off2, rfl, hcl2⟩ : ∃ B off, p2 = some ⟨B, off, none⟩ ∧ ∀ j, j < n → w3.cell? ⟨B, off + j, none⟩ = some (.int .i64 (((rgtL (bs.map dgt) n).getD j 0).val : Int)) := by
    rcases hr2 with h | ⟨B, off, hp, hc⟩
    · have := rgtL_len (bs.map dgt) n; rw [h] at this; simp at this; omega
    · exact ⟨B, off, hp, fun j hj => hc j (by rw [rgtL_len]; exact hj)⟩
  have HB3 := Lib.hid (bel0 HB2.out hb3)
  have HD3 := Lib.hid (HD2.out.below hb3)
  have HC2 := Lib.hid hcl2
  obtain ⟨Z, hZ⟩ : ∃ Z, Z = zonR (sgn neg) (rgtL (bs.map dgt) n) n := ⟨_, rfl⟩
  have hzs := fun t (h : t < n) => zonR_snoc (sgn neg) (rgtL (bs.map dgt) n) n t h
  rw [← hZ] at HE hzs
  have HZS := Lib.hid hzs
  have HZL : Hid (Z.length = n) := Lib.hid (by rw [hZ, zonR_len])
  generalize rgtL (bs.map dgt) n = R at *
  have hzlt := (sgn neg).isLt
  clear hb3 hr2 hcl2 ho2 hZ hzs
  go_wp2
  go_loopw [7, 8] (fun sv i wr => Below w3.heap.size w3 wr ∧ ∃ t : Nat, t ≤ n ∧ i = .int .i64 t ∧ wr.ownsRow w3.heap.size 5 1 sv t (bsU (Z.take t))) (fun _ i _ => n - (intOf i).toNat)
  case atStart => exact ⟨Below.refl _ _, 0, Nat.zero_le _, rfl, World.ownsRow_nil _ _ _ _⟩
  case round =>
    obtain ⟨hbw, t, ht, rfl, hown⟩ := hrel
    have HB0 := Lib.hid hbw
    have HO0 := Lib.hid hown
    have HDW := Lib.hid (HD3.out.below hbw)
    obtain ⟨⟨c1, c2⟩, _⟩ := HDW.out.cells
    clear hbw hown
    by_cases hlt : t < n
    · have q1 := keepC (HC2.out t hlt) HB0.out
      have Q1 := Lib.hid q1
      have hsn := HZS.out t hlt
      have hd := (R.getD t 0).isLt
      generalize R.getD t 0 = dd at *
      by_cases hl : t = n - 1
      · rw [if_pos hl] at hsn
        have HSN := Lib.hid hsn
        have hmk := mk_nat (sgn neg) dd
        have HMK := Lib.hid hmk
        have hl3 : decide ((t : Int) = (n : Int) - 1) = true := decide_eq_true (by omega)
        have hl4 : ((t : Int) == (n : Int) - 1) = true := by rw [beq_iff_eq]; omega
        clear hsn hmk hl ht q1
        go_wp2_with fail
        refine (HSG.out _).mono ?_
        rintro e w5 ⟨rfl, hb⟩
        have HB := Lib.hid (bel0 HB0.out hb)
        have HO := Lib.hid (own_kept HO0.out hb)
        have q1 := keepC Q1.out hb
        clear hb c1 c2
        generalize sgn neg = z at *
        go_wp2_with (at_builtin; refine wpList_append_own _ rfl (.tmp 33) (.tmp 42) 22 rfl w3.heap.size 5 i0 (.int .u8 0) 1 1 Tryd.underlying22 hi0 hz0 hz1 hz2 rfl (by decide) _ t _ rfl (HO.out.alloc _) ⟨w5.heap.size, 0, none⟩ 1 1 [_] rfl rfl (cellNew _ _ _) (by intro u hu; simp at hu; subst hu; rfl) (by unfold maxLen; omega) (by omega) (by have := HB.out.size; simp; omega) ?_)
        intro v' w4 hown' hgrow _
        have hb1 := (HB.out.alloc HB.out.size _).grown hgrow (by have := HB.out.size; simp; omega) (fun r hr => (HO.out.lt r hr).1)
        clear hgrow
        go_wp2
        go_roundw
        case rel => exact ⟨hb1, t + 1, by omega, by go_num, by rw [HSN.out, bsU_snoc', HMK.out]; exact hown'⟩
        case measure => simp [intOf]; omega
      · rw [if_neg hl] at hsn
        have HSN := Lib.hid hsn
        have hmk := mk_nat 15 dd
        have HMK := Lib.hid hmk
        have HB := HB0
        have HO := HO0
        have hl2 : (t : Int) < (n : Int) - 1 := by omega
        have hl3 : decide ((t : Int) = (n : Int) - 1) = false := decide_eq_false (by omega)
        have hl4 : ((t : Int) == (n : Int) - 1) = false := by rw [beq_eq_false_iff_ne]; omega
        clear hsn hmk hl ht
        go_wp2_with (at_builtin; refine wpList_append_own _ rfl (.tmp 33) (.tmp 42) 22 rfl w3.heap.size 5 i0 (.int .u8 0) 1 1 Tryd.underlying22 hi0 hz0 hz1 hz2 rfl (by decide) _ t _ rfl (HO.out.alloc _) ⟨wr.heap.size, 0, none⟩ 1 1 [_] rfl rfl (cellNew _ _ _) (by intro u hu; simp at hu; subst hu; rfl) (by unfold maxLen; omega) (by omega) (by have := HB.out.size; simp; omega) ?_)
        intro v' w4 hown' hgrow _
        have hb1 := (HB.out.alloc HB.out.size _).grown hgrow (by have := HB.out.size; simp; omega) (fun r hr => (HO.out.lt r hr).1)
        clear hgrow
        go_wp2
        go_roundw
        case rel => exact ⟨hb1, t + 1, by omega, by go_num, by rw [HSN.out, bsU_snoc', HMK.out]; exact hown'⟩
        case measure => simp [intOf]; omega
    · obtain rfl : t = n := by omega
      have hown := HO0.out
      rw [List.take_of_length_le (by rw [HZL.out]; omega)] at hown
      have HF : Hid (Hold wr w.heap.size u7 (zonL neg bs t) ∧ Below w.heap.size w wr) := Lib.hid ⟨by rw [← HE.out]; unfold Hold; rw [HZL.out]; exact own_base hown HB3.out.size, bel0 HB3.out HB0.out⟩
      have H0 : Hid ((fun W : World => W.cell? ⟨w.heap.size, 0, none⟩ = some (.bool neg) ∧ W.cell? ⟨w.heap.size, 1, none⟩ = some (.string s) ∧ ApS wr W) wr.drew) := Lib.hid ⟨keepC c1 (Below.refl _ _).drew, keepC c2 (Below.refl _ _).drew, (Below.refl _ _).drew⟩
      have C1 := Lib.hid c1
      have C2 := Lib.hid c2
      have HLT := Lib.hid HDW.out.lt
      clear hown c1 c2
      go_wp2
      go_region_held3 (fun W => W.cell? ⟨w.heap.size, 0, none⟩ = some (.bool neg) ∧ W.cell? ⟨w.heap.size, 1, none⟩ = some (.string s) ∧ ApS wr W)
        (first | exact H0.out | exact ApS.mk2 HLT.out C1.out C2.out (by assumption) | exact ApS.new2 HLT.out C1.out C2.out (by assumption))
        (fail)
      have hD := (Below.refl wr.heap.size wr).drew
      have HF2 : Hid (Hold wr.drew w.heap.size u7 (zonL neg bs t) ∧ Below w.heap.size w wr.drew) := Lib.hid ⟨by have := HF.out.1; unfold Hold at *; exact own_kept this hD, bel0 HF.out.2 hD⟩
      clear hD
      go_wp2
      go_ret2
      exact ⟨u7, by simp, HF2.out.1, HF2.out.2⟩
theorem rzoned_any (neg : Bool) (s : ByteArray) (n : Int) (bs : List UInt8) (w : World) (hs : s.data.toList = bs) :
    Calls Tryd.prog 40 #[.agg #[.bool neg, .string s], .int .i64 n] w (RzmPost w (enB bs n) (zonL neg bs n.toNat) (decide (n.toNat < bs.length))) := by
  cases h : enB bs n
  · exact (rzoned_no neg s n w (by rw [hs]; exact h)).mono fun e w' h => .inr ⟨rfl, h⟩
  · unfold enB at h
    simp only [Bool.and_eq_true, decide_eq_true_eq] at h
    obtain ⟨m, rfl⟩ := Int.eq_ofNat_of_zero_le (show 0 ≤ n by omega)
    exact (rzoned_yes neg s m bs w hs h.1 (by omega) (by omega)).mono fun e w' h => .inl ⟨rfl, h⟩

end E
end Go.Proofs.YtgnaiolbleadbaaDoor

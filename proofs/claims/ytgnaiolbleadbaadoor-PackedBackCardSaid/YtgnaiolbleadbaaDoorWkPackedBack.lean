/- The walk of the statement PackedBack: it answers true, and below its own memory nothing turns. -/
import Derived.Test.YtgnaiolbleadbaaDoorPkWorks
import Derived.Test.YtgnaiolbleadbaaDoorPkPure
import Derived.Test.YtgnaiolbleadbaaDoorPkLaid
namespace Go.Proofs.YtgnaiolbleadbaaDoor.packedBack
open Go.ChangeShapes Go.WideShapes Go.ChangeAt Go.RowKit Go.ChangeMaps E
set_option linter.unusedVariables false

theorem wrap_u8 (x : UInt8) : wrap64 (x.toNat : Int) = (x.toNat : Int) := by
  have := x.toNat_lt
  unfold wrap64
  omega
theorem part_of (x : UInt8) (j : Nat) (hj : 1 ≤ j) (hj2 : j ≤ 16) : ∃ q : Nat, q < j ∧ (wrap64 (x.toNat : Int)).tmod (j : Int) = (q : Int) := by
  rw [wrap_u8]
  have h1 := Int.tmod_nonneg (a := (x.toNat : Int)) (j : Int) (by omega)
  have h2 := Int.tmod_lt_of_pos (x.toNat : Int) (show 0 < (j : Int) by omega)
  obtain ⟨q, hq⟩ := Int.eq_ofNat_of_zero_le h1
  exact ⟨q, by omega, hq⟩
theorem wrap_small (m : Int) (h0 : 0 ≤ m) (h : m < 1000000) : wrap64 m = m := by
  unfold wrap64
  omega

/-- A valid field is encoded again as the same field, but for the sign. -/
theorem enc_back {b : List UInt8} (h : dOk b = true) : (1 ≤ b.length ∧ b.length ≤ 16) ∧ okL (dDig b) = true ∧ (dDig b).length ≤ 2 * b.length - 1 ∧ nib (encL (dNeg b) (dDig b) b.length) 0 = sgn (dNeg b) ∧
    ∀ p, 1 ≤ p → p < 2 * b.length → nib (encL (dNeg b) (dDig b) b.length) p = nib b p := by
  have h' := h
  unfold dOk at h'
  simp only [Bool.and_eq_true, decide_eq_true_eq] at h'
  obtain ⟨hl, _, hk⟩ := h'
  have hd : dDig b = numL (dg b 1 1 (2 * b.length - 1)) := by unfold dDig; rw [if_pos h]
  have hz : 1 ≤ (dg b 1 1 (2 * b.length - 1)).length := by rw [dg_len]; omega
  refine ⟨hl, by rw [hd]; exact okL_numL _ hk hz (by rw [dg_len]; omega), ?_, ?_, fun p h1 h2 => ?_⟩
  · have := (fg_numL _ hz).2.2
    rw [dg_len] at this
    rw [hd]; exact this
  · rw [nib_enc _ _ _ _ (by omega), if_pos rfl]
  · rw [nib_enc _ _ _ _ h2, if_neg (by omega), hd, fg_numL_getD _ hz, dg_get _ _ _ _ _ (by omega)]
    congr 1; omega
theorem hi_nib (l : List UInt8) (i : Nat) (h : i < l.length) : hi (gt l i) = nib l (2 * (l.length - 1 - i) + 1) ∧ lo (gt l i) = nib l (2 * (l.length - 1 - i)) := by
  unfold nib
  rw [if_neg (by omega), if_pos (by omega), show l.length - 1 - (2 * (l.length - 1 - i) + 1) / 2 = i by omega, show l.length - 1 - 2 * (l.length - 1 - i) / 2 = i by omega]
  exact ⟨rfl, rfl⟩
theorem gt_back {b : List UInt8} (h : dOk b = true) (i : Nat) (hi : i + 1 < b.length) : gt (encL (dNeg b) (dDig b) b.length) i = gt b i := by
  obtain ⟨_, _, _, _, h5⟩ := enc_back h
  have h1 := hi_nib (encL (dNeg b) (dDig b) b.length) i (by rw [encL_len]; omega)
  have h2 := hi_nib b i (by omega)
  rw [encL_len] at h1
  rw [← mk_hl (gt (encL (dNeg b) (dDig b) b.length) i), ← mk_hl (gt b i), h1.1, h1.2, h2.1, h2.2, h5 _ (by omega) (by omega), h5 _ (by omega) (by omega)]
theorem last_back {b : List UInt8} (h : dOk b = true) : (((gt (encL (dNeg b) (dDig b) b.length) (b.length - 1)).toNat : Int) / 16 == ((gt b (b.length - 1)).toNat : Int) / 16) = true ∧
    (((gt (encL (dNeg b) (dDig b) b.length) (b.length - 1)).toNat : Int) % 16 == (if dNeg b then 13 else 12)) = true := by
  obtain ⟨hl, _, _, h4, h5⟩ := enc_back h
  have h1 := hi_nib (encL (dNeg b) (dDig b) b.length) (b.length - 1) (by rw [encL_len]; omega)
  have h2 := hi_nib b (b.length - 1) (by omega)
  rw [encL_len, show b.length - 1 - (b.length - 1) = 0 by omega] at h1
  rw [show b.length - 1 - (b.length - 1) = 0 by omega] at h2
  have e1 := congrArg Fin.val (h1.1.trans ((h5 (2 * 0 + 1) (by omega) (by omega)).trans h2.1.symm))
  have e2 := congrArg Fin.val (h1.2.trans h4)
  have e1' : (gt (encL (dNeg b) (dDig b) b.length) (b.length - 1)).toNat / 16 = (gt b (b.length - 1)).toNat / 16 := e1
  have e2' : (gt (encL (dNeg b) (dDig b) b.length) (b.length - 1)).toNat % 16 = (sgn (dNeg b)).val := e2
  constructor
  · rw [beq_iff_eq]; omega
  · rw [beq_iff_eq]
    cases hn : dNeg b
    · rw [hn] at e2'
      have : (sgn false).val = 12 := rfl
      simp only [Bool.false_eq_true, if_false]
      rw [hn] at *
      omega
    · rw [hn] at e2'
      have : (sgn true).val = 13 := rfl
      simp only [if_true]
      rw [hn] at *
      omega
theorem cellA {w : World} {g : Nat} {A : List UInt8} {n : Nat} (h : Rd w (some ⟨g, 0, none⟩) A) (hn : A.length = n) (j : Nat) (hj : j < n) : w.cell? ⟨g, j, none⟩ = some (.int .u8 ((gt A j).toNat : Int)) := by
  rcases h with h | ⟨B, off, he, hc⟩
  · rw [h] at hn; simp at hn; omega
  · cases he
    have := hc j (by omega)
    rwa [Nat.zero_add] at this
set_option maxRecDepth 100000 in
set_option maxHeartbeats 2000000 in
theorem walk_e (s : ByteArray) (hs0 : s.size ≤ 9223372036854775807) (neg : Bool) (x : UInt8) (p : Option Addr) (c : Nat) (l : List UInt8)  (hc : 0 ≤ c) (hcc : c ≤ 9223372036854775807) (hnil : p = none → c = 0) (w : World) (hg : Sg w) (hrb : Rd w p []) :
    Calls Tryd.prog 6 #[.string s, .bool neg, .int .u8 (x.toNat : Int), .slice p 0 c] w (New w (.bool true)) := by
  have hde : ∀ W, Sg W → Calls Tryd.prog 25 #[.slice p 0 c] W (New W (.tuple #[.agg #[.bool false, .string ⟨#[]⟩], .bool false])) := fun W hg => (decode_any p c [] W (.inl rfl) hg).mono fun e w' ⟨he, hb⟩ => ⟨by rw [he]; rfl, hb⟩
  have HE := Lib.hid hde
  clear hde hrb
  have HG := Lib.hid hg
  obtain ⟨k, hk⟩ : ∃ k : Nat, 1 + (x.toNat : Int) % 16 = (k : Int) := ⟨1 + x.toNat % 16, by push_cast; rfl⟩
  have hk1 : 1 ≤ k := by omega
  have hk2 : k ≤ 16 := by omega
  clear hg
  go_enter Tryd.func6, Tryd.ntmps6
  go_wp2_with fail
  refine (works_any w HG.out).mono ?_
  rintro e w1 ⟨rfl, hb1⟩
  have HB1 := Lib.hid hb1
  clear hb1
  go_wp2_with fail
  refine (number_any neg s _).mono ?_
  rintro e w2 ⟨t, rfl, hok, hb⟩
  have HB2 := Lib.hid (bel0 HB1.out hb)
  have HD2 := Lib.hid (DecB.new w2 neg t)
  obtain ⟨dl, hdl⟩ : ∃ dl, t.data.toList = dl := ⟨_, rfl⟩
  rw [hdl] at hok
  have htl : t = ⟨dl.toArray⟩ := by rw [← hdl]
  have hlt : dl.length = t.size := by rw [← hdl]; rfl
  have hz := fun W => EnPost.yes' (n := k) (m := encL neg dl k) (ov := decide (2 * k - 1 < dl.length)) (penc_any neg t (k : Int) dl W hdl) (by unfold enB; rw [hok, decide_eq_true (by omega)]; rfl) rfl rfl
  obtain ⟨u, hu⟩ : ∃ u : ByteArray, u = ⟨(dDig (encL neg dl k)).toArray⟩ := ⟨_, rfl⟩
  have hdd : (∀ g W, Rd W (some ⟨g, 0, none⟩) (encL neg dl k) → Sg W → Calls Tryd.prog 25 #[.slice (some ⟨g, 0, none⟩) k k] W (New W (.tuple #[.agg #[.bool neg, .string u], .bool true]))) ∧ (dl.length ≤ 2 * k - 1 → u = t) := by
    obtain ⟨f1, f2, f3⟩ := dec_field (bs := encL neg dl k) (dl := dl) (neg := neg) (by rw [encL_len]; omega) (by rw [encL_len]; omega) hok
      (by rw [nib_enc _ _ _ _ (by omega), if_pos rfl])
      (fun i hi => by
        rw [encL_len] at hi
        rw [nib_enc _ _ _ _ (by omega), if_neg (by omega)]
        congr 1; omega)
    refine ⟨fun g W h hg => ?_, fun hle => ?_⟩
    · have h2 := decode_any (some ⟨g, 0, none⟩) k _ W h hg
      rw [encL_len] at h2
      refine h2.mono fun e w' ⟨he, hb⟩ => ⟨?_, hb⟩
      rw [he, f1, f2, hu]
    · rw [hu, f3 (by rw [encL_len]; omega), ← htl]
  have HZ := Lib.hid hz
  have HDD := Lib.hid hdd.1
  have HUT := Lib.hid hdd.2
  have HLT := Lib.hid hlt
  clear hb hz hdd hok hdl htl hlt hu
  go_wp2_with fail
  refine (HZ.out _).mono ?_
  rintro e w3 ⟨g, rfl, hr, hb⟩
  have HB3 := Lib.hid (bel1 HB2.out hb)
  have HD3 := Lib.hid (HD2.out.below hb)
  have HR := Lib.hid hr
  clear hb hr HB1 HB2 HD2 HZ
  go_wp2_with fail
  refine (HDD.out _ _ HR.out (HG.out.below HB3.out)).mono ?_
  rintro e w4 ⟨rfl, hb⟩
  have HB4 := Lib.hid (bel0 (bel0 HB3.out hb) (below_new w4 (.cells #[.bool neg, .string u] 26)))
  obtain ⟨⟨c1, c2⟩, _⟩ := ((HD3.out.below hb).below (below_new w4 (.cells #[.bool neg, .string u] 26))).cells
  rw [HLT.out]
  clear hb HB3 HD3 HDD HR
  by_cases hov : 2 * k - 1 < t.size
  · rw [decide_eq_true hov]
    have hov2 : 2 * (k : Int) - 1 < (t.size : Int) := by omega
    go_wp2_with fail
    refine (HE.out _ (HG.out.below HB4.out)).mono ?_
    rintro e w5 ⟨rfl, hb⟩
    have HB5 := Lib.hid (bel0 (bel0 HB4.out hb) (below_new w5 (.cells #[.bool false, .string ⟨#[]⟩] 26)))
    clear hb
    go_wp2
    go_ret
    exact ⟨rfl, HB5.out⟩
  · rw [decide_eq_false hov]
    have hut := HUT.out (by rw [HLT.out]; omega)
    subst hut
    go_wp2_with fail
    refine (HE.out _ (HG.out.below HB4.out)).mono ?_
    rintro e w5 ⟨rfl, hb⟩
    have HB5 := Lib.hid (bel0 (bel0 HB4.out hb) (below_new w5 (.cells #[.bool false, .string ⟨#[]⟩] 26)))
    clear hb
    go_wp2
    go_ret
    exact ⟨rfl, HB5.out⟩
set_option maxRecDepth 100000 in
set_option maxHeartbeats 2000000 in
theorem walk_c (s : ByteArray) (hs0 : s.size ≤ 9223372036854775807) (neg : Bool) (x : UInt8) (p : Option Addr) (c : Nat) (l : List UInt8) (hl : 16 < l.length) (hc : l.length ≤ c) (hcc : c ≤ 9223372036854775807) (hnil : p = none → c = 0) (w : World) (hg : Sg w) (hrb : Rd w p l) :
    Calls Tryd.prog 6 #[.string s, .bool neg, .int .u8 (x.toNat : Int), .slice p l.length c] w (New w (.bool true)) := by
  obtain ⟨L, hL⟩ : ∃ L, L = (l.take 16) := ⟨_, rfl⟩
  have hLl : L.length = 16 := by rw [hL, List.length_take]; omega
  have HRB : Hid (Rd w p L) := Lib.hid (by rw [hL]; exact hrb.take 16)
  obtain ⟨bn, hbn⟩ : ∃ bn, bn = dNeg L := ⟨_, rfl⟩
  obtain ⟨us, hus⟩ : ∃ us : ByteArray, us = ⟨(dDig L).toArray⟩ := ⟨_, rfl⟩
  obtain ⟨ok, hok0⟩ : ∃ ok, ok = dOk L := ⟨_, rfl⟩
  obtain ⟨A, hA⟩ : ∃ A, A = encL (dNeg L) (dDig L) L.length := ⟨_, rfl⟩
  have hdb : ∀ W, Rd W p L → Sg W → Calls Tryd.prog 25 #[.slice p 16 c] W (New W (.tuple #[.agg #[.bool bn, .string us], .bool ok])) := fun W h hg => by
    have := decode_any p c L W h hg
    rw [hLl] at this
    exact this.mono fun e w' ⟨he, hb⟩ => ⟨by rw [he, hbn, hus, hok0], hb⟩
  have HDB := Lib.hid hdb
  have HNE : Hid (∀ W, Rd W p L → ∃ B off, p = some ⟨B, off, none⟩ ∧ ∀ j, j < 16 → W.cell? ⟨B, off + j, none⟩ = some (.int .u8 ((gt L j).toNat : Int))) := Lib.hid (fun W h => by
    rcases h with h | ⟨B, off, hp, hc⟩
    · rw [h] at hLl; simp at hLl
    · exact ⟨B, off, hp, fun j hj => hc j (by omega)⟩)
  have HAL : Hid (A.length = 16) := Lib.hid (by rw [hA, encL_len, hLl])
  have HF : Hid (ok = true → (∀ W, Calls Tryd.prog 24 #[.agg #[.bool bn, .string us], .int .i64 16] W (ZPost W 16 false A)) ∧ (∀ j, j < 15 → gt A j = gt L j) ∧ ((((gt A 15).toNat : Int) / 16 == ((gt L 15).toNat : Int) / 16) = true ∧ (((gt A 15).toNat : Int) % 16 == (if bn then 13 else 12)) = true)) := Lib.hid (fun h => by
    rw [hok0] at h
    obtain ⟨h1, h2, h3, h4, h5⟩ := enc_back h
    refine ⟨fun W => ?_, fun j hj => ?_, ?_⟩
    · refine EnPost.yes' (n := 16) (m := A) (ov := false) (penc_any bn us ((16 : Nat) : Int) (dDig L) W (by rw [hus])) (by unfold enB; rw [h2, decide_eq_true (by omega)]; rfl) (by rw [hbn, hA, hLl]; rfl) (by rw [decide_eq_false]; rw [hLl] at h3; rw [Int.toNat_natCast]; omega)
    · rw [hA]; exact gt_back h j (by omega)
    · have := last_back h
      rw [hLl] at this
      rw [hA, hbn, hLl]
      exact this)
  clear hdb hrb hL hLl hbn hus hok0 hA
  have HG := Lib.hid hg
  obtain ⟨k, hk⟩ : ∃ k : Nat, 1 + (x.toNat : Int) % 16 = (k : Int) := ⟨1 + x.toNat % 16, by push_cast; rfl⟩
  have hk1 : 1 ≤ k := by omega
  have hk2 : k ≤ 16 := by omega
  clear hg
  go_enter Tryd.func6, Tryd.ntmps6
  go_wp2_with fail
  refine (works_any w HG.out).mono ?_
  rintro e w1 ⟨rfl, hb1⟩
  have HB1 := Lib.hid hb1
  clear hb1
  go_wp2_with fail
  refine (number_any neg s _).mono ?_
  rintro e w2 ⟨t, rfl, hok, hb⟩
  have HB2 := Lib.hid (bel0 HB1.out hb)
  have HD2 := Lib.hid (DecB.new w2 neg t)
  obtain ⟨dl, hdl⟩ : ∃ dl, t.data.toList = dl := ⟨_, rfl⟩
  rw [hdl] at hok
  have htl : t = ⟨dl.toArray⟩ := by rw [← hdl]
  have hlt : dl.length = t.size := by rw [← hdl]; rfl
  have hz := fun W => EnPost.yes' (n := k) (m := encL neg dl k) (ov := decide (2 * k - 1 < dl.length)) (penc_any neg t (k : Int) dl W hdl) (by unfold enB; rw [hok, decide_eq_true (by omega)]; rfl) rfl rfl
  obtain ⟨u, hu⟩ : ∃ u : ByteArray, u = ⟨(dDig (encL neg dl k)).toArray⟩ := ⟨_, rfl⟩
  have hdd : (∀ g W, Rd W (some ⟨g, 0, none⟩) (encL neg dl k) → Sg W → Calls Tryd.prog 25 #[.slice (some ⟨g, 0, none⟩) k k] W (New W (.tuple #[.agg #[.bool neg, .string u], .bool true]))) ∧ (dl.length ≤ 2 * k - 1 → u = t) := by
    obtain ⟨f1, f2, f3⟩ := dec_field (bs := encL neg dl k) (dl := dl) (neg := neg) (by rw [encL_len]; omega) (by rw [encL_len]; omega) hok
      (by rw [nib_enc _ _ _ _ (by omega), if_pos rfl])
      (fun i hi => by
        rw [encL_len] at hi
        rw [nib_enc _ _ _ _ (by omega), if_neg (by omega)]
        congr 1; omega)
    refine ⟨fun g W h hg => ?_, fun hle => ?_⟩
    · have h2 := decode_any (some ⟨g, 0, none⟩) k _ W h hg
      rw [encL_len] at h2
      refine h2.mono fun e w' ⟨he, hb⟩ => ⟨?_, hb⟩
      rw [he, f1, f2, hu]
    · rw [hu, f3 (by rw [encL_len]; omega), ← htl]
  have HZ := Lib.hid hz
  have HDD := Lib.hid hdd.1
  have HUT := Lib.hid hdd.2
  have HLT := Lib.hid hlt
  clear hb hz hdd hok hdl htl hlt hu
  go_wp2_with fail
  refine (HZ.out _).mono ?_
  rintro e w3 ⟨g, rfl, hr, hb⟩
  have HB3 := Lib.hid (bel1 HB2.out hb)
  have HD3 := Lib.hid (HD2.out.below hb)
  have HR := Lib.hid hr
  clear hb hr HB1 HB2 HD2 HZ
  go_wp2_with fail
  refine (HDD.out _ _ HR.out (HG.out.below HB3.out)).mono ?_
  rintro e w4 ⟨rfl, hb⟩
  have HB4 := Lib.hid (bel0 (bel0 HB3.out hb) (below_new w4 (.cells #[.bool neg, .string u] 26)))
  obtain ⟨⟨c1, c2⟩, _⟩ := ((HD3.out.below hb).below (below_new w4 (.cells #[.bool neg, .string u] 26))).cells
  rw [HLT.out]
  clear hb HB3 HD3 HDD HR
  by_cases hov : 2 * k - 1 < t.size
  · rw [decide_eq_true hov]
    have hov2 : 2 * (k : Int) - 1 < (t.size : Int) := by omega
    go_wp2_with fail
    refine (HDB.out _ (HRB.out.below HB4.out) (HG.out.below HB4.out)).mono ?_
    rintro e w5 ⟨rfl, hb⟩
    have HB5 := Lib.hid (bel0 (bel0 HB4.out hb) (below_new w5 (.cells #[.bool bn, .string us] 26)))
    have HB5' := Lib.hid (bel0 HB4.out hb)
    have HD5 := Lib.hid (DecB.new w5 bn us)
    clear hb
    cases ok
    · go_wp2
      go_ret
      exact ⟨rfl, HB5.out⟩
    · have hf := HF.out rfl
      have HEN := Lib.hid hf.1
      have HGT := Lib.hid hf.2.1
      have HLA := Lib.hid hf.2.2
      clear hf c1 c2
      go_wp2_with fail
      refine (HEN.out _).mono ?_
      rintro e w6 ⟨g2, rfl, hr, hb⟩
      have HB6 := Lib.hid (bel1 HB5'.out hb)
      have HD6 := Lib.hid (HD5.out.below hb)
      obtain ⟨B, off, rfl, hcl⟩ := HNE.out _ (HRB.out.below HB6.out)
      have HCL := Lib.hid hcl
      have HCA := Lib.hid (fun j hj => cellA hr HAL.out j hj)
      clear hb hr hcl HB5 HB5' HD5 HEN HB4 HDB HF HNE HRB
      go_wp2_with fail
      go_loopw [19] (fun i wr => (∃ m, wr = w6.drewN m) ∧ ∃ j : Nat, j ≤ 15 ∧ i = .int .i64 j) (fun i _ => 15 - (intOf i).toNat)
      case atStart => exact ⟨⟨0, rfl⟩, 0, Nat.zero_le _, rfl⟩
      case round =>
        obtain ⟨⟨m, rfl⟩, j, hj, rfl⟩ := hrel
        by_cases hlt : j < 15
        · have q1 := HCA.out j (by omega)
          have q2 := HCL.out j (by omega)
          rw [HGT.out j hlt] at q1
          have hj1 : j < 16 := by omega
          go_wp2
          go_quiet (fail)
          go_wp2
          go_roundw
          case rel => exact ⟨⟨_, rfl⟩, j + 1, by omega, by go_num⟩
          case measure => simp [intOf]; omega
        · obtain rfl : j = 15 := by omega
          have q1 := HCA.out 15 (by omega)
          have q2 := HCL.out 15 (by omega)
          obtain ⟨⟨x1, x2⟩, _⟩ := HD6.out.cells
          obtain ⟨l1, l2⟩ := HLA.out
          have hj1 : 15 < 16 := by omega
          have hj2 : ((15 : Nat) : Int) < ((16 : Nat) : Int) := by omega
          clear hlt
          generalize (gt A 15) = ya at *
          generalize (gt L 15) = yb at *
          rw [beq_iff_eq] at l1 l2
          obtain ⟨vh, hvh⟩ : ∃ v, v = (yb.toNat : Int) / 16 := ⟨_, rfl⟩
          rw [← hvh] at l1
          replace hvh := hvh.symm
          cases bn
          · simp only [Bool.false_eq_true, if_false] at l2
            go_wp2
            go_quiet (fail)
            go_wp2
            go_ret
            exact ⟨by simp, bel0 (bel0 HB6.out (belowDraw _ _)) (belowDraw _ _)⟩
          · simp only [if_true] at l2
            go_wp2
            go_quiet (fail)
            go_wp2
            go_ret
            exact ⟨by simp, bel0 (bel0 HB6.out (belowDraw _ _)) (belowDraw _ _)⟩
  · rw [decide_eq_false hov]
    have hut := HUT.out (by rw [HLT.out]; omega)
    subst hut
    go_wp2_with fail
    refine (HDB.out _ (HRB.out.below HB4.out) (HG.out.below HB4.out)).mono ?_
    rintro e w5 ⟨rfl, hb⟩
    have HB5 := Lib.hid (bel0 (bel0 HB4.out hb) (below_new w5 (.cells #[.bool bn, .string us] 26)))
    have HB5' := Lib.hid (bel0 HB4.out hb)
    have HD5 := Lib.hid (DecB.new w5 bn us)
    clear hb
    cases ok
    · go_wp2
      go_ret
      exact ⟨rfl, HB5.out⟩
    · have hf := HF.out rfl
      have HEN := Lib.hid hf.1
      have HGT := Lib.hid hf.2.1
      have HLA := Lib.hid hf.2.2
      clear hf c1 c2
      go_wp2_with fail
      refine (HEN.out _).mono ?_
      rintro e w6 ⟨g2, rfl, hr, hb⟩
      have HB6 := Lib.hid (bel1 HB5'.out hb)
      have HD6 := Lib.hid (HD5.out.below hb)
      obtain ⟨B, off, rfl, hcl⟩ := HNE.out _ (HRB.out.below HB6.out)
      have HCL := Lib.hid hcl
      have HCA := Lib.hid (fun j hj => cellA hr HAL.out j hj)
      clear hb hr hcl HB5 HB5' HD5 HEN HB4 HDB HF HNE HRB
      go_wp2_with fail
      go_loopw [19] (fun i wr => (∃ m, wr = w6.drewN m) ∧ ∃ j : Nat, j ≤ 15 ∧ i = .int .i64 j) (fun i _ => 15 - (intOf i).toNat)
      case atStart => exact ⟨⟨0, rfl⟩, 0, Nat.zero_le _, rfl⟩
      case round =>
        obtain ⟨⟨m, rfl⟩, j, hj, rfl⟩ := hrel
        by_cases hlt : j < 15
        · have q1 := HCA.out j (by omega)
          have q2 := HCL.out j (by omega)
          rw [HGT.out j hlt] at q1
          have hj1 : j < 16 := by omega
          go_wp2
          go_quiet (fail)
          go_wp2
          go_roundw
          case rel => exact ⟨⟨_, rfl⟩, j + 1, by omega, by go_num⟩
          case measure => simp [intOf]; omega
        · obtain rfl : j = 15 := by omega
          have q1 := HCA.out 15 (by omega)
          have q2 := HCL.out 15 (by omega)
          obtain ⟨⟨x1, x2⟩, _⟩ := HD6.out.cells
          obtain ⟨l1, l2⟩ := HLA.out
          have hj1 : 15 < 16 := by omega
          have hj2 : ((15 : Nat) : Int) < ((16 : Nat) : Int) := by omega
          clear hlt
          generalize (gt A 15) = ya at *
          generalize (gt L 15) = yb at *
          rw [beq_iff_eq] at l1 l2
          obtain ⟨vh, hvh⟩ : ∃ v, v = (yb.toNat : Int) / 16 := ⟨_, rfl⟩
          rw [← hvh] at l1
          replace hvh := hvh.symm
          cases bn
          · simp only [Bool.false_eq_true, if_false] at l2
            go_wp2
            go_quiet (fail)
            go_wp2
            go_ret
            exact ⟨by simp, bel0 (bel0 HB6.out (belowDraw _ _)) (belowDraw _ _)⟩
          · simp only [if_true] at l2
            go_wp2
            go_quiet (fail)
            go_wp2
            go_ret
            exact ⟨by simp, bel0 (bel0 HB6.out (belowDraw _ _)) (belowDraw _ _)⟩
set_option maxRecDepth 100000 in
set_option maxHeartbeats 2000000 in
theorem walk_n (s : ByteArray) (hs0 : s.size ≤ 9223372036854775807) (neg : Bool) (x : UInt8) (p : Option Addr) (c : Nat) (l : List UInt8) (q : Nat) (hq : l.length = q + 1) (hl : q + 1 ≤ 16) (hc : (q + 1) ≤ c) (hcc : c ≤ 9223372036854775807) (hnil : p = none → c = 0) (w : World) (hg : Sg w) (hrb : Rd w p l) :
    Calls Tryd.prog 6 #[.string s, .bool neg, .int .u8 (x.toNat : Int), .slice p (q + 1) c] w (New w (.bool true)) := by
  obtain ⟨L, hL⟩ : ∃ L, L = l := ⟨_, rfl⟩
  have hLl : L.length = (q + 1) := by rw [hL]; exact hq
  have HRB : Hid (Rd w p L) := Lib.hid (by rw [hL]; exact hrb)
  obtain ⟨bn, hbn⟩ : ∃ bn, bn = dNeg L := ⟨_, rfl⟩
  obtain ⟨us, hus⟩ : ∃ us : ByteArray, us = ⟨(dDig L).toArray⟩ := ⟨_, rfl⟩
  obtain ⟨ok, hok0⟩ : ∃ ok, ok = dOk L := ⟨_, rfl⟩
  obtain ⟨A, hA⟩ : ∃ A, A = encL (dNeg L) (dDig L) L.length := ⟨_, rfl⟩
  have hdb : ∀ W, Rd W p L → Sg W → Calls Tryd.prog 25 #[.slice p (q + 1) c] W (New W (.tuple #[.agg #[.bool bn, .string us], .bool ok])) := fun W h hg => by
    have := decode_any p c L W h hg
    rw [hLl] at this
    exact this.mono fun e w' ⟨he, hb⟩ => ⟨by rw [he, hbn, hus, hok0], hb⟩
  have HDB := Lib.hid hdb
  have HNE : Hid (∀ W, Rd W p L → ∃ B off, p = some ⟨B, off, none⟩ ∧ ∀ j, j < (q + 1) → W.cell? ⟨B, off + j, none⟩ = some (.int .u8 ((gt L j).toNat : Int))) := Lib.hid (fun W h => by
    rcases h with h | ⟨B, off, hp, hc⟩
    · rw [h] at hLl; simp at hLl
    · exact ⟨B, off, hp, fun j hj => hc j (by omega)⟩)
  have HAL : Hid (A.length = (q + 1)) := Lib.hid (by rw [hA, encL_len, hLl])
  have HF : Hid (ok = true → (∀ W, Calls Tryd.prog 24 #[.agg #[.bool bn, .string us], .int .i64 ((q : Int) + 1)] W (ZPost W (q + 1) false A)) ∧ (∀ j, j < q → gt A j = gt L j) ∧ ((((gt A q).toNat : Int) / 16 == ((gt L q).toNat : Int) / 16) = true ∧ (((gt A q).toNat : Int) % 16 == (if bn then 13 else 12)) = true)) := Lib.hid (fun h => by
    rw [hok0] at h
    obtain ⟨h1, h2, h3, h4, h5⟩ := enc_back h
    refine ⟨fun W => ?_, fun j hj => ?_, ?_⟩
    · refine EnPost.yes' (n := (q + 1)) (m := A) (ov := false) (penc_any bn us (((q + 1) : Nat) : Int) (dDig L) W (by rw [hus])) (by unfold enB; rw [h2, decide_eq_true (by omega)]; rfl) (by rw [hbn, hA, hLl]; rfl) (by rw [decide_eq_false]; rw [hLl] at h3; rw [Int.toNat_natCast]; omega)
    · rw [hA]; exact gt_back h j (by omega)
    · have := last_back h
      rw [hLl] at this
      rw [hA, hbn, hLl]
      exact this)
  clear hdb hrb hL hLl hbn hus hok0 hA hq
  have HG := Lib.hid hg
  obtain ⟨k, hk⟩ : ∃ k : Nat, 1 + (x.toNat : Int) % 16 = (k : Int) := ⟨1 + x.toNat % 16, by push_cast; rfl⟩
  have hk1 : 1 ≤ k := by omega
  have hk2 : k ≤ 16 := by omega
  clear hg
  go_enter Tryd.func6, Tryd.ntmps6
  go_wp2_with fail
  refine (works_any w HG.out).mono ?_
  rintro e w1 ⟨rfl, hb1⟩
  have HB1 := Lib.hid hb1
  clear hb1
  go_wp2_with fail
  refine (number_any neg s _).mono ?_
  rintro e w2 ⟨t, rfl, hok, hb⟩
  have HB2 := Lib.hid (bel0 HB1.out hb)
  have HD2 := Lib.hid (DecB.new w2 neg t)
  obtain ⟨dl, hdl⟩ : ∃ dl, t.data.toList = dl := ⟨_, rfl⟩
  rw [hdl] at hok
  have htl : t = ⟨dl.toArray⟩ := by rw [← hdl]
  have hlt : dl.length = t.size := by rw [← hdl]; rfl
  have hz := fun W => EnPost.yes' (n := k) (m := encL neg dl k) (ov := decide (2 * k - 1 < dl.length)) (penc_any neg t (k : Int) dl W hdl) (by unfold enB; rw [hok, decide_eq_true (by omega)]; rfl) rfl rfl
  obtain ⟨u, hu⟩ : ∃ u : ByteArray, u = ⟨(dDig (encL neg dl k)).toArray⟩ := ⟨_, rfl⟩
  have hdd : (∀ g W, Rd W (some ⟨g, 0, none⟩) (encL neg dl k) → Sg W → Calls Tryd.prog 25 #[.slice (some ⟨g, 0, none⟩) k k] W (New W (.tuple #[.agg #[.bool neg, .string u], .bool true]))) ∧ (dl.length ≤ 2 * k - 1 → u = t) := by
    obtain ⟨f1, f2, f3⟩ := dec_field (bs := encL neg dl k) (dl := dl) (neg := neg) (by rw [encL_len]; omega) (by rw [encL_len]; omega) hok
      (by rw [nib_enc _ _ _ _ (by omega), if_pos rfl])
      (fun i hi => by
        rw [encL_len] at hi
        rw [nib_enc _ _ _ _ (by omega), if_neg (by omega)]
        congr 1; omega)
    refine ⟨fun g W h hg => ?_, fun hle => ?_⟩
    · have h2 := decode_any (some ⟨g, 0, none⟩) k _ W h hg
      rw [encL_len] at h2
      refine h2.mono fun e w' ⟨he, hb⟩ => ⟨?_, hb⟩
      rw [he, f1, f2, hu]
    · rw [hu, f3 (by rw [encL_len]; omega), ← htl]
  have HZ := Lib.hid hz
  have HDD := Lib.hid hdd.1
  have HUT := Lib.hid hdd.2
  have HLT := Lib.hid hlt
  clear hb hz hdd hok hdl htl hlt hu
  go_wp2_with fail
  refine (HZ.out _).mono ?_
  rintro e w3 ⟨g, rfl, hr, hb⟩
  have HB3 := Lib.hid (bel1 HB2.out hb)
  have HD3 := Lib.hid (HD2.out.below hb)
  have HR := Lib.hid hr
  clear hb hr HB1 HB2 HD2 HZ
  go_wp2_with fail
  refine (HDD.out _ _ HR.out (HG.out.below HB3.out)).mono ?_
  rintro e w4 ⟨rfl, hb⟩
  have HB4 := Lib.hid (bel0 (bel0 HB3.out hb) (below_new w4 (.cells #[.bool neg, .string u] 26)))
  obtain ⟨⟨c1, c2⟩, _⟩ := ((HD3.out.below hb).below (below_new w4 (.cells #[.bool neg, .string u] 26))).cells
  rw [HLT.out]
  clear hb HB3 HD3 HDD HR
  by_cases hov : 2 * k - 1 < t.size
  · rw [decide_eq_true hov]
    have hov2 : 2 * (k : Int) - 1 < (t.size : Int) := by omega
    go_wp2_with fail
    refine (HDB.out _ (HRB.out.below HB4.out) (HG.out.below HB4.out)).mono ?_
    rintro e w5 ⟨rfl, hb⟩
    have HB5 := Lib.hid (bel0 (bel0 HB4.out hb) (below_new w5 (.cells #[.bool bn, .string us] 26)))
    have HB5' := Lib.hid (bel0 HB4.out hb)
    have HD5 := Lib.hid (DecB.new w5 bn us)
    clear hb
    cases ok
    · go_wp2
      go_ret
      exact ⟨rfl, HB5.out⟩
    · have hf := HF.out rfl
      have HEN := Lib.hid hf.1
      have HGT := Lib.hid hf.2.1
      have HLA := Lib.hid hf.2.2
      clear hf c1 c2
      go_wp2_with fail
      refine (HEN.out _).mono ?_
      rintro e w6 ⟨g2, rfl, hr, hb⟩
      have HB6 := Lib.hid (bel1 HB5'.out hb)
      have HD6 := Lib.hid (HD5.out.below hb)
      obtain ⟨B, off, rfl, hcl⟩ := HNE.out _ (HRB.out.below HB6.out)
      have HCL := Lib.hid hcl
      have HCA := Lib.hid (fun j hj => cellA hr HAL.out j hj)
      clear hb hr hcl HB5 HB5' HD5 HEN HB4 HDB HF HNE HRB
      go_wp2_with fail
      go_loopw [19] (fun i wr => (∃ m, wr = w6.drewN m) ∧ ∃ j : Nat, j ≤ q ∧ i = .int .i64 j) (fun i _ => q - (intOf i).toNat)
      case atStart => exact ⟨⟨0, rfl⟩, 0, Nat.zero_le _, rfl⟩
      case round =>
        obtain ⟨⟨m, rfl⟩, j, hj, rfl⟩ := hrel
        by_cases hlt : j < q
        · have q1 := HCA.out j (by omega)
          have q2 := HCL.out j (by omega)
          rw [HGT.out j hlt] at q1
          have hj1 : j < (q + 1) := by omega
          go_wp2
          go_quiet (fail)
          go_wp2
          go_roundw
          case rel => exact ⟨⟨_, rfl⟩, j + 1, by omega, by go_num⟩
          case measure => simp [intOf]; omega
        · obtain rfl : q = j := by omega
          have q1 := HCA.out q (by omega)
          have q2 := HCL.out q (by omega)
          obtain ⟨⟨x1, x2⟩, _⟩ := HD6.out.cells
          obtain ⟨l1, l2⟩ := HLA.out
          have hj1 : q < (q + 1) := by omega
          have hj2 : ((q : Nat) : Int) < (((q + 1) : Nat) : Int) := by omega
          clear hlt
          generalize (gt A q) = ya at *
          generalize (gt L q) = yb at *
          rw [beq_iff_eq] at l1 l2
          obtain ⟨vh, hvh⟩ : ∃ v, v = (yb.toNat : Int) / 16 := ⟨_, rfl⟩
          rw [← hvh] at l1
          replace hvh := hvh.symm
          cases bn
          · simp only [Bool.false_eq_true, if_false] at l2
            go_wp2
            go_quiet (fail)
            go_wp2
            go_ret
            exact ⟨by simp, bel0 (bel0 HB6.out (belowDraw _ _)) (belowDraw _ _)⟩
          · simp only [if_true] at l2
            go_wp2
            go_quiet (fail)
            go_wp2
            go_ret
            exact ⟨by simp, bel0 (bel0 HB6.out (belowDraw _ _)) (belowDraw _ _)⟩
  · rw [decide_eq_false hov]
    have hut := HUT.out (by rw [HLT.out]; omega)
    subst hut
    go_wp2_with fail
    refine (HDB.out _ (HRB.out.below HB4.out) (HG.out.below HB4.out)).mono ?_
    rintro e w5 ⟨rfl, hb⟩
    have HB5 := Lib.hid (bel0 (bel0 HB4.out hb) (below_new w5 (.cells #[.bool bn, .string us] 26)))
    have HB5' := Lib.hid (bel0 HB4.out hb)
    have HD5 := Lib.hid (DecB.new w5 bn us)
    clear hb
    cases ok
    · go_wp2
      go_ret
      exact ⟨rfl, HB5.out⟩
    · have hf := HF.out rfl
      have HEN := Lib.hid hf.1
      have HGT := Lib.hid hf.2.1
      have HLA := Lib.hid hf.2.2
      clear hf c1 c2
      go_wp2_with fail
      refine (HEN.out _).mono ?_
      rintro e w6 ⟨g2, rfl, hr, hb⟩
      have HB6 := Lib.hid (bel1 HB5'.out hb)
      have HD6 := Lib.hid (HD5.out.below hb)
      obtain ⟨B, off, rfl, hcl⟩ := HNE.out _ (HRB.out.below HB6.out)
      have HCL := Lib.hid hcl
      have HCA := Lib.hid (fun j hj => cellA hr HAL.out j hj)
      clear hb hr hcl HB5 HB5' HD5 HEN HB4 HDB HF HNE HRB
      go_wp2_with fail
      go_loopw [19] (fun i wr => (∃ m, wr = w6.drewN m) ∧ ∃ j : Nat, j ≤ q ∧ i = .int .i64 j) (fun i _ => q - (intOf i).toNat)
      case atStart => exact ⟨⟨0, rfl⟩, 0, Nat.zero_le _, rfl⟩
      case round =>
        obtain ⟨⟨m, rfl⟩, j, hj, rfl⟩ := hrel
        by_cases hlt : j < q
        · have q1 := HCA.out j (by omega)
          have q2 := HCL.out j (by omega)
          rw [HGT.out j hlt] at q1
          have hj1 : j < (q + 1) := by omega
          go_wp2
          go_quiet (fail)
          go_wp2
          go_roundw
          case rel => exact ⟨⟨_, rfl⟩, j + 1, by omega, by go_num⟩
          case measure => simp [intOf]; omega
        · obtain rfl : q = j := by omega
          have q1 := HCA.out q (by omega)
          have q2 := HCL.out q (by omega)
          obtain ⟨⟨x1, x2⟩, _⟩ := HD6.out.cells
          obtain ⟨l1, l2⟩ := HLA.out
          have hj1 : q < (q + 1) := by omega
          have hj2 : ((q : Nat) : Int) < (((q + 1) : Nat) : Int) := by omega
          clear hlt
          generalize (gt A q) = ya at *
          generalize (gt L q) = yb at *
          rw [beq_iff_eq] at l1 l2
          obtain ⟨vh, hvh⟩ : ∃ v, v = (yb.toNat : Int) / 16 := ⟨_, rfl⟩
          rw [← hvh] at l1
          replace hvh := hvh.symm
          cases bn
          · simp only [Bool.false_eq_true, if_false] at l2
            go_wp2
            go_quiet (fail)
            go_wp2
            go_ret
            exact ⟨by simp, bel0 (bel0 HB6.out (belowDraw _ _)) (belowDraw _ _)⟩
          · simp only [if_true] at l2
            go_wp2
            go_quiet (fail)
            go_wp2
            go_ret
            exact ⟨by simp, bel0 (bel0 HB6.out (belowDraw _ _)) (belowDraw _ _)⟩
theorem walk (s : ByteArray) (hs0 : s.size ≤ 9223372036854775807) (neg : Bool) (x : UInt8) (p : Option Addr) (c : Nat) (l : List UInt8) (hc : l.length ≤ c) (hcc : c ≤ 9223372036854775807) (hnil : p = none → c = 0) (w : World) (hg : Sg w) (hrb : Rd w p l) :
    Calls Tryd.prog 6 #[.string s, .bool neg, .int .u8 (x.toNat : Int), .slice p l.length c] w (New w (.bool true)) := by
  by_cases h : 16 < l.length
  · exact walk_c s hs0 neg x p c l h hc hcc hnil w hg hrb
  · cases hq : l.length with
    | zero =>
      obtain rfl : l = [] := List.length_eq_zero_iff.1 hq
      exact walk_e s hs0 neg x p c [] (by omega) hcc hnil w hg hrb
    | succ q => exact walk_n s hs0 neg x p c l q hq (by omega) (by omega) hcc hnil w hg hrb

end Go.Proofs.YtgnaiolbleadbaaDoor.packedBack

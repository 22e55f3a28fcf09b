/- The document's own Unpack: its contract. -/
import Derived.Test.YtgnaiolbleadbaaDoorPkRef4
namespace Go.Proofs.YtgnaiolbleadbaaDoor
open Go.RowKit Go.Shelf
set_option linter.unusedVariables false
namespace E

theorem runpack_no (p : Option Addr) (m c : Nat) (n : Int) (w : World) (h : szB m n = false) : Calls Tryd.prog 21 #[.slice p m c, .int .i64 n] w (New w (.slice none 0 0)) := by
  by_cases h1 : 1 ≤ m ∧ m ≤ 16
  · have h2 : ¬ (1 ≤ n ∧ n ≤ 16) := fun h2 => by
      unfold szB at h
      rw [decide_eq_true h1, decide_eq_true h2] at h
      cases h
    have hs1 := fun W => size_any (m : Int) W
    have hs2 := fun W => size_any n W
    rw [decide_eq_true (by omega)] at hs1
    rw [decide_eq_false h2] at hs2
    have S1 := Lib.hid hs1
    have S2 := Lib.hid hs2
    clear hs1 hs2 h h2
    go_enter Tryd.func21, Tryd.ntmps21
    go_wp2_with fail
    refine (S1.out _).mono ?_
    rintro e w' ⟨rfl, rfl⟩
    go_wp2_with fail
    refine (S2.out _).mono ?_
    rintro e w' ⟨rfl, rfl⟩
    go_wp2
    go_ret
    exact ⟨rfl, Below.refl _ _⟩
  · have hs1 := fun W => size_any (m : Int) W
    rw [decide_eq_false (by omega)] at hs1
    have S1 := Lib.hid hs1
    clear hs1 h
    go_enter Tryd.func21, Tryd.ntmps21
    go_wp2_with fail
    refine (S1.out _).mono ?_
    rintro e w' ⟨rfl, rfl⟩
    go_wp2
    go_ret
    exact ⟨rfl, Below.refl _ _⟩
theorem zonR_snoc (z : Fin 16) (D : List (Fin 16)) (n t : Nat) (h : t < n) : (zonR z D n).take (t + 1) = (zonR z D n).take t ++ [mk (if t = n - 1 then z else 15) (D.getD t 0)] := by
  rw [take_one (by rw [zonR_len]; exact h), gt_lt (by rw [zonR_len]; exact h)]
  simp [zonR]
theorem bsU_snoc' (l : List UInt8) (x : UInt8) : bsU (l ++ [x]) = bsU l ++ [.int .u8 (x.toNat : Int)] := by simp [bsU]
set_option maxRecDepth 100000 in
set_option maxHeartbeats 1000000 in
theorem runpack_yes (p : Option Addr) (c n : Nat) (bs : List UInt8) (w : World) (h1 : 1 ≤ bs.length) (h2 : bs.length ≤ 16) (h3 : 1 ≤ n) (h4 : n ≤ 16) (hr : Rd w p bs) :
    Calls Tryd.prog 21 #[.slice p bs.length c, .int .i64 (n : Int)] w (RuPost w (unpackL bs n)) := by
  obtain ⟨i0, hi0, hz0, hz1, hz2⟩ := info_parts info5
  have hs1 := fun W => size_any (bs.length : Int) W
  have hs2 := fun W => size_any (n : Int) W
  rw [decide_eq_true (by omega)] at hs1 hs2
  have S1 := Lib.hid hs1
  have S2 := Lib.hid hs2
  have HE := Lib.hid (unpack_eq bs n h1)
  have HR := Lib.hid hr
  have HDG := Lib.hid (fun W h => Digits_any p c bs W (by omega) h)
  have hdl := dgsL_len bs
  have hlast := (dgsL_get bs (bs.length - 1) (by omega)).2
  obtain ⟨D, hD⟩ : ∃ D, D = dgsL bs := ⟨_, rfl⟩
  obtain ⟨k, hk⟩ : ∃ k, 2 * bs.length - 1 = k := ⟨_, rfl⟩
  rw [show 2 * (bs.length - 1) + 1 = k by omega, ← hD] at hlast
  rw [← hD, hk, ← hlast] at HE
  rw [← hD] at HDG hdl
  have hdk : D.length = k + 1 := by omega
  have hk32 : k ≤ 31 := by omega
  have HDK := Lib.hid hdk
  generalize bs.length = bl at *
  clear hs1 hs2 hr hdl hlast hD hdk hk h1
  go_enter Tryd.func21, Tryd.ntmps21
  go_wp2_with fail
  refine (S1.out _).mono ?_
  rintro e w' ⟨rfl, rfl⟩
  go_wp2_with fail
  refine (S2.out _).mono ?_
  rintro e w' ⟨rfl, rfl⟩
  go_wp2_with fail
  refine (HDG.out _ HR.out).mono ?_
  rintro e w1 ⟨sv, rfl, ho1, hb1⟩
  obtain ⟨p1, c1, rfl, hr1, hc1, hcc1, _⟩ := ho1.rd
  rw [HDK.out] at hc1 ⊢
  have hri := right_any p1 c1 n (D.take k) w1 (by omega) (by rw [List.length_take]; omega) (hr1.take k)
  rw [List.length_take, HDK.out, Nat.min_eq_left (by omega)] at hri
  obtain ⟨B1, off1, rfl, hcell⟩ : ∃ B off, p1 = some ⟨B, off, none⟩ ∧ w1.cell? ⟨B, off + k, none⟩ = some (.int .i64 ((D.getD k 0).val : Int)) := by
    rcases hr1 with h | ⟨B, off, hp, hc⟩
    · rw [h] at HDK; have := HDK.out; simp at this
    · exact ⟨B, off, hp, hc k (by rw [HDK.out]; omega)⟩
  have HRI := Lib.hid hri
  have HB1 := Lib.hid hb1
  have HCK := Lib.hid hcell
  have j1 : (0 : Int) ≤ (k : Int) := by omega
  have j2 : (k : Int) ≤ (c1 : Int) := by omega
  generalize D.getD k 0 = z at *
  clear ho1 hr1 hri hb1 hcell
  go_wp2_with fail
  refine (HRI.out).mono ?_
  rintro e w2 ⟨sv2, rfl, ho2, hb2⟩
  obtain ⟨p2, c2, rfl, hr2, _⟩ := ho2.rd
  rw [rgtL_len]
  obtain ⟨B2, off2, rfl, hcl2⟩ : ∃ B off, p2 = some ⟨B, off, none⟩ ∧ ∀ j, j < n → w2.cell? ⟨B, off + j, none⟩ = some (.int .i64 (((rgtL (D.take k) n).getD j 0).val : Int)) := by
    rcases hr2 with h | ⟨B, off, hp, hc⟩
    · have := rgtL_len (D.take k) n; rw [h] at this; simp at this; omega
    · exact ⟨B, off, hp, fun j hj => hc j (by rw [rgtL_len]; exact hj)⟩
  have HB2 := Lib.hid (bel0 HB1.out hb2)
  have HCK2 := Lib.hid (keepC HCK.out hb2)
  have HC2 := Lib.hid hcl2
  obtain ⟨Z, hZ⟩ : ∃ Z, Z = zonR z (rgtL (D.take k) n) n := ⟨_, rfl⟩
  have hzs := fun t (h : t < n) => zonR_snoc z (rgtL (D.take k) n) n t h
  rw [← hZ] at HE hzs
  have HZS := Lib.hid hzs
  have HZL : Hid (Z.length = n) := Lib.hid (by rw [hZ, zonR_len])
  generalize rgtL (D.take k) n = R at *
  have hzlt := z.isLt
  clear hb2 hr2 hcl2 ho2 hZ hzs
  go_wp2
  go_loopw [7, 8] (fun sv i wr => Below w2.heap.size w2 wr ∧ ∃ t : Nat, t ≤ n ∧ i = .int .i64 t ∧ wr.ownsRow w2.heap.size 5 1 sv t (bsU (Z.take t))) (fun _ i _ => n - (intOf i).toNat)
  case atStart => exact ⟨Below.refl _ _, 0, Nat.zero_le _, rfl, World.ownsRow_nil _ _ _ _⟩
  case round =>
    obtain ⟨hbw, t, ht, rfl, hown⟩ := hrel
    have HB := Lib.hid hbw
    have HO := Lib.hid hown
    clear hbw hown
    by_cases hlt : t < n
    · have q1 := keepC (HC2.out t hlt) HB.out
      have q2 := keepC HCK2.out HB.out
      have hsn := HZS.out t hlt
      have hd := (R.getD t 0).isLt
      generalize R.getD t 0 = dd at *
      by_cases hl : t = n - 1
      · rw [if_pos hl] at hsn
        have HSN := Lib.hid hsn
        have hmk := mk_nat z dd
        have HMK := Lib.hid hmk
        have hl3 : decide ((t : Int) = (n : Int) - 1) = true := decide_eq_true (by omega)
        have hl4 : ((t : Int) == (n : Int) - 1) = true := by rw [beq_iff_eq]; omega
        clear hsn hmk hl ht
        go_wp2_with (at_builtin; refine wpList_append_own _ rfl (.tmp 43) (.tmp 52) 22 rfl w2.heap.size 5 i0 (.int .u8 0) 1 1 Tryd.underlying22 hi0 hz0 hz1 hz2 rfl (by decide) _ t _ rfl (HO.out.alloc _) ⟨wr.heap.size, 0, none⟩ 1 1 [_] rfl rfl (cellNew _ _ _) (by intro u hu; simp at hu; subst hu; rfl) (by unfold maxLen; omega) (by omega) (by have := HB.out.size; simp; omega) ?_)
        intro v' w3 hown' hgrow _
        have hb1 := (HB.out.alloc HB.out.size _).grown hgrow (by have := HB.out.size; simp; omega) (fun r hr => (HO.out.lt r hr).1)
        clear hgrow
        go_wp2
        go_roundw
        case rel => exact ⟨hb1, t + 1, by omega, by go_num, by rw [HSN.out, bsU_snoc', HMK.out]; exact hown'⟩
        case measure => simp [intOf]; omega
      · rw [if_neg hl] at hsn
        have HSN := Lib.hid hsn
        have hmk := mk_nat 15 dd
        have HMK := Lib.hid hmk
        have hl2 : (t : Int) < (n : Int) - 1 := by omega
        have hl3 : decide ((t : Int) = (n : Int) - 1) = false := decide_eq_false (by omega)
        have hl4 : ((t : Int) == (n : Int) - 1) = false := by rw [beq_eq_false_iff_ne]; omega
        clear hsn hmk hl ht
        go_wp2_with (at_builtin; refine wpList_append_own _ rfl (.tmp 43) (.tmp 52) 22 rfl w2.heap.size 5 i0 (.int .u8 0) 1 1 Tryd.underlying22 hi0 hz0 hz1 hz2 rfl (by decide) _ t _ rfl (HO.out.alloc _) ⟨wr.heap.size, 0, none⟩ 1 1 [_] rfl rfl (cellNew _ _ _) (by intro u hu; simp at hu; subst hu; rfl) (by unfold maxLen; omega) (by omega) (by have := HB.out.size; simp; omega) ?_)
        intro v' w3 hown' hgrow _
        have hb1 := (HB.out.alloc HB.out.size _).grown hgrow (by have := HB.out.size; simp; omega) (fun r hr => (HO.out.lt r hr).1)
        clear hgrow
        go_wp2
        go_roundw
        case rel => exact ⟨hb1, t + 1, by omega, by go_num, by rw [HSN.out, bsU_snoc', HMK.out]; exact hown'⟩
        case measure => simp [intOf]; omega
    · obtain rfl : t = n := by omega
      have hown := HO.out
      rw [List.take_of_length_le (by rw [HZL.out]; omega)] at hown
      have HF : Hid (Hold wr w.heap.size u7 (unpackL bs t) ∧ Below w.heap.size w wr) := Lib.hid ⟨by rw [← HE.out]; unfold Hold; rw [HZL.out]; exact own_base hown HB2.out.size, bel0 HB2.out HB.out⟩
      clear hown
      go_wp2
      go_ret
      exact ⟨_, rfl, HF.out.1, HF.out.2⟩

end E
end Go.Proofs.YtgnaiolbleadbaaDoor

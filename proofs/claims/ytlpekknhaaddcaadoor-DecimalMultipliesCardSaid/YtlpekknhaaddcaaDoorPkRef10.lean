/- The document's own Decode: its contract. -/
import Derived.Test.YtlpekknhaaddcaaDoorPkRef3
namespace Go.Proofs.YtlpekknhaaddcaaDoor
open Go.RowKit Go.Shelf
set_option linter.unusedVariables false
namespace E

/-- The text of the first t digits, without zeros on the left. -/
def nS (D : List (Fin 16)) (t : Nat) : List UInt8 := ((D.take t).map chr).foldl ac []
theorem nS_zero (D : List (Fin 16)) : nS D 0 = [] := rfl
theorem nS_succ (D : List (Fin 16)) (t : Nat) (h : t < D.length) : nS D (t + 1) = ac (nS D t) (chr (D.getD t 0)) := by
  unfold nS
  rw [take_getD h, List.map_append, List.foldl_append]
  rfl
theorem ac_len (l s : List UInt8) : (l.foldl ac s).length ≤ s.length + l.length := by
  induction l generalizing s with
  | nil => simp
  | cons x l ih =>
    have h := ih (ac s x)
    have h2 : (ac s x).length ≤ s.length + 1 := by
      unfold ac
      split <;> simp
    simp only [List.foldl_cons, List.length_cons]
    omega
theorem nS_len (D : List (Fin 16)) (t : Nat) : (nS D t).length ≤ t := by
  have h := ac_len ((D.take t).map chr) []
  unfold nS
  simp only [List.length_nil, List.length_map, List.length_take] at h
  omega
theorem dgsL_nib (bs : List UInt8) (j : Nat) (h : j < 2 * bs.length) : (dgsL bs).getD j 0 = nib bs (2 * bs.length - 1 - j) := by
  have hl := dgsL_len bs
  have h2 := dgsL_rev bs (2 * bs.length - 1 - j)
  rw [if_pos (by omega)] at h2
  rw [← h2]
  simp only [List.getD_eq_getElem?_getD]
  rw [List.getElem?_reverse (by omega)]
  congr 2
  omega
theorem digs_take (bs : List UInt8) (h : 1 ≤ bs.length) : (dgsL bs).take (2 * bs.length - 1) = (dg bs 1 1 (2 * bs.length - 1)).reverse := by
  have hl := dgsL_len bs
  refine list_ext_getD (by simp [dg_len]; omega) fun i hi => ?_
  have hi2 : i < 2 * bs.length - 1 := by simp at hi; omega
  have h1 : ((dgsL bs).take (2 * bs.length - 1)).getD i 0 = (dgsL bs).getD i 0 := by
    simp only [List.getD_eq_getElem?_getD, List.getElem?_take, if_pos hi2]
  have h2 : (dg bs 1 1 (2 * bs.length - 1)).reverse.getD i 0 = (dg bs 1 1 (2 * bs.length - 1)).getD (2 * bs.length - 1 - 1 - i) 0 := by
    simp only [List.getD_eq_getElem?_getD]
    rw [List.getElem?_reverse (by rw [dg_len]; omega), dg_len]
  rw [h1, h2, dgsL_nib bs i (by omega), dg_get _ _ _ _ _ (by omega)]
  congr 1
  omega
theorem numL_nS (bs : List UInt8) (h : 1 ≤ bs.length) : numL (dg bs 1 1 (2 * bs.length - 1)) = nS (dgsL bs) (2 * bs.length - 1) := by
  unfold numL nS
  rw [digs_take bs h, ac_fold]
  intro h0
  have := congrArg List.length h0
  simp [dg_len] at this
  omega
theorem sign_lt (d : Fin 16) : signV d = 0 ↔ d.val < 10 := by revert d; decide
theorem sign_two (d : Fin 16) : decide (signV d = 2) = (decide (d.val = 11) || decide (d.val = 13)) := by revert d; decide
/-- What the digits say of the field. -/
structure RdF (bs : List UInt8) (D : List (Fin 16)) (m : Nat) (v : Fin 16) : Prop where
  low : v.val < 10 → dOk bs = false
  big : ∀ j, j < m → 9 < (D.getD j 0).val → dOk bs = false
  fine : ¬ v.val < 10 → (∀ j, j < m → (D.getD j 0).val ≤ 9) → dOk bs = true ∧ dNeg bs = (decide (v.val = 11) || decide (v.val = 13)) ∧ dDig bs = nS D m
theorem rdF (bs : List UInt8) (h1 : 1 ≤ bs.length) (h2 : bs.length ≤ 16) (m : Nat) (hm : 2 * bs.length = m + 1) : RdF bs (dgsL bs) m ((dgsL bs).getD m 0) := by
  have hv : (dgsL bs).getD m 0 = nib bs 0 := by
    rw [dgsL_nib bs m (by omega)]
    congr 1
    omega
  have hj : ∀ j, j < m → (dg bs 1 1 (2 * bs.length - 1)).getD j 0 = (dgsL bs).getD (m - 1 - j) 0 := fun j hj => by
    rw [dg_get _ _ _ _ _ (by omega), dgsL_nib bs _ (by omega)]
    congr 1
    omega
  rw [hv]
  refine ⟨fun h => ?_, fun j hjm h => ?_, fun h hd => ?_⟩
  · unfold dOk
    rw [(sign_lt _).2 h]
    simp
  · have : okD (dg bs 1 1 (2 * bs.length - 1)) = false := by
      rw [Bool.eq_false_iff]
      intro hk
      have h3 := (okD_getD _).1 hk (m - 1 - j) (by rw [dg_len]; omega)
      rw [hj _ (by omega), show m - 1 - (m - 1 - j) = j by omega] at h3
      omega
    unfold dOk
    rw [this]
    simp
  · have hk : okD (dg bs 1 1 (2 * bs.length - 1)) = true := (okD_getD _).2 fun i hi => by
      rw [dg_len] at hi
      rw [hj i (by omega)]
      exact hd _ (by omega)
    have hs : signV (nib bs 0) ≠ 0 := fun h0 => h ((sign_lt _).1 h0)
    have ho : dOk bs = true := by
      unfold dOk
      rw [hk, decide_eq_true ⟨h1, h2⟩, decide_eq_true hs]
      rfl
    refine ⟨ho, ?_, ?_⟩
    · unfold dNeg
      rw [ho, Bool.true_and, sign_two]
    · unfold dDig
      rw [ho, if_pos rfl, numL_nS bs h1]
      congr 1
      omega

/-- BEGIN WALK: nothing is left when the field is refused. -/
theorem dec_no {bs : List UInt8} (h : dOk bs = false) : dNeg bs = false ∧ dDig bs = [] ∧ dOk bs = false :=
  ⟨by unfold dNeg; rw [h]; rfl, by unfold dDig; rw [h]; rfl, h⟩
set_option maxRecDepth 100000 in
set_option maxHeartbeats 2000000 in
theorem rdecode_no (p : Option Addr) (n c : Nat) (w : World) (hl : ¬ (1 ≤ n ∧ n ≤ 16)) :
    Calls Tryd.prog 61 #[.slice p n c] w (New w (.tuple #[.agg #[.bool false, .string ⟨#[]⟩], .bool false])) := by
  have hs1 := fun W => size_any (n : Int) W
  rw [decide_eq_false (by omega)] at hs1
  have S1 := Lib.hid hs1
  clear hs1
  go_enter Tryd.func61, Tryd.ntmps61
  go_wp2_with fail
  refine (S1.out _).mono ?_
  rintro e w' ⟨rfl, rfl⟩
  go_wp2
  refine bodyPost_ret (v := .tuple #[.agg #[.bool false, .string ⟨#[]⟩], .bool false]) ?_ rfl ⟨rfl, ?_⟩
  · rw [results_cell_tmp rfl]
    go_simp
  · exact below_new _ _
set_option maxRecDepth 100000 in
set_option maxHeartbeats 2000000 in
theorem rdecode_yes (p : Option Addr) (c : Nat) (bs : List UInt8) (w : World) (hl : 1 ≤ bs.length) (hl2 : bs.length ≤ 16) (hr : Rd w p bs) :
    Calls Tryd.prog 61 #[.slice p bs.length c] w (DecPost w bs) := by
  have hs1 := fun W => size_any (bs.length : Int) W
  rw [decide_eq_true (by omega)] at hs1
  have S1 := Lib.hid hs1
  have HR := Lib.hid hr
  have hdl := dgsL_len bs
  obtain ⟨m, hm⟩ : ∃ m, 2 * bs.length = m + 1 := ⟨2 * bs.length - 1, by omega⟩
  have hf := rdF bs hl hl2 m hm
  have hdg := fun W h => Digits_any p c bs W (by omega) h
  rw [hm] at hdl
  obtain ⟨D, hD⟩ : ∃ D, D = dgsL bs := ⟨_, rfl⟩
  rw [← hD] at hdg hdl hf
  have HDG := Lib.hid hdg
  have HDL := Lib.hid hdl
  have hm31 : m ≤ 31 := by omega
  obtain ⟨v, hv⟩ : ∃ v, v = D.getD m 0 := ⟨_, rfl⟩
  rw [← hv] at hf
  have HV := Lib.hid hv
  have HF := Lib.hid hf
  have hv16 := v.isLt
  clear hs1 hr hdl hdg hD hm hv hf
  go_enter Tryd.func61, Tryd.ntmps61
  go_wp2_with fail
  refine (S1.out _).mono ?_
  rintro e w' ⟨rfl, rfl⟩
  have HB0 := Lib.hid (below_new w (.cells #[.bool false, .string ⟨#[]⟩] 78))
  have HD0 := Lib.hid (DecB.new w false ⟨#[]⟩)
  go_wp2_with fail
  refine (HDG.out _ (HR.out.below HB0.out)).mono ?_
  rintro e w1 ⟨sv, rfl, hown, hb⟩
  obtain ⟨p1, c1, rfl, hri, _⟩ := hown.rd
  have HB1 := Lib.hid (bel0 HB0.out hb)
  have HD1 := Lib.hid (HD0.out.below hb)
  have hcl : ∃ B off, p1 = some ⟨B, off, none⟩ ∧ B < w1.heap.size ∧ ∀ j, j < m + 1 → w1.cell? ⟨B, off + j, none⟩ = some (.int .i64 ((D.getD j 0).val : Int)) := by
    rcases hri with h0 | ⟨B, off, rfl, hc⟩
    · have := HDL.out; rw [h0] at this; simp at this
    · rw [HDL.out] at hc
      exact ⟨B, off, rfl, World.block_lt_of_cell? w1 _ (hc 0 (by omega)), hc⟩
  obtain ⟨B, off, rfl, hBlt, hc⟩ := hcl
  have HC := Lib.hid hc
  have HBL := Lib.hid hBlt
  have hcm := hc m (by omega)
  rw [← HV.out] at hcm
  obtain ⟨⟨r1, r2⟩, f1, f2⟩ := HD1.out.cells
  rw [HDL.out]
  clear hown hb hri hc hBlt HB0 HD0 hl hl2
  by_cases hlow : v.val < 10
  · have hno := dec_no (HF.out.low hlow)
    have HN := Lib.hid hno
    clear hno
    go_wp2
    refine bodyPost_ret (v := .tuple #[.agg #[.bool false, .string ⟨#[]⟩], .bool false]) ?_ rfl ⟨?_, ?_⟩
    · rw [results_cell_tmp rfl]
      go_simp
    · rw [HN.out.1, HN.out.2.1, HN.out.2.2]
    · exact (HB1.out.setCell (p := ⟨w.heap.size, 0, none⟩) (Nat.le_refl _) _).setCell (p := ⟨w.heap.size, 1, none⟩) (Nat.le_refl _) _
  · have hx := HF.out.fine hlow
    have HX := Lib.hid hx
    clear hx
    go_wp2
    go_loopw [6, 7] (fun sv i wr => Below w.heap.size w wr ∧ Below w1.heap.size w1 wr ∧ ∃ t : Nat, t ≤ m ∧ i = .int .i64 t ∧ sv = .string ⟨(nS D t).toArray⟩ ∧ ∀ j, j < t → (D.getD j 0).val ≤ 9) (fun _ i _ => m - (intOf i).toNat)
    case atStart => exact ⟨HB1.out, Below.refl _ _, 0, Nat.zero_le _, rfl, rfl, fun j hj => by omega⟩
    case round =>
      obtain ⟨hbw, hbw1, t, ht, rfl, rfl, hsm⟩ := hrel
      have HBW := Lib.hid hbw
      have HBW1 := Lib.hid hbw1
      have HSM := Lib.hid hsm
      obtain ⟨⟨c1, c2⟩, g1, g2⟩ := (HD1.out.below hbw1).cells
      clear hbw hbw1 hsm
      by_cases hlt : t < m
      · have hct := keepC (HC.out t (by omega)) HBW1.out
        have hd16 := (D.getD t 0).isLt
        by_cases hbig : 9 < (D.getD t 0).val
        · have hno := dec_no (HF.out.big t hlt hbig)
          have HN := Lib.hid hno
          clear hno
          generalize D.getD t 0 = d at *
          go_wp2
          refine bodyPost_ret (v := .tuple #[.agg #[.bool false, .string ⟨#[]⟩], .bool false]) ?_ rfl ⟨?_, ?_⟩
          · rw [results_cell_tmp rfl]
            go_simp
          · rw [HN.out.1, HN.out.2.1, HN.out.2.2]
          · exact (HBW.out.setCell (p := ⟨w.heap.size, 0, none⟩) (Nat.le_refl _) _).setCell (p := ⟨w.heap.size, 1, none⟩) (Nat.le_refl _) _
        · have hle9 : (D.getD t 0).val ≤ 9 := by omega
          have hsc := nS_succ D t (by rw [HDL.out]; omega)
          have HSC := Lib.hid hsc
          have hsm2 : ∀ j, j < t + 1 → (D.getD j 0).val ≤ 9 := fun j hj => by
            rcases Nat.lt_succ_iff_lt_or_eq.1 hj with h | h
            · exact HSM.out j h
            · subst h; exact hle9
          have HSM2 := Lib.hid hsm2
          clear hsc hsm2
          generalize D.getD t 0 = d at *
          have hcw : (Go.convert 22 9 (.slice (some ⟨wr.heap.size, 0, none⟩) 1 1)).run Tryd.prog (wr.alloc (.cells #[.int .u8 (48 + (d.val : Int))] 5)) = .ok (.string ⟨#[chr d]⟩) (wr.alloc (.cells #[.int .u8 (48 + (d.val : Int))] 5)) := by
            have h := conv_rd (c := 1) (rd_new wr [chr d] 5)
            simp only [bsU, List.map_cons, List.map_nil, chr_nat] at h
            push_cast at h
            exact h
          have HBN := Lib.hid (below_new wr (.cells #[.int .u8 (48 + (d.val : Int))] 5))
          by_cases hz : nS D t = [48]
          · have hs2 : nS D (t + 1) = [] ++ [chr d] := by rw [HSC.out]; unfold ac; rw [if_pos hz]
            have HS2 := Lib.hid hs2
            rw [hz]
            clear hs2 hz
            go_wp2
            go_roundw
            case rel => exact ⟨bel0 HBW.out HBN.out, bel0 HBW1.out HBN.out, t + 1, by omega, by go_num, by rw [HS2.out]; rfl, HSM2.out⟩
            case measure => simp [intOf]; omega
          · have hs2 : nS D (t + 1) = nS D t ++ [chr d] := by rw [HSC.out]; unfold ac; rw [if_neg hz]
            have HS2 := Lib.hid hs2
            have hzb : (nS D t == [48]) = false := by simpa using hz
            have hln := nS_len D t
            clear hs2 hz
            go_wp2
            go_roundw
            case rel => exact ⟨bel0 HBW.out HBN.out, bel0 HBW1.out HBN.out, t + 1, by omega, by go_num, by rw [HS2.out]; refine congrArg Value.string (ByteArray.ext ?_); rw [ByteArray.data_append]; simp, HSM2.out⟩
            case measure => simp [intOf]; omega
      · obtain rfl : t = m := by omega
        have hx := HX.out HSM.out
        obtain ⟨T, hT⟩ : ∃ T : ByteArray, T = ⟨(nS D t).toArray⟩ := ⟨_, rfl⟩
        rw [← hT]
        have hv2 : (⟨(dDig bs).toArray⟩ : ByteArray) = T := by rw [hx.2.2, hT]
        have HV2 := Lib.hid hv2
        have HXX := Lib.hid hx
        clear HX HSM HC hx hv2 hT
        by_cases h11 : v.val = 11
        · have hn : dNeg bs = true := by rw [HXX.out.2.1, h11]; rfl
          have HN := Lib.hid hn
          have e11 : ((v.val : Int) == 11) = true := by simp; omega
          clear hn h11
          go_wp2
          refine bodyPost_ret (v := .tuple #[.agg #[.bool true, .string T], .bool true]) ?_ rfl ⟨?_, ?_⟩
          · rw [results_cell_tmp rfl]
            go_simp
          · rw [HN.out, HV2.out, HXX.out.1]
          · exact (HBW.out.setCell (p := ⟨w.heap.size, 0, none⟩) (Nat.le_refl _) _).setCell (p := ⟨w.heap.size, 1, none⟩) (Nat.le_refl _) _
        · have e11 : ((v.val : Int) == 11) = false := by simp; omega
          by_cases h13 : v.val = 13
          · have hn : dNeg bs = true := by rw [HXX.out.2.1, h13]; rfl
            have HN := Lib.hid hn
            have e13 : ((v.val : Int) == 13) = true := by simp; omega
            clear hn h11 h13
            go_wp2
            refine bodyPost_ret (v := .tuple #[.agg #[.bool true, .string T], .bool true]) ?_ rfl ⟨?_, ?_⟩
            · rw [results_cell_tmp rfl]
              go_simp
            · rw [HN.out, HV2.out, HXX.out.1]
            · exact (HBW.out.setCell (p := ⟨w.heap.size, 0, none⟩) (Nat.le_refl _) _).setCell (p := ⟨w.heap.size, 1, none⟩) (Nat.le_refl _) _
          · have hn : dNeg bs = false := by rw [HXX.out.2.1, decide_eq_false h11, decide_eq_false h13]; rfl
            have HN := Lib.hid hn
            have e13 : ((v.val : Int) == 13) = false := by simp; omega
            clear hn h11 h13
            go_wp2
            refine bodyPost_ret (v := .tuple #[.agg #[.bool false, .string T], .bool true]) ?_ rfl ⟨?_, ?_⟩
            · rw [results_cell_tmp rfl]
              go_simp
            · rw [HN.out, HV2.out, HXX.out.1]
            · exact (HBW.out.setCell (p := ⟨w.heap.size, 0, none⟩) (Nat.le_refl _) _).setCell (p := ⟨w.heap.size, 1, none⟩) (Nat.le_refl _) _
/-- The document's Decode, whatever the field. -/
theorem rdecode_any (p : Option Addr) (c : Nat) (bs : List UInt8) (w : World) (hr : Rd w p bs) :
    Calls Tryd.prog 61 #[.slice p bs.length c] w (DecPost w bs) := by
  by_cases h : 1 ≤ bs.length ∧ bs.length ≤ 16
  · exact rdecode_yes p c bs w h.1 h.2 hr
  · have hno : dOk bs = false := by unfold dOk; rw [decide_eq_false h]; rfl
    obtain ⟨h1, h2, h3⟩ := dec_no hno
    refine (rdecode_no p bs.length c w h).mono ?_
    rintro e w' ⟨rfl, hb⟩
    exact ⟨by rw [h1, h2, h3], hb⟩

end E
end Go.Proofs.YtlpekknhaaddcaaDoor

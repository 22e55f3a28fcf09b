/- The document's own Encode: its contract. -/
import Derived.Test.YtgnaiolbleadbaaDoorPkRef7
namespace Go.Proofs.YtgnaiolbleadbaaDoor
open Go.RowKit Go.Shelf
set_option linter.unusedVariables false
namespace E

/-- What the document's own Encode and Zoned leave. -/
def RzPost (w : World) (l : List UInt8) (over : Bool) (e : Ending) (w' : World) : Prop := ∃ sv, e = .returned (.tuple #[sv, .bool over]) ∧ Hold w' w.heap.size sv l ∧ Below w.heap.size w w'
theorem rencode_no (neg : Bool) (s : ByteArray) (n : Int) (w : World) (h : enB s.data.toList n = false) : Calls Tryd.prog 11 #[.agg #[.bool neg, .string s], .int .i64 n] w (New w (.tuple #[.slice none 0 0, .bool false])) := by
  have hv := fun W => rvalid_any neg s W
  have hsz := fun W => size_any n W
  unfold enB at h
  have HB := Lib.hid (below_new w (.cells #[.bool neg, .string s] 26))
  cases hok : okL s.data.toList
  · rw [hok] at hv
    have HV := Lib.hid hv
    clear hv hsz h hok
    go_enter Tryd.func11, Tryd.ntmps11
    go_wp2_with fail
    refine (HV.out _).mono ?_
    rintro e w1 ⟨rfl, hb⟩
    have HB1 := Lib.hid (bel0 HB.out hb)
    clear hb
    go_wp2
    go_ret2
    exact ⟨rfl, HB1.out⟩
  · rw [hok] at hv h
    rw [Bool.true_and] at h
    rw [h] at hsz
    have HV := Lib.hid hv
    have HS := Lib.hid hsz
    clear hv hsz h hok
    go_enter Tryd.func11, Tryd.ntmps11
    go_wp2_with fail
    refine (HV.out _).mono ?_
    rintro e w1 ⟨rfl, hb⟩
    have HB1 := Lib.hid (bel0 HB.out hb)
    clear hb
    go_wp2_with fail
    refine (HS.out _).mono ?_
    rintro e w2 ⟨rfl, rfl⟩
    go_wp2
    go_ret2
    exact ⟨rfl, HB1.out⟩
set_option maxRecDepth 100000 in
set_option maxHeartbeats 1000000 in
theorem rencode_yes (neg : Bool) (s : ByteArray) (n : Nat) (bs : List UInt8) (w : World) (hs : s.data.toList = bs) (hok : okL bs = true) (h3 : 1 ≤ n) (h4 : n ≤ 16) :
    Calls Tryd.prog 11 #[.agg #[.bool neg, .string s], .int .i64 (n : Int)] w (RzPost w (encL neg bs n) (decide (2 * n - 1 < bs.length))) := by
  obtain ⟨i0, hi0, hz0, hz1, hz2⟩ := info_parts info3
  have hv := fun W => rvalid_any neg s W
  have hsz := fun W => size_any (n : Int) W
  rw [decide_eq_true (by omega)] at hsz
  rw [hs, hok] at hv
  have HV := Lib.hid hv
  have HSZ := Lib.hid hsz
  have hokk := (okL_iff bs).1 hok
  have hvl : ∀ W, Calls Tryd.prog 34 #[.agg #[.bool neg, .string s]] W fun e w' => ∃ p c, e = .returned (.slice p s.size c) ∧ RdI w' p (bs.map dgt) ∧ Below W.heap.size W w' := fun W =>
    (values_any neg s bs W hs (by omega) hokk.2).mono fun e w' ⟨sv, he, ho, hb⟩ => by
      obtain ⟨p, c, rfl, hr, _⟩ := ho.rd
      have hll : (bs.map dgt).length = s.size := by rw [List.length_map, ← hs]; rfl
      rw [hll] at he
      exact ⟨p, c, he, hr, hb⟩
  have HVL := Lib.hid hvl
  have HSG := Lib.hid (fun W => sign_any neg s W)
  have hbl : bs.length = s.size := by rw [← hs]; rfl
  have HBL := Lib.hid hbl
  have hs31 : s.size ≤ 31 := by rw [← hbl]; exact hokk.1.2.1
  have HE := Lib.hid (enc_eq neg bs n)
  have hB0 := below_new w (.cells #[.bool neg, .string s] 26)
  have hD0 := DecB.new w neg s
  have HB := Lib.hid hB0
  have HD := Lib.hid hD0
  have hcst : ((2 * n - 1 : Nat) : Int) = 2 * (n : Int) - 1 := by omega
  have hri := fun p c W (h : RdI W p (bs.map dgt)) => right_any p c (2 * n - 1) (bs.map dgt) W (by omega) (by rw [List.length_map, hbl]; omega) h
  rw [hcst, List.length_map, hbl] at hri
  have HRI := Lib.hid hri
  have hlen : (rgtL (bs.map dgt) (2 * n - 1) ++ [sgn neg]).length = 2 * n := by rw [List.length_append, rgtL_len, List.length_singleton]; omega
  have hby : ∀ p3 c3 W, RdI W p3 (rgtL (bs.map dgt) (2 * n - 1) ++ [sgn neg]) → Calls Tryd.prog 36 #[.slice p3 (2 * n - 1 + 1) c3] W (RuPost W (encL neg bs n)) := fun p3 c3 W h => by
    have := Bytes_any p3 c3 n _ W hlen (by omega) h
    rw [hlen, HE.out] at this
    rw [show 2 * n - 1 + 1 = 2 * n by omega]
    exact this
  have HBY := Lib.hid hby
  have hov : decide (2 * n - 1 < bs.length) = decide (2 * (n : Int) - 1 < (s.size : Int)) := by
    rw [hbl]; exact decide_eq_decide.2 (by omega)
  rw [hov]
  have e1 : IntKind.i64.wrap (2 * (n : Int)) = 2 * (n : Int) := by rw [IntKind.wrap_i64]; omega
  have e2 : IntKind.i64.wrap (2 * (n : Int) - 1) = 2 * (n : Int) - 1 := by rw [IntKind.wrap_i64]; omega
  clear hv hsz hokk hvl hbl hB0 hD0 hri hlen hby hov hok hs hcst
  go_enter Tryd.func11, Tryd.ntmps11
  go_wp2_with fail
  refine (HV.out _).mono ?_
  rintro e w1 ⟨rfl, hb⟩
  have HB1 := Lib.hid (bel0 HB.out hb)
  have HD1 := Lib.hid (HD.out.below hb)
  obtain ⟨⟨c1, c2⟩, _⟩ := HD1.out.cells
  clear hb
  go_wp2_with fail
  refine (HSZ.out _).mono ?_
  rintro e w2 ⟨rfl, rfl⟩
  go_wp2
  have hlt : w.heap.size < w1.heap.size := by have := HB1.out.size; have := HD1.out.lt; omega
  have C1 := Lib.hid c1
  have C2 := Lib.hid c2
  have H0 : Hid ((fun W : World => W.cell? ⟨w.heap.size, 0, none⟩ = some (.bool neg) ∧ W.cell? ⟨w.heap.size, 1, none⟩ = some (.string s) ∧ ApS w1 W) w1.drew) := Lib.hid ⟨keepC c1 (Below.refl _ _).drew, keepC c2 (Below.refl _ _).drew, (Below.refl _ _).drew⟩
  have HLT := Lib.hid hlt
  clear hlt
  go_region_held3 (fun W => W.cell? ⟨w.heap.size, 0, none⟩ = some (.bool neg) ∧ W.cell? ⟨w.heap.size, 1, none⟩ = some (.string s) ∧ ApS w1 W)
    (first | exact H0.out | exact ApS.mk2 HLT.out C1.out C2.out (by assumption) | exact ApS.new2 HLT.out C1.out C2.out (by assumption))
    (first
      | (go_at_call 34; refine (HVL.out _).mono ?_; rintro e w2 ⟨pv, cv, rfl, hrv, hb2⟩; have hs2 : ApS w1 w2 := bel_app (And.right (And.right (b := _ ∧ ApS w1 _) (by assumption))) hb2)
      | (go_at_call 33; refine (HRI.out _ _ _ hrv).mono ?_; rintro e w3 ⟨sv3, rfl, ho30, hb3⟩; have ho3 := right_row ho30 (show w1.heap.size ≤ _ from Below.size hs2); have hs3 : ApS w1 w3 := bel_app hs2 hb3)
      | (go_at_call 35; refine (HSG.out _).mono ?_; rintro e w4 ⟨rfl, hb4⟩; have hs4 : ApS w1 w4 := bel_app hs3 hb4; have ho4 := own_kept ho3 hb4)
      | ((refine step_append_lies _ (by rfl) (.tmp 20) (.tmp 23) 49 (by rfl) w1.heap.size 3 i0 (.int .i64 0) 1 8 Tryd.underlying49 hi0 hz0 hz1 hz2 rfl (by decide) _ (2 * n - 1) (bsI (rgtL (bs.map dgt) (2 * n - 1))) (by rfl) (World.ownsRow.alloc ho4 _) _ 1 1 _ (by rfl) (by rfl) (World.news_of_block (heap_alloc_new _ _)) (by intro u hu; simp at hu; subst hu; rfl) (by omega) (by unfold maxLen; omega) (by omega) (by have := Below.size hs4; simp; omega) _ rfl ?_); intro g cap w5 hown5 hgrow hat hlt1; have hb5 := ApS.app2 hs4 ho4 hgrow; clear hat hlt1 hgrow))
  have hs5 : ApS w w5 := bel0 HB1.out hb5
  have q1 : w5.cell? ⟨w.heap.size, 0, none⟩ = some (.bool neg) := keepC C1.out hb5
  have q2 : w5.cell? ⟨w.heap.size, 1, none⟩ = some (.string s) := keepC C2.out hb5
  have hlt5 : w.heap.size < w5.heap.size := by have := HLT.out; have := Below.size hb5; omega
  have Q1 := Lib.hid q1
  have Q2 := Lib.hid q2
  have HL5 := Lib.hid hlt5
  have HS5 := Lib.hid hs5
  have hrd := rdi_of hown5 (show 2 * n - 1 + 1 = _ by rw [List.length_append, rgtL_len, List.length_singleton])
  have HRD := Lib.hid (fun W (h : ApS w5 W) => HBY.out _ cap W (hrd.below h))
  clear hb5 hlt5 q1 q2 hs5 hown5 hrd ho4 hs4 hb4 ho3 ho30 hs3 hb3 hs2 hrv hb2 HLT C1 C2 H0 c1 c2
  have H0 : Hid ((fun W : World => W.cell? ⟨w.heap.size, 0, none⟩ = some (.bool neg) ∧ W.cell? ⟨w.heap.size, 1, none⟩ = some (.string s) ∧ ApS w5 W) w5.drew) := Lib.hid ⟨keepC Q1.out (Below.refl _ _).drew, keepC Q2.out (Below.refl _ _).drew, (Below.refl _ _).drew⟩
  go_wp2
  go_region_held3 (fun W => W.cell? ⟨w.heap.size, 0, none⟩ = some (.bool neg) ∧ W.cell? ⟨w.heap.size, 1, none⟩ = some (.string s) ∧ ApS w5 W)
    (first | exact H0.out | exact ApS.mk2 HL5.out Q1.out Q2.out (by assumption) | exact ApS.new2 HL5.out Q1.out Q2.out (by assumption))
    (first
      | (go_at_call 36; refine (HRD.out _ (And.right (And.right (b := _ ∧ ApS w5 _) (by assumption)))).mono ?_; rintro e w6 ⟨sv6, rfl, ho60, hb6⟩; have ho6 := Hold.base ho60 (Below.size (bel0 HS5.out (And.right (And.right (b := _ ∧ ApS w5 _) (by assumption))))); have hs6 : ApS w5 w6 := bel_app (And.right (And.right (b := _ ∧ ApS w5 _) (by assumption))) hb6))
  all_goals have HF : Hid (Hold w6 w.heap.size sv6 (encL neg bs n) ∧ Below w.heap.size w w6) := Lib.hid ⟨ho6, bel0 HS5.out hs6⟩
  all_goals clear ho60 ho6 hb6 hs6
  all_goals go_wp2
  all_goals go_ret2
  all_goals exact ⟨_, rfl, HF.out.1, HF.out.2⟩
def RzmPost (w : World) (ok : Bool) (l : List UInt8) (over : Bool) (e : Ending) (w' : World) : Prop := (ok = true ∧ RzPost w l over e w') ∨ (ok = false ∧ New w (.tuple #[.slice none 0 0, .bool false]) e w')
theorem rencode_any (neg : Bool) (s : ByteArray) (n : Int) (bs : List UInt8) (w : World) (hs : s.data.toList = bs) :
    Calls Tryd.prog 11 #[.agg #[.bool neg, .string s], .int .i64 n] w (RzmPost w (enB bs n) (encL neg bs n.toNat) (decide (2 * n.toNat - 1 < bs.length))) := by
  cases h : enB bs n
  · exact (rencode_no neg s n w (by rw [hs]; exact h)).mono fun e w' h => .inr ⟨rfl, h⟩
  · unfold enB at h
    simp only [Bool.and_eq_true, decide_eq_true_eq] at h
    obtain ⟨m, rfl⟩ := Int.eq_ofNat_of_zero_le (show 0 ≤ n by omega)
    exact (rencode_yes neg s m bs w hs h.1 (by omega) (by omega)).mono fun e w' h => .inl ⟨rfl, h⟩

end E
end Go.Proofs.YtgnaiolbleadbaaDoor

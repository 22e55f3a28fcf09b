/- The contract of Number: a valid number, whatever the text. -/
import Derived.Test.YtgnaiolbleadbaaDoorPkIs
namespace Go.Proofs.YtgnaiolbleadbaaDoor
open Go.RowKit Go.Shelf
set_option linter.unusedVariables false
namespace E

/-- What Number leaves: a valid number with the sign. -/
def NumPost (w : World) (neg : Bool) (e : Ending) (w' : World) : Prop := ∃ t : ByteArray, e = .returned (.agg #[.bool neg, .string t]) ∧ okL t.data.toList = true ∧ Below w.heap.size w w'
/-- Digits, the first of which is 0 only if it is the only one. -/
def nOk (L : List UInt8) : Prop := (∀ j, j < L.length → isD (gt L j) = true) ∧ (1 < L.length → gt L 0 ≠ 48)
theorem gt_snoc (L : List UInt8) (x : UInt8) (j : Nat) : gt (L ++ [x]) j = if j < L.length then gt L j else if j = L.length then x else 0 := by
  unfold gt
  rw [List.getD_eq_getElem?_getD, List.getD_eq_getElem?_getD]
  by_cases h : j < L.length
  · rw [if_pos h, List.getElem?_append_left h]
  · rw [if_neg h, List.getElem?_append_right (by omega)]
    by_cases h2 : j = L.length
    · rw [if_pos h2, h2]; simp
    · rw [if_neg h2, List.getElem?_eq_none (by simp; omega)]; rfl
theorem nOk_one (x : UInt8) (h : isD x = true) : nOk [x] := ⟨fun j hj => by
  obtain rfl : j = 0 := by simp at hj; exact hj
  exact h, fun h => by simp at h⟩
theorem nOk_snoc {L : List UInt8} {x : UInt8} (hL : nOk L) (hx : isD x = true) (h : ¬ (L.length = 1 ∧ gt L 0 = 48)) : nOk (L ++ [x]) := by
  refine ⟨fun j hj => ?_, fun hl => ?_⟩
  · rw [gt_snoc]
    by_cases h1 : j < L.length
    · rw [if_pos h1]; exact hL.1 j h1
    · rw [if_neg h1, if_pos (by simp at hj; omega)]; exact hx
  · have hl' : 1 ≤ L.length := by simp at hl; omega
    rw [gt_snoc, if_pos (by omega)]
    intro he
    rcases Nat.lt_or_ge 1 L.length with h2 | h2
    · exact hL.2 h2 he
    · exact h ⟨by omega, he⟩
theorem isD_mod (x : UInt8) : isD (UInt8.ofNat (48 + x.toNat % 10)) = true := all256 (p := fun x => isD (UInt8.ofNat (48 + x.toNat % 10)) = true) (by decide +kernel) x
theorem nat_mod (x : UInt8) : ((UInt8.ofNat (48 + x.toNat % 10)).toNat : Int) = 48 + (x.toNat : Int).tmod 10 := all256 (p := fun x => ((UInt8.ofNat (48 + x.toNat % 10)).toNat : Int) = 48 + (x.toNat : Int).tmod 10) (by decide +kernel) x
theorem bel0 {w W W' : World} (h : Below w.heap.size w W) (hb : Below W.heap.size W W') : Below w.heap.size w W' := h.trans (hb.mono h.size)
theorem results_cell1 {fn : Func} {p : Tmp} {ty : TypeId} (h : fn.results = #[.cell p ty]) (tmps : Array Value) (P : Program) (w : World) :
    (results fn tmps).run P w = ((asAddr (tmps.getD p undef)).run P w).andThen fun a w₁ => (loadVar ty a).run P w₁ := by
  simp only [results, h]
  simp [Sem.run_bind, Result.andThen]
set_option maxHeartbeats 1000000 in
set_option maxRecDepth 100000 in
theorem number_any (neg : Bool) (s : ByteArray) (w : World) : Calls Tryd.prog 12 #[.string s, .bool neg] w (NumPost w neg) := by
  obtain ⟨i0, hi, hz0, hz1, hz2⟩ := info_parts info5
  have hB0 := below_new w (.cells #[.bool false, .string ⟨#[]⟩] 26)
  have hD0 := DecB.new w false ⟨#[]⟩
  go_enter Tryd.func12, Tryd.ntmps12
  go_wp2
  go_loopw [5, 6] (fun sv i wr => Below w.heap.size w wr ∧ DecB wr w.heap.size false ⟨#[]⟩ ∧ ∃ (k : Nat) (L : List UInt8), k ≤ s.size ∧ k ≤ 31 ∧ i = .int .i64 k ∧ L.length ≤ k ∧ (L = [] → k = 0) ∧ nOk L ∧ (L = [] → sv = .slice none 0 0) ∧ wr.ownsRow (w.heap.size + 1) 5 1 sv L.length (bsU L)) (fun _ i _ => 31 - (intOf i).toNat)
  case atStart => exact ⟨hB0, hD0, 0, [], Nat.zero_le _, by omega, rfl, by simp, fun _ => rfl, ⟨fun j hj => by simp at hj, fun h => by simp at h⟩, fun _ => rfl, World.ownsRow_nil _ _ _ _⟩
  case round =>
    clear hB0 hD0
    obtain ⟨hbw, hdb, k, L, hk, hk31, rfl, hLk, hL0, hok, hsv, hown⟩ := hrel
    have HB := Lib.hid hbw
    have HD := Lib.hid hdb
    have HK := Lib.hid hok
    have HO := Lib.hid hown
    have HSV := Lib.hid hsv
    clear hbw hdb hok hown hsv
    by_cases hlt : k < s.size ∧ k < 31
    · obtain ⟨hlt1, hlt2⟩ := hlt
      have hx := nat_mod s[k]
      rw [Int.tmod_eq_emod_of_nonneg (by omega)] at hx
      have hd := isD_mod s[k]
      have HX := Lib.hid hx
      have HDD := Lib.hid hd
      clear hx hd
      by_cases hLe : L = []
      · subst hLe
        obtain rfl := HSV.out rfl
        clear hL0 hLk
        go_wp2_with (at_builtin; refine wpList_append_own _ rfl (.tmp 26) (.tmp 32) 22 rfl (w.heap.size + 1) 5 i0 (.int .u8 0) 1 1 Tryd.underlying22 hi hz0 hz1 hz2 rfl (by decide) _ (0) _ rfl ((World.ownsRow_nil wr (w.heap.size + 1) 5 1).alloc _) ⟨wr.heap.size, 0, none⟩ 1 1 [.int .u8 (48 + ((s[k]).toNat : Int) % 10)] rfl rfl (cellNew _ _ _) (by intro u hu; simp at hu; subst hu; rfl) (by unfold maxLen; omega) (by omega) (by have := HD.out.lt; simp; omega) ?_)
        intro v' w3 hown' hgrow _
        have hb1 := (HB.out.alloc HB.out.size _).grown hgrow (by have := HB.out.size; simp; omega) (fun r hr => by have := (World.ownsRow_nil wr (w.heap.size + 1) 5 1).lt r hr; omega)
        have hd1 : DecB w3 w.heap.size false ⟨#[]⟩ := (hgrow.block w.heap.size (by have := HD.out.lt; simp; omega) (fun e => by have := (World.ownsRow_nil wr (w.heap.size + 1) 5 1).lt _ e.symm; omega)).trans ((heap_alloc_old wr _ w.heap.size HD.out.lt).trans HD.out)
        clear hgrow
        go_wp2
        go_roundw
        case rel => exact ⟨hb1, hd1, k + 1, ([] ++ [UInt8.ofNat (48 + (s[k]).toNat % 10)]), by omega, by omega, by go_num, by simp, fun h => by simp at h, nOk_one _ HDD.out, fun h => by simp at h, by rw [List.nil_append]; simp only [bsU, List.map_cons, List.map_nil, HX.out]; exact hown'⟩
        case measure => simp [intOf]; omega
      have hl1 : 1 ≤ L.length := List.length_pos_iff.2 hLe
      obtain ⟨g, cap, rfl, hblk⟩ := hold_blk hl1 HO.out
      by_cases hz : L.length = 1 ∧ gt L 0 = 48
      · have hc0 := hblk.cell 0 hl1
        rw [hz.2] at hc0
        have hc00 : wr.cell? ⟨g, 0, none⟩ = some (.int .u8 48) := hc0
        have hl := hz.1
        rw [hl]
        clear hc0 hz hblk hl1 hLe hl hL0
        go_wp2_with (at_builtin; refine wpList_append_own _ rfl (.tmp 26) (.tmp 32) 22 rfl (w.heap.size + 1) 5 i0 (.int .u8 0) 1 1 Tryd.underlying22 hi hz0 hz1 hz2 rfl (by decide) _ (0) _ rfl ((World.ownsRow_nil wr (w.heap.size + 1) 5 1).alloc _) ⟨wr.heap.size, 0, none⟩ 1 1 [.int .u8 (48 + ((s[k]).toNat : Int) % 10)] rfl rfl (cellNew _ _ _) (by intro u hu; simp at hu; subst hu; rfl) (by unfold maxLen; omega) (by omega) (by have := HD.out.lt; simp; omega) ?_)
        intro v' w3 hown' hgrow _
        have hb1 := (HB.out.alloc HB.out.size _).grown hgrow (by have := HB.out.size; simp; omega) (fun r hr => by have := (World.ownsRow_nil wr (w.heap.size + 1) 5 1).lt r hr; omega)
        have hd1 : DecB w3 w.heap.size false ⟨#[]⟩ := (hgrow.block w.heap.size (by have := HD.out.lt; simp; omega) (fun e => by have := (World.ownsRow_nil wr (w.heap.size + 1) 5 1).lt _ e.symm; omega)).trans ((heap_alloc_old wr _ w.heap.size HD.out.lt).trans HD.out)
        clear hgrow
        go_wp2
        go_roundw
        case rel => exact ⟨hb1, hd1, k + 1, ([] ++ [UInt8.ofNat (48 + (s[k]).toNat % 10)]), by omega, by omega, by go_num, by simp, fun h => by simp at h, nOk_one _ HDD.out, fun h => by simp at h, by rw [List.nil_append]; simp only [bsU, List.map_cons, List.map_nil, HX.out]; exact hown'⟩
        case measure => simp [intOf]; omega
      · have HZ := Lib.hid hz
        have hok2 := nOk_snoc HK.out HDD.out hz
        have HK2 := Lib.hid hok2
        obtain ⟨m, hm⟩ : ∃ m, m = L.length := ⟨_, rfl⟩
        have HM := Lib.hid hm
        have hown := HO.out
        rw [← hm] at hown hLk hl1 hz ⊢
        have HOM := Lib.hid hown
        have go : (m = 1 → (((gt L 0).toNat : Int) == 48) = false) ∧ (m = 1 → wr.cell? ⟨g, 0, none⟩ = some (.int .u8 ((gt L 0).toNat : Int))) := ⟨fun h => by
          have : ¬ gt L 0 = 48 := fun hh => hz ⟨h, hh⟩
          simp only [beq_eq_false_iff_ne]
          intro hh
          exact this (UInt8.toNat_inj.1 (by show (gt L 0).toNat = 48; omega)), fun h => hblk.cell 0 (by rw [← HM.out]; omega)⟩
        clear hm hown hz hblk hok2 hLe hL0
        by_cases h1 : m = 1
        · have q1 := go.1 h1
          have q2 := go.2 h1
          subst h1
          clear go
          go_wp2_with (at_builtin; refine wpList_append_own _ rfl (.tmp 26) (.tmp 32) 22 rfl (w.heap.size + 1) 5 i0 (.int .u8 0) 1 1 Tryd.underlying22 hi hz0 hz1 hz2 rfl (by decide) _ (1) _ rfl (HOM.out.alloc _) ⟨wr.heap.size, 0, none⟩ 1 1 [.int .u8 (48 + ((s[k]).toNat : Int) % 10)] rfl rfl (cellNew _ _ _) (by intro u hu; simp at hu; subst hu; rfl) (by unfold maxLen; omega) (by omega) (by have := HD.out.lt; simp; omega) ?_)
          intro v' w3 hown' hgrow _
          have hb1 := (HB.out.alloc HB.out.size _).grown hgrow (by have := HB.out.size; simp; omega) (fun r hr => by have := (HOM.out).lt r hr; omega)
          have hd1 : DecB w3 w.heap.size false ⟨#[]⟩ := (hgrow.block w.heap.size (by have := HD.out.lt; simp; omega) (fun e => by have := (HOM.out).lt _ e.symm; omega)).trans ((heap_alloc_old wr _ w.heap.size HD.out.lt).trans HD.out)
          clear hgrow
          go_wp2
          go_roundw
          case rel => exact ⟨hb1, hd1, k + 1, (L ++ [UInt8.ofNat (48 + (s[k]).toNat % 10)]), by omega, by omega, by go_num, by rw [List.length_append, ← HM.out]; simp; omega, fun h => by simp at h, HK2.out, fun h => by simp at h, by rw [List.length_append, List.length_singleton, bsU_snoc, HX.out]; rw [← HM.out]; exact hown'⟩
          case measure => simp [intOf]; omega

        · clear go
          go_wp2_with (at_builtin; refine wpList_append_own _ rfl (.tmp 26) (.tmp 32) 22 rfl (w.heap.size + 1) 5 i0 (.int .u8 0) 1 1 Tryd.underlying22 hi hz0 hz1 hz2 rfl (by decide) _ (m) _ rfl (HOM.out.alloc _) ⟨wr.heap.size, 0, none⟩ 1 1 [.int .u8 (48 + ((s[k]).toNat : Int) % 10)] rfl rfl (cellNew _ _ _) (by intro u hu; simp at hu; subst hu; rfl) (by unfold maxLen; omega) (by omega) (by have := HD.out.lt; simp; omega) ?_)
          intro v' w3 hown' hgrow _
          have hb1 := (HB.out.alloc HB.out.size _).grown hgrow (by have := HB.out.size; simp; omega) (fun r hr => by have := (HOM.out).lt r hr; omega)
          have hd1 : DecB w3 w.heap.size false ⟨#[]⟩ := (hgrow.block w.heap.size (by have := HD.out.lt; simp; omega) (fun e => by have := (HOM.out).lt _ e.symm; omega)).trans ((heap_alloc_old wr _ w.heap.size HD.out.lt).trans HD.out)
          clear hgrow
          go_wp2
          go_roundw
          case rel => exact ⟨hb1, hd1, k + 1, (L ++ [UInt8.ofNat (48 + (s[k]).toNat % 10)]), by omega, by omega, by go_num, by rw [List.length_append, ← HM.out]; simp; omega, fun h => by simp at h, HK2.out, fun h => by simp at h, by rw [List.length_append, List.length_singleton, bsU_snoc, HX.out]; rw [← HM.out]; exact hown'⟩
          case measure => simp [intOf]; omega
    · obtain ⟨⟨c1, c2⟩, f1, f2⟩ := HD.out.cells
      have hst : ((k : Int) < (s.size : Int)) ∧ k = 31 ∨ k = s.size := by omega
      by_cases hLe : L = []
      · subst hLe
        obtain rfl := HSV.out rfl
        obtain rfl := hL0 rfl
        have h0 : s.size = 0 := by omega
        have hcv : ∀ W : World, (Go.convert 22 9 (.slice (some ⟨W.heap.size, 0, none⟩) 1 1)).run Tryd.prog (W.alloc (.cells #[.int .u8 48] 5)) = .ok (.string ⟨#[48]⟩) (W.alloc (.cells #[.int .u8 48] 5)) := fun W => conv_rd (l := [48]) (rd_new W [48] 5)
        have hcw := hcv wr
        have hz2' := keepC c1 (below_new wr (.cells #[.int .u8 48] 5))
        have hz3' := keepC c2 (below_new wr (.cells #[.int .u8 48] 5))
        have hf1 : (wr.alloc (.cells #[.int .u8 48] 5)).frozen? ⟨w.heap.size, 0, none⟩ = false := (HD.out.below (below_new wr _)).cells.2.1
        have hf2 : (wr.alloc (.cells #[.int .u8 48] 5)).frozen? ⟨w.heap.size, 1, none⟩ = false := (HD.out.below (below_new wr _)).cells.2.2
        have HB2 := Lib.hid (bel0 HB.out (below_new wr (.cells #[.int .u8 48] 5)))
        clear hst hL0 hLk hlt c1 c2 f1 f2 hcv
        go_wp2
        refine bodyPost_ret (v := .agg #[.bool neg, .string ⟨#[48]⟩]) ?_ rfl ⟨_, rfl, by decide, ?_⟩
        · rw [results_cell1 rfl]
          go_simp
        · exact (HB2.out.setCell (p := ⟨w.heap.size, 0, none⟩) (Nat.le_refl _) _).setCell (p := ⟨w.heap.size, 1, none⟩) (Nat.le_refl _) _
      · have hl1 : 1 ≤ L.length := List.length_pos_iff.2 hLe
        obtain ⟨g, cap, rfl, hblk⟩ := hold_blk hl1 HO.out
        have hcv := conv_rd (c := cap) hblk.rd
        have hk2 : okL L = true := (okL_iff L).2 ⟨⟨hl1, by omega, HK.out.2⟩, HK.out.1⟩
        have HK2 := Lib.hid hk2
        obtain ⟨t, ht⟩ : ∃ t : ByteArray, t = ⟨L.toArray⟩ := ⟨_, rfl⟩
        have htl : t.data.toList = L := by rw [ht]
        have HT := Lib.hid htl
        rw [← ht] at hcv
        clear hblk hk2 ht htl hLe hL0
        generalize L.length = m at *
        have hm0 : ¬ m = 0 := by omega
        have fin : ∀ W : World, W = (wr.setCell ⟨w.heap.size, 0, none⟩ (.bool neg)).setCell ⟨w.heap.size, 1, none⟩ (.string t) → Below w.heap.size w W := fun W hW => by
          rw [hW]
          exact (HB.out.setCell (p := ⟨w.heap.size, 0, none⟩) (Nat.le_refl _) _).setCell (p := ⟨w.heap.size, 1, none⟩) (Nat.le_refl _) _
        have HF := Lib.hid fin
        clear fin
        rcases hst with ⟨q1, rfl⟩ | rfl
        · go_wp2
          refine bodyPost_ret (v := .agg #[.bool neg, .string t]) ?_ rfl ⟨_, rfl, by rw [HT.out]; exact HK2.out, HF.out _ rfl⟩
          rw [results_cell1 rfl]
          go_simp
        · go_wp2
          refine bodyPost_ret (v := .agg #[.bool neg, .string t]) ?_ rfl ⟨_, rfl, by rw [HT.out]; exact HK2.out, HF.out _ rfl⟩
          rw [results_cell1 rfl]
          go_simp

end E
end Go.Proofs.YtgnaiolbleadbaaDoor

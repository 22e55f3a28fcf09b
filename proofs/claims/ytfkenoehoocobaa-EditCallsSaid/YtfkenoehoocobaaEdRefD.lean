/- The document's own list of digits. -/
import Derived.Test.YtfkenoehoocobaaEdWorks
namespace Go.Proofs.Ytfkenoehoocobaa
open Go.RowKit
set_option linter.unusedVariables false
namespace E

theorem infoD : (Try.prog.info? 62).map (fun i => (i.zero, i.size, i.bytes)) = some (some (.agg #[.int .i64 0, .int .i64 0, .bool false]), 3, 24) := by kernel_rfl
/-- The cells of digits. -/
def edCells (l : List ED) : List Value := l.flatMap fun d => [.int .i64 (d.n : Int), .int .i64 (d.sign : Int), .bool d.bad]
theorem edCells_len (l : List ED) : (edCells l).length = l.length * 3 := by
  induction l with
  | nil => rfl
  | cons d l ih => unfold edCells at ih ⊢; rw [List.flatMap_cons, List.length_append, ih]; simp; omega
theorem edCells_app (a b : List ED) : edCells (a ++ b) = edCells a ++ edCells b := by simp [edCells]
theorem edL_snoc (a : List UInt8) (x : UInt8) (h : ∀ y ∈ a, ¬ 9 < y.toNat / 16) : edL (a ++ [x]) = edL a ++ edB x := by
  induction a with
  | nil =>
    show edL [x] = [] ++ edB x
    rw [edL]
    split
    · rfl
    · rw [edL, List.append_nil]; rfl
  | cons y a ih =>
    have hy := h y (List.mem_cons_self ..)
    rw [List.cons_append, edL, if_neg hy, edL, if_neg hy, ih (fun z hz => h z (List.mem_cons_of_mem _ hz)), List.append_assoc]
theorem edL_stop (a b : List UInt8) (x : UInt8) (h : ∀ y ∈ a, ¬ 9 < y.toNat / 16) (hx : 9 < x.toNat / 16) : edL (a ++ x :: b) = edL a ++ [⟨0, 0, true⟩] := by
  induction a with
  | nil =>
    show edL (x :: b) = [] ++ [⟨0, 0, true⟩]
    rw [edL, if_pos hx]
    unfold edB
    rw [if_pos hx]
    rfl
  | cons y a ih =>
    have hy := h y (List.mem_cons_self ..)
    rw [List.cons_append, edL, if_neg hy, edL, if_neg hy, ih (fun z hz => h z (List.mem_cons_of_mem _ hz)), List.append_assoc]
/-- A slice of digits of the call's own. -/
def OwnD (w : World) (b : Nat) (sv : Value) (l : List ED) : Prop := w.ownsRow b 62 3 sv l.length (edCells l)
/-- What the list of digits is. -/
def DlPost (w : World) (l : List ED) (e : Ending) (w' : World) : Prop := ∃ sv, e = .returned sv ∧ OwnD w' w.heap.size sv l ∧ Below w.heap.size w w'
theorem cellsNew (w : World) (vs : List Value) (t : TypeId) : ∀ j u, vs[j]? = some u → (w.alloc (.cells vs.toArray t)).cell? ((⟨w.heap.size, 0, none⟩ : Addr).add j) = some u := by
  intro j u h
  have hadd : (⟨w.heap.size, 0, none⟩ : Addr).add j = ⟨w.heap.size, j, none⟩ := by unfold Addr.add; split <;> simp_all
  rw [hadd, cell_of_row _ _ j _ t (0, 0) (heap_alloc_new w _)]
  simpa using h
set_option maxRecDepth 100000 in
set_option maxHeartbeats 2000000 in
theorem rdigits_any (v : Value) (src : List UInt8) (w : World) (hl : src.length ≤ 2000) (hs : SvB w v src) :
    Calls Try.prog 26 #[v] w (DlPost w (edL src)) := by
  obtain ⟨i0, hi0, hz0, hz1, hz2⟩ := info_parts infoD
  obtain ⟨p, c, rfl, hr, _⟩ := hs
  obtain ⟨m, hm⟩ : ∃ m, m = src.length := ⟨_, rfl⟩
  have HMM := Lib.hid hm
  have hcl : ∀ j, j < m → ∃ B off, p = some ⟨B, off, none⟩ ∧ B < w.heap.size ∧ w.cell? ⟨B, off + j, none⟩ = some (.int .u8 ((gt src j).toNat : Int)) := fun j hj => by
    rw [hm] at hj
    rcases hr with h0 | ⟨B, off, rfl, hc⟩
    · subst h0; simp at hj
    · exact ⟨_, _, rfl, World.block_lt_of_cell? w _ (hc j hj), hc j hj⟩
  have HC := Lib.hid hcl
  rw [← hm] at hl ⊢
  have HL := Lib.hid hl
  clear hr hcl hm hl
  go_enter Try.func26, Try.ntmps26
  go_wp2
  go_loopw [3, 4] (fun sv i wr => Below w.heap.size w wr ∧ ∃ t : Nat, t ≤ m ∧ i = .int .i64 t ∧ (∀ y ∈ src.take t, ¬ 9 < y.toNat / 16) ∧ (edL (src.take t)).length ≤ 2 * t ∧ OwnD wr w.heap.size sv (edL (src.take t))) (fun _ i _ => m - (intOf i).toNat)
  case atStart => exact ⟨Below.refl _ _, 0, Nat.zero_le _, rfl, (fun y hy => by simp at hy), Nat.le_refl _, World.ownsRow_nil _ _ _ _⟩
  case round =>
    obtain ⟨hbw, t, ht, rfl, hgood, hlen, hown⟩ := hrel
    have HB := Lib.hid hbw
    have HO := Lib.hid hown
    have HG := Lib.hid hgood
    have HLE := Lib.hid hlen
    clear hbw hown hgood hlen
    by_cases hlt : t < m
    · obtain ⟨B, off, rfl, hB, hc⟩ := HC.out t hlt
      have hcw := (HB.out.cell (p := ⟨B, off + t, none⟩) hB).trans hc
      have htk := take_one (l := src) (k := t) (by rw [← HMM.out]; exact hlt)
      have HT := Lib.hid htk
      have hdr : src.drop t = gt src t :: src.drop (t + 1) := drop_at (by rw [← HMM.out]; exact hlt)
      have HDR := Lib.hid hdr
      clear htk hc HC hB hdr
      generalize gt src t = x at *
      obtain ⟨h, hh⟩ : ∃ h, h = x.toNat / 16 := ⟨_, rfl⟩
      obtain ⟨lo, hlo⟩ : ∃ lo, lo = x.toNat % 16 := ⟨_, rfl⟩
      have hx256 := x.toNat_lt
      have e1 : (x.toNat : Int) / 16 % 256 = (h : Int) := by omega
      have e2 : (x.toNat : Int) % 16 = (lo : Int) := by omega
      have HX := Lib.hid (show h = x.toNat / 16 ∧ lo = x.toNat % 16 from ⟨hh, hlo⟩)
      clear hh hlo hx256
      by_cases h9 : 9 < h
      · have i3 : (9 : Int) < (h : Int) := by omega
        have hst : edL src = edL (src.take t) ++ [⟨0, 0, true⟩] := by
          have e := edL_stop (src.take t) (src.drop (t + 1)) x HG.out (by rw [← HX.out.1]; exact h9)
          rw [← HDR.out, List.take_append_drop] at e
          exact e
        have HST := Lib.hid hst
        clear h9 hst
        go_wp2_with (at_builtin; refine wpList_append_own _ rfl (.tmp 27) (.tmp 29) 59 rfl w.heap.size 62 i0 (.agg #[.int .i64 0, .int .i64 0, .bool false]) 3 24 Try.underlying59 hi0 hz0 hz1 hz2 rfl (by decide) _ (edL (src.take t)).length (edCells (edL (src.take t))) rfl (HO.out.alloc _) ⟨wr.heap.size, 0, none⟩ 1 1 [.int .i64 0, .int .i64 0, .bool true] rfl rfl (cellsNew wr [.int .i64 0, .int .i64 0, .bool true] _) (by intro u hu; simp at hu; rcases hu with rfl | rfl | rfl <;> rfl) (by unfold maxLen; have := HLE.out; have := HL.out; omega) (by have := HLE.out; have := HL.out; omega) (by have := HB.out.size; simp; omega) ?_)
        intro v' w1 hown1 hgrow hnil
        have HB1 : Hid (Below w.heap.size w w1) := Lib.hid ((HB.out.alloc HB.out.size _).grown hgrow (by have := HB.out.size; simp; omega) (fun r hr => (HO.out.lt r hr).1))
        have hown2 : OwnD w1 w.heap.size v' (edL src) := by
          unfold OwnD
          rw [HST.out, List.length_append, edCells_app]
          exact hown1
        have HO2 := Lib.hid hown2
        clear hown1 hown2 hgrow hnil
        go_wp2
        go_ret
        exact ⟨_, rfl, HO2.out, HB1.out⟩
      · by_cases hl9 : lo ≤ 9
        · have i3 : ¬ ((9 : Int) < (h : Int)) := by omega
          have i4 : (lo : Int) ≤ 9 := by omega
          go_wp2_with (at_builtin; refine wpList_append_own _ rfl (.tmp 33) (.tmp 38) 59 rfl w.heap.size 62 i0 (.agg #[.int .i64 0, .int .i64 0, .bool false]) 3 24 Try.underlying59 hi0 hz0 hz1 hz2 rfl (by decide) _ (edL (src.take t)).length (edCells (edL (src.take t))) rfl (HO.out.alloc _) ⟨wr.heap.size, 0, none⟩ 2 2 [.int .i64 (h : Int), .int .i64 0, .bool false, .int .i64 (lo : Int), .int .i64 0, .bool false] rfl rfl (cellsNew wr [.int .i64 (h : Int), .int .i64 0, .bool false, .int .i64 (lo : Int), .int .i64 0, .bool false] _) (by intro u hu; simp at hu; rcases hu with rfl | rfl | rfl | rfl | rfl | rfl <;> rfl) (by unfold maxLen; have := HLE.out; have := HL.out; omega) (by have := HLE.out; have := HL.out; omega) (by have := HB.out.size; simp; omega) ?_)
          intro v' w1 hown1 hgrow hnil
          have HB1 : Hid (Below w.heap.size w w1) := Lib.hid ((HB.out.alloc HB.out.size _).grown hgrow (by have := HB.out.size; simp; omega) (fun r hr => (HO.out.lt r hr).1))
          have hL : edL (src.take (t + 1)) = edL (src.take t) ++ [⟨h, 0, false⟩, ⟨lo, 0, false⟩] := by
            rw [HT.out, edL_snoc _ _ HG.out]
            unfold edB
            rw [if_neg (by rw [← HX.out.1]; exact h9), if_pos (by rw [← HX.out.2]; exact hl9), ← HX.out.1, ← HX.out.2]
          have hown2 : OwnD w1 w.heap.size v' (edL (src.take (t + 1))) := by
            unfold OwnD
            rw [hL, List.length_append, edCells_app]
            exact hown1
          have HO2 := Lib.hid hown2
          have HLL : Hid ((edL (src.take (t + 1))).length ≤ 2 * (t + 1)) := Lib.hid (by rw [hL, List.length_append]; have := HLE.out; simp; omega)
          have HGG : Hid (∀ y ∈ src.take (t + 1), ¬ 9 < y.toNat / 16) := Lib.hid (fun y hy => by
            rw [HT.out] at hy
            rcases List.mem_append.1 hy with hy | hy
            · exact HG.out y hy
            · rw [List.mem_singleton.1 hy, ← HX.out.1]; omega)
          clear hown1 hown2 hL hgrow hnil
          have hm2 := HL.out
          go_wp2
          go_roundw
          case rel => exact ⟨HB1.out, t + 1, by omega, by go_num, HGG.out, HLL.out, HO2.out⟩
          case measure => simp [intOf]; omega
        · have i3 : ¬ ((9 : Int) < (h : Int)) := by omega
          have i4 : ¬ ((lo : Int) ≤ 9) := by omega
          by_cases hsg : lo = 11 ∨ lo = 13
          · rcases hsg with rfl | rfl
            · go_wp2_with (at_builtin; refine wpList_append_own _ rfl (.tmp 46) (.tmp 49) 59 rfl w.heap.size 62 i0 (.agg #[.int .i64 0, .int .i64 0, .bool false]) 3 24 Try.underlying59 hi0 hz0 hz1 hz2 rfl (by decide) _ (edL (src.take t)).length (edCells (edL (src.take t))) rfl (HO.out.alloc _) ⟨wr.heap.size, 0, none⟩ 1 1 [.int .i64 (h : Int), .int .i64 2, .bool false] rfl rfl (cellsNew wr [.int .i64 (h : Int), .int .i64 2, .bool false] _) (by intro u hu; simp at hu; rcases hu with rfl | rfl | rfl <;> rfl) (by unfold maxLen; have := HLE.out; have := HL.out; omega) (by have := HLE.out; have := HL.out; omega) (by have := HB.out.size; simp; omega) ?_)
              intro v' w1 hown1 hgrow hnil
              have HB1 : Hid (Below w.heap.size w w1) := Lib.hid ((HB.out.alloc HB.out.size _).grown hgrow (by have := HB.out.size; simp; omega) (fun r hr => (HO.out.lt r hr).1))
              have hL : edL (src.take (t + 1)) = edL (src.take t) ++ [⟨h, 2, false⟩] := by
                rw [HT.out, edL_snoc _ _ HG.out]
                unfold edB
                rw [if_neg (by rw [← HX.out.1]; exact h9), if_neg (by rw [← HX.out.2]; omega), ← HX.out.1, ← HX.out.2]; rfl
              have hown2 : OwnD w1 w.heap.size v' (edL (src.take (t + 1))) := by
                unfold OwnD
                rw [hL, List.length_append, edCells_app]
                exact hown1
              have HO2 := Lib.hid hown2
              have HLL : Hid ((edL (src.take (t + 1))).length ≤ 2 * (t + 1)) := Lib.hid (by rw [hL, List.length_append]; have := HLE.out; simp; omega)
              have HGG : Hid (∀ y ∈ src.take (t + 1), ¬ 9 < y.toNat / 16) := Lib.hid (fun y hy => by
                rw [HT.out] at hy
                rcases List.mem_append.1 hy with hy | hy
                · exact HG.out y hy
                · rw [List.mem_singleton.1 hy, ← HX.out.1]; omega)
              clear hown1 hown2 hL hgrow hnil
              have hm2 := HL.out
              go_wp2
              go_roundw
              case rel => exact ⟨HB1.out, t + 1, by omega, by go_num, HGG.out, HLL.out, HO2.out⟩
              case measure => simp [intOf]; omega
            · go_wp2_with (at_builtin; refine wpList_append_own _ rfl (.tmp 46) (.tmp 49) 59 rfl w.heap.size 62 i0 (.agg #[.int .i64 0, .int .i64 0, .bool false]) 3 24 Try.underlying59 hi0 hz0 hz1 hz2 rfl (by decide) _ (edL (src.take t)).length (edCells (edL (src.take t))) rfl (HO.out.alloc _) ⟨wr.heap.size, 0, none⟩ 1 1 [.int .i64 (h : Int), .int .i64 2, .bool false] rfl rfl (cellsNew wr [.int .i64 (h : Int), .int .i64 2, .bool false] _) (by intro u hu; simp at hu; rcases hu with rfl | rfl | rfl <;> rfl) (by unfold maxLen; have := HLE.out; have := HL.out; omega) (by have := HLE.out; have := HL.out; omega) (by have := HB.out.size; simp; omega) ?_)
              intro v' w1 hown1 hgrow hnil
              have HB1 : Hid (Below w.heap.size w w1) := Lib.hid ((HB.out.alloc HB.out.size _).grown hgrow (by have := HB.out.size; simp; omega) (fun r hr => (HO.out.lt r hr).1))
              have hL : edL (src.take (t + 1)) = edL (src.take t) ++ [⟨h, 2, false⟩] := by
                rw [HT.out, edL_snoc _ _ HG.out]
                unfold edB
                rw [if_neg (by rw [← HX.out.1]; exact h9), if_neg (by rw [← HX.out.2]; omega), ← HX.out.1, ← HX.out.2]; rfl
              have hown2 : OwnD w1 w.heap.size v' (edL (src.take (t + 1))) := by
                unfold OwnD
                rw [hL, List.length_append, edCells_app]
                exact hown1
              have HO2 := Lib.hid hown2
              have HLL : Hid ((edL (src.take (t + 1))).length ≤ 2 * (t + 1)) := Lib.hid (by rw [hL, List.length_append]; have := HLE.out; simp; omega)
              have HGG : Hid (∀ y ∈ src.take (t + 1), ¬ 9 < y.toNat / 16) := Lib.hid (fun y hy => by
                rw [HT.out] at hy
                rcases List.mem_append.1 hy with hy | hy
                · exact HG.out y hy
                · rw [List.mem_singleton.1 hy, ← HX.out.1]; omega)
              clear hown1 hown2 hL hgrow hnil
              have hm2 := HL.out
              go_wp2
              go_roundw
              case rel => exact ⟨HB1.out, t + 1, by omega, by go_num, HGG.out, HLL.out, HO2.out⟩
              case measure => simp [intOf]; omega
          · have i5 : ((lo : Int) == 11) = false := by simp only [beq_eq_false_iff_ne, ne_eq]; omega
            have i6 : ((lo : Int) == 13) = false := by simp only [beq_eq_false_iff_ne, ne_eq]; omega
            go_wp2_with (at_builtin; refine wpList_append_own _ rfl (.tmp 51) (.tmp 54) 59 rfl w.heap.size 62 i0 (.agg #[.int .i64 0, .int .i64 0, .bool false]) 3 24 Try.underlying59 hi0 hz0 hz1 hz2 rfl (by decide) _ (edL (src.take t)).length (edCells (edL (src.take t))) rfl (HO.out.alloc _) ⟨wr.heap.size, 0, none⟩ 1 1 [.int .i64 (h : Int), .int .i64 1, .bool false] rfl rfl (cellsNew wr [.int .i64 (h : Int), .int .i64 1, .bool false] _) (by intro u hu; simp at hu; rcases hu with rfl | rfl | rfl <;> rfl) (by unfold maxLen; have := HLE.out; have := HL.out; omega) (by have := HLE.out; have := HL.out; omega) (by have := HB.out.size; simp; omega) ?_)
            intro v' w1 hown1 hgrow hnil
            have HB1 : Hid (Below w.heap.size w w1) := Lib.hid ((HB.out.alloc HB.out.size _).grown hgrow (by have := HB.out.size; simp; omega) (fun r hr => (HO.out.lt r hr).1))
            have hL : edL (src.take (t + 1)) = edL (src.take t) ++ [⟨h, 1, false⟩] := by
              rw [HT.out, edL_snoc _ _ HG.out]
              unfold edB
              rw [if_neg (by rw [← HX.out.1]; exact h9), if_neg (by rw [← HX.out.2]; omega), ← HX.out.1, ← HX.out.2, if_neg hsg]
            have hown2 : OwnD w1 w.heap.size v' (edL (src.take (t + 1))) := by
              unfold OwnD
              rw [hL, List.length_append, edCells_app]
              exact hown1
            have HO2 := Lib.hid hown2
            have HLL : Hid ((edL (src.take (t + 1))).length ≤ 2 * (t + 1)) := Lib.hid (by rw [hL, List.length_append]; have := HLE.out; simp; omega)
            have HGG : Hid (∀ y ∈ src.take (t + 1), ¬ 9 < y.toNat / 16) := Lib.hid (fun y hy => by
              rw [HT.out] at hy
              rcases List.mem_append.1 hy with hy | hy
              · exact HG.out y hy
              · rw [List.mem_singleton.1 hy, ← HX.out.1]; omega)
            clear hown1 hown2 hL hgrow hnil
            have hm2 := HL.out
            go_wp2
            go_roundw
            case rel => exact ⟨HB1.out, t + 1, by omega, by go_num, HGG.out, HLL.out, HO2.out⟩
            case measure => simp [intOf]; omega
    · obtain rfl : t = m := by omega
      have hown := HO.out
      rw [HMM.out, List.take_length] at hown
      have HO2 := Lib.hid hown
      clear hown
      go_wp2
      go_ret
      exact ⟨_, rfl, HO2.out, HB.out⟩

end E
end Go.Proofs.Ytfkenoehoocobaa

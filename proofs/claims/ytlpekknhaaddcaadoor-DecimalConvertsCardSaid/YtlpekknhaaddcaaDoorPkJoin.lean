/- The contract of join: the text of the digits that an iterator yields. -/
import Derived.Test.YtlpekknhaaddcaaDoorPkBuild
import Derived.Test.YtlpekknhaaddcaaDoorPkTrim
import Derived.RangeFuncBox
namespace Go.Proofs.YtlpekknhaaddcaaDoor
open Go.RowKit Go.Shelf
set_option linter.unusedVariables false
namespace E
attribute [local go_sem] Oper.semAt_some

/-- Are they decimal digits? -/
def okD (ds : List (Fin 16)) : Bool := ds.all fun d => decide (d.val ≤ 9)
/-- What join leaves. -/
def JoinPost (w : World) (ds : List (Fin 16)) (e : Ending) (w' : World) : Prop :=
  e = .returned (.tuple #[.string (if okD ds then ⟨(numL ds).toArray⟩ else ⟨#[]⟩), .bool (okD ds)]) ∧ Below w.heap.size w w'
/-- Between two rounds. -/
def JI (D : Nat) (pre : List (Fin 16)) (W : World) : Prop :=
  (∃ v, Boxed W (D + 2) 22 v ∧ W.ownsRow D 5 1 v pre.length (bsU (pre.map chr)) ∧ True) ∧ Boxed W D 9 (.string ⟨#[]⟩) ∧ Boxed W (D + 1) 4 (.bool false) ∧ okD pre = true
theorem JI.own (D : Nat) : Go.Own (JI D) := fun s X Y row ⟨h1, h2, h3, h4⟩ hg hr =>
  ⟨holdsRow_own D (D + 2) 22 5 1 (fun pre : List (Fin 16) => pre.length) (fun pre => bsU (pre.map chr)) (fun _ _ => True) s X Y row h1 hg hr, Boxed.ab h2 hg hr, Boxed.ab h3 hg hr, h4⟩
/-- A round has left: the digit is none. -/
def JX (D : Nat) (c : Code) (pre : List (Fin 16)) (W : World) : Prop :=
  c = .ret ∧ Boxed W D 9 (.string ⟨#[]⟩) ∧ Boxed W (D + 1) 4 (.bool false) ∧ okD pre = false
theorem JX.own (D : Nat) (c : Code) : Go.Own (JX D c) := fun s X Y row ⟨h1, h2, h3, h4⟩ hg hr => ⟨h1, Boxed.ab h2 hg hr, Boxed.ab h3 hg hr, h4⟩
theorem okD_snoc (ds : List (Fin 16)) (d : Fin 16) : okD (ds ++ [d]) = (okD ds && decide (d.val ≤ 9)) := by simp [okD]
theorem hold_blk {w : World} {base : Nat} {v : Value} {l : List UInt8} (hl : 1 ≤ l.length) (h : w.ownsRow base 5 1 v l.length (bsU l)) : ∃ g c, v = .slice (some ⟨g, 0, none⟩) l.length c ∧ Blk w base g l := by
  obtain ⟨_, ⟨_, h2⟩ | ⟨g, cap, cur, hv, hg, hh, _, _, _, ht⟩⟩ := h
  · omega
  · exact ⟨g, cap, hv, hg, cur, hh, by simpa using ht⟩
set_option maxRecDepth 100000 in
set_option maxHeartbeats 2000000 in
theorem join_any (gf : Nat) (lb : Array Value) (hgf : ∀ args w, (callFunc gf args).run Tryd.prog w = .ok (.enter gf args) w) (ds : List (Fin 16)) (w : World) (N : Nat) (h1 : 1 ≤ ds.length) (h2 : ds.length ≤ 100) (hN : N ≤ 100)
    (hseq : ∀ m, 1 ≤ m → SeqStopsK Fence.wide m Tryd.prog gf lb encD (Below w.heap.size) (fun ys => ys = ds) (fun pre => pre <+: ds) N w) :
    Calls Tryd.prog 85 #[.func (.func gf) #[] lb] w (JoinPost w ds) := by
  refine (callsIn_wide (n := 5)).1 ?_
  have hro : Fence.wide.round = none := rfl
  obtain ⟨i0, hi, hz0, hz1, hz2⟩ := info_parts info5
  have HQ := Lib.hid hseq
  have HG := Lib.hid hgf
  clear hseq hgf
  refine callsIn_of_wp_marks Tryd.func85 rfl trivial ?_ hro
  simp only [Tryd.ntmps85, List.size_toArray, List.length_cons, List.length_nil, Nat.reduceAdd, Nat.reduceSub, Array.replicate_succ, Array.replicate_zero, List.push_toArray, List.append_toArray, List.nil_append, List.cons_append]
  gi_wp2_with fail
  have bS := ((Boxed.new w 9 (.string ⟨#[]⟩)).alloc (.cells #[.bool false] 4)).alloc (.cells #[.slice none 0 0] 22)
  have bO := (boxed_new2 w (.cells #[.string ⟨#[]⟩] 9) 4 (.bool false)).alloc (.cells #[.slice none 0 0] 22)
  have bC := boxed_new3 w (.cells #[.string ⟨#[]⟩] 9) (.cells #[.bool false] 4) 22 (.slice none 0 0)
  have hB0 : Below w.heap.size w (((w.alloc (.cells #[.string ⟨#[]⟩] 9)).alloc (.cells #[.bool false] 4)).alloc (.cells #[.slice none 0 0] 22)) := (((Below.refl _ w).alloc (Nat.le_refl _) _).alloc (by simp) _).alloc (by simp; omega) _
  refine wpIn_rangeFunc_ownG hro (by omega) (gf := gf) (lb := lb) rfl trivial HG.out
    (HQ.out _ (by omega)) belowK_t (belowK_b (by simp; omega)) hB0 (fun _ => rfl)
    (fun pre W => JI w.heap.size pre W ∧ Below w.heap.size w W)
    (fun c pre W => JX w.heap.size c pre W ∧ Below w.heap.size w W)
    (OwnFrom.and (Own.from (JI.own _) _) (ownFrom_below (Nat.le_refl _) (by simp; omega)))
    (fun c => OwnFrom.and (Own.from (JX.own _ c) _) (ownFrom_below (Nat.le_refl _) (by simp; omega)))
    ⟨⟨⟨_, bC, World.ownsRow_nil _ _ _ _, trivial⟩, bS, bO, rfl⟩, hB0⟩
    (fun x => { tmps := #[.func (.func gf) #[] lb, undef, .pointer (some ⟨w.heap.size, 0, none⟩), .pointer (some ⟨w.heap.size + 1, 0, none⟩), .pointer (some ⟨w.heap.size + 1 + 1, 0, none⟩), .int .u8 (x.val : Int), undef, .func (.func gf) #[] lb,
        .int .u8 (x.val : Int), undef, undef, undef, undef, undef, undef, undef, undef, undef, undef, undef, undef, undef, undef, undef], defers := [] }) ?assign ?body ?done ?stop
  case assign =>
    intro l x W K hK
    unfold encD
    gi_wp2
    exact hK
  case body =>
    rintro l pre x W ⟨⟨⟨v, hv, hrow, _⟩, hs, ho, hk⟩, hB⟩ hlt
    have hx16 := x.isLt
    by_cases h9 : x.val ≤ 9
    · have hc := hv.cell
      have hlen : pre.length + 1 ≤ 100 := by omega
      have HB := Lib.hid hB
      have HS := Lib.hid hs
      have HO := Lib.hid ho
      have HV := Lib.hid hv
      have HR := Lib.hid hrow
      have HK := Lib.hid hk
      clear hB hs ho hv hrow hk
      gi_wp2_with (gi_at_builtin; refine wpListIn_append_own _ rfl _ _ 22 rfl w.heap.size 5 i0 (.int .u8 0) 1 1 Tryd.underlying22 hi hz0 hz1 hz2 rfl (by decide) _ _ _ rfl (HR.out.alloc _) ⟨W.heap.size, 0, none⟩ 1 1 [.int .u8 (48 + (x.val : Int))] rfl rfl (cellNew _ _ _) (by simp [Value.oneCell']) (by unfold maxLen; omega) (by omega) (by have := HB.out.size; simp; omega) ?_; intro v' w1 hown' hgrow _; obtain ⟨g', cap', rfl⟩ := ownsRow_succ hown'; obtain ⟨hv1, hv2, hr2, hk2, hb2⟩ := HV.out.appended (by decide) HR.out HB.out.size (by omega) hown' hgrow; have hc1 := hv1.cell; have hf1 := hv1.frozen)
      have es : (pre ++ [x]).length = pre.length + 1 := by simp
      have eb : bsU ((pre ++ [x]).map chr) = bsU (pre.map chr) ++ [.int .u8 (48 + (x.val : Int))] := by
        rw [List.map_append, List.map_cons, List.map_nil, bsU_snoc, chr_nat]
        push_cast
        rfl
      refine ⟨hk2.from _, hb2, ⟨⟨_, hv2, ?_, trivial⟩, ?_, ?_, ?_⟩, HB.out.trans hb2⟩
      · rw [es, eb]; exact hr2
      · exact ((HS.out.alloc _).kept hgrow (HS.out.not_row (by decide) HR.out)).other (by omega) _
      · exact ((HO.out.alloc _).kept hgrow (HO.out.not_row (by decide) HR.out)).other (by omega) _
      · rw [okD_snoc, HK.out, decide_eq_true h9]; rfl
    · have h9' : 9 < x.val := by omega
      have c1 := hs.cell
      have f1 := hs.frozen
      have c2 := ho.cell
      have f2 := ho.frozen
      have HB := Lib.hid hB
      have HS := Lib.hid hs
      have HO := Lib.hid ho
      clear hB hs ho hv hrow hk
      gi_wp2
      have k1 := grownBy_setCell' W w.heap.size (.string ⟨#[]⟩)
      have k2 := grownBy_setCell' (W.setCell ⟨w.heap.size, 0, none⟩ (.string ⟨#[]⟩)) (w.heap.size + 1) (.bool false)
      refine ⟨((KeepsOthers.setCell _ _ _).trans (KeepsOthers.setCell _ _ _)).from _, ⟨rfl, (HS.out.set _).kept k2 (by simp), (HO.out.kept k1 (by simp)).set _, ?_⟩, ?_⟩
      · rw [okD_snoc, decide_eq_false h9]; simp
      · exact (HB.out.setCell (p := ⟨w.heap.size, 0, none⟩) (Nat.le_refl _) _).setCell (p := ⟨w.heap.size + 1, 0, none⟩) (by simp) _
  case done =>
    rintro D ys W hD rfl ⟨⟨⟨v, hv, hrow, _⟩, hs, ho, hk⟩, hB⟩ hK
    obtain ⟨L, hL⟩ : ∃ L, L = ys.map chr := ⟨_, rfl⟩
    have hLl : L.length = ys.length := by rw [hL, List.length_map]
    rw [← hL, ← hLl] at hrow
    obtain ⟨g, c, rfl, hblk⟩ := hold_blk (by omega) hrow
    have c1 := hv.cell
    have HLL := Lib.hid hL
    have HLl := Lib.hid hLl
    have HB := Lib.hid hB
    have HS := Lib.hid hs
    have HO := Lib.hid ho
    have HV := Lib.hid hv
    have HR := Lib.hid hblk
    have HK := Lib.hid hk
    have HKD := Lib.hid hK
    have hl1 : 1 ≤ L.length := by omega
    have hl2 : L.length ≤ 100 := by omega
    clear hL hLl hB hs ho hv hrow hk hblk hK
    gi_wp2_with fail
    refine ⟨trivial, (callsIn_wide.2 (reverse_any g c w.heap.size L W hl1 (by omega) HR.out)).mono ?_⟩
    rintro e w1 ⟨⟨u, rfl⟩, hb1, hg1⟩
    have hv1 := HV.out.kept hg1 (fun e => E.Boxed.not_blk HV.out (by decide) HR.out (Option.some.inj e))
    have hs1 := HS.out.kept hg1 (fun e => E.Boxed.not_blk HS.out (by decide) HR.out (Option.some.inj e))
    have ho1 := HO.out.kept hg1 (fun e => E.Boxed.not_blk HO.out (by decide) HR.out (Option.some.inj e))
    have hK1 : w1.heap[D]? = some (.deferred (some [])) := (hg1.block D (Array.getElem?_eq_some_iff.1 HKD.out).1 (fun e => by
      obtain rfl : D = g := Option.some.inj e
      have := HR.out.cells _ HKD.out
      cases this)).trans HKD.out
    have hbw1 : Below w.heap.size w w1 := HB.out.grown hg1 HB.out.size (fun j ej => by cases ej; exact HR.out.1)
    have c1' := hv1.cell
    have hs1c := hs1.cell
    have hs1f := hs1.frozen
    have ho1c := ho1.cell
    have ho1f := ho1.frozen
    have hconv := conv_rd (c := c) hb1.rd
    rw [List.length_reverse] at hconv
    have htl := trimLeft_any ⟨L.reverse.toArray⟩ L.reverse w1 rfl (by simpa using hl1) (by simp; omega)
    have hnum : numL ys = if L.reverse.dropWhile (· == 48) = [] then [48] else L.reverse.dropWhile (· == 48) := by
      unfold numL
      rw [HLL.out, List.map_reverse]
    have HK1 := Lib.hid hK1
    have HB1 := Lib.hid hbw1
    have HS1 := Lib.hid hs1
    have HO1 := Lib.hid ho1
    have HTL := Lib.hid htl
    clear hK1 hbw1 hs1 ho1 htl c1 hg1 hv1
    gi_wp2_with fail
    refine ⟨trivial, (callsIn_wide.2 HTL.out).mono ?_⟩
    rintro e w' ⟨rfl, rfl⟩
    by_cases hT : L.reverse.dropWhile (· == 48) = []
    · rw [if_pos hT] at hnum
      have HN := Lib.hid hnum
      rw [hT]
      clear hnum hT hconv
      gi_wp2
      have k1 := grownBy_setCell' w1 w.heap.size (.string ⟨#[48]⟩)
      have k2 := grownBy_setCell' (w1.setCell ⟨w.heap.size, 0, none⟩ (.string ⟨#[48]⟩)) (w.heap.size + 1) (.bool true)
      have b1 := (HS1.out.set (.string ⟨#[48]⟩)).kept k2 (by simp)
      have b2 := (HO1.out.kept k1 (by simp)).set (.bool true)
      have hK2 := ((KeepsOthers.setCell w1 ⟨w.heap.size, 0, none⟩ (.string ⟨#[48]⟩)).trans (KeepsOthers.setCell _ ⟨w.heap.size + 1, 0, none⟩ (.bool true))).same D _ HK1.out rfl
      have hB2 := (HB1.out.setCell (p := ⟨w.heap.size, 0, none⟩) (Nat.le_refl _) (.string ⟨#[48]⟩)).setCell (p := ⟨w.heap.size + 1, 0, none⟩) (by simp) (.bool true)
      have hnr : ∀ r, some D = some r → ∃ o : Obj, ((w1.setCell ⟨w.heap.size, 0, none⟩ (.string ⟨#[48]⟩)).setCell ⟨w.heap.size + 1, 0, none⟩ (.bool true)).heap[r]? = some o ∧ o.isCells = false := fun r e => by cases e; exact ⟨_, hK2, rfl⟩
      have b1' := Boxed.ab b1 (grownBy_putObj' _ D (.deferred none)) hnr
      have b2' := Boxed.ab b2 (grownBy_putObj' _ D (.deferred none)) hnr
      refine ⟨by simp, .inl ⟨_, _, rfl, run_takeDeferred hK2, ?_⟩⟩
      exact ⟨_, results_cell2 rfl rfl rfl b1'.cell b2'.cell Tryd.underlying9 rfl Tryd.underlying4 rfl, by rw [HK.out, if_pos rfl, HN.out], hB2.trans (belowK_b (w := w) (Nat.le_refl _) _ D _ _ (by simp at hD; omega) hK2 rfl rfl)⟩
    · rw [if_neg hT] at hnum
      obtain ⟨t, ht⟩ : ∃ t : ByteArray, t = ⟨(L.reverse.dropWhile (· == 48)).toArray⟩ := ⟨_, rfl⟩
      have hne : t.toList.isEmpty = false := by
        rw [Lib.toList_data, ht]
        show (L.reverse.dropWhile (· == 48)).isEmpty = false
        cases hq : L.reverse.dropWhile (· == 48) with
        | nil => exact absurd hq hT
        | cons _ _ => rfl
      have hnum2 : (⟨(numL ys).toArray⟩ : ByteArray) = t := by rw [hnum, ht]
      have HN := Lib.hid hnum2
      rw [← ht]
      clear hnum hT hconv ht hnum2
      gi_wp2
      have k1 := grownBy_setCell' w1 w.heap.size (.string t)
      have k2 := grownBy_setCell' (w1.setCell ⟨w.heap.size, 0, none⟩ (.string t)) (w.heap.size + 1) (.bool true)
      have b1 := (HS1.out.set (.string t)).kept k2 (by simp)
      have b2 := (HO1.out.kept k1 (by simp)).set (.bool true)
      have hK2 := ((KeepsOthers.setCell w1 ⟨w.heap.size, 0, none⟩ (.string t)).trans (KeepsOthers.setCell _ ⟨w.heap.size + 1, 0, none⟩ (.bool true))).same D _ HK1.out rfl
      have hB2 := (HB1.out.setCell (p := ⟨w.heap.size, 0, none⟩) (Nat.le_refl _) (.string t)).setCell (p := ⟨w.heap.size + 1, 0, none⟩) (by simp) (.bool true)
      have hnr : ∀ r, some D = some r → ∃ o : Obj, ((w1.setCell ⟨w.heap.size, 0, none⟩ (.string t)).setCell ⟨w.heap.size + 1, 0, none⟩ (.bool true)).heap[r]? = some o ∧ o.isCells = false := fun r e => by cases e; exact ⟨_, hK2, rfl⟩
      have b1' := Boxed.ab b1 (grownBy_putObj' _ D (.deferred none)) hnr
      have b2' := Boxed.ab b2 (grownBy_putObj' _ D (.deferred none)) hnr
      refine ⟨by simp, .inl ⟨_, _, rfl, run_takeDeferred hK2, ?_⟩⟩
      exact ⟨_, results_cell2 rfl rfl rfl b1'.cell b2'.cell Tryd.underlying9 rfl Tryd.underlying4 rfl, by rw [HK.out, if_pos rfl, HN.out], hB2.trans (belowK_b (w := w) (Nat.le_refl _) _ D _ _ (by simp at hD; omega) hK2 rfl rfl)⟩
  case stop =>
    rintro D c pre W hD hp ⟨hX, hB⟩ hK
    obtain ⟨rfl, hs, ho, hk⟩ := hX
    gi_wp2
    have hnr : ∀ r, some D = some r → ∃ o : Obj, W.heap[r]? = some o ∧ o.isCells = false := fun r e => by cases e; exact ⟨_, hK, rfl⟩
    have b1' := Boxed.ab hs (grownBy_putObj' _ D (.deferred none)) hnr
    have b2' := Boxed.ab ho (grownBy_putObj' _ D (.deferred none)) hnr
    have hod : okD ds = false := by
      obtain ⟨t, ht⟩ := hp
      rw [← ht]
      unfold okD at hk ⊢
      rw [List.all_append, hk]; rfl
    refine ⟨by simp, .inl ⟨_, _, rfl, run_takeDeferred hK, ?_⟩⟩
    exact ⟨_, results_cell2 rfl rfl rfl b1'.cell b2'.cell Tryd.underlying9 rfl Tryd.underlying4 rfl, by rw [hod]; rfl, hB.trans (belowK_b (w := w) (Nat.le_refl _) _ D _ _ (by simp at hD; omega) hK rfl rfl)⟩

end E
end Go.Proofs.YtlpekknhaaddcaaDoor

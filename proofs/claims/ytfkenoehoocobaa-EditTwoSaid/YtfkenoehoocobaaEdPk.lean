/- The statements' numbers: their packed bytes and their condition codes. -/
import Derived.Test.YtfkenoehoocobaaEdTxt
import Derived.Deep.AppendLies
import Derived.Deep.RegionHeld3
namespace Go.Proofs.Ytfkenoehoocobaa
open Go.RowKit
set_option linter.unusedVariables false
namespace E

/-- What is held of each world: w and all that lay below. -/
def ApS (w W : World) : Prop := Below w.heap.size w W
theorem ApS.mk2 {w W : World} {B j k : Nat} {v u : Value} (hB : B < w.heap.size) (hc : w.cell? ⟨B, j, none⟩ = some v) (hd : w.cell? ⟨B, k, none⟩ = some u) (h : ApS w W) : W.cell? ⟨B, j, none⟩ = some v ∧ W.cell? ⟨B, k, none⟩ = some u ∧ ApS w W :=
  ⟨(h.cell (p := ⟨B, j, none⟩) hB).trans hc, (h.cell (p := ⟨B, k, none⟩) hB).trans hd, h⟩
theorem ApS.new2 {w W : World} {B j k : Nat} {v u : Value} {o : Obj} (hB : B < w.heap.size) (hc : w.cell? ⟨B, j, none⟩ = some v) (hd : w.cell? ⟨B, k, none⟩ = some u) (h : W.cell? ⟨B, j, none⟩ = some v ∧ W.cell? ⟨B, k, none⟩ = some u ∧ ApS w W) :
    (W.alloc o).cell? ⟨B, j, none⟩ = some v ∧ (W.alloc o).cell? ⟨B, k, none⟩ = some u ∧ ApS w (W.alloc o) :=
  ApS.mk2 hB hc hd (show Below w.heap.size w (W.alloc o) from Below.alloc h.2.2 (Below.size h.2.2) o)
theorem ApS.app {w W w' : World} {o : Obj} {n : Nat} {sv : Value} {t : TypeId} {xs : List Value} (h : Below w.heap.size w W) (hown : W.ownsRow w.heap.size t 1 sv n xs) (hg : ((W.alloc o).drew).grownBy w' sv.ownBlock) : ApS w w' :=
  ((h.alloc h.size o).drew).grown hg (by have := h.size; simp; omega) (fun r hr => (hown.lt r hr).1)
theorem pair_wrap {a b : Nat} (ha : a ≤ 9) (hb : b ≤ 15) : IntKind.u8.wrap (IntKind.i64.wrap (IntKind.i64.wrap (16 * (a : Int)) + (b : Int))) = ((UInt8.ofNat (16 * a + b)).toNat : Int) := by
  have h : ∀ a b : Fin 16, IntKind.u8.wrap (IntKind.i64.wrap (IntKind.i64.wrap (16 * (a.val : Int)) + (b.val : Int))) = ((UInt8.ofNat (16 * a.val + b.val)).toNat : Int) := by decide +kernel
  exact h ⟨a, by omega⟩ ⟨b, by omega⟩
theorem pairs_len : ∀ (k : Nat) (e : List Nat), e.length = 2 * k → (pairs e).length = k
  | 0, [], _ => rfl
  | 0, _ :: _, h => by simp at h
  | k + 1, [], h => by simp at h
  | k + 1, [_], h => by simp at h; omega
  | k + 1, a :: b :: r, h => by rw [pairs_two, List.length_cons, pairs_len k r (by simp at h; omega)]
theorem pairs_at : ∀ (t : Nat) (e : List Nat), 2 * t + 1 < e.length → (pairs e).take (t + 1) = (pairs e).take t ++ [UInt8.ofNat (16 * e.getD (2 * t) 0 + e.getD (2 * t + 1) 0)]
  | _, [], h => by simp at h
  | _, [_], h => by simp at h
  | 0, a :: b :: r, _ => rfl
  | t + 1, a :: b :: r, h => by
    rw [pairs_two, List.take_succ_cons, List.take_succ_cons, pairs_at t r (by simp at h; omega), List.cons_append]
    rfl
theorem sgH_le (neg : Bool) : sgH neg ≤ 15 := by cases neg <;> decide
theorem getD_left {d : List Nat} {x j : Nat} (h : j < d.length) : (d ++ [x]).getD j 0 = d.getD j 0 := by
  rw [List.getD_eq_getElem?_getD, List.getD_eq_getElem?_getD, List.getElem?_append_left h]
theorem getD_nine {d : List Nat} (h9 : ∀ a ∈ d, a ≤ 9) (j : Nat) : d.getD j 0 ≤ 9 := by
  by_cases h : j < d.length
  · rw [List.getD_eq_getElem?_getD, List.getElem?_eq_getElem h]
    exact h9 _ (List.getElem_mem h)
  · rw [List.getD_eq_getElem?_getD, List.getElem?_eq_none (by omega)]
    exact Nat.zero_le _
theorem getD_snoc_le {d : List Nat} {x : Nat} (h9 : ∀ a ∈ d, a ≤ 9) (hx : x ≤ 15) (j : Nat) : (d ++ [x]).getD j 0 ≤ 15 := by
  by_cases h : j < d.length
  · rw [getD_left h]
    have := getD_nine h9 j
    omega
  · rw [List.getD_eq_getElem?_getD, List.getElem?_append_right (by omega)]
    by_cases h2 : j - d.length = 0
    · rw [h2]
      exact hx
    · rw [List.getElem?_eq_none (by simp; omega)]
      exact Nat.zero_le _
set_option maxRecDepth 100000 in
set_option maxHeartbeats 2000000 in
theorem packed_any (v : Value) (l m : List UInt8) (neg : Bool) (w : World) (h : NumV w v l neg m) :
    Calls Try.prog 18 #[v] w (HPost w (pkN neg (dgN l))) := by
  obtain ⟨i0, hi0, hz0, hz1, hz2⟩ := info_parts info5
  obtain ⟨j0, hj0, hw0, hw1, hw2⟩ := info_parts info3
  have HD := Lib.hid (fun W (hb : Below w.heap.size w W) => digits_any v l m neg W (h.below hb))
  obtain ⟨d, tv, rfl, hd, ht⟩ := h
  obtain ⟨p, c0, rfl, _⟩ := hd
  obtain ⟨q, cq, rfl, _⟩ := ht
  have HBW := Lib.hid (below_new w (.cells #[.slice p l.length c0, .bool neg, .slice q m.length cq] 37))
  have HSZ : Hid ((w.alloc (.cells #[.slice p l.length c0, .bool neg, .slice q m.length cq] 37)).heap.size = w.heap.size + 1) := Lib.hid (World.size_alloc _ _)
  have HB := Lib.hid (Bx.new w 37 #[.slice p l.length c0, .bool neg, .slice q m.length cq])
  have HLN := Lib.hid (dgN_len l)
  have H9 := Lib.hid (dgN_nine l)
  generalize dgN l = dg at *
  obtain ⟨k, hk⟩ : ∃ k, dg.length + 1 = 2 * k := ⟨(dg.length + 1) / 2, by have := HLN.out.2; omega⟩
  have hk50 : k ≤ 50 := by have := HLN.out.1; omega
  have HKK := Lib.hid hk
  have hel : (dg ++ [sgH neg]).length = 2 * k := by rw [List.length_append]; exact hk
  have HEL := Lib.hid hel
  have hpl := pairs_len k _ hel
  have HPL := Lib.hid hpl
  have hel2 : ∀ t, t < k → ∃ a b : Nat, a ≤ 9 ∧ b ≤ 15 ∧ (dg ++ [sgH neg]).getD (2 * t) 0 = a ∧ (dg ++ [sgH neg]).getD (2 * t + 1) 0 = b := fun t ht => by
    refine ⟨_, _, ?_, getD_snoc_le H9.out (sgH_le neg) (2 * t + 1), rfl, rfl⟩
    rw [getD_left (by omega)]
    exact getD_nine H9.out _
  have HAB := Lib.hid hel2
  clear hk hel hpl hel2
  obtain ⟨W0, hW0⟩ : ∃ W0, W0 = w.alloc (.cells #[.slice p l.length c0, .bool neg, .slice q m.length cq] 37) := ⟨_, rfl⟩
  rw [← hW0] at HBW HSZ HB
  go_enter Try.func18, Try.ntmps18
  go_wp2_with fail
  rw [← hW0]
  clear hW0
  refine (HD.out _ HBW.out).mono ?_
  rintro e w1 ⟨sv, rfl, ho, hb⟩
  obtain ⟨p1, c1, rfl⟩ := ho.slice
  have hown1 : w1.ownsRow (w.heap.size + 1) 3 1 (.slice p1 dg.length c1) dg.length (bsN dg) := own_base ho (by rw [HSZ.out]; omega)
  have HO1 := Lib.hid hown1
  have hb1 : Below (w.heap.size + 1) W0 w1 := by
    have h := hb
    rw [HSZ.out] at h
    exact h
  have HB1 := Lib.hid hb1
  have HS1 : Hid (w.heap.size + 1 ≤ w1.heap.size) := Lib.hid (by have := hb1.size; rw [HSZ.out] at this; exact this)
  obtain ⟨⟨b0, b1, b2⟩, _⟩ := (HB.out.bel hb1 (Nat.lt_succ_self _)).three
  obtain ⟨n, hn⟩ : ∃ n, n = dg.length := ⟨_, rfl⟩
  have HN := Lib.hid hn
  have hn99 : n ≤ 99 := by rw [hn]; exact HLN.out.1
  have H99 := Lib.hid hn99
  rw [← hn] at HO1 HKK ⊢
  clear ho hb hb1 hown1 hn hn99
  obtain ⟨s, hs⟩ : ∃ s, s = sgH neg := ⟨_, rfl⟩
  have hsi : (neg = true ∧ (s : Int) = 13) ∨ (neg = false ∧ (s : Int) = 12) := by
    rw [hs]
    cases neg
    · exact .inr ⟨rfl, rfl⟩
    · exact .inl ⟨rfl, rfl⟩
  have HSG := Lib.hid hs
  rw [← hs] at HEL HPL HAB
  have HP : Hid (pkN neg dg = pairs (dg ++ [s])) := Lib.hid (by rw [hs]; rfl)
  generalize pkN neg dg = pk at *
  clear hs
  have REST : ∀ (w2 : World) (p2 : Option Addr) (c2 : Nat), w2.ownsRow (w.heap.size + 1) 3 1 (.slice p2 (2 * k) c2) (2 * k) (bsN (dg ++ [s])) → Below (w.heap.size + 1) W0 w2 →
      (Below w.heap.size w w2 ∧ ∀ t, t < k → ∃ g, p2 = some ⟨g, 0, none⟩ ∧ g < w2.heap.size ∧ ∃ a b : Nat, a ≤ 9 ∧ b ≤ 15 ∧ w2.cell? ⟨g, 2 * t, none⟩ = some (.int .i64 (a : Int)) ∧ w2.cell? ⟨g, 2 * t + 1, none⟩ = some (.int .i64 (b : Int)) ∧ (pairs (dg ++ [s])).take (t + 1) = (pairs (dg ++ [s])).take t ++ [UInt8.ofNat (16 * a + b)]) := fun w2 p2 c2 h1 h2 => by
    refine ⟨HBW.out.trans (h2.mono (Nat.le_succ _)), fun t ht => ?_⟩
    obtain ⟨a, b, ha, hb, ea, eb⟩ := HAB.out t ht
    obtain ⟨g, c, he, hc⟩ := row_int h1 HEL.out.symm (2 * t) (by omega)
    obtain ⟨g', c', he', hc'⟩ := row_int h1 HEL.out.symm (2 * t + 1) (by omega)
    obtain ⟨rfl, _, _⟩ := Value.slice.inj he
    obtain ⟨hgg, _, _⟩ := Value.slice.inj he'
    have hgg' : g = g' := by injection hgg with h; injection h
    subst hgg'
    rw [ea] at hc
    rw [eb] at hc'
    refine ⟨g, rfl, World.block_lt_of_cell? w2 _ hc, a, b, ha, hb, hc, hc', ?_⟩
    rw [pairs_at t _ (by rw [HEL.out]; omega), ea, eb]
  have HREST := Lib.hid REST
  clear REST
  rcases hsi with ⟨rfl, hsv⟩ | ⟨rfl, hsv⟩
  all_goals
    go_wp2_with (at_builtin; go_must (refine wpList_append_own _ rfl (.tmp 11) (.tmp 13) 44 rfl (w.heap.size + 1) 3 j0 (.int .i64 0) 1 8 Try.underlying44 hj0 hw0 hw1 hw2 rfl (by decide) _ n _ rfl (HO1.out.alloc _) ⟨w1.heap.size, 0, none⟩ 1 1 [_] rfl rfl (cellNew _ _ _) (by intro u hu; simp at hu; subst hu; rfl) (by unfold maxLen; have := H99.out; omega) (by have := H99.out; omega) (by have := HS1.out; simp; omega) ?_))
    intro v2 w2 hown2 hgrow hnil
    have hbw2 := ((HB1.out.alloc HS1.out (.cells #[.int .i64 (s : Int)] 3)).grown (by rw [hsv]; exact hgrow) (by have := HS1.out; simp; omega) (fun r hr => (HO1.out.lt r hr).1))
    have hown3 : w2.ownsRow (w.heap.size + 1) 3 1 v2 (2 * k) (bsN (dg ++ [s])) := by
      rw [bsN_snoc, hsv, ← HKK.out]
      exact hown2
    obtain ⟨p2, c2, rfl⟩ := own_slice hown3
    have HR := Lib.hid (HREST.out w2 p2 c2 hown3 hbw2)
    clear hown2 hown3 hbw2 hgrow hnil b0 b1 b2 hsv
    have hcast : ((2 * k : Nat) : Int) = 2 * (k : Int) := by omega
    go_wp2
    go_loopw [5, 6] (fun sv i wr => Below w2.heap.size w2 wr ∧ ∃ t : Nat, t ≤ k ∧ i = .int .i64 (2 * (t : Int)) ∧ wr.ownsRow w2.heap.size 5 1 sv t (bsU ((pairs (dg ++ [s])).take t))) (fun _ i _ => 2 * k - (intOf i).toNat)
    case atStart => exact ⟨Below.refl _ _, 0, Nat.zero_le _, rfl, World.ownsRow_nil _ _ _ _⟩
    case round =>
      obtain ⟨hbw, t, ht, rfl, hown⟩ := hrel
      obtain ⟨p3, c3, rfl⟩ := own_slice hown
      have HBR := Lib.hid hbw
      have HO := Lib.hid hown
      clear hbw hown
      by_cases hlt : t < k
      · obtain ⟨g, rfl, hg, da, db, hda, hdb, hc1, hc2, hbs⟩ := HR.out.2 t hlt
        have HT := Lib.hid hbs
        have H1 := Lib.hid hc1
        have H2 := Lib.hid hc2
        have HBB := Lib.hid hg
        have H0 : Hid (((fun W : World => W.cell? ⟨g, 2 * t, none⟩ = some (.int .i64 (da : Int)) ∧ W.cell? ⟨g, 2 * t + 1, none⟩ = some (.int .i64 (db : Int)) ∧ ApS w2 W) wr.drew)) := Lib.hid (ApS.mk2 hg hc1 hc2 (show Below w2.heap.size w2 wr.drew from HBR.out.drew))
        have HDA := Lib.hid (And.intro hda hdb)
        obtain ⟨q0, hq⟩ : ∃ q : Nat, q = 2 * t := ⟨_, rfl⟩
        have hqe : 2 * (t : Int) = (q0 : Int) := by omega
        rw [hqe]
        rw [← hq] at H0 H1 H2
        have i1 : (0 : Int) ≤ (q0 : Int) := by omega
        have i2 : (q0 : Int) < 2 * (k : Int) := by omega
        have i3 : (q0 : Int) + 1 < 2 * (k : Int) := by omega
        have i4 : (0 : Int) ≤ (q0 : Int) + 1 := by omega
        have hwq : IntKind.i64.wrap ((q0 : Int) + 1) = (q0 : Int) + 1 := by rw [IntKind.wrap_i64]; omega
        have HQ := Lib.hid hq
        clear hbs hc1 hc2 hg hq hqe
        go_wp2
        go_region_held3 (fun W => W.cell? ⟨g, q0, none⟩ = some (.int .i64 (da : Int)) ∧ W.cell? ⟨g, q0 + 1, none⟩ = some (.int .i64 (db : Int)) ∧ ApS w2 W)
          (first | exact H0.out | exact ApS.mk2 HBB.out H1.out H2.out (by assumption) | exact ApS.new2 HBB.out H1.out H2.out (by assumption))
          (first
            | ((refine step_append_lies _ (by rfl) (.tmp 21) (.tmp 34) 22 (by rfl) w2.heap.size 5 i0 (.int .u8 0) 1 1 Try.underlying22 hi0 hz0 hz1 hz2 rfl (by decide) _ t (bsU ((pairs (dg ++ [s])).take t)) (by rfl) (own_kept HO.out ((below_new wr _).drew)) ⟨wr.heap.size, 0, none⟩ 1 1 _ (by rfl) (by rfl) (World.news_of_block (heap_alloc_new _ _)) (by intro u hu; simp at hu; subst hu; rfl) (by omega) (by unfold maxLen; omega) (by omega) (by have := HBR.out.size; simp; omega) _ rfl ?_); intro g5 cap w5 hown5 hgrow hat hlt1; have hb5 := ApS.app HBR.out HO.out hgrow))
        have hown6 : w5.ownsRow w2.heap.size 5 1 (.slice (some ⟨g5, 0, none⟩) (t + 1) cap) (t + 1) (bsU ((pairs (dg ++ [s])).take (t + 1))) := by
          rw [HT.out, bsU_snoc, ← pair_wrap HDA.out.1 HDA.out.2]
          exact hown5
        have HO2 := Lib.hid hown6
        have HB2 : Hid (Below w2.heap.size w2 w5) := Lib.hid hb5
        clear hown5 hown6 hat hlt1 hgrow hb5 hwq
        go_wp2
        go_roundw
        case rel => exact ⟨HB2.out, t + 1, by omega, by have := HQ.out; congr 1; omega, HO2.out⟩
        case measure => simp [intOf]; omega
      · obtain rfl : t = k := by omega
        have HO2 : Hid (Hold wr w.heap.size (.slice p3 t c3) pk) := Lib.hid (by
          have h := HO.out
          rw [List.take_of_length_le (by rw [HPL.out]; exact Nat.le_refl _)] at h
          unfold Hold
          rw [HP.out]
          exact own_base (own_len h HPL.out rfl) HR.out.1.size)
        have HB9 := Lib.hid (HR.out.1.trans (HBR.out.mono HR.out.1.size))
        clear hlt
        go_wp2
        go_ret
        exact ⟨_, rfl, HO2.out, HB9.out⟩

end E
end Go.Proofs.Ytfkenoehoocobaa

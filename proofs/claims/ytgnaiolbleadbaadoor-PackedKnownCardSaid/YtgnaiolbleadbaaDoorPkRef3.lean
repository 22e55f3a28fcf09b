/- The document's own Pack, Unpack, Offset: their contracts, and that they are those of the program. -/
import Derived.Test.YtgnaiolbleadbaaDoorPkRef2
namespace Go.Proofs.YtgnaiolbleadbaaDoor
open Go.RowKit Go.Shelf
set_option linter.unusedVariables false
namespace E

theorem getD_none (l : List (Fin 16)) (i : Nat) (h : l.length ≤ i) : l.getD i 0 = 0 := by
  rw [List.getD_eq_getElem?_getD, List.getElem?_eq_none h]; rfl
theorem rgtL_rev (l : List (Fin 16)) (n t : Nat) (h : t < n) : (rgtL l n).getD t 0 = l.reverse.getD (n - 1 - t) 0 := by
  rw [rgtL_getD l n t h]
  by_cases hc : l.length + t < n
  · rw [if_pos hc, getD_none _ _ (by simp; omega)]
  · rw [if_neg hc, List.getD_eq_getElem?_getD, List.getD_eq_getElem?_getD, List.getElem?_reverse (by omega)]
    congr 2; omega
theorem getD_app (l : List (Fin 16)) (s : Fin 16) (i : Nat) : (l ++ [s]).getD i 0 = if i < l.length then l.getD i 0 else if i = l.length then s else 0 := by
  rw [List.getD_eq_getElem?_getD, List.getD_eq_getElem?_getD]
  by_cases h : i < l.length
  · rw [if_pos h, List.getElem?_append_left h]
  · rw [if_neg h, List.getElem?_append_right (by omega)]
    by_cases h2 : i = l.length
    · rw [if_pos h2, h2]; simp
    · rw [if_neg h2, List.getElem?_eq_none (by simp; omega)]; rfl
theorem nib_bytL (l : List (Fin 16)) (k p : Nat) (hp : p < 2 * k) : nib (bytL l k) p = l.getD (2 * k - 1 - p) 0 := by
  have hg : ∀ i, i < k → gt (bytL l k) i = mk (l.getD (2 * i) 0) (l.getD (2 * i + 1) 0) := fun i hi => by
    rw [gt_lt (by rw [bytL_len]; exact hi)]
    simp [bytL]
  unfold nib
  rw [bytL_len, hg _ (by omega)]
  by_cases h0 : p % 2 = 0
  · rw [if_pos h0, lo_mk]; congr 1; omega
  · rw [if_neg h0, hi_mk]; congr 1; omega
theorem nib_row (D : List (Fin 16)) (s : Fin 16) (n p : Nat) (hp : p < 2 * n) : nib (bytL (rgtL D (2 * n - 1) ++ [s]) n) p = if p = 0 then s else D.reverse.getD (p - 1) 0 := by
  rw [nib_bytL _ _ _ hp, getD_app, rgtL_len]
  by_cases h0 : p = 0
  · subst h0
    rw [if_neg (by omega), if_pos (by omega), if_pos rfl]
  · rw [if_pos (by omega), if_neg h0, rgtL_rev _ _ _ (by omega)]
    congr 1; omega
theorem dgsL_get (l : List UInt8) (i : Nat) (h : i < l.length) : (dgsL l).getD (2 * i) 0 = hi (gt l i) ∧ (dgsL l).getD (2 * i + 1) 0 = lo (gt l i) := by
  induction l generalizing i with
  | nil => simp at h
  | cons x l ih =>
    have e : dgsL (x :: l) = hi x :: lo x :: dgsL l := by simp [dgsL]
    cases i with
    | zero => rw [e]; exact ⟨rfl, rfl⟩
    | succ i =>
      have := ih i (by simpa using h)
      rw [e, show 2 * (i + 1) = 2 * i + 1 + 1 by omega]
      exact this
theorem dgsL_rev (l : List UInt8) (i : Nat) : (dgsL l).reverse.getD i 0 = if i < 2 * l.length then nib l i else 0 := by
  by_cases h : i < 2 * l.length
  · rw [if_pos h, List.getD_eq_getElem?_getD, List.getElem?_reverse (by rw [dgsL_len]; exact h), ← List.getD_eq_getElem?_getD, dgsL_len]
    have hk := dgsL_get l (l.length - 1 - i / 2) (by omega)
    unfold nib
    by_cases h0 : i % 2 = 0
    · rw [if_pos h0, ← hk.2]; congr 1; omega
    · rw [if_neg h0, ← hk.1]; congr 1; omega
  · rw [if_neg h, getD_none _ _ (by rw [List.length_reverse, dgsL_len]; omega)]
theorem lo_rev (l : List UInt8) (i : Nat) : (l.map lo).reverse.getD i 0 = if i < l.length then nib l (2 * i) else 0 := by
  by_cases h : i < l.length
  · rw [if_pos h, List.getD_eq_getElem?_getD, List.getElem?_reverse (by simpa using h), List.getElem?_map, List.length_map, List.getElem?_eq_getElem (by omega)]
    unfold nib
    rw [if_pos (by omega), gt_lt (by omega)]
    simp
  · rw [if_neg h, getD_none _ _ (by simpa using h)]
theorem off_eq (ds bs : List UInt8) (h : 1 ≤ ds.length) : bytL (rgtL (dgsL bs) (2 * ds.length - 1) ++ [lo (gt ds (ds.length - 1))]) ds.length = offL ds bs :=
  nib_ext (by rw [bytL_len, offL_len]) fun p hp => by
    rw [bytL_len] at hp
    rw [nib_row _ _ _ _ hp, nib_off _ _ _ hp]
    by_cases h0 : p = 0
    · rw [if_pos h0, if_pos h0]
      unfold nib
      rw [if_pos (by omega)]
      rfl
    · rw [if_neg h0, if_neg h0, dgsL_rev]
theorem pack_eq (bs : List UInt8) (n : Nat) (h : 1 ≤ bs.length) : bytL (rgtL (bs.map lo) (2 * n - 1) ++ [hi (gt bs (bs.length - 1))]) n = packL bs n :=
  nib_ext (by rw [bytL_len, packL_len]) fun p hp => by
    rw [bytL_len] at hp
    rw [nib_row _ _ _ _ hp, nib_pack _ _ _ hp]
    by_cases h0 : p = 0
    · rw [if_pos h0, if_pos h0]
      unfold nib
      rw [if_neg (by omega)]
      rfl
    · rw [if_neg h0, if_neg h0, lo_rev]
theorem enc_eq (neg : Bool) (dl : List UInt8) (n : Nat) : bytL (rgtL (dl.map dgt) (2 * n - 1) ++ [sgn neg]) n = encL neg dl n :=
  nib_ext (by rw [bytL_len, encL_len]) fun p hp => by
    rw [bytL_len] at hp
    rw [nib_row _ _ _ _ hp, nib_enc _ _ _ _ hp]
    rfl
/-- The bytes of zones and digits. -/
def zonR (z : Fin 16) (D : List (Fin 16)) (n : Nat) : List UInt8 := (List.range n).map fun i => mk (if i = n - 1 then z else 15) (D.getD i 0)
theorem zonR_len (z : Fin 16) (D : List (Fin 16)) (n : Nat) : (zonR z D n).length = n := by simp [zonR]
theorem nib_zonR (z : Fin 16) (D : List (Fin 16)) (n p : Nat) (hp : p < 2 * n) : nib (zonR z D n) p = if p = 1 then z else if p % 2 = 0 then D.getD (n - 1 - p / 2) 0 else 15 := by
  have hg : ∀ i, i < n → gt (zonR z D n) i = mk (if i = n - 1 then z else 15) (D.getD i 0) := fun i hi => by
    rw [gt_lt (by rw [zonR_len]; exact hi)]
    simp [zonR]
  unfold nib
  rw [zonR_len, hg _ (by omega)]
  by_cases h0 : p % 2 = 0
  · rw [if_pos h0, lo_mk, if_neg (by omega), if_pos h0]
  · rw [if_neg h0, hi_mk]
    by_cases h1 : p = 1
    · rw [if_pos h1, if_pos (by omega)]
    · rw [if_neg h1, if_neg h0, if_neg (by omega)]
theorem zon_eq (neg : Bool) (dl : List UInt8) (n : Nat) : zonR (sgn neg) (rgtL (dl.map dgt) n) n = zonL neg dl n :=
  nib_ext (by rw [zonR_len, zonL_len]) fun p hp => by
    rw [zonR_len] at hp
    rw [nib_zonR _ _ _ _ hp, nib_zon _ _ _ _ hp]
    by_cases h1 : p = 1
    · rw [if_pos h1, if_pos h1]
    · rw [if_neg h1, if_neg h1]
      by_cases h0 : p % 2 = 0
      · rw [if_pos h0, if_pos h0, rgtL_rev _ _ _ (by omega), show n - 1 - (n - 1 - p / 2) = p / 2 by omega]
        rfl
      · rw [if_neg h0, if_neg h0]
theorem unpack_eq (bs : List UInt8) (n : Nat) (h : 1 ≤ bs.length) : zonR (lo (gt bs (bs.length - 1))) (rgtL ((dgsL bs).take (2 * bs.length - 1)) n) n = unpackL bs n :=
  nib_ext (by rw [zonR_len, unpackL_len]) fun p hp => by
    rw [zonR_len] at hp
    rw [nib_zonR _ _ _ _ hp, nib_unpack _ _ _ hp]
    by_cases h1 : p = 1
    · rw [if_pos h1, if_pos h1]
      unfold nib
      rw [if_pos (by omega)]
      rfl
    · rw [if_neg h1, if_neg h1]
      by_cases h0 : p % 2 = 0
      · rw [if_pos h0, if_pos h0, rgtL_getD _ _ _ (by omega), List.length_take, dgsL_len, Nat.min_eq_left (by omega)]
        by_cases hc : p / 2 < 2 * bs.length - 1
        · rw [if_neg (by omega), if_pos hc]
          have hr := dgsL_rev bs (p / 2 + 1)
          rw [if_pos (by omega), List.getD_eq_getElem?_getD, List.getElem?_reverse (by rw [dgsL_len]; omega), dgsL_len, ← List.getD_eq_getElem?_getD] at hr
          rw [← hr, List.getD_eq_getElem?_getD, List.getElem?_take_of_lt (by omega), ← List.getD_eq_getElem?_getD]
          congr 1; omega
        · rw [if_pos (by omega), if_neg hc]
      · rw [if_neg h0, if_neg h0]

theorem lo_wrap64 (x : UInt8) : (wrap64 (x.toNat : Int)).tmod 16 = ((lo x).val : Int) := all256 (p := fun x => (wrap64 (x.toNat : Int)).tmod 16 = ((lo x).val : Int)) (by decide +kernel) x
/-- What a move of the document's own leaves: a row; nil, where a size is invalid. -/
def RmPost (w : World) (ok : Bool) (l : List UInt8) (e : Ending) (w' : World) : Prop := (ok = true ∧ RuPost w l e w') ∨ (ok = false ∧ New w (.slice none 0 0) e w')
theorem roff_no (p q : Option Addr) (m k c d : Nat) (w : World) (h : szB m k = false) : Calls Tryd.prog 23 #[.slice p m c, .slice q k d] w (New w (.slice none 0 0)) := by
  by_cases h1 : 1 ≤ m ∧ m ≤ 16
  · have h2 : ¬ (1 ≤ k ∧ k ≤ 16) := fun h2 => by
      unfold szB at h
      rw [decide_eq_true h1, decide_eq_true (by omega)] at h
      cases h
    have hs1 := fun W => size_any (m : Int) W
    have hs2 := fun W => size_any (k : Int) W
    rw [decide_eq_true (by omega)] at hs1
    rw [decide_eq_false (by omega)] at hs2
    have S1 := Lib.hid hs1
    have S2 := Lib.hid hs2
    clear hs1 hs2 h h2
    go_enter Tryd.func23, Tryd.ntmps23
    go_wp2_with fail
    refine (S1.out _).mono ?_
    rintro e w' ⟨rfl, rfl⟩
    go_wp2_with fail
    refine (S2.out _).mono ?_
    rintro e w' ⟨rfl, rfl⟩
    go_wp2
    go_ret
    exact ⟨rfl, Below.refl _ _⟩
  · have hs1 := fun W => size_any (m : Int) W
    rw [decide_eq_false (by omega)] at hs1
    have S1 := Lib.hid hs1
    clear hs1 h
    go_enter Tryd.func23, Tryd.ntmps23
    go_wp2_with fail
    refine (S1.out _).mono ?_
    rintro e w' ⟨rfl, rfl⟩
    go_wp2
    go_ret
    exact ⟨rfl, Below.refl _ _⟩
set_option maxRecDepth 100000 in
set_option maxHeartbeats 1000000 in
theorem roff_yes (p q : Option Addr) (c d : Nat) (ds bs : List UInt8) (w : World) (h1 : 1 ≤ ds.length) (h2 : ds.length ≤ 16) (h3 : 1 ≤ bs.length) (h4 : bs.length ≤ 16) (hr : Rd w p ds) (hq : Rd w q bs) :
    Calls Tryd.prog 23 #[.slice p ds.length c, .slice q bs.length d] w (RuPost w (offL ds bs)) := by
  obtain ⟨i0, hi0, hz0, hz1, hz2⟩ := info_parts info3
  have hs1 := fun W => size_any (ds.length : Int) W
  have hs2 := fun W => size_any (bs.length : Int) W
  rw [decide_eq_true (by omega)] at hs1 hs2
  have S1 := Lib.hid hs1
  have S2 := Lib.hid hs2
  have HQ := Lib.hid hq
  have HDG := Lib.hid (fun W h => Digits_any q d bs W (by omega) h)
  have HE := Lib.hid (off_eq ds bs h1)
  have hdl := dgsL_len bs
  obtain ⟨D, hD⟩ : ∃ D, D = dgsL bs := ⟨_, rfl⟩
  rw [← hD] at HDG HE hdl
  have HDL := Lib.hid hdl
  have hlast : ∃ B off, p = some ⟨B, off, none⟩ ∧ w.cell? ⟨B, off + (ds.length - 1), none⟩ = some (.int .u8 ((gt ds (ds.length - 1)).toNat : Int)) := by
    rcases hr with h | ⟨B, off, hp, hc⟩
    · rw [h] at h1; simp at h1
    · exact ⟨B, off, hp, hc _ (by omega)⟩
  obtain ⟨B, off, rfl, hcell⟩ := hlast
  generalize gt ds (ds.length - 1) = x at *
  obtain ⟨n, hn⟩ : ∃ n, ds.length = n + 1 := ⟨ds.length - 1, by omega⟩
  rw [hn] at hcell h2 HE S1 ⊢
  rw [Nat.add_sub_cancel] at hcell
  have hlx : (wrap64 (x.toNat : Int)).tmod 16 = ((lo x).val : Int) := lo_wrap64 x
  clear hs1 hs2 hr hq hdl hD hn h1
  go_enter Tryd.func23, Tryd.ntmps23
  go_wp2_with fail
  refine (S1.out _).mono ?_
  rintro e w' ⟨rfl, rfl⟩
  go_wp2_with fail
  refine (S2.out _).mono ?_
  rintro e w' ⟨rfl, rfl⟩
  go_wp2_with fail
  refine (HDG.out _ HQ.out).mono ?_
  rintro e w1 ⟨sv, rfl, ho1, hb1⟩
  obtain ⟨p2, c2, rfl, hr2, _⟩ := ho1.rd
  have hri := right_any p2 c2 (2 * (n + 1) - 1) D w1 (by omega) (by rw [HDL.out]; omega) hr2
  have hcst : ((2 * (n + 1) - 1 : Nat) : Int) = 2 * ((n : Int) + 1) - 1 := by omega
  rw [hcst] at hri
  have HRI := Lib.hid hri
  have HB1 := Lib.hid hb1
  clear ho1 hr2 hri hb1 hcst
  generalize D.length = dl at *
  go_wp2_with fail
  refine (HRI.out).mono ?_
  rintro e w2 ⟨sv2, rfl, ho2, hb2⟩
  have HB2 := Lib.hid (bel0 HB1.out hb2)
  have HO2 := Lib.hid ho2
  have hbs1 := HB1.out.size
  have hbs2 := hb2.size
  clear hb2 ho2
  go_wp2_with (at_builtin; refine wpList_append_own _ rfl (.tmp 30) (.tmp 32) 49 rfl w1.heap.size 3 i0 (.int .i64 0) 1 8 Tryd.underlying49 hi0 hz0 hz1 hz2 rfl (by decide) _ (rgtL D (2 * (n + 1) - 1)).length _ rfl (World.ownsRow.alloc HO2.out _) ⟨w2.heap.size, 0, none⟩ 1 1 [.int .i64 ((lo x).val : Int)] rfl rfl (cellNew _ _ _) (by intro u hu; simp at hu; subst hu; rfl) (by rw [rgtL_len]; unfold maxLen; omega) (by rw [rgtL_len]; omega) (by simp; omega) ?_)
  intro v' w3 hown' hgrow _
  have hb3 : Below w.heap.size w w3 := (HB2.out.alloc HB2.out.size _).grown hgrow (by simp; omega) (fun r hr => by have := (World.ownsRow.lt HO2.out r hr).1; omega)
  have hlen : (rgtL D (2 * (n + 1) - 1) ++ [lo x]).length = 2 * (n + 1) := by rw [List.length_append, rgtL_len, List.length_singleton]; omega
  have ho3 : HoldI w3 w1.heap.size v' (rgtL D (2 * (n + 1) - 1) ++ [lo x]) := by
    unfold HoldI
    rw [bsI_snoc, List.length_append, List.length_singleton]
    exact hown'
  obtain ⟨p3, c3, rfl, hr3, _⟩ := ho3.rd
  have hby := Bytes_any p3 c3 (n + 1) _ w3 hlen (by omega) hr3
  rw [HE.out] at hby
  have HBY := Lib.hid hby
  have HB3 := Lib.hid hb3
  clear hown' hgrow hb3 ho3 hr3 hby HE
  generalize (rgtL D (2 * (n + 1) - 1) ++ [lo x]).length = rl at *
  clear hlen
  go_wp2_with fail
  refine (HBY.out).mono ?_
  rintro e w4 ⟨sv4, rfl, ho4, hb4⟩
  have HB4 := Lib.hid (bel0 HB3.out hb4)
  have HO4 : Hid (Hold w4 w.heap.size sv4 (offL ds bs)) := Lib.hid (ho4.base HB3.out.size)
  clear hb4 ho4
  go_wp2
  go_ret
  exact ⟨_, rfl, HO4.out, HB4.out⟩
theorem roff_any (p q : Option Addr) (c d : Nat) (ds bs : List UInt8) (w : World) (hr : Rd w p ds) (hq : Rd w q bs) :
    Calls Tryd.prog 23 #[.slice p ds.length c, .slice q bs.length d] w (RmPost w (szB ds.length bs.length) (offL ds bs)) := by
  cases h : szB ds.length bs.length
  · exact (roff_no p q _ _ c d w h).mono fun e w' h => .inr ⟨rfl, h⟩
  · unfold szB at h
    simp only [Bool.and_eq_true, decide_eq_true_eq] at h
    exact (roff_yes p q c d ds bs w (by omega) (by omega) (by omega) (by omega) hr hq).mono fun e w' h => .inl ⟨rfl, h⟩

end E
end Go.Proofs.YtgnaiolbleadbaaDoor

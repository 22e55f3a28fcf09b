/- The document's own Pack, Unpack, Offset: their contracts, and that they are those of the program. -/
import Derived.Test.YtlpekknhaaddcaaDoorPkRef2
namespace Go.Proofs.YtlpekknhaaddcaaDoor
open Go.RowKit Go.Shelf
set_option linter.unusedVariables false
namespace E

theorem getD_none (l : List (Fin 16)) (i : Nat) (h : l.length ≤ i) : l.getD i 0 = 0 := by
  rw [List.getD_eq_getElem?_getD, List.getElem?_eq_none h]; rfl
theorem rgtL_rev (l : List (Fin 16)) (n t : Nat) (h : t < n) : (rgtL l n).getD t 0 = l.reverse.getD (n - 1 - t) 0 := by
  rw [rgtL_getD l n t h]
  by_cases hc : l.length + t < n
  · rw [if_pos hc, getD_none _ _ (by simp; omega)]
  · rw [if_neg hc, List.getD_eq_getElem?_getD, List.getD_eq_getElem?_getD, List.getElem?_reverse (by omega)]
    congr 2; omega
theorem getD_app (l : List (Fin 16)) (s : Fin 16) (i : Nat) : (l ++ [s]).getD i 0 = if i < l.length then l.getD i 0 else if i = l.length then s else 0 := by
  rw [List.getD_eq_getElem?_getD, List.getD_eq_getElem?_getD]
  by_cases h : i < l.length
  · rw [if_pos h, List.getElem?_append_left h]
  · rw [if_neg h, List.getElem?_append_right (by omega)]
    by_cases h2 : i = l.length
    · rw [if_pos h2, h2]; simp
    · rw [if_neg h2, List.getElem?_eq_none (by simp; omega)]; rfl
theorem nib_bytL (l : List (Fin 16)) (k p : Nat) (hp : p < 2 * k) : nib (bytL l k) p = l.getD (2 * k - 1 - p) 0 := by
  have hg : ∀ i, i < k → gt (bytL l k) i = mk (l.getD (2 * i) 0) (l.getD (2 * i + 1) 0) := fun i hi => by
    rw [gt_lt (by rw [bytL_len]; exact hi)]
    simp [bytL]
  unfold nib
  rw [bytL_len, hg _ (by omega)]
  by_cases h0 : p % 2 = 0
  · rw [if_pos h0, lo_mk]; congr 1; omega
  · rw [if_neg h0, hi_mk]; congr 1; omega
theorem nib_row (D : List (Fin 16)) (s : Fin 16) (n p : Nat) (hp : p < 2 * n) : nib (bytL (rgtL D (2 * n - 1) ++ [s]) n) p = if p = 0 then s else D.reverse.getD (p - 1) 0 := by
  rw [nib_bytL _ _ _ hp, getD_app, rgtL_len]
  by_cases h0 : p = 0
  · subst h0
    rw [if_neg (by omega), if_pos (by omega), if_pos rfl]
  · rw [if_pos (by omega), if_neg h0, rgtL_rev _ _ _ (by omega)]
    congr 1; omega
theorem dgsL_get (l : List UInt8) (i : Nat) (h : i < l.length) : (dgsL l).getD (2 * i) 0 = hi (gt l i) ∧ (dgsL l).getD (2 * i + 1) 0 = lo (gt l i) := by
  induction l generalizing i with
  | nil => simp at h
  | cons x l ih =>
    have e : dgsL (x :: l) = hi x :: lo x :: dgsL l := by simp [dgsL]
    cases i with
    | zero => rw [e]; exact ⟨rfl, rfl⟩
    | succ i =>
      have := ih i (by simpa using h)
      rw [e, show 2 * (i + 1) = 2 * i + 1 + 1 by omega]
      exact this
theorem dgsL_rev (l : List UInt8) (i : Nat) : (dgsL l).reverse.getD i 0 = if i < 2 * l.length then nib l i else 0 := by
  by_cases h : i < 2 * l.length
  · rw [if_pos h, List.getD_eq_getElem?_getD, List.getElem?_reverse (by rw [dgsL_len]; exact h), ← List.getD_eq_getElem?_getD, dgsL_len]
    have hk := dgsL_get l (l.length - 1 - i / 2) (by omega)
    unfold nib
    by_cases h0 : i % 2 = 0
    · rw [if_pos h0, ← hk.2]; congr 1; omega
    · rw [if_neg h0, ← hk.1]; congr 1; omega
  · rw [if_neg h, getD_none _ _ (by rw [List.length_reverse, dgsL_len]; omega)]
theorem lo_rev (l : List UInt8) (i : Nat) : (l.map lo).reverse.getD i 0 = if i < l.length then nib l (2 * i) else 0 := by
  by_cases h : i < l.length
  · rw [if_pos h, List.getD_eq_getElem?_getD, List.getElem?_reverse (by simpa using h), List.getElem?_map, List.length_map, List.getElem?_eq_getElem (by omega)]
    unfold nib
    rw [if_pos (by omega), gt_lt (by omega)]
    simp
  · rw [if_neg h, getD_none _ _ (by simpa using h)]
theorem off_eq (ds bs : List UInt8) (h : 1 ≤ ds.length) : bytL (rgtL (dgsL bs) (2 * ds.length - 1) ++ [lo (gt ds (ds.length - 1))]) ds.length = offL ds bs :=
  nib_ext (by rw [bytL_len, offL_len]) fun p hp => by
    rw [bytL_len] at hp
    rw [nib_row _ _ _ _ hp, nib_off _ _ _ hp]
    by_cases h0 : p = 0
    · rw [if_pos h0, if_pos h0]
      unfold nib
      rw [if_pos (by omega)]
      rfl
    · rw [if_neg h0, if_neg h0, dgsL_rev]
theorem pack_eq (bs : List UInt8) (n : Nat) (h : 1 ≤ bs.length) : bytL (rgtL (bs.map lo) (2 * n - 1) ++ [hi (gt bs (bs.length - 1))]) n = packL bs n :=
  nib_ext (by rw [bytL_len, packL_len]) fun p hp => by
    rw [bytL_len] at hp
    rw [nib_row _ _ _ _ hp, nib_pack _ _ _ hp]
    by_cases h0 : p = 0
    · rw [if_pos h0, if_pos h0]
      unfold nib
      rw [if_neg (by omega)]
      rfl
    · rw [if_neg h0, if_neg h0, lo_rev]
theorem enc_eq (neg : Bool) (dl : List UInt8) (n : Nat) : bytL (rgtL (dl.map dgt) (2 * n - 1) ++ [sgn neg]) n = encL neg dl n :=
  nib_ext (by rw [bytL_len, encL_len]) fun p hp => by
    rw [bytL_len] at hp
    rw [nib_row _ _ _ _ hp, nib_enc _ _ _ _ hp]
    rfl
/-- The bytes of zones and digits. -/
def zonR (z : Fin 16) (D : List (Fin 16)) (n : Nat) : List UInt8 := (List.range n).map fun i => mk (if i = n - 1 then z else 15) (D.getD i 0)
theorem zonR_len (z : Fin 16) (D : List (Fin 16)) (n : Nat) : (zonR z D n).length = n := by simp [zonR]
theorem nib_zonR (z : Fin 16) (D : List (Fin 16)) (n p : Nat) (hp : p < 2 * n) : nib (zonR z D n) p = if p = 1 then z else if p % 2 = 0 then D.getD (n - 1 - p / 2) 0 else 15 := by
  have hg : ∀ i, i < n → gt (zonR z D n) i = mk (if i = n - 1 then z else 15) (D.getD i 0) := fun i hi => by
    rw [gt_lt (by rw [zonR_len]; exact hi)]
    simp [zonR]
  unfold nib
  rw [zonR_len, hg _ (by omega)]
  by_cases h0 : p % 2 = 0
  · rw [if_pos h0, lo_mk, if_neg (by omega), if_pos h0]
  · rw [if_neg h0, hi_mk]
    by_cases h1 : p = 1
    · rw [if_pos h1, if_pos (by omega)]
    · rw [if_neg h1, if_neg h0, if_neg (by omega)]
theorem zon_eq (neg : Bool) (dl : List UInt8) (n : Nat) : zonR (sgn neg) (rgtL (dl.map dgt) n) n = zonL neg dl n :=
  nib_ext (by rw [zonR_len, zonL_len]) fun p hp => by
    rw [zonR_len] at hp
    rw [nib_zonR _ _ _ _ hp, nib_zon _ _ _ _ hp]
    by_cases h1 : p = 1
    · rw [if_pos h1, if_pos h1]
    · rw [if_neg h1, if_neg h1]
      by_cases h0 : p % 2 = 0
      · rw [if_pos h0, if_pos h0, rgtL_rev _ _ _ (by omega), show n - 1 - (n - 1 - p / 2) = p / 2 by omega]
        rfl
      · rw [if_neg h0, if_neg h0]
theorem unpack_eq (bs : List UInt8) (n : Nat) (h : 1 ≤ bs.length) : zonR (lo (gt bs (bs.length - 1))) (rgtL ((dgsL bs).take (2 * bs.length - 1)) n) n = unpackL bs n :=
  nib_ext (by rw [zonR_len, unpackL_len]) fun p hp => by
    rw [zonR_len] at hp
    rw [nib_zonR _ _ _ _ hp, nib_unpack _ _ _ hp]
    by_cases h1 : p = 1
    · rw [if_pos h1, if_pos h1]
      unfold nib
      rw [if_pos (by omega)]
      rfl
    · rw [if_neg h1, if_neg h1]
      by_cases h0 : p % 2 = 0
      · rw [if_pos h0, if_pos h0, rgtL_getD _ _ _ (by omega), List.length_take, dgsL_len, Nat.min_eq_left (by omega)]
        by_cases hc : p / 2 < 2 * bs.length - 1
        · rw [if_neg (by omega), if_pos hc]
          have hr := dgsL_rev bs (p / 2 + 1)
          rw [if_pos (by omega), List.getD_eq_getElem?_getD, List.getElem?_reverse (by rw [dgsL_len]; omega), dgsL_len, ← List.getD_eq_getElem?_getD] at hr
          rw [← hr, List.getD_eq_getElem?_getD, List.getElem?_take_of_lt (by omega), ← List.getD_eq_getElem?_getD]
          congr 1; omega
        · rw [if_pos (by omega), if_neg hc]
      · rw [if_neg h0, if_neg h0]

theorem lo_wrap64 (x : UInt8) : (wrap64 (x.toNat : Int)).tmod 16 = ((lo x).val : Int) := all256 (p := fun x => (wrap64 (x.toNat : Int)).tmod 16 = ((lo x).val : Int)) (by decide +kernel) x
/-- What a move of the document's own leaves: a row; nil, where a size is invalid. -/
def RmPost (w : World) (ok : Bool) (l : List UInt8) (e : Ending) (w' : World) : Prop := (ok = true ∧ RuPost w l e w') ∨ (ok = false ∧ New w (.slice none 0 0) e w')
end E
end Go.Proofs.YtlpekknhaaddcaaDoor

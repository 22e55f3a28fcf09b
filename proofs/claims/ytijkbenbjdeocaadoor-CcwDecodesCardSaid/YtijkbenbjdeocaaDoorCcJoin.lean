/- The bytes of fullwords, joined. -/
import Derived.Test.YtijkbenbjdeocaaDoorCcOps
namespace Go.Proofs.YtijkbenbjdeocaaDoor
open Go.RowKit
set_option linter.unusedVariables false
namespace E

def w4I (v : Int) : List Int := [v / 16777216, v / 65536 % 256, v / 256 % 256, v % 256]
/-- The bytes of the first k of n words. -/
def fbL (ws : List Int) (n : Nat) : Nat → List Int
  | 0 => List.replicate (4 * n) 0
  | k + 1 => W.putL (fbL ws n k) (4 * k) (w4I (ws.getD k 0))
theorem fbL_len (ws : List Int) (n : Nat) : ∀ k, k ≤ n → (fbL ws n k).length = 4 * n
  | 0, _ => by simp [fbL]
  | k + 1, hk => by
    have := fbL_len ws n k (by omega)
    simp [fbL, W.putL, w4I, this]
    omega
theorem rd_bx {X : World} {B : Nat} {l : List Int} (h : X.heap[B]? = some (.cells (W.bs l).toArray 5 (0, 0))) : W.Rd X (some ⟨B, 0, none⟩) l := by
  refine .inr ⟨B, 0, rfl, fun j hj => ?_⟩
  have h1 : Bx X B 5 (W.bs l).toArray := h
  rw [Nat.zero_add, h1.cell j]
  simp [W.bs, List.getD_eq_getElem?_getD, List.getElem?_eq_getElem hj]
theorem made_bsI (n : Nat) : (madeCells (Value.cells (.int .u8 0)) (n * 1)).toList = W.bs (List.replicate n 0) := by
  rw [Nat.mul_one]
  exact (toList_madeCells_one _ n).trans (by simp [W.bs])
set_option maxRecDepth 100000 in
set_option maxHeartbeats 1000000 in
theorem join_raw (ws : List Int) (B0 n : Nat) (w : World) (hws : ∀ j, 0 ≤ ws.getD j 0 ∧ ws.getD j 0 < 4294967296) (hn : n ≤ 16) (hl : ws.length = n) (hr : ∀ j, j < n → w.cell? ⟨B0, j, none⟩ = some (.int .u32 (ws.getD j 0))) : Calls Tryd.prog 27 #[.slice (some ⟨B0, 0, none⟩) n n] w fun e w' => ∃ B, e = .returned (.slice (some ⟨B, 0, none⟩) (4 * n) (4 * n)) ∧ w.heap.size ≤ B ∧ Below w.heap.size w w' ∧ w'.heap[B]? = some (.cells (W.bs (fbL ws n n)).toArray 5 (0, 0)) := by
  obtain ⟨i0, hi, hz0, hz1, hz2⟩ := info_parts info5
  have HWS := Lib.hid hws
  have HL := Lib.hid hl
  have HR := Lib.hid hr
  have hw4 : ((4 * n : Nat) : Int) = (n : Int) * 4 := by omega
  clear hws hl hr
  go_enter Tryd.func27, Tryd.ntmps27
  go_wp2_with (at_make; refine wpList_make_full _ rfl _ _ 27 rfl w.heap.size 5 i0 (.int .u8 0) 1 Tryd.underlying27 hi hz0 hz1 .i64 .i64 ((n : Int) * 4) ((n : Int) * 4) (4 * n) rfl rfl hw4.symm hw4.symm (by rw [hz2]; omega) (by unfold maxLen; omega) (Nat.le_refl _) ?_; intro w1 hown hgrow)
  have hb1 : Below w.heap.size w w1 := (Below.refl _ _).grown hgrow (Nat.le_refl _) (by simp)
  rw [made_bsI] at hown
  obtain ⟨cur, hcur, hlen, htk, _⟩ := W.row_of hown
  have hcells : w1.heap[w.heap.size]? = some (.cells (W.bs (List.replicate (4 * n) 0)).toArray 5 (0, 0)) := by
    rw [hcur]
    have e1 : cur = W.bs (List.replicate (4 * n) 0) := by
      rw [← htk]
      exact (List.take_of_length_le (by simp [hlen])).symm
    rw [e1]
  clear hown hgrow hcur hlen htk
  go_loopw [3, 4, 5, 12] (fun b _ _ i wr => ∃ (k B : Nat), k ≤ n ∧ i = .int .i64 (k : Int) ∧ b = .slice (some ⟨B, 0, none⟩) (4 * n) (4 * n) ∧ w.heap.size ≤ B ∧ Below w.heap.size w wr ∧ wr.heap[B]? = some (.cells (W.bs (fbL ws n k)).toArray 5 (0, 0))) (fun _ _ _ i _ => n - (intOf i).toNat)
  case atStart => exact ⟨0, w.heap.size, Nat.zero_le _, rfl, rfl, Nat.le_refl _, hb1, hcells⟩
  case round =>
    clear hb1 hcells
    obtain ⟨k, B, hk, rfl, rfl, hB, hb, hc⟩ := hrel
    by_cases hlt : k < n
    · have hlt' : (k : Int) < (n : Int) := by omega
      have hcell := keepC (HR.out k hlt) hb
      have HP : Hid (Calls Tryd.prog 37 #[.slice (some ⟨B, 0, none⟩) (4 * n) (4 * n), .int .i64 ((k : Int) * 4), .int .u32 (ws.getD k 0)] wr fun e w' => e = .returned (.tuple #[.slice (some ⟨wr.heap.size + 1, 0, none⟩) (4 * n) (4 * n), .bool true]) ∧ Below wr.heap.size wr w' ∧ w'.heap[wr.heap.size + 1]? = some (.cells (W.bs (fbL ws n (k + 1))).toArray 5 (0, 0))) := Lib.hid (by
        have h1 := W.wPutFull_yes (some ⟨B, 0, none⟩) (4 * n) (4 * n) (4 * k) (fbL ws n k) (ws.getD k 0) wr (HWS.out k).1 (HWS.out k).2 (by omega) (by omega) (fbL_len ws n k hk) (rd_bx hc) (by omega)
        rw [show ((4 * k : Nat) : Int) = (k : Int) * 4 by omega] at h1
        exact h1)
      generalize ws.getD k 0 = v at hcell HP
      have HB := Lib.hid hb
      have HBS := Lib.hid hb.size
      clear hb hc
      go_wp2_with fail
      refine HP.out.mono ?_
      rintro e w2 ⟨rfl, hb2, hc2⟩
      have HB2 := Lib.hid (bel0 HB.out hb2)
      have HC2 := Lib.hid hc2
      clear hb2 hc2 HP
      go_wp2
      go_roundw
      case rel => exact ⟨k + 1, wr.heap.size + 1, hlt, by go_num, rfl, by have := HBS.out; omega, HB2.out, HC2.out⟩
      case measure => simp [intOf]; omega
    · obtain rfl : k = n := by omega
      have HB := Lib.hid hb
      have HC := Lib.hid hc
      clear hb hc
      go_wp2
      go_ret
      exact ⟨B, rfl, hB, HB.out, HC.out⟩
theorem svb_bs {w : World} {B : Nat} {L : List Int} {l : List UInt8} (h : w.heap[B]? = some (.cells (W.bs L).toArray 5 (0, 0))) (hL : L = l.map fun x => (x.toNat : Int)) (hl : l.length ≤ 1000) : SvB w (.slice (some ⟨B, 0, none⟩) l.length l.length) l := by
  refine ⟨_, _, rfl, .inr ⟨B, 0, rfl, fun j hj => ?_⟩, Nat.le_refl _, by omega, fun h => by cases h⟩
  have h1 : Bx w B 5 (W.bs L).toArray := h
  rw [Nat.zero_add, h1.cell j, hL, gt_lt hj]
  simp [W.bs, List.getElem?_eq_getElem hj]
theorem w4_bytes (b r : Int) (hb : 0 ≤ b ∧ b ≤ 255) (hr : 0 ≤ r ∧ r ≤ 16777215) : w4I (b * 16777216 + r) = (w4 b r).map fun x => (x.toNat : Int) := by
  simp only [w4, List.map_cons, List.map_nil]
  rw [by8_nat (by omega) (by omega), by8_nat (by omega) (by omega), by8_nat (by omega) (by omega), by8_nat (by omega) (by omega)]
  unfold w4I
  rw [show (b * 16777216 + r) / 16777216 = b by omega, show (b * 16777216 + r) / 65536 % 256 = r / 65536 by omega, show (b * 16777216 + r) / 256 % 256 = r / 256 % 256 by omega, show (b * 16777216 + r) % 256 = r % 256 by omega]
/-- A slice of new memory that reads as a list. -/
def NewB (w : World) (l : List UInt8) (e : Ending) (w' : World) : Prop := ∃ sv, e = .returned sv ∧ SvB w' sv l ∧ Below w.heap.size w w'
theorem join1_any (b r : Int) (B0 : Nat) (w : World) (hb : 0 ≤ b ∧ b ≤ 255) (hr : 0 ≤ r ∧ r ≤ 16777215) (h : w.cell? ⟨B0, 0, none⟩ = some (.int .u32 (b * 16777216 + r))) : Calls Tryd.prog 27 #[.slice (some ⟨B0, 0, none⟩) 1 1] w (NewB w (w4 b r)) := by
  refine (join_raw [b * 16777216 + r] B0 1 w (fun j => by
    match j with
    | 0 => exact ⟨by show 0 ≤ b * 16777216 + r; omega, by show b * 16777216 + r < 4294967296; omega⟩
    | j + 1 => exact ⟨by simp, by simp⟩) (by decide) rfl (fun j hj => by
    match j, hj with
    | 0, _ => exact h)).mono ?_
  rintro e w' ⟨B, rfl, _, h2, h3⟩
  exact ⟨_, rfl, svb_bs (l := w4 b r) h3 ((show fbL [b * 16777216 + r] 1 1 = w4I (b * 16777216 + r) by simp [fbL, W.putL, w4I, List.replicate]).trans (w4_bytes b r hb hr)) (by rw [w4_len]; omega), h2⟩
theorem join2_any (b r c s : Int) (B0 : Nat) (w : World) (hb : 0 ≤ b ∧ b ≤ 255) (hr : 0 ≤ r ∧ r ≤ 16777215) (hc : 0 ≤ c ∧ c ≤ 255) (hs : 0 ≤ s ∧ s ≤ 16777215) (h : w.cell? ⟨B0, 0, none⟩ = some (.int .u32 (b * 16777216 + r)) ∧ w.cell? ⟨B0, 1, none⟩ = some (.int .u32 (c * 16777216 + s))) : Calls Tryd.prog 27 #[.slice (some ⟨B0, 0, none⟩) 2 2] w (NewB w (w4 b r ++ w4 c s)) := by
  refine (join_raw [b * 16777216 + r, c * 16777216 + s] B0 2 w (fun j => by
    match j with
    | 0 => exact ⟨by show 0 ≤ b * 16777216 + r; omega, by show b * 16777216 + r < 4294967296; omega⟩
    | 1 => exact ⟨by show 0 ≤ c * 16777216 + s; omega, by show c * 16777216 + s < 4294967296; omega⟩
    | j + 2 => exact ⟨by simp, by simp⟩) (by decide) rfl (fun j hj => by
    match j, hj with
    | 0, _ => exact h.1
    | 1, _ => exact h.2)).mono ?_
  rintro e w' ⟨B, rfl, _, h2, h3⟩
  refine ⟨_, rfl, svb_bs (l := w4 b r ++ w4 c s) h3 ?_ (by rw [List.length_append, w4_len, w4_len]; omega), h2⟩
  rw [List.map_append, ← w4_bytes b r hb hr, ← w4_bytes c s hc hs]
  simp [fbL, W.putL, w4I, List.replicate]
end E
end Go.Proofs.YtijkbenbjdeocaaDoor

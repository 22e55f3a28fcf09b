/- The program: words as bytes. -/
import Derived.Test.YtfopjnfphlkcgaaGreatRows
import Derived.Test.YtfopjnfphlkcgaaGreatGnAddr
namespace Go.Proofs.YtfopjnfphlkcgaaGreat
open Go.RowKit Go.Shelf E
set_option linter.unusedVariables false
namespace M

def w4 (v : Int) : List Int := [v / 16777216, v / 65536 % 256, v / 256 % 256, v % 256]
/-- The bytes of the first k of n words. -/
def fbL (ws : List Int) (n : Nat) : Nat → List Int
  | 0 => List.replicate (4 * n) 0
  | k + 1 => W.putL (fbL ws n k) (4 * k) (w4 (ws.getD k 0))
theorem fbL_len (ws : List Int) (n : Nat) : ∀ k, k ≤ n → (fbL ws n k).length = 4 * n
  | 0, _ => by simp [fbL]
  | k + 1, hk => by
    have := fbL_len ws n k (by omega)
    simp [fbL, W.putL, w4, this]
    omega
theorem rd_bx {X : World} {B : Nat} {l : List Int} (h : X.heap[B]? = some (.cells (W.bs l).toArray 5 (0, 0))) : W.Rd X (some ⟨B, 0, none⟩) l := by
  refine .inr ⟨B, 0, rfl, fun j hj => ?_⟩
  have h1 : Bx X B 5 (W.bs l).toArray := h
  rw [Nat.zero_add, h1.cell j]
  simp [W.bs, List.getD_eq_getElem?_getD, List.getElem?_eq_getElem hj]
theorem made_bsI (n : Nat) : (madeCells (Value.cells (.int .u8 0)) (n * 1)).toList = W.bs (List.replicate n 0) := by
  rw [Nat.mul_one]
  exact (toList_madeCells_one _ n).trans (by simp [W.bs])
set_option maxRecDepth 100000 in
set_option maxHeartbeats 1000000 in
theorem fullBytes_any (ws : List Int) (B0 n cap : Nat) (w : World) (hws : ∀ j, 0 ≤ ws.getD j 0 ∧ ws.getD j 0 < 4294967296) (hn0 : 0 < n) (hn : n ≤ 16) (hl : ws.length = n) (hr : Row w B0 26 (ws.map (Value.int .u32)) cap) : Calls Tryz.prog 153 #[.slice (some ⟨B0, 0, none⟩) n cap] w fun e w' => ∃ B, e = .returned (.slice (some ⟨B, 0, none⟩) (4 * n) (4 * n)) ∧ w.heap.size ≤ B ∧ Below w.heap.size w w' ∧ w'.heap[B]? = some (.cells (W.bs (fbL ws n n)).toArray 5 (0, 0)) := by
  obtain ⟨i0, hi, hz0, hz1, hz2⟩ := info_parts info5
  have HWS := Lib.hid hws
  have HL := Lib.hid hl
  have HR := Lib.hid hr
  have hw4 : ((4 * n : Nat) : Int) = 4 * (n : Int) := by omega
  clear hws hl hr
  go_enter Tryz.func153, Tryz.ntmps153
  go_wp2_with (at_make; refine wpList_make_full _ rfl _ _ 31 rfl w.heap.size 5 i0 (.int .u8 0) 1 Tryz.underlying31 hi hz0 hz1 .i64 .i64 (4 * (n : Int)) (4 * (n : Int)) (4 * n) rfl rfl hw4.symm hw4.symm (by rw [hz2]; omega) (by unfold maxLen; omega) (Nat.le_refl _) ?_; intro w1 hown hgrow)
  have hb1 : Below w.heap.size w w1 := (Below.refl _ _).grown hgrow (Nat.le_refl _) (by simp)
  rw [made_bsI] at hown
  obtain ⟨cur, hcur, hlen, htk, _⟩ := W.row_of hown
  have hcells : w1.heap[w.heap.size]? = some (.cells (W.bs (List.replicate (4 * n) 0)).toArray 5 (0, 0)) := by
    rw [hcur]
    have e1 : cur = W.bs (List.replicate (4 * n) 0) := by
      rw [← htk]
      exact (List.take_of_length_le (by simp [hlen])).symm
    rw [e1]
  clear hown hgrow hcur hlen htk
  go_loopw [3, 12] (fun b i wr => ∃ (k B : Nat), k ≤ n ∧ i = .int .i64 (k : Int) ∧ b = .slice (some ⟨B, 0, none⟩) (4 * n) (4 * n) ∧ w.heap.size ≤ B ∧ Below w.heap.size w wr ∧ wr.heap[B]? = some (.cells (W.bs (fbL ws n k)).toArray 5 (0, 0))) (fun _ i _ => n - (intOf i).toNat)
  case atStart => exact ⟨0, w.heap.size, Nat.zero_le _, rfl, rfl, Nat.le_refl _, hb1, hcells⟩
  case round =>
    clear hb1 hcells
    obtain ⟨k, B, hk, rfl, rfl, hB, hb, hc⟩ := hrel
    by_cases hlt : k < n
    · have hlt' : (k : Int) < (n : Int) := by omega
      have hcell := (HR.out.below hb).cell k (by rw [List.length_map, HL.out]; exact hlt)
      have hval : (ws.map (Value.int .u32))[k]? = some (.int .u32 (ws.getD k 0)) := by
        rw [List.getElem?_map, List.getD_eq_getElem?_getD, List.getElem?_eq_getElem (by rw [HL.out]; exact hlt)]
        rfl
      rw [hval] at hcell
      clear hval
      have HP : Hid (Calls Tryz.prog 213 #[.slice (some ⟨B, 0, none⟩) (4 * n) (4 * n), .int .i64 (4 * (k : Int)), .int .u32 (ws.getD k 0)] wr fun e w' => e = .returned (.tuple #[.slice (some ⟨wr.heap.size + 1, 0, none⟩) (4 * n) (4 * n), .bool true]) ∧ Below wr.heap.size wr w' ∧ w'.heap[wr.heap.size + 1]? = some (.cells (W.bs (fbL ws n (k + 1))).toArray 5 (0, 0))) := Lib.hid (by
        have h1 := W.wPutFull_yes (some ⟨B, 0, none⟩) (4 * n) (4 * n) (4 * k) (fbL ws n k) (ws.getD k 0) wr (HWS.out k).1 (HWS.out k).2 (by omega) (by omega) (fbL_len ws n k hk) (rd_bx hc) (by omega)
        rw [show ((4 * k : Nat) : Int) = 4 * (k : Int) by omega] at h1
        exact h1)
      generalize ws.getD k 0 = v at hcell HP
      have HB := Lib.hid hb
      have HBS := Lib.hid hb.size
      clear hb hc
      go_wp2_with fail
      refine HP.out.mono ?_
      rintro e w2 ⟨rfl, hb2, hc2⟩
      have HB2 := Lib.hid (bel0 HB.out hb2)
      have HC2 := Lib.hid hc2
      clear hb2 hc2 HP
      go_wp2
      go_roundw
      case rel => exact ⟨k + 1, wr.heap.size + 1, hlt, by go_num, rfl, by have := HBS.out; omega, HB2.out, HC2.out⟩
      case measure => simp [intOf]; omega
    · obtain rfl : k = n := by omega
      have HB := Lib.hid hb
      have HC := Lib.hid hc
      clear hb hc
      go_wp2
      go_ret
      exact ⟨B, rfl, hB, HB.out, HC.out⟩

end M
end Go.Proofs.YtfopjnfphlkcgaaGreat

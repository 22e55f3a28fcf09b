/- The contracts of values, Digits and Bytes of the document's own answers. -/
import Derived.Test.YtlpekknhaaddcaaDoorPkRef
import Derived.Deep.AppendLies
import Derived.Deep.RegionHeld3
namespace Go.Proofs.YtlpekknhaaddcaaDoor
open Go.RowKit Go.Shelf
set_option linter.unusedVariables false
namespace E

theorem dgt_int (c : UInt8) (h : isD c = true) : IntKind.u8.wrap ((c.toNat : Int) - 48) = ((dgt c).val : Int) := by
  have h2 := (isD_iff c).1 h
  rw [dgt_nat h2]
  unfold IntKind.wrap
  simp [IntKind.bits, IntKind.signed]
  omega
/-- The digits of bytes, from left to right. -/
def dgsL (l : List UInt8) : List (Fin 16) := l.flatMap fun x => [hi x, lo x]
theorem dgsL_len (l : List UInt8) : (dgsL l).length = 2 * l.length := by
  induction l with
  | nil => rfl
  | cons x l ih => unfold dgsL at ih ⊢; rw [List.flatMap_cons, List.length_append, ih]; simp; omega
theorem dgsL_snoc (l : List UInt8) (x : UInt8) : dgsL (l ++ [x]) = dgsL l ++ [hi x, lo x] := by simp [dgsL]
theorem hi_wrap (x : UInt8) : IntKind.i64.wrap ((IntKind.i64.wrap (x.toNat : Int)).tdiv 16) = ((hi x).val : Int) := all256 (p := fun x => IntKind.i64.wrap ((IntKind.i64.wrap (x.toNat : Int)).tdiv 16) = ((hi x).val : Int)) (by decide +kernel) x
theorem lo_wrap (x : UInt8) : (IntKind.i64.wrap (x.toNat : Int)).tmod 16 = ((lo x).val : Int) := all256 (p := fun x => (IntKind.i64.wrap (x.toNat : Int)).tmod 16 = ((lo x).val : Int)) (by decide +kernel) x
/-- What is held of each world: w and all that lay below. -/
def ApS (w W : World) : Prop := Below w.heap.size w W
theorem ApS.mk {w W : World} {B j : Nat} {v : Value} (hB : B < w.heap.size) (hc : w.cell? ⟨B, j, none⟩ = some v) (h : ApS w W) : W.cell? ⟨B, j, none⟩ = some v ∧ ApS w W := ⟨(h.cell (p := ⟨B, j, none⟩) hB).trans hc, h⟩
theorem ApS.new {w W : World} {B j : Nat} {v : Value} {o : Obj} (hB : B < w.heap.size) (hc : w.cell? ⟨B, j, none⟩ = some v) (h : W.cell? ⟨B, j, none⟩ = some v ∧ ApS w W) : (W.alloc o).cell? ⟨B, j, none⟩ = some v ∧ ApS w (W.alloc o) :=
  ApS.mk hB hc (show Below w.heap.size w (W.alloc o) from Below.alloc h.2 (Below.size h.2) o)
theorem ApS.app {w W w' : World} {o : Obj} {n : Nat} {sv : Value} {t : TypeId} {xs : List Value} (h : Below w.heap.size w W) (hown : W.ownsRow w.heap.size t 1 sv n xs) (hg : ((W.alloc o).drew).grownBy w' sv.ownBlock) : ApS w w' :=
  ((h.alloc h.size o).drew).grown hg (by have := h.size; simp; omega) (fun r hr => (hown.lt r hr).1)
set_option maxRecDepth 100000 in
set_option maxHeartbeats 1000000 in
theorem Digits_any (p : Option Addr) (c : Nat) (l : List UInt8) (w : World) (hn : l.length ≤ 100) (hr : Rd w p l) :
    Calls Tryd.prog 77 #[.slice p l.length c] w (RiPost w (dgsL l)) := by
  obtain ⟨i0, hi0, hz0, hz1, hz2⟩ := info_parts info3
  obtain ⟨m, hm⟩ : ∃ m, m = l.length := ⟨_, rfl⟩
  have HM := Lib.hid hm
  have hcl : ∀ j, j < m → ∃ B off, p = some ⟨B, off, none⟩ ∧ B < w.heap.size ∧ w.cell? ⟨B, off + j, none⟩ = some (.int .u8 ((gt l j).toNat : Int)) := fun j hj => by
    rw [hm] at hj
    rcases hr with h0 | ⟨B, off, rfl, hc⟩
    · subst h0; simp at hj
    · exact ⟨_, _, rfl, World.block_lt_of_cell? w _ (hc j hj), hc j hj⟩
  have HC := Lib.hid hcl
  rw [← hm] at hn ⊢
  clear hr hcl hm
  go_enter Tryd.func77, Tryd.ntmps77
  go_wp2
  go_loopw [3, 4] (fun sv i wr => Below w.heap.size w wr ∧ ∃ t : Nat, t ≤ m ∧ i = .int .i64 t ∧ wr.ownsRow w.heap.size 3 1 sv (2 * t) (bsI (dgsL (l.take t)))) (fun _ i _ => m - (intOf i).toNat)
  case atStart => exact ⟨Below.refl _ _, 0, Nat.zero_le _, rfl, World.ownsRow_nil _ _ _ _⟩
  case round =>
    obtain ⟨hbw, t, ht, rfl, hown⟩ := hrel
    have HB := Lib.hid hbw
    have HO := Lib.hid hown
    clear hbw hown
    by_cases hlt : t < m
    · obtain ⟨B, off, rfl, hB, hc⟩ := HC.out t hlt
      have hcw := (HB.out.cell (p := ⟨B, off + t, none⟩) hB).trans hc
      have htk := take_one (l := l) (k := t) (by rw [← HM.out]; exact hlt)
      have HT := Lib.hid htk
      have H0 : Hid (((fun W : World => W.cell? ⟨B, off + t, none⟩ = some (.int .u8 ((gt l t).toNat : Int)) ∧ ApS w W) wr.drew)) := Lib.hid ⟨keepC hcw (Below.refl _ _).drew, HB.out.drew⟩
      have HCW := Lib.hid hc
      have i1 : (0 : Int) ≤ (t : Int) := by omega
      have i2 : (t : Int) < (m : Int) := by omega
      have HBB := Lib.hid hB
      clear htk hcw hc HC hB
      generalize gt l t = x at *
      go_wp2
      go_region_held3 (fun W => W.cell? ⟨B, off + t, none⟩ = some (.int .u8 (x.toNat : Int)) ∧ ApS w W)
        (first | exact H0.out | exact ApS.mk HBB.out HCW.out (by assumption) | exact ApS.new HBB.out HCW.out (by assumption))
        (first
          | ((refine step_append_lies _ (by rfl) (.tmp 11) (.tmp 24) 50 (by rfl) w.heap.size 3 i0 (.int .i64 0) 1 8 Tryd.underlying50 hi0 hz0 hz1 hz2 rfl (by decide) _ (2 * t) (bsI (dgsL (l.take t))) (by rfl) (own_kept HO.out ((below_new wr _).drew)) ⟨wr.heap.size, 0, none⟩ 2 2 _ (by rfl) (by rfl) (World.news_of_block (heap_alloc_new _ _)) (by intro u hu; simp at hu; rcases hu with rfl | rfl <;> rfl) (by omega) (by unfold maxLen; omega) (by omega) (by have := HB.out.size; simp; omega) _ rfl ?_); intro g cap w1 hown1 hgrow hat hlt1; have hb1 := ApS.app HB.out HO.out hgrow))
      have hown2 : w1.ownsRow w.heap.size 3 1 (.slice (some ⟨g, 0, none⟩) (2 * (t + 1)) cap) (2 * (t + 1)) (bsI (dgsL (l.take (t + 1)))) := by
        rw [HT.out, dgsL_snoc, bsI_two, ← hi_wrap, ← lo_wrap]
        exact hown1
      have HO2 := Lib.hid hown2
      have HB2 : Hid (Below w.heap.size w w1) := Lib.hid hb1
      rw [show 2 * t + 2 = 2 * (t + 1) by omega]
      clear hown1 hown2 hat hlt1 hgrow hb1
      go_wp2
      go_roundw
      case rel => exact ⟨HB2.out, t + 1, by omega, by go_num, HO2.out⟩
      case measure => simp [intOf]; omega
    · obtain rfl : t = m := by omega
      have hown := HO.out
      rw [HM.out, List.take_length, ← HM.out] at hown
      have HO2 : Hid (HoldI wr w.heap.size u3 (dgsL l)) := Lib.hid (by unfold HoldI; rw [dgsL_len, ← HM.out]; exact hown)
      clear hown
      go_wp2
      go_ret
      exact ⟨_, rfl, HO2.out, HB.out⟩

theorem mk_wrap (a b : Fin 16) : IntKind.u8.wrap (IntKind.i64.wrap (IntKind.i64.wrap (16 * (a.val : Int)) + (b.val : Int))) = ((mk a b).toNat : Int) := by
  have h : ∀ a b : Fin 16, IntKind.u8.wrap (IntKind.i64.wrap (IntKind.i64.wrap (16 * (a.val : Int)) + (b.val : Int))) = ((mk a b).toNat : Int) := by decide +kernel
  exact h a b
/-- The bytes of an even number of digits. -/
def bytL (l : List (Fin 16)) (k : Nat) : List UInt8 := (List.range k).map fun i => mk (l.getD (2 * i) 0) (l.getD (2 * i + 1) 0)
theorem bytL_len (l : List (Fin 16)) (k : Nat) : (bytL l k).length = k := by simp [bytL]
theorem bytL_succ (l : List (Fin 16)) (k : Nat) : bytL l (k + 1) = bytL l k ++ [mk (l.getD (2 * k) 0) (l.getD (2 * k + 1) 0)] := by simp [bytL, List.range_succ]
/-- A new row of bytes is returned. -/
def RuPost (w : World) (l : List UInt8) (e : Ending) (w' : World) : Prop := ∃ sv, e = .returned sv ∧ Hold w' w.heap.size sv l ∧ Below w.heap.size w w'
theorem ApS.mk2 {w W : World} {B j k : Nat} {v u : Value} (hB : B < w.heap.size) (hc : w.cell? ⟨B, j, none⟩ = some v) (hd : w.cell? ⟨B, k, none⟩ = some u) (h : ApS w W) : W.cell? ⟨B, j, none⟩ = some v ∧ W.cell? ⟨B, k, none⟩ = some u ∧ ApS w W :=
  ⟨(h.cell (p := ⟨B, j, none⟩) hB).trans hc, (h.cell (p := ⟨B, k, none⟩) hB).trans hd, h⟩
theorem ApS.new2 {w W : World} {B j k : Nat} {v u : Value} {o : Obj} (hB : B < w.heap.size) (hc : w.cell? ⟨B, j, none⟩ = some v) (hd : w.cell? ⟨B, k, none⟩ = some u) (h : W.cell? ⟨B, j, none⟩ = some v ∧ W.cell? ⟨B, k, none⟩ = some u ∧ ApS w W) :
    (W.alloc o).cell? ⟨B, j, none⟩ = some v ∧ (W.alloc o).cell? ⟨B, k, none⟩ = some u ∧ ApS w (W.alloc o) :=
  ApS.mk2 hB hc hd (show Below w.heap.size w (W.alloc o) from Below.alloc h.2.2 (Below.size h.2.2) o)
set_option maxRecDepth 100000 in
set_option maxHeartbeats 1000000 in
theorem Bytes_any (p : Option Addr) (c k : Nat) (l : List (Fin 16)) (w : World) (hl : l.length = 2 * k) (hn : k ≤ 100) (hr : RdI w p l) :
    Calls Tryd.prog 74 #[.slice p l.length c] w (RuPost w (bytL l k)) := by
  obtain ⟨i0, hi0, hz0, hz1, hz2⟩ := info_parts info5
  have hcl : ∀ j, j < 2 * k → ∃ B off, p = some ⟨B, off, none⟩ ∧ B < w.heap.size ∧ ∀ j, j < 2 * k → w.cell? ⟨B, off + j, none⟩ = some (.int .i64 ((l.getD j 0).val : Int)) := fun j hj => by
    rcases hr with h0 | ⟨B, off, rfl, hc⟩
    · subst h0; simp at hl; omega
    · exact ⟨_, _, rfl, World.block_lt_of_cell? w _ (hc j (by omega)), fun j hj => hc j (by omega)⟩
  have HC := Lib.hid hcl
  rw [hl]
  clear hr hcl hl
  have hcast : ((2 * k : Nat) : Int) = 2 * (k : Int) := by omega
  go_enter Tryd.func74, Tryd.ntmps74
  go_wp2
  go_loopw [3, 4] (fun sv i wr => Below w.heap.size w wr ∧ ∃ t : Nat, t ≤ k ∧ i = .int .i64 (2 * (t : Int)) ∧ wr.ownsRow w.heap.size 5 1 sv t (bsU (bytL l t))) (fun _ i _ => 2 * k - (intOf i).toNat)
  case atStart => exact ⟨Below.refl _ _, 0, Nat.zero_le _, rfl, World.ownsRow_nil _ _ _ _⟩
  case round =>
    obtain ⟨hbw, t, ht, rfl, hown⟩ := hrel
    have HB := Lib.hid hbw
    have HO := Lib.hid hown
    clear hbw hown
    by_cases hlt : t < k
    · obtain ⟨B, off, rfl, hB, hc⟩ := HC.out (2 * t) (by omega)
      have hc1 := hc (2 * t) (by omega)
      have hc2 := hc (2 * t + 1) (by omega)
      have hbs := bytL_succ l t
      have HT := Lib.hid hbs
      have H1 := Lib.hid hc1
      have H2 := Lib.hid hc2
      have HBB := Lib.hid hB
      generalize (l.getD (2 * t) 0) = da at *
      generalize (l.getD (2 * t + 1) 0) = db at *
      have H0 : Hid (((fun W : World => W.cell? ⟨B, off + 2 * t, none⟩ = some (.int .i64 (da.val : Int)) ∧ W.cell? ⟨B, off + (2 * t + 1), none⟩ = some (.int .i64 (db.val : Int)) ∧ ApS w W) wr.drew)) := Lib.hid (ApS.mk2 hB hc1 hc2 (show Below w.heap.size w wr.drew from HB.out.drew))
      have hda := da.isLt
      have hdb := db.isLt
      obtain ⟨q, hq⟩ : ∃ q : Nat, q = 2 * t := ⟨_, rfl⟩
      have hqe : 2 * (t : Int) = (q : Int) := by omega
      rw [hqe]
      rw [← hq] at H0 H1 H2
      have i1 : (0 : Int) ≤ (q : Int) := by omega
      have i2 : (q : Int) < 2 * (k : Int) := by omega
      have i3 : (q : Int) + 1 < 2 * (k : Int) := by omega
      have i4 : (0 : Int) ≤ (q : Int) + 1 := by omega
      have hwq : IntKind.i64.wrap ((q : Int) + 1) = (q : Int) + 1 := by rw [IntKind.wrap_i64]; omega
      have HQ := Lib.hid hq
      clear hbs hc hc1 hc2 HC hB hq hqe
      go_wp2
      go_region_held3 (fun W => W.cell? ⟨B, off + q, none⟩ = some (.int .i64 (da.val : Int)) ∧ W.cell? ⟨B, off + (q + 1), none⟩ = some (.int .i64 (db.val : Int)) ∧ ApS w W)
        (first | exact H0.out | exact ApS.mk2 HBB.out H1.out H2.out (by assumption) | exact ApS.new2 HBB.out H1.out H2.out (by assumption))
        (first
          | ((refine step_append_lies _ (by rfl) (.tmp 12) (.tmp 25) 22 (by rfl) w.heap.size 5 i0 (.int .u8 0) 1 1 Tryd.underlying22 hi0 hz0 hz1 hz2 rfl (by decide) _ t (bsU (bytL l t)) (by rfl) (own_kept HO.out ((below_new wr _).drew)) ⟨wr.heap.size, 0, none⟩ 1 1 _ (by rfl) (by rfl) (World.news_of_block (heap_alloc_new _ _)) (by intro u hu; simp at hu; subst hu; rfl) (by omega) (by unfold maxLen; omega) (by omega) (by have := HB.out.size; simp; omega) _ rfl ?_); intro g cap w1 hown1 hgrow hat hlt1; have hb1 := ApS.app HB.out HO.out hgrow))
      have hown2 : w1.ownsRow w.heap.size 5 1 (.slice (some ⟨g, 0, none⟩) (t + 1) cap) (t + 1) (bsU (bytL l (t + 1))) := by
        rw [HT.out, bsU_snoc, ← mk_wrap]
        exact hown1
      have HO2 := Lib.hid hown2
      have HB2 : Hid (Below w.heap.size w w1) := Lib.hid hb1
      clear hown1 hown2 hat hlt1 hgrow hb1 hwq
      go_wp2
      go_roundw
      case rel => exact ⟨HB2.out, t + 1, by omega, by have := HQ.out; congr 1; omega, HO2.out⟩
      case measure => simp [intOf]; omega
    · obtain rfl : t = k := by omega
      have HO2 : Hid (Hold wr w.heap.size u3 (bytL l t)) := Lib.hid (by unfold Hold; rw [bytL_len]; exact HO.out)
      go_wp2
      go_ret
      exact ⟨_, rfl, HO2.out, HB.out⟩

end E
end Go.Proofs.YtlpekknhaaddcaaDoor

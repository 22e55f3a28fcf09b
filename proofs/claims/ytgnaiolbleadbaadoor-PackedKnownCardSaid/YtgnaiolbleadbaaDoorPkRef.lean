/- Rows of whole numbers in memory; the contracts of size, sign, values, right and Digits of the document's own answers. -/
import Derived.Test.YtgnaiolbleadbaaDoorPkNum
import Derived.Test.YtgnaiolbleadbaaDoorPkPure
import Derived.Deep.AppendLies
import Derived.Deep.RegionHeld3
namespace Go.Proofs.YtgnaiolbleadbaaDoor
open Go.RowKit Go.Shelf
set_option linter.unusedVariables false
namespace E

/-- The cells of digits as whole numbers. -/
def bsI (l : List (Fin 16)) : List Value := l.map fun d => .int .i64 (d.val : Int)
theorem bsI_len (l : List (Fin 16)) : (bsI l).length = l.length := by simp [bsI]
theorem bsI_get (l : List (Fin 16)) (j : Nat) (hj : j < l.length) : (bsI l)[j]? = some (.int .i64 ((l.getD j 0).val : Int)) := by simp [bsI, List.getD_eq_getElem?_getD, hj]
theorem bsI_snoc (l : List (Fin 16)) (d : Fin 16) : bsI (l ++ [d]) = bsI l ++ [.int .i64 (d.val : Int)] := by simp [bsI]
theorem bsI_two (l : List (Fin 16)) (d e : Fin 16) : bsI (l ++ [d, e]) = bsI l ++ [.int .i64 (d.val : Int), .int .i64 (e.val : Int)] := by simp [bsI]
theorem info3 : (Tryd.prog.info? 3).map (fun i => (i.zero, i.size, i.bytes)) = some (some (.int .i64 0), 1, 8) := by kernel_rfl
/-- A slice of whole numbers that reads as the digits l. -/
def RdI (w : World) (p : Option Addr) (l : List (Fin 16)) : Prop := l = [] ∨ ∃ B off, p = some ⟨B, off, none⟩ ∧ ∀ j, j < l.length → w.cell? ⟨B, off + j, none⟩ = some (.int .i64 ((l.getD j 0).val : Int))
theorem RdI.below {w w' : World} {p : Option Addr} {l : List (Fin 16)} (h : RdI w p l) (hb : Below w.heap.size w w') : RdI w' p l := by
  rcases h with h | ⟨B, off, hp, hc⟩
  · exact .inl h
  · exact .inr ⟨B, off, hp, fun j hj => keepC (hc j hj) hb⟩
theorem RdI.take {w : World} {p : Option Addr} {l : List (Fin 16)} (h : RdI w p l) (k : Nat) : RdI w p (l.take k) := by
  rcases h with h | ⟨B, off, rfl, hc⟩
  · subst h; exact .inl (by simp)
  · refine .inr ⟨B, off, rfl, fun j hj => ?_⟩
    have hj' : j < l.length ∧ j < k := by simp at hj; omega
    rw [hc j hj'.1]
    simp [List.getD_eq_getElem?_getD, hj'.2]
/-- A row of the call's own that holds digits as whole numbers. -/
def HoldI (w : World) (base : Nat) (sv : Value) (l : List (Fin 16)) : Prop := w.ownsRow base 3 1 sv l.length (bsI l)
theorem HoldI.rd {w : World} {base : Nat} {sv : Value} {l : List (Fin 16)} (h : HoldI w base sv l) : ∃ p c, sv = .slice p l.length c ∧ RdI w p l ∧ l.length ≤ c ∧ c ≤ 9223372036854775807 ∧ (p = none → c = 0) := by
  have h' := h
  obtain ⟨_, h1 | ⟨g, cap, cur, hv, _, hh, hle, hm, hsz, ht⟩⟩ := h
  · obtain ⟨h2, h3⟩ := h1
    have hl : l.length = 0 := h3
    exact ⟨none, 0, by rw [h2, hl], .inl (List.length_eq_zero_iff.1 hl), by omega, by omega, fun _ => rfl⟩
  · subst hv
    refine ⟨_, _, rfl, .inr ⟨_, _, rfl, fun j hj => ?_⟩, hle, by unfold maxLen at hm; omega, fun hn => by cases hn⟩
    rw [Nat.zero_add, h'.cellAt j (by omega), bsI_get l j hj]
theorem own_base {w : World} {b1 b2 t n : Nat} {sv : Value} {xs : List Value} (h : w.ownsRow b1 t 1 sv n xs) (hb : b2 ≤ b1) : w.ownsRow b2 t 1 sv n xs := by
  obtain ⟨h0, h1 | ⟨g, cap, cur, hv, hg, hr⟩⟩ := h
  · exact ⟨h0, .inl h1⟩
  · exact ⟨h0, .inr ⟨g, cap, cur, hv, Nat.le_trans hb hg, hr⟩⟩
theorem HoldI.kept {w w' : World} {base : Nat} {sv : Value} {l : List (Fin 16)} (h : HoldI w base sv l) (hb : Below w.heap.size w w') : HoldI w' base sv l := own_kept h hb
/-- A new row of digits is returned. -/
def RiPost (w : World) (l : List (Fin 16)) (e : Ending) (w' : World) : Prop := ∃ sv, e = .returned sv ∧ HoldI w' w.heap.size sv l ∧ Below w.heap.size w w'

theorem size_any (n : Int) (w : World) : Calls Tryd.prog 32 #[.int .i64 n] w fun e w' => e = .returned (.bool (decide (1 ≤ n ∧ n ≤ 16))) ∧ w = w' := by
  by_cases h1 : 1 ≤ n
  · by_cases h2 : n ≤ 16
    · go_enter Tryd.func32, Tryd.ntmps32
      go_wp2
      go_ret
      exact ⟨by simp [h1, h2], rfl⟩
    · go_enter Tryd.func32, Tryd.ntmps32
      go_wp2
      go_ret
      exact ⟨by simp [h2], rfl⟩
  · go_enter Tryd.func32, Tryd.ntmps32
    go_wp2
    go_ret
    exact ⟨by rw [decide_eq_false (by omega)]; simp, rfl⟩
theorem sign_any (neg : Bool) (s : ByteArray) (w : World) : Calls Tryd.prog 35 #[.agg #[.bool neg, .string s]] w (New w (.int .i64 ((sgn neg).val : Int))) := by
  have HB := Lib.hid (below_new w (.cells #[.bool neg, .string s] 26))
  cases neg
  · go_enter Tryd.func35, Tryd.ntmps35
    go_wp2
    go_ret
    exact ⟨rfl, HB.out⟩
  · go_enter Tryd.func35, Tryd.ntmps35
    go_wp2
    go_ret
    exact ⟨rfl, HB.out⟩
/-- The last n of some digits, with zeros on the left. -/
def rgtL (l : List (Fin 16)) (n : Nat) : List (Fin 16) := (List.range n).map fun t => if l.length + t < n then 0 else l.getD (l.length + t - n) 0
theorem rgtL_len (l : List (Fin 16)) (n : Nat) : (rgtL l n).length = n := by simp [rgtL]
theorem rgtL_getD (l : List (Fin 16)) (n t : Nat) (h : t < n) : (rgtL l n).getD t 0 = if l.length + t < n then 0 else l.getD (l.length + t - n) 0 := by
  simp [rgtL, List.getD_eq_getElem?_getD, h]
theorem take_getD {l : List (Fin 16)} {k : Nat} (h : k < l.length) : l.take (k + 1) = l.take k ++ [l.getD k 0] := by
  rw [List.take_succ_eq_append_getElem h]
  simp [List.getD_eq_getElem?_getD, h]
set_option maxRecDepth 100000 in
theorem right_any (p : Option Addr) (c n : Nat) (l : List (Fin 16)) (w : World) (hn : n ≤ 100) (hl : l.length ≤ 100) (hr : RdI w p l) :
    Calls Tryd.prog 33 #[.slice p l.length c, .int .i64 (n : Int)] w (RiPost w (rgtL l n)) := by
  obtain ⟨i0, hi, hz0, hz1, hz2⟩ := info_parts info3
  obtain ⟨m, hm⟩ : ∃ m, m = l.length := ⟨_, rfl⟩
  have HM := Lib.hid hm
  have hcl : ∀ j, j < m → ∃ B off, p = some ⟨B, off, none⟩ ∧ B < w.heap.size ∧ w.cell? ⟨B, off + j, none⟩ = some (.int .i64 ((l.getD j 0).val : Int)) := fun j hj => by
    rw [hm] at hj
    rcases hr with h0 | ⟨B, off, rfl, hc⟩
    · subst h0; simp at hj
    · exact ⟨_, _, rfl, World.block_lt_of_cell? w _ (hc j hj), hc j hj⟩
  have HC := Lib.hid hcl
  rw [← hm] at hl ⊢
  clear hr hcl hm
  go_enter Tryd.func33, Tryd.ntmps33
  go_wp2
  go_loopw [5, 6] (fun sv i wr => Below w.heap.size w wr ∧ ∃ t : Nat, t ≤ n ∧ i = .int .i64 ((m : Int) - n + t) ∧ wr.ownsRow w.heap.size 3 1 sv t (bsI ((rgtL l n).take t))) (fun _ i _ => ((m : Int) - intOf i).toNat)
  case atStart => exact ⟨Below.refl _ _, 0, Nat.zero_le _, by simp, World.ownsRow_nil _ _ _ _⟩
  case round =>
    obtain ⟨hbw, t, ht, rfl, hown⟩ := hrel
    have HB := Lib.hid hbw
    have HO := Lib.hid hown
    clear hbw hown
    by_cases hlt : t < n
    · have hv := rgtL_getD l n t hlt
      rw [← HM.out] at hv
      have htk := take_getD (l := rgtL l n) (k := t) (by rw [rgtL_len]; exact hlt)
      have HT := Lib.hid htk
      have hi1 : (m : Int) - n + t < m := by omega
      clear htk
      by_cases hneg : m + t < n
      · rw [if_pos hneg] at hv
        have HV := Lib.hid hv
        have hi0 : (m : Int) - n + t < 0 := by omega
        clear hv
        go_wp2_with (at_builtin; refine wpList_append_own _ rfl (.tmp 19) (.tmp 20) 49 rfl (w.heap.size) 3 i0 (.int .i64 0) 1 8 Tryd.underlying49 hi hz0 hz1 hz2 rfl (by decide) _ t _ rfl (HO.out.alloc _) ⟨wr.heap.size, 0, none⟩ 1 1 [.int .i64 0] rfl rfl (cellNew _ _ _) (by intro u hu; simp at hu; subst hu; rfl) (by unfold maxLen; omega) (by omega) (by have := HB.out.size; simp; omega) ?_)
        intro v' w3 hown' hgrow _
        have hb1 := (HB.out.alloc HB.out.size _).grown hgrow (by have := HB.out.size; simp; omega) (fun r hr => (HO.out.lt r hr).1)
        clear hgrow
        go_wp2
        go_roundw
        case rel => exact ⟨hb1, t + 1, by omega, by congr 1; omega, by rw [HT.out, bsI_snoc, HV.out]; exact hown'⟩
        case measure => simp [intOf]; omega
      · rw [if_neg hneg] at hv
        have HV := Lib.hid hv
        obtain ⟨q, hq⟩ : ∃ q, q + n = m + t := ⟨m + t - n, by omega⟩
        obtain ⟨B, off, rfl, hB, hc⟩ := HC.out q (by omega)
        have hcw := (HB.out.cell (p := ⟨B, off + q, none⟩) hB).trans hc
        have he : (m : Int) - n + t = (q : Int) := by omega
        have hqm : q < m := by omega
        have he2 : m + t - n = q := by omega
        rw [he2] at hv
        have HV2 := Lib.hid hv
        rw [he]
        generalize (l.getD q 0) = dq at *
        clear hv HC hc hi1
        go_wp2_with (at_builtin; refine wpList_append_own _ rfl (.tmp 22) (.tmp 27) 49 rfl (w.heap.size) 3 i0 (.int .i64 0) 1 8 Tryd.underlying49 hi hz0 hz1 hz2 rfl (by decide) _ t _ rfl (HO.out.alloc _) ⟨wr.heap.size, 0, none⟩ 1 1 [.int .i64 (dq.val : Int)] rfl rfl (cellNew _ _ _) (by intro u hu; simp at hu; subst hu; rfl) (by unfold maxLen; omega) (by omega) (by have := HB.out.size; simp; omega) ?_)
        intro v' w3 hown' hgrow _
        have hb1 := (HB.out.alloc HB.out.size _).grown hgrow (by have := HB.out.size; simp; omega) (fun r hr => (HO.out.lt r hr).1)
        clear hgrow
        go_wp2
        go_roundw
        case rel => exact ⟨hb1, t + 1, by omega, by congr 1; omega, by rw [HT.out, bsI_snoc, HV2.out]; exact hown'⟩
        case measure => simp [intOf]; omega
    · obtain rfl : t = n := by omega
      have hown := HO.out
      rw [List.take_of_length_le (by rw [rgtL_len]; omega)] at hown
      have HO2 : Hid (HoldI wr w.heap.size u5 (rgtL l t)) := Lib.hid (by unfold HoldI; rw [rgtL_len]; exact hown)
      clear hown
      go_wp2
      go_ret
      exact ⟨_, rfl, HO2.out, HB.out⟩

end E
end Go.Proofs.YtgnaiolbleadbaaDoor

/- Rows of whole numbers in memory; the contracts of size, sign, values, right and Digits of the document's own answers. -/
import Derived.Test.YtlpekknhaaddcaaDoorPkNum
import Derived.Test.YtlpekknhaaddcaaDoorPkPure
import Derived.Deep.AppendLies
import Derived.Deep.RegionHeld3
namespace Go.Proofs.YtlpekknhaaddcaaDoor
open Go.RowKit Go.Shelf
set_option linter.unusedVariables false
namespace E

/-- The cells of digits as whole numbers. -/
def bsI (l : List (Fin 16)) : List Value := l.map fun d => .int .i64 (d.val : Int)
theorem bsI_len (l : List (Fin 16)) : (bsI l).length = l.length := by simp [bsI]
theorem bsI_get (l : List (Fin 16)) (j : Nat) (hj : j < l.length) : (bsI l)[j]? = some (.int .i64 ((l.getD j 0).val : Int)) := by simp [bsI, List.getD_eq_getElem?_getD, hj]
theorem bsI_snoc (l : List (Fin 16)) (d : Fin 16) : bsI (l ++ [d]) = bsI l ++ [.int .i64 (d.val : Int)] := by simp [bsI]
theorem bsI_two (l : List (Fin 16)) (d e : Fin 16) : bsI (l ++ [d, e]) = bsI l ++ [.int .i64 (d.val : Int), .int .i64 (e.val : Int)] := by simp [bsI]
theorem info3 : (Tryd.prog.info? 3).map (fun i => (i.zero, i.size, i.bytes)) = some (some (.int .i64 0), 1, 8) := by kernel_rfl
/-- A slice of whole numbers that reads as the digits l. -/
def RdI (w : World) (p : Option Addr) (l : List (Fin 16)) : Prop := l = [] ∨ ∃ B off, p = some ⟨B, off, none⟩ ∧ ∀ j, j < l.length → w.cell? ⟨B, off + j, none⟩ = some (.int .i64 ((l.getD j 0).val : Int))
theorem RdI.below {w w' : World} {p : Option Addr} {l : List (Fin 16)} (h : RdI w p l) (hb : Below w.heap.size w w') : RdI w' p l := by
  rcases h with h | ⟨B, off, hp, hc⟩
  · exact .inl h
  · exact .inr ⟨B, off, hp, fun j hj => keepC (hc j hj) hb⟩
theorem RdI.take {w : World} {p : Option Addr} {l : List (Fin 16)} (h : RdI w p l) (k : Nat) : RdI w p (l.take k) := by
  rcases h with h | ⟨B, off, rfl, hc⟩
  · subst h; exact .inl (by simp)
  · refine .inr ⟨B, off, rfl, fun j hj => ?_⟩
    have hj' : j < l.length ∧ j < k := by simp at hj; omega
    rw [hc j hj'.1]
    simp [List.getD_eq_getElem?_getD, hj'.2]
/-- A row of the call's own that holds digits as whole numbers. -/
def HoldI (w : World) (base : Nat) (sv : Value) (l : List (Fin 16)) : Prop := w.ownsRow base 3 1 sv l.length (bsI l)
theorem HoldI.rd {w : World} {base : Nat} {sv : Value} {l : List (Fin 16)} (h : HoldI w base sv l) : ∃ p c, sv = .slice p l.length c ∧ RdI w p l ∧ l.length ≤ c ∧ c ≤ 9223372036854775807 ∧ (p = none → c = 0) := by
  have h' := h
  obtain ⟨_, h1 | ⟨g, cap, cur, hv, _, hh, hle, hm, hsz, ht⟩⟩ := h
  · obtain ⟨h2, h3⟩ := h1
    have hl : l.length = 0 := h3
    exact ⟨none, 0, by rw [h2, hl], .inl (List.length_eq_zero_iff.1 hl), by omega, by omega, fun _ => rfl⟩
  · subst hv
    refine ⟨_, _, rfl, .inr ⟨_, _, rfl, fun j hj => ?_⟩, hle, by unfold maxLen at hm; omega, fun hn => by cases hn⟩
    rw [Nat.zero_add, h'.cellAt j (by omega), bsI_get l j hj]
theorem own_base {w : World} {b1 b2 t n : Nat} {sv : Value} {xs : List Value} (h : w.ownsRow b1 t 1 sv n xs) (hb : b2 ≤ b1) : w.ownsRow b2 t 1 sv n xs := by
  obtain ⟨h0, h1 | ⟨g, cap, cur, hv, hg, hr⟩⟩ := h
  · exact ⟨h0, .inl h1⟩
  · exact ⟨h0, .inr ⟨g, cap, cur, hv, Nat.le_trans hb hg, hr⟩⟩
theorem HoldI.kept {w w' : World} {base : Nat} {sv : Value} {l : List (Fin 16)} (h : HoldI w base sv l) (hb : Below w.heap.size w w') : HoldI w' base sv l := own_kept h hb
/-- A new row of digits is returned. -/
def RiPost (w : World) (l : List (Fin 16)) (e : Ending) (w' : World) : Prop := ∃ sv, e = .returned sv ∧ HoldI w' w.heap.size sv l ∧ Below w.heap.size w w'

theorem size_any (n : Int) (w : World) : Calls Tryd.prog 76 #[.int .i64 n] w fun e w' => e = .returned (.bool (decide (1 ≤ n ∧ n ≤ 16))) ∧ w = w' := by
  by_cases h1 : 1 ≤ n
  · by_cases h2 : n ≤ 16
    · go_enter Tryd.func76, Tryd.ntmps76
      go_wp2
      go_ret
      exact ⟨by simp [h1, h2], rfl⟩
    · go_enter Tryd.func76, Tryd.ntmps76
      go_wp2
      go_ret
      exact ⟨by simp [h2], rfl⟩
  · go_enter Tryd.func76, Tryd.ntmps76
    go_wp2
    go_ret
    exact ⟨by rw [decide_eq_false (by omega)]; simp, rfl⟩
/-- The last n of some digits, with zeros on the left. -/
def rgtL (l : List (Fin 16)) (n : Nat) : List (Fin 16) := (List.range n).map fun t => if l.length + t < n then 0 else l.getD (l.length + t - n) 0
theorem rgtL_len (l : List (Fin 16)) (n : Nat) : (rgtL l n).length = n := by simp [rgtL]
theorem rgtL_getD (l : List (Fin 16)) (n t : Nat) (h : t < n) : (rgtL l n).getD t 0 = if l.length + t < n then 0 else l.getD (l.length + t - n) 0 := by
  simp [rgtL, List.getD_eq_getElem?_getD, h]
theorem take_getD {l : List (Fin 16)} {k : Nat} (h : k < l.length) : l.take (k + 1) = l.take k ++ [l.getD k 0] := by
  rw [List.take_succ_eq_append_getElem h]
  simp [List.getD_eq_getElem?_getD, h]
end E
end Go.Proofs.YtlpekknhaaddcaaDoor

/- Rows of bytes in memory: how they are read, kept and written; the contracts of same and of the small helpers. -/
import Derived.Test.YtijkbenbjdeocaaDoorRows
import Derived.WalkKit
import Derived.ProofKit
import Derived.Lib.Hide
import Derived.Deep.Cut
import Derived.Deep.DeepMust
import Derived.Deep.QuietTactic
import Derived.BigQuiet
import Derived.OwnWalk
import Derived.Laws.CopyOwn
import Derived.Laws.AppendOwn
import Derived.Laws.OwnMore
import Derived.Laws.AppendOwnNone
import Derived.Deep.Draws
import Derived.Laws.IdiomStrings
import Derived.Below
import Derived.Test.YtijkbenbjdeocaaDoorPkMath
namespace Go.Proofs.YtijkbenbjdeocaaDoor
open Go.RowKit
set_option linter.unusedVariables false
namespace E

/-- The cells of bytes. -/
def bsU (l : List UInt8) : List Value := l.map fun b => .int .u8 (b.toNat : Int)
theorem bsU_len (l : List UInt8) : (bsU l).length = l.length := by simp [bsU]
theorem bsU_get (l : List UInt8) (j : Nat) (hj : j < l.length) : (bsU l)[j]? = some (.int .u8 ((gt l j).toNat : Int)) := by
  rw [gt_lt hj]
  simp [bsU, List.getElem?_eq_getElem hj]
theorem bsU_at {l : List UInt8} {j : Nat} {v : Value} (h : (bsU l)[j]? = some v) : j < l.length ∧ v = .int .u8 ((gt l j).toNat : Int) := by
  have hj : j < l.length := by
    have := (List.getElem?_eq_some_iff.1 h).1
    simpa [bsU] using this
  refine ⟨hj, ?_⟩
  rw [bsU_get l j hj] at h
  exact (Option.some.inj h).symm
theorem bsU_one (l : List UInt8) : ∀ v ∈ bsU l, v.oneCell' = true := by
  intro v hv
  obtain ⟨x, _, rfl⟩ := List.mem_map.1 hv
  rfl
theorem bsU_snoc (l : List UInt8) (x : UInt8) : bsU (l ++ [x]) = bsU l ++ [.int .u8 (x.toNat : Int)] := by simp [bsU]
theorem bsU_set (l : List UInt8) (i : Nat) (x : UInt8) : (bsU l).set i (.int .u8 (x.toNat : Int)) = bsU (l.set i x) := by simp [bsU, List.map_set]
/-- What is returned, and what lay stays as it lay. -/
def New (w : World) (r : Value) (e : Ending) (w' : World) : Prop := e = .returned r ∧ Below w.heap.size w w'
/-- A slice that starts at p and has the length of l reads as the bytes l. -/
def Rd (w : World) (p : Option Addr) (l : List UInt8) : Prop := l = [] ∨ ∃ B off, p = some ⟨B, off, none⟩ ∧ ∀ j, j < l.length → w.cell? ⟨B, off + j, none⟩ = some (.int .u8 ((gt l j).toNat : Int))
theorem Rd.below {w w' : World} {p : Option Addr} {l : List UInt8} (h : Rd w p l) (hb : Below w.heap.size w w') : Rd w' p l := by
  rcases h with h | ⟨B, off, hp, hc⟩
  · exact .inl h
  · refine .inr ⟨B, off, hp, fun j hj => ?_⟩
    have hj' := hc j hj
    rw [hb.cell (World.block_lt_of_cell? w _ hj')]; exact hj'
theorem below_new (w : World) (o : Obj) : Below w.heap.size w (w.alloc o) := (Below.refl _ w).alloc (Nat.le_refl _) o
theorem cell_newU (w : World) (l : List UInt8) (t : TypeId) (j : Nat) (hj : j < l.length) : (w.alloc (.cells (bsU l).toArray t)).cell? ⟨w.heap.size, j, none⟩ = some (.int .u8 ((gt l j).toNat : Int)) := by
  have h := bsU_get l j hj
  simp [go_sem, h]
theorem rd_new (w : World) (l : List UInt8) (t : TypeId) : Rd (w.alloc (.cells (bsU l).toArray t)) (some ⟨w.heap.size, 0, none⟩) l :=
  .inr ⟨_, _, rfl, fun j hj => by rw [Nat.zero_add]; exact cell_newU w l t j hj⟩
theorem belowDraw (w : World) (m : Nat) : Below w.heap.size w (w.drewN m) := by
  induction m with
  | zero => exact Below.refl _ _
  | succ m ih => exact ih.drew
theorem Rd.take {w : World} {p : Option Addr} {l : List UInt8} (h : Rd w p l) (k : Nat) : Rd w p (l.take k) := by
  rcases h with h | ⟨B, off, rfl, hc⟩
  · subst h; exact .inl (by simp)
  · refine .inr ⟨B, off, rfl, fun j hj => ?_⟩
    have hj' : j < l.length := by simp at hj; omega
    rw [hc j hj', gt_lt hj', gt_lt hj, List.getElem_take]
/-- A row of the call's own that holds bytes. -/
def Hold (w : World) (base : Nat) (sv : Value) (l : List UInt8) : Prop := w.ownsRow base 5 1 sv l.length (bsU l)
theorem Hold.full {w : World} {base : Nat} {sv : Value} {l : List UInt8} (h : Hold w base sv l) : ∃ p c, sv = .slice p l.length c ∧ Rd w p l ∧ l.length ≤ c ∧ c ≤ 9223372036854775807 ∧ (p = none → c = 0) := by
  have h' := h
  obtain ⟨_, h1 | ⟨g, cap, cur, hv, _, hh, hle, hm, hsz, ht⟩⟩ := h
  · obtain ⟨h2, h3⟩ := h1
    have hl : l.length = 0 := h3
    exact ⟨none, 0, by rw [h2, hl], .inl (List.length_eq_zero_iff.1 hl), by omega, by omega, fun _ => rfl⟩
  · subst hv
    refine ⟨_, _, rfl, .inr ⟨_, _, rfl, fun j hj => ?_⟩, hle, by unfold maxLen at hm; omega, fun hn => by cases hn⟩
    rw [Nat.zero_add, h'.cellAt j (by omega), bsU_get l j hj]
theorem Hold.rd {w : World} {base : Nat} {sv : Value} {l : List UInt8} (h : Hold w base sv l) : ∃ p c, sv = .slice p l.length c ∧ Rd w p l ∧ (l.length ≤ 9223372036854775807) := by
  obtain ⟨p, c, h1, h2, h3, h4, _⟩ := h.full
  exact ⟨p, c, h1, h2, by omega⟩
theorem own_kept {w w' : World} {t base n : Nat} {sv : Value} {xs : List Value} (h : w.ownsRow base t 1 sv n xs) (hb : Below w.heap.size w w') : w'.ownsRow base t 1 sv n xs := by
  obtain ⟨h0, h1 | ⟨g, cap, cur, hv, hg, hh, hle, hm, hsz, ht⟩⟩ := h
  · exact ⟨h0, .inl h1⟩
  · refine ⟨h0, .inr ⟨g, cap, cur, hv, hg, ?_, hle, hm, hsz, ht⟩⟩
    have hlt : g < w.heap.size := by
      rcases Nat.lt_or_ge g w.heap.size with h' | h'
      · exact h'
      · simp [Array.getElem?_eq_none h'] at hh
    rw [hb.block g hlt]
    exact hh
theorem Hold.kept {w w' : World} {base : Nat} {sv : Value} {l : List UInt8} (h : Hold w base sv l) (hb : Below w.heap.size w w') : Hold w' base sv l := own_kept h hb
theorem Hold.base {w : World} {b1 b2 : Nat} {sv : Value} {l : List UInt8} (h : Hold w b1 sv l) (hb : b2 ≤ b1) : Hold w b2 sv l := by
  obtain ⟨h0, h1 | ⟨g, cap, cur, hv, hg, hr⟩⟩ := h
  · exact ⟨h0, .inl h1⟩
  · exact ⟨h0, .inr ⟨g, cap, cur, hv, Nat.le_trans hb hg, hr⟩⟩
theorem info5 : (Tryd.prog.info? 5).map (fun i => (i.zero, i.size, i.bytes)) = some (some (.int .u8 0), 1, 1) := by kernel_rfl
/-- The bytes of a string. -/
theorem str_at (s : ByteArray) (k : Nat) (h : k < s.size) : s[k] = gt s.data.toList k := by
  have h' : k < s.data.toList.length := h
  rw [gt_lt h']
  rfl
theorem take_one {l : List UInt8} {k : Nat} (h : k < l.length) : l.take (k + 1) = l.take k ++ [gt l k] := by
  rw [List.take_succ_eq_append_getElem h, gt_lt h]
theorem cellNew (w : World) (v : Value) (t : TypeId) : ∀ j u, [v][j]? = some u → (w.alloc (.cells #[v] t)).cell? ((⟨w.heap.size, 0, none⟩ : Addr).add j) = some u := by
  intro j u h
  match j, h with
  | 0, h => simp at h; subst h; simp [Addr.add, go_sem]

/-- string(b) is the bytes of b. -/
theorem conv_rd {w : World} {p : Option Addr} {c : Nat} {l : List UInt8} (h : Rd w p l) :
    (Go.convert 27 9 (.slice p l.length c)).run Tryd.prog w = .ok (.string ⟨l.toArray⟩) w := by
  rcases h with h0 | ⟨B, off, rfl, hc⟩
  · subst h0
    cases p with
    | none =>
      rw [run_convert_bytes_string w 27 9 5 none _ _ Tryd.underlying27 Tryd.underlying5 Tryd.underlying9]
      simp [Conv.bytesToString]
      rfl
    | some a => exact run_convert_bytes_back w 27 9 5 _ _ [] Tryd.underlying27 Tryd.underlying5 Tryd.underlying9 (fun j hj => by simp at hj)
  · refine run_convert_bytes_back w 27 9 5 _ _ _ Tryd.underlying27 Tryd.underlying5 Tryd.underlying9 (fun j hj => ?_)
    have h2 := hc j hj
    rw [gt_lt hj] at h2
    by_cases h0 : j = 0
    · subst h0; simpa [Addr.add] using h2
    · simpa [Addr.add, h0] using h2

/-- A block of new memory, from base on, whose first cells hold the bytes l. -/
def Blk (w : World) (base g : Nat) (l : List UInt8) : Prop := base ≤ g ∧ ∃ cur : Array Value, w.heap[g]? = some (.cells cur 5 (0, 0)) ∧ cur.toList.take l.length = bsU l
theorem Blk.cell {w : World} {base g : Nat} {l : List UInt8} (h : Blk w base g l) (j : Nat) (hj : j < l.length) : w.cell? ⟨g, j, none⟩ = some (.int .u8 ((gt l j).toNat : Int)) := by
  obtain ⟨_, cur, hg, ht⟩ := h
  rw [cell_of_row w g j cur _ (0, 0) hg, ← bsU_get l j hj, ← ht, List.getElem?_take, if_pos hj]
  simp
theorem Blk.frozen {w : World} {base g : Nat} {l : List UInt8} (h : Blk w base g l) (j : Nat) : w.frozen? ⟨g, j, none⟩ = false := by
  obtain ⟨_, cur, hg, _⟩ := h
  exact frozen_of_row w g j cur _ hg
theorem Blk.lt {w : World} {base g : Nat} {l : List UInt8} (h : Blk w base g l) : g < w.heap.size := by
  obtain ⟨_, cur, hg, _⟩ := h
  exact (Array.getElem?_eq_some_iff.1 hg).1
theorem Blk.stored {w : World} {base g : Nat} {l : List UInt8} (h : Blk w base g l) (j : Nat) (x : UInt8) :
    Blk (w.setCell ⟨g, j, none⟩ (.int .u8 (x.toNat : Int))) base g (l.set j x) ∧ w.grownBy (w.setCell ⟨g, j, none⟩ (.int .u8 (x.toNat : Int))) (some g) := by
  obtain ⟨hb, cur, hg, ht⟩ := h
  refine ⟨⟨hb, _, heap_setCell_same w g j cur _ _ hg, ?_⟩, ⟨rfl, rfl, rfl, by simp, fun k _ hk => heap_setCell_other w ⟨g, j, none⟩ k _ (fun e => hk (by simp [e]))⟩⟩
  rw [Array.toList_setIfInBounds, List.length_set, ← bsU_set, ← ht, List.take_set]
theorem Blk.kept {w w' : World} {row : Option Nat} {base g : Nat} {l : List UInt8} (h : Blk w base g l) (hg : w.grownBy w' row) (hne : some g ≠ row) : Blk w' base g l :=
  ⟨h.1, h.2.imp fun _ hc => ⟨(hg.block g h.lt hne).trans hc.1, hc.2⟩⟩
theorem Blk.below {w w' : World} {base g : Nat} {l : List UInt8} (h : Blk w base g l) (hb : Below w.heap.size w w') : Blk w' base g l :=
  ⟨h.1, h.2.imp fun _ hc => ⟨(hb.block g h.lt).trans hc.1, hc.2⟩⟩
theorem Blk.rd {w : World} {base g : Nat} {l : List UInt8} (h : Blk w base g l) : Rd w (some ⟨g, 0, none⟩) l := .inr ⟨_, _, rfl, fun j hj => by rw [Nat.zero_add]; exact h.cell j hj⟩
theorem Blk.base' {w : World} {b1 b2 g : Nat} {l : List UInt8} (h : Blk w b1 g l) (hb : b2 ≤ b1) : Blk w b2 g l := ⟨Nat.le_trans hb h.1, h.2⟩

/-! ### Digits -/

theorem and15 (x : UInt8) : bits .and .u8 (x.toNat : Int) 15 = ((lo x).val : Int) := all256 (p := fun x => bits .and .u8 (x.toNat : Int) 15 = ((lo x).val : Int)) (by decide +kernel) x
theorem shr4 (x : UInt8) : bits .and .u8 ((x.toNat : Int) / 16) 15 = ((hi x).val : Int) := all256 (p := fun x => bits .and .u8 ((x.toNat : Int) / 16) 15 = ((hi x).val : Int)) (by decide +kernel) x

end E
end Go.Proofs.YtijkbenbjdeocaaDoor

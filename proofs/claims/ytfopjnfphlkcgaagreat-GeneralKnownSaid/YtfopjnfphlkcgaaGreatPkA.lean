/- Small arithmetic, memory, blocks of cells. -/
import Derived.Test.YtfopjnfphlkcgaaGreatRows
import Derived.Below
import Derived.BigQuiet
import Derived.Deep.AppendLies
import Derived.Deep.Cut
import Derived.Deep.DeepMust
import Derived.Deep.Draws
import Derived.Deep.QuietTactic
import Derived.Deep.RegionHeld3
import Derived.Laws.AppendOwn
import Derived.Laws.AppendOwnNone
import Derived.Laws.CopyOwn
import Derived.Laws.IdiomStrings
import Derived.Laws.OwnMore
import Derived.Lib.Hide
import Derived.MapKept
import Derived.OwnWalk
import Derived.ProofKit
import Derived.WalkKit
namespace Go.Proofs.YtfopjnfphlkcgaaGreat
open Go.RowKit
set_option linter.unusedVariables false
namespace E

/-- The byte at a place of a list. -/
def gt (l : List UInt8) (j : Nat) : UInt8 := l.getD j 0
theorem gt_lt {l : List UInt8} {j : Nat} (h : j < l.length) : gt l j = l[j] := by simp [gt, List.getD_eq_getElem?_getD, List.getElem?_eq_getElem h]
/-! ### Digits of four bits -/

/-- The low digit of a byte. -/
def lo (x : UInt8) : Fin 16 := ⟨x.toNat % 16, Nat.mod_lt _ (by decide)⟩
/-- The high digit of a byte. -/
def hi (x : UInt8) : Fin 16 := ⟨x.toNat / 16, by have := x.toNat_lt; omega⟩
/-- The byte of two digits. -/
def mk (h l : Fin 16) : UInt8 := UInt8.ofNat (16 * h.val + l.val)
/-- A digit put at a place. -/
def setD (l : List UInt8) (p : Nat) (d : Fin 16) : List UInt8 :=
  l.set (l.length - 1 - p / 2) (if p % 2 = 0 then mk (hi (gt l (l.length - 1 - p / 2))) d else mk d (lo (gt l (l.length - 1 - p / 2))))
/-! ### Writing digits one after another -/

/-- Digits put at the place la and at each st places further left. -/
def wr (L : List UInt8) (la st : Nat) : List (Fin 16) → List UInt8
  | [] => L
  | d :: ds => wr (setD L la d) (la + st) st ds
/-! ### Numbers -/

end E
end Go.Proofs.YtfopjnfphlkcgaaGreat
namespace Go.Proofs.YtfopjnfphlkcgaaGreat
open Go.RowKit
set_option linter.unusedVariables false
namespace E

/-- The cells of bytes. -/
def bsU (l : List UInt8) : List Value := l.map fun b => .int .u8 (b.toNat : Int)
theorem bsU_len (l : List UInt8) : (bsU l).length = l.length := by simp [bsU]
theorem bsU_get (l : List UInt8) (j : Nat) (hj : j < l.length) : (bsU l)[j]? = some (.int .u8 ((gt l j).toNat : Int)) := by
  rw [gt_lt hj]
  simp [bsU, List.getElem?_eq_getElem hj]
theorem bsU_at {l : List UInt8} {j : Nat} {v : Value} (h : (bsU l)[j]? = some v) : j < l.length ∧ v = .int .u8 ((gt l j).toNat : Int) := by
  have hj : j < l.length := by
    have := (List.getElem?_eq_some_iff.1 h).1
    simpa [bsU] using this
  refine ⟨hj, ?_⟩
  rw [bsU_get l j hj] at h
  exact (Option.some.inj h).symm
theorem bsU_one (l : List UInt8) : ∀ v ∈ bsU l, v.oneCell' = true := by
  intro v hv
  obtain ⟨x, _, rfl⟩ := List.mem_map.1 hv
  rfl
theorem bsU_set (l : List UInt8) (i : Nat) (x : UInt8) : (bsU l).set i (.int .u8 (x.toNat : Int)) = bsU (l.set i x) := by simp [bsU, List.map_set]
/-- What is returned, and what lay stays as it lay. -/
def New (w : World) (r : Value) (e : Ending) (w' : World) : Prop := e = .returned r ∧ Below w.heap.size w w'
/-- A slice that starts at p and has the length of l reads as the bytes l. -/
def Rd (w : World) (p : Option Addr) (l : List UInt8) : Prop := l = [] ∨ ∃ B off, p = some ⟨B, off, none⟩ ∧ ∀ j, j < l.length → w.cell? ⟨B, off + j, none⟩ = some (.int .u8 ((gt l j).toNat : Int))
theorem Rd.below {w w' : World} {p : Option Addr} {l : List UInt8} (h : Rd w p l) (hb : Below w.heap.size w w') : Rd w' p l := by
  rcases h with h | ⟨B, off, hp, hc⟩
  · exact .inl h
  · refine .inr ⟨B, off, hp, fun j hj => ?_⟩
    have hj' := hc j hj
    rw [hb.cell (World.block_lt_of_cell? w _ hj')]; exact hj'
theorem below_new (w : World) (o : Obj) : Below w.heap.size w (w.alloc o) := (Below.refl _ w).alloc (Nat.le_refl _) o
theorem cell_newU (w : World) (l : List UInt8) (t : TypeId) (j : Nat) (hj : j < l.length) : (w.alloc (.cells (bsU l).toArray t)).cell? ⟨w.heap.size, j, none⟩ = some (.int .u8 ((gt l j).toNat : Int)) := by
  have h := bsU_get l j hj
  simp [go_sem, h]
theorem rd_new (w : World) (l : List UInt8) (t : TypeId) : Rd (w.alloc (.cells (bsU l).toArray t)) (some ⟨w.heap.size, 0, none⟩) l :=
  .inr ⟨_, _, rfl, fun j hj => by rw [Nat.zero_add]; exact cell_newU w l t j hj⟩
theorem belowDraw (w : World) (m : Nat) : Below w.heap.size w (w.drewN m) := by
  induction m with
  | zero => exact Below.refl _ _
  | succ m ih => exact ih.drew
theorem Rd.take {w : World} {p : Option Addr} {l : List UInt8} (h : Rd w p l) (k : Nat) : Rd w p (l.take k) := by
  rcases h with h | ⟨B, off, rfl, hc⟩
  · subst h; exact .inl (by simp)
  · refine .inr ⟨B, off, rfl, fun j hj => ?_⟩
    have hj' : j < l.length := by simp at hj; omega
    rw [hc j hj', gt_lt hj', gt_lt hj, List.getElem_take]
/-- A row of the call's own that holds bytes. -/
def Hold (w : World) (base : Nat) (sv : Value) (l : List UInt8) : Prop := w.ownsRow base 5 1 sv l.length (bsU l)
theorem Hold.full {w : World} {base : Nat} {sv : Value} {l : List UInt8} (h : Hold w base sv l) : ∃ p c, sv = .slice p l.length c ∧ Rd w p l ∧ l.length ≤ c ∧ c ≤ 9223372036854775807 ∧ (p = none → c = 0) := by
  have h' := h
  obtain ⟨_, h1 | ⟨g, cap, cur, hv, _, hh, hle, hm, hsz, ht⟩⟩ := h
  · obtain ⟨h2, h3⟩ := h1
    have hl : l.length = 0 := h3
    exact ⟨none, 0, by rw [h2, hl], .inl (List.length_eq_zero_iff.1 hl), by omega, by omega, fun _ => rfl⟩
  · subst hv
    refine ⟨_, _, rfl, .inr ⟨_, _, rfl, fun j hj => ?_⟩, hle, by unfold maxLen at hm; omega, fun hn => by cases hn⟩
    rw [Nat.zero_add, h'.cellAt j (by omega), bsU_get l j hj]
theorem Hold.rd {w : World} {base : Nat} {sv : Value} {l : List UInt8} (h : Hold w base sv l) : ∃ p c, sv = .slice p l.length c ∧ Rd w p l ∧ (l.length ≤ 9223372036854775807) := by
  obtain ⟨p, c, h1, h2, h3, h4, _⟩ := h.full
  exact ⟨p, c, h1, h2, by omega⟩
theorem own_kept {w w' : World} {t base n : Nat} {sv : Value} {xs : List Value} (h : w.ownsRow base t 1 sv n xs) (hb : Below w.heap.size w w') : w'.ownsRow base t 1 sv n xs := by
  obtain ⟨h0, h1 | ⟨g, cap, cur, hv, hg, hh, hle, hm, hsz, ht⟩⟩ := h
  · exact ⟨h0, .inl h1⟩
  · refine ⟨h0, .inr ⟨g, cap, cur, hv, hg, ?_, hle, hm, hsz, ht⟩⟩
    have hlt : g < w.heap.size := by
      rcases Nat.lt_or_ge g w.heap.size with h' | h'
      · exact h'
      · simp [Array.getElem?_eq_none h'] at hh
    rw [hb.block g hlt]
    exact hh
theorem Hold.kept {w w' : World} {base : Nat} {sv : Value} {l : List UInt8} (h : Hold w base sv l) (hb : Below w.heap.size w w') : Hold w' base sv l := own_kept h hb
theorem Hold.base {w : World} {b1 b2 : Nat} {sv : Value} {l : List UInt8} (h : Hold w b1 sv l) (hb : b2 ≤ b1) : Hold w b2 sv l := by
  obtain ⟨h0, h1 | ⟨g, cap, cur, hv, hg, hr⟩⟩ := h
  · exact ⟨h0, .inl h1⟩
  · exact ⟨h0, .inr ⟨g, cap, cur, hv, Nat.le_trans hb hg, hr⟩⟩
theorem info5 : (Tryz.prog.info? 5).map (fun i => (i.zero, i.size, i.bytes)) = some (some (.int .u8 0), 1, 1) := by kernel_rfl
/-- The bytes of a string. -/
theorem str_at (s : ByteArray) (k : Nat) (h : k < s.size) : s[k] = gt s.data.toList k := by
  have h' : k < s.data.toList.length := h
  rw [gt_lt h']
  rfl
/-- string(b) is the bytes of b. -/
theorem conv_rd {w : World} {p : Option Addr} {c : Nat} {l : List UInt8} (h : Rd w p l) :
    (Go.convert 31 9 (.slice p l.length c)).run Tryz.prog w = .ok (.string ⟨l.toArray⟩) w := by
  rcases h with h0 | ⟨B, off, rfl, hc⟩
  · subst h0
    cases p with
    | none =>
      rw [run_convert_bytes_string w 31 9 5 none _ _ Tryz.underlying31 Tryz.underlying5 Tryz.underlying9]
      simp [Conv.bytesToString]
      rfl
    | some a => exact run_convert_bytes_back w 31 9 5 _ _ [] Tryz.underlying31 Tryz.underlying5 Tryz.underlying9 (fun j hj => by simp at hj)
  · refine run_convert_bytes_back w 31 9 5 _ _ _ Tryz.underlying31 Tryz.underlying5 Tryz.underlying9 (fun j hj => ?_)
    have h2 := hc j hj
    rw [gt_lt hj] at h2
    by_cases h0 : j = 0
    · subst h0; simpa [Addr.add] using h2
    · simpa [Addr.add, h0] using h2

/-- A block of new memory, from base on, whose first cells hold the bytes l. -/
def Blk (w : World) (base g : Nat) (l : List UInt8) : Prop := base ≤ g ∧ ∃ cur : Array Value, w.heap[g]? = some (.cells cur 5 (0, 0)) ∧ cur.toList.take l.length = bsU l
theorem Blk.cell {w : World} {base g : Nat} {l : List UInt8} (h : Blk w base g l) (j : Nat) (hj : j < l.length) : w.cell? ⟨g, j, none⟩ = some (.int .u8 ((gt l j).toNat : Int)) := by
  obtain ⟨_, cur, hg, ht⟩ := h
  rw [cell_of_row w g j cur _ (0, 0) hg, ← bsU_get l j hj, ← ht, List.getElem?_take, if_pos hj]
  simp
theorem Blk.frozen {w : World} {base g : Nat} {l : List UInt8} (h : Blk w base g l) (j : Nat) : w.frozen? ⟨g, j, none⟩ = false := by
  obtain ⟨_, cur, hg, _⟩ := h
  exact frozen_of_row w g j cur _ hg
theorem Blk.lt {w : World} {base g : Nat} {l : List UInt8} (h : Blk w base g l) : g < w.heap.size := by
  obtain ⟨_, cur, hg, _⟩ := h
  exact (Array.getElem?_eq_some_iff.1 hg).1
theorem Blk.kept {w w' : World} {row : Option Nat} {base g : Nat} {l : List UInt8} (h : Blk w base g l) (hg : w.grownBy w' row) (hne : some g ≠ row) : Blk w' base g l :=
  ⟨h.1, h.2.imp fun _ hc => ⟨(hg.block g h.lt hne).trans hc.1, hc.2⟩⟩
theorem Blk.below {w w' : World} {base g : Nat} {l : List UInt8} (h : Blk w base g l) (hb : Below w.heap.size w w') : Blk w' base g l :=
  ⟨h.1, h.2.imp fun _ hc => ⟨(hb.block g h.lt).trans hc.1, hc.2⟩⟩
theorem Blk.rd {w : World} {base g : Nat} {l : List UInt8} (h : Blk w base g l) : Rd w (some ⟨g, 0, none⟩) l := .inr ⟨_, _, rfl, fun j hj => by rw [Nat.zero_add]; exact h.cell j hj⟩
/-! ### Digits -/

end E
end Go.Proofs.YtfopjnfphlkcgaaGreat
namespace Go.Proofs.YtfopjnfphlkcgaaGreat
open Go.RowKit
set_option linter.unusedVariables false
namespace E

theorem bel0 {w W W' : World} (h : Below w.heap.size w W) (hb : Below W.heap.size W W') : Below w.heap.size w W' := h.trans (hb.mono h.size)
theorem below2 (w : World) (a b : Obj) : Below w.heap.size w ((w.alloc a).alloc b) := bel0 (below_new w a) (below_new _ b)
/-- A block of cells. -/
def Bx (w : World) (g : Nat) (t : TypeId) (cs : Array Value) : Prop := w.heap[g]? = some (.cells cs t (0, 0))
theorem Bx.lt {w : World} {g : Nat} {t : TypeId} {cs : Array Value} (h : Bx w g t cs) : g < w.heap.size := (Array.getElem?_eq_some_iff.1 h).1
theorem Bx.cell {w : World} {g : Nat} {t : TypeId} {cs : Array Value} (h : Bx w g t cs) (i : Nat) : w.cell? ⟨g, i, none⟩ = cs[i]? := cell_of_row w g i cs t (0, 0) h
theorem Bx.frozen {w : World} {g : Nat} {t : TypeId} {cs : Array Value} (h : Bx w g t cs) (i : Nat) : w.frozen? ⟨g, i, none⟩ = false := frozen_of_row w g i cs _ h
theorem Bx.new (w : World) (t : TypeId) (cs : Array Value) : Bx (w.alloc (.cells cs t)) w.heap.size t cs := heap_alloc_new w _
theorem Bx.below {w w' : World} {g : Nat} {t : TypeId} {cs : Array Value} (h : Bx w g t cs) (hb : Below w.heap.size w w') : Bx w' g t cs := (hb.block g h.lt).trans h
theorem Bx.set {w : World} {g : Nat} {t : TypeId} {cs : Array Value} (h : Bx w g t cs) (i : Nat) (u : Value) : Bx (w.setCell ⟨g, i, none⟩ u) g t (cs.setIfInBounds i u) := heap_setCell_same w g i cs _ _ h
theorem Bx.far {w : World} {g : Nat} {t : TypeId} {cs : Array Value} (h : Bx w g t cs) {p : Addr} (hp : p.block ≠ g) (u : Value) : Bx (w.setCell p u) g t cs := (heap_setCell_other w p g _ (fun e => hp e.symm)).trans h
theorem Bx.grown {w w' : World} {g : Nat} {row : Option Nat} {t : TypeId} {cs : Array Value} (h : Bx w g t cs) (hg : w.grownBy w' row) (hne : some g ≠ row) : Bx w' g t cs := (hg.block g h.lt hne).trans h
theorem Bx.bel {w w' : World} {g B : Nat} {t : TypeId} {cs : Array Value} (h : Bx w g t cs) (hb : Below B w w') (hg : g < B) : Bx w' g t cs := (hb.block g hg).trans h
/-- A slice that reads as a list and may be cut. -/
def SvB (W : World) (sv : Value) (l : List UInt8) : Prop := ∃ p c, sv = .slice p l.length c ∧ Rd W p l ∧ l.length ≤ c ∧ c ≤ 9223372036854775807 ∧ (p = none → c = 0)
theorem SvB.below {w w' : World} {sv : Value} {l : List UInt8} (h : SvB w sv l) (hb : Below w.heap.size w w') : SvB w' sv l := by
  obtain ⟨p, c, h1, h2, h3⟩ := h
  exact ⟨p, c, h1, h2.below hb, h3⟩
theorem SvB.nil (W : World) : SvB W (.slice none 0 0) [] := ⟨none, 0, rfl, .inl rfl, Nat.le_refl _, by omega, fun _ => rfl⟩
theorem Hold.svb {w : World} {base : Nat} {sv : Value} {l : List UInt8} (h : Hold w base sv l) : SvB w sv l := by
  obtain ⟨p, c, h1, h2, h3⟩ := h.full
  exact ⟨p, c, h1, h2, h3⟩
theorem svb_new (w : World) (l : List UInt8) (hl : l.length ≤ 1000) : SvB (w.alloc (.cells (bsU l).toArray 5)) (.slice (some ⟨w.heap.size, 0, none⟩) l.length l.length) l := ⟨_, _, rfl, rd_new w l _, Nat.le_refl _, by omega, fun h => by cases h⟩
/-- Two rows of equal bytes are the same. -/
theorem same_true (p q : Option Addr) (c d : Nat) (l : List UInt8) (w : World) (hn : l.length ≤ 9223372036854775807) (hp : Rd w p l) (hq : Rd w q l) :
    Calls Tryz.prog 22 #[.slice p l.length c, .slice q l.length d] w (New w (.bool true)) := by
  rcases hp with h0 | ⟨B, off, rfl, hc⟩
  · subst h0
    clear hq
    go_enter Tryz.func22, Tryz.ntmps22
    go_wp2
    go_loop [5] (fun i => i = .int .i64 0) (fun _ => 0)
    case atStart => rfl
    case round =>
      subst hrel
      go_wp2
      go_ret
      exact ⟨rfl, Below.refl _ _⟩
  rcases hq with h0 | ⟨B2, off2, rfl, hd⟩
  · subst h0
    clear hc
    go_enter Tryz.func22, Tryz.ntmps22
    go_wp2
    go_loop [5] (fun i => i = .int .i64 0) (fun _ => 0)
    case atStart => rfl
    case round =>
      subst hrel
      go_wp2
      go_ret
      exact ⟨rfl, Below.refl _ _⟩
  generalize hln : l.length = n at *
  have HL := Lib.hid hln; clear hln
  go_enter Tryz.func22, Tryz.ntmps22
  go_wp2
  go_loopw [5] (fun i wr => (∃ m, wr = w.drewN m) ∧ ∃ k : Nat, k ≤ n ∧ i = .int .i64 k) (fun i _ => n - (intOf i).toNat)
  case atStart => exact ⟨⟨0, rfl⟩, 0, Nat.zero_le _, rfl⟩
  case round =>
    obtain ⟨⟨m, rfl⟩, k, hk, rfl⟩ := hrel
    by_cases hlt : k < n
    · have hcell := hc k hlt
      have hcell2 := hd k hlt
      clear hc hd
      go_wp2
      go_quiet (fail)
      go_wp2
      go_roundw
      case rel => exact ⟨⟨_, rfl⟩, k + 1, by omega, by go_num⟩
      case measure => simp [intOf]; omega
    · obtain rfl : k = n := by omega
      clear hc hd
      go_wp2
      go_ret
      exact ⟨rfl, belowDraw _ _⟩
theorem same_svb {w : World} {u v : Value} {l : List UInt8} (h1 : SvB w u l) (h2 : SvB w v l) : Calls Tryz.prog 22 #[u, v] w (New w (.bool true)) := by
  obtain ⟨p, c, rfl, r1, h3, h4, _⟩ := h1
  obtain ⟨q, d, rfl, r2, _⟩ := h2
  exact same_true p q c d l w (by omega) r1 r2

/-! ### The map of the control bytes -/

/-- A block that is a map. -/
def Mp (w : World) (g : Nat) (es : Array MapEntry) (c : Nat) : Prop := w.heap[g]? = some (.map es c)
theorem Mp.lt {w : World} {g : Nat} {es : Array MapEntry} {c : Nat} (h : Mp w g es c) : g < w.heap.size := (Array.getElem?_eq_some_iff.1 h).1
theorem Mp.below {w w' : World} {g : Nat} {es : Array MapEntry} {c : Nat} (h : Mp w g es c) (hb : Below w.heap.size w w') : Mp w' g es c := (hb.block g h.lt).trans h
theorem Mp.bel {w w' : World} {g B : Nat} {es : Array MapEntry} {c : Nat} (h : Mp w g es c) (hb : Below B w w') (hg : g < B) : Mp w' g es c := (hb.block g hg).trans h
end E
end Go.Proofs.YtfopjnfphlkcgaaGreat

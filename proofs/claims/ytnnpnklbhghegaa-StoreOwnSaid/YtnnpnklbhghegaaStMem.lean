/- Rows of cells in memory; the storages of the program and of the given answers as lists of bytes and of keys; what a call leaves. -/
import Derived.Test.YtnnpnklbhghegaaPsBase
import Derived.Lib.SliceRun
namespace Go.Proofs.Ytnnpnklbhghegaa
open Go.RowKit
set_option linter.unusedVariables false
namespace E

/-! ### What a call leaves -/

theorem grown_of {w w' : World} (h : Below w.heap.size w w') (row : Option Nat) : w.grownBy w' row := ⟨h.os, h.tape, h.output, h.size, fun k hk _ => h.block k hk⟩
theorem below_of {w w' : World} (h : w.grownBy w' none) : Below w.heap.size w w' := ⟨h.os, h.tape, h.output, h.size, fun k hk => h.block k hk (by simp)⟩
theorem gtrans {w w1 w2 : World} {r : Option Nat} (h : w.grownBy w1 r) (k : Below w1.heap.size w1 w2) : w.grownBy w2 r := h.trans (grown_of k r)
theorem btrans {w w1 w2 : World} {r : Option Nat} (h : Below w.heap.size w w1) (k : w1.grownBy w2 r) : w.grownBy w2 r := (grown_of h r).trans k
theorem below_grown {w w1 w2 : World} {g : Nat} (h : Below w.heap.size w w1) (k : w1.grownBy w2 (some g)) (hg : w.heap.size ≤ g) : Below w.heap.size w w2 := h.grown k h.size (fun r hr => by cases hr; exact hg)

/-! ### Rows of cells -/

/-- A block of c cells whose first cells are given. -/
def Row (w : World) (g : Nat) (t : TypeId) (xs : List Value) (c : Nat) : Prop := ∃ cur : Array Value, w.heap[g]? = some (.cells cur t (0, 0)) ∧ cur.toList.take xs.length = xs ∧ cur.size = c
theorem Row.lt {w : World} {g : Nat} {t : TypeId} {xs : List Value} {c : Nat} (h : Row w g t xs c) : g < w.heap.size := by
  obtain ⟨cur, hg, _⟩ := h
  exact (Array.getElem?_eq_some_iff.1 hg).1
theorem Row.len {w : World} {g : Nat} {t : TypeId} {xs : List Value} {c : Nat} (h : Row w g t xs c) : xs.length ≤ c := by
  obtain ⟨cur, _, ht, rfl⟩ := h
  have := congrArg List.length ht
  rw [List.length_take] at this
  rw [← Array.length_toList]
  omega
theorem Row.cell {w : World} {g : Nat} {t : TypeId} {xs : List Value} {c : Nat} (h : Row w g t xs c) (j : Nat) (hj : j < xs.length) : w.cell? ⟨g, j, none⟩ = xs[j]? := by
  obtain ⟨cur, hg, ht, _⟩ := h
  rw [cell_of_row w g j cur _ (0, 0) hg, ← ht, List.getElem?_take, if_pos hj]
  simp
theorem Row.frozen {w : World} {g : Nat} {t : TypeId} {xs : List Value} {c : Nat} (h : Row w g t xs c) (j : Nat) : w.frozen? ⟨g, j, none⟩ = false := by
  obtain ⟨cur, hg, _⟩ := h
  exact frozen_of_row w g j cur _ hg
theorem Row.grown {w w' : World} {row : Option Nat} {g : Nat} {t : TypeId} {xs : List Value} {c : Nat} (h : Row w g t xs c) (hg : w.grownBy w' row) (hne : some g ≠ row) : Row w' g t xs c := by
  have hl := h.lt
  obtain ⟨cur, h1, h2⟩ := h
  exact ⟨cur, (hg.block g hl hne).trans h1, h2⟩
theorem Row.below {w w' : World} {g : Nat} {t : TypeId} {xs : List Value} {c : Nat} (h : Row w g t xs c) (hb : Below w.heap.size w w') : Row w' g t xs c := h.grown (grown_of hb none) (by simp)
theorem Row.set {w : World} {g : Nat} {t : TypeId} {xs : List Value} {c : Nat} (h : Row w g t xs c) (i : Nat) (u : Value) : Row (w.setCell ⟨g, i, none⟩ u) g t (xs.set i u) c ∧ w.grownBy (w.setCell ⟨g, i, none⟩ u) (some g) := by
  obtain ⟨cur, hg, ht, hc⟩ := h
  refine ⟨⟨_, heap_setCell_same w g i cur _ _ hg, ?_, by simp [hc]⟩, ⟨rfl, rfl, rfl, by simp, fun k _ hk => heap_setCell_other w ⟨g, i, none⟩ k _ (fun e => hk (by simp [e]))⟩⟩
  rw [Array.toList_setIfInBounds, List.length_set, List.take_set, ht]
theorem Row.ne {w : World} {g g' : Nat} {t t' : TypeId} {xs xs' : List Value} {c c' : Nat} (h : Row w g t xs c) (h' : Row w g' t' xs' c') (hne : t ≠ t') : g ≠ g' := by
  intro e
  subst e
  obtain ⟨cur, h1, _⟩ := h
  obtain ⟨cur', h2, _⟩ := h'
  rw [h1] at h2
  injection h2 with h3
  injection h3 with _ h4
  exact hne h4
theorem Bx.row {w : World} {g : Nat} {t : TypeId} {cs : Array Value} (h : Bx w g t cs) : Row w g t cs.toList cs.size := ⟨cs, h, List.take_of_length_le (Nat.le_refl _), rfl⟩
theorem Row.splice {w : World} {g : Nat} {t : TypeId} {xs : List Value} {c : Nat} (h : Row w g t xs c) (off : Nat) (cs : List Value) (hf : off + cs.length ≤ xs.length) :
    ∃ cur : Array Value, w.heap[g]? = some (.cells cur t (0, 0)) ∧ off + cs.length ≤ cur.size ∧ Row (w.setRow g (cur.toList.take off ++ (cs ++ cur.toList.drop (off + cs.length))).toArray) g t (xs.take off ++ (cs ++ xs.drop (off + cs.length))) c ∧ w.grownBy (w.setRow g (cur.toList.take off ++ (cs ++ cur.toList.drop (off + cs.length))).toArray) (some g) := by
  have hl := h.len
  obtain ⟨cur, hg, ht, hc⟩ := h
  have hcl : cur.toList.length = c := by rw [Array.length_toList]; exact hc
  refine ⟨cur, hg, by omega, ⟨_, setRow_heap w g _ _ t _ hg, ?_, ?_⟩, ⟨rfl, rfl, rfl, by simp [World.setRow], fun k _ hk => setRow_other w g k _ (fun e => hk (by rw [e]))⟩⟩
  · show List.take _ (cur.toList.take off ++ (cs ++ cur.toList.drop (off + cs.length))) = _
    have e1 : xs.take off = cur.toList.take off := by rw [← ht, List.take_take]; congr 1; omega
    have e2 : xs.drop (off + cs.length) = (cur.toList.drop (off + cs.length)).take (xs.length - (off + cs.length)) := by
      rw [List.take_drop, show off + cs.length + (xs.length - (off + cs.length)) = xs.length by omega, ht]
    rw [e1, e2]
    have h1 : (cur.toList.take off).length = off := by rw [List.length_take]; omega
    have h2 : ((cur.toList.drop (off + cs.length)).take (xs.length - (off + cs.length))).length = xs.length - (off + cs.length) := by rw [List.length_take, List.length_drop]; omega
    rw [show (cur.toList.take off ++ (cs ++ (cur.toList.drop (off + cs.length)).take (xs.length - (off + cs.length)))).length = off + (cs.length + (xs.length - (off + cs.length))) by rw [List.length_append, List.length_append, h1, h2]]
    rw [List.take_append, h1, List.take_of_length_le (l := cur.toList.take off) (by omega), show off + (cs.length + (xs.length - (off + cs.length))) - off = cs.length + (xs.length - (off + cs.length)) by omega, List.take_append, List.take_of_length_le (l := cs) (by omega), show cs.length + (xs.length - (off + cs.length)) - cs.length = xs.length - (off + cs.length) by omega]
  · simp
    omega
theorem own_row {w : World} {base g n c : Nat} {t : TypeId} {xs : List Value} (h : w.ownsRow base t 1 (.slice (some ⟨g, 0, none⟩) n c) n xs) (hx : xs.length = n) : Row w g t xs c := by
  obtain ⟨_, ⟨h1, _⟩ | ⟨g', cap, cur, hv, hg, hh, hle, hm, hsz, ht⟩⟩ := h
  · cases h1
  · injection hv with e1 e2 e3
    injection e1 with e1
    injection e1 with e1
    subst e1 e3
    exact ⟨cur, hh, by rw [hx]; simpa using ht, by simpa using hsz⟩
/-- The cells of keys as numbers. -/
def bsI (l : List UInt8) : List Value := l.map fun b => .int .i64 (b.toNat : Int)
theorem bsI_len (l : List UInt8) : (bsI l).length = l.length := by simp [bsI]
theorem bsI_get (l : List UInt8) (j : Nat) (hj : j < l.length) : (bsI l)[j]? = some (.int .i64 ((gt l j).toNat : Int)) := by
  rw [gt_lt hj]
  simp [bsI, List.getElem?_eq_getElem hj]
theorem bsI_set (l : List UInt8) (i : Nat) (x : UInt8) : (bsI l).set i (.int .i64 (x.toNat : Int)) = bsI (l.set i x) := by simp [bsI, List.map_set]
theorem Row.rd {w : World} {g c : Nat} {t : TypeId} {l : List UInt8} (h : Row w g t (bsU l) c) (a k : Nat) (hk : a + k ≤ l.length) : Rd w (some ⟨g, a, none⟩) ((l.drop a).take k) := by
  refine .inr ⟨g, a, rfl, fun j hj => ?_⟩
  rw [List.length_take, List.length_drop] at hj
  rw [h.cell (a + j) (by rw [bsU_len]; omega), bsU_get l (a + j) (by omega)]
  congr 3
  rw [gt_lt (by omega), gt_lt (by rw [List.length_take, List.length_drop]; omega)]
  simp

/-! ### Storages -/

/-- A storage of the program: its bytes and its locks. -/
def Sto (w : World) (a g h n m : Nat) (bs ks : List UInt8) : Prop :=
  Bx w a 67 #[.slice (some ⟨g, 0, none⟩) n n, .slice (some ⟨h, 0, none⟩) m m] ∧ Row w g 5 (bsU bs) n ∧ Row w h 68 (bsU ks) m ∧ bs.length = n ∧ ks.length = m ∧ n = m * 2048 ∧ 1 ≤ m ∧ m ≤ 32
/-- A storage of the given answers. -/
def Rfs (w : World) (a g h n m c d : Nat) (bs ks : List UInt8) : Prop :=
  Bx w a 63 #[.slice (some ⟨g, 0, none⟩) n c, .slice (some ⟨h, 0, none⟩) m d] ∧ Row w g 5 (bsU bs) c ∧ Row w h 3 (bsI ks) d ∧ bs.length = n ∧ ks.length = m ∧ n = m * 2048 ∧ 1 ≤ m ∧ m ≤ 32 ∧ c ≤ 9223372036854775807 ∧ d ≤ 9223372036854775807
theorem Sto.grown {w w' : World} {row : Option Nat} {a g h n m : Nat} {bs ks : List UInt8} (s : Sto w a g h n m bs ks) (hg : w.grownBy w' row) (h1 : some a ≠ row) (h2 : some g ≠ row) (h3 : some h ≠ row) : Sto w' a g h n m bs ks :=
  ⟨s.1.grown hg h1, s.2.1.grown hg h2, s.2.2.1.grown hg h3, s.2.2.2⟩
theorem Sto.below {w w' : World} {a g h n m : Nat} {bs ks : List UInt8} (s : Sto w a g h n m bs ks) (hb : Below w.heap.size w w') : Sto w' a g h n m bs ks := s.grown (grown_of hb none) (by simp) (by simp) (by simp)
theorem Rfs.grown {w w' : World} {row : Option Nat} {a g h n m c d : Nat} {bs ks : List UInt8} (s : Rfs w a g h n m c d bs ks) (hg : w.grownBy w' row) (h1 : some a ≠ row) (h2 : some g ≠ row) (h3 : some h ≠ row) : Rfs w' a g h n m c d bs ks :=
  ⟨s.1.grown hg h1, s.2.1.grown hg h2, s.2.2.1.grown hg h3, s.2.2.2⟩
theorem Rfs.below {w w' : World} {a g h n m c d : Nat} {bs ks : List UInt8} (s : Rfs w a g h n m c d bs ks) (hb : Below w.heap.size w w') : Rfs w' a g h n m c d bs ks := s.grown (grown_of hb none) (by simp) (by simp) (by simp)
theorem Sto.c0 {w : World} {a g h n m : Nat} {bs ks : List UInt8} (s : Sto w a g h n m bs ks) : w.cell? ⟨a, 0, none⟩ = some (.slice (some ⟨g, 0, none⟩) n n) := s.1.cell 0
theorem Sto.c1 {w : World} {a g h n m : Nat} {bs ks : List UInt8} (s : Sto w a g h n m bs ks) : w.cell? ⟨a, 1, none⟩ = some (.slice (some ⟨h, 0, none⟩) m m) := s.1.cell 1
theorem Rfs.c0 {w : World} {a g h n m c d : Nat} {bs ks : List UInt8} (s : Rfs w a g h n m c d bs ks) : w.cell? ⟨a, 0, none⟩ = some (.slice (some ⟨g, 0, none⟩) n c) := s.1.cell 0
theorem Rfs.c1 {w : World} {a g h n m c d : Nat} {bs ks : List UInt8} (s : Rfs w a g h n m c d bs ks) : w.cell? ⟨a, 1, none⟩ = some (.slice (some ⟨h, 0, none⟩) m d) := s.1.cell 1
theorem Sto.byte {w : World} {a g h n m : Nat} {bs ks : List UInt8} (s : Sto w a g h n m bs ks) (j : Nat) (hj : j < n) : w.cell? ⟨g, j, none⟩ = some (.int .u8 ((gt bs j).toNat : Int)) := by
  obtain ⟨_, h1, _, rfl, _⟩ := s
  rw [h1.cell j (by rw [bsU_len]; exact hj), bsU_get _ _ hj]
theorem Sto.lock {w : World} {a g h n m : Nat} {bs ks : List UInt8} (s : Sto w a g h n m bs ks) (j : Nat) (hj : j < m) : w.cell? ⟨h, j, none⟩ = some (.int .u8 ((gt ks j).toNat : Int)) := by
  obtain ⟨_, _, h1, _, rfl, _⟩ := s
  rw [h1.cell j (by rw [bsU_len]; exact hj), bsU_get _ _ hj]
theorem Rfs.byte {w : World} {a g h n m c d : Nat} {bs ks : List UInt8} (s : Rfs w a g h n m c d bs ks) (j : Nat) (hj : j < n) : w.cell? ⟨g, j, none⟩ = some (.int .u8 ((gt bs j).toNat : Int)) := by
  obtain ⟨_, h1, _, rfl, _⟩ := s
  rw [h1.cell j (by rw [bsU_len]; exact hj), bsU_get _ _ hj]
theorem Rfs.lock {w : World} {a g h n m c d : Nat} {bs ks : List UInt8} (s : Rfs w a g h n m c d bs ks) (j : Nat) (hj : j < m) : w.cell? ⟨h, j, none⟩ = some (.int .i64 ((gt ks j).toNat : Int)) := by
  obtain ⟨_, _, h1, _, rfl, _⟩ := s
  rw [h1.cell j (by rw [bsI_len]; exact hj), bsI_get _ _ hj]
/-- The storage's own blocks lie apart. -/
theorem Sto.apart {w : World} {a g h n m : Nat} {bs ks : List UInt8} (s : Sto w a g h n m bs ks) : g ≠ a ∧ h ≠ a ∧ g ≠ h := ⟨s.2.1.ne s.1.row (by decide), s.2.2.1.ne s.1.row (by decide), s.2.1.ne s.2.2.1 (by decide)⟩
theorem Rfs.apart {w : World} {a g h n m c d : Nat} {bs ks : List UInt8} (s : Rfs w a g h n m c d bs ks) : g ≠ a ∧ h ≠ a ∧ g ≠ h := ⟨s.2.1.ne s.1.row (by decide), s.2.2.1.ne s.1.row (by decide), s.2.1.ne s.2.2.1 (by decide)⟩
/-- A row's bytes are spliced. -/
theorem Sto.spliced {w : World} {a g h n m : Nat} {bs ks : List UInt8} (s : Sto w a g h n m bs ks) {w' : World} {bs' : List UInt8} (hr : Row w' g 5 (bsU bs') n) (hl : bs'.length = n) (hg : w.grownBy w' (some g)) : Sto w' a g h n m bs' ks := by
  obtain ⟨e1, e2, e3⟩ := s.apart
  exact ⟨s.1.grown hg (fun e => e1 (Option.some.inj e).symm), hr, s.2.2.1.grown hg (fun e => e3 (Option.some.inj e).symm), hl, s.2.2.2.2⟩
theorem Rfs.spliced {w : World} {a g h n m c d : Nat} {bs ks : List UInt8} (s : Rfs w a g h n m c d bs ks) {w' : World} {bs' : List UInt8} (hr : Row w' g 5 (bsU bs') c) (hl : bs'.length = n) (hg : w.grownBy w' (some g)) : Rfs w' a g h n m c d bs' ks := by
  obtain ⟨e1, e2, e3⟩ := s.apart
  exact ⟨s.1.grown hg (fun e => e1 (Option.some.inj e).symm), hr, s.2.2.1.grown hg (fun e => e3 (Option.some.inj e).symm), hl, s.2.2.2.2⟩
theorem Sto.relocked {w : World} {a g h n m : Nat} {bs ks : List UInt8} (s : Sto w a g h n m bs ks) {w' : World} {ks' : List UInt8} (hr : Row w' h 68 (bsU ks') m) (hl : ks'.length = m) (hg : w.grownBy w' (some h)) : Sto w' a g h n m bs ks' := by
  obtain ⟨e1, e2, e3⟩ := s.apart
  exact ⟨s.1.grown hg (fun e => e2 (Option.some.inj e).symm), s.2.1.grown hg (fun e => e3 (Option.some.inj e)), hr, s.2.2.2.1, hl, s.2.2.2.2.2⟩
theorem Rfs.relocked {w : World} {a g h n m c d : Nat} {bs ks : List UInt8} (s : Rfs w a g h n m c d bs ks) {w' : World} {ks' : List UInt8} (hr : Row w' h 3 (bsI ks') d) (hl : ks'.length = m) (hg : w.grownBy w' (some h)) : Rfs w' a g h n m c d bs ks' := by
  obtain ⟨e1, e2, e3⟩ := s.apart
  exact ⟨s.1.grown hg (fun e => e2 (Option.some.inj e).symm), s.2.1.grown hg (fun e => e3 (Option.some.inj e)), hr, s.2.2.2.1, hl, s.2.2.2.2.2⟩
/-- The nine numbers of a storage are what they are. -/
theorem Sto.nums {w : World} {a g h n m : Nat} {bs ks : List UInt8} (s : Sto w a g h n m bs ks) : bs.length = n ∧ ks.length = m ∧ n = m * 2048 ∧ 1 ≤ m ∧ m ≤ 32 := s.2.2.2
theorem Rfs.nums {w : World} {a g h n m c d : Nat} {bs ks : List UInt8} (s : Rfs w a g h n m c d bs ks) : bs.length = n ∧ ks.length = m ∧ n = m * 2048 ∧ 1 ≤ m ∧ m ≤ 32 ∧ c ≤ 9223372036854775807 ∧ d ≤ 9223372036854775807 := s.2.2.2

end E
end Go.Proofs.Ytnnpnklbhghegaa

/- Storages: memory, what is answered, the small functions, the keys. -/
import Derived.Test.YtbcncohjjnmdcaaGreatDoorRows
import Derived.Lib.SliceRun
import Derived.RangeFuncBound
import Derived.RangeFuncBox
import Derived.RangeFuncCalls
import Derived.RangeFuncLeaves
import Derived.RangeFuncNested
import Derived.Shelf.Abstract
import Derived.Shelf.RegionOpen
import Derived.Test.YtbcncohjjnmdcaaGreatDoorPkA
namespace Go.Proofs.YtbcncohjjnmdcaaGreatDoor
open Go.RowKit
set_option linter.unusedVariables false
namespace E

/-! ### What a call leaves -/

theorem grown_of {w w' : World} (h : Below w.heap.size w w') (row : Option Nat) : w.grownBy w' row := ⟨h.os, h.tape, h.output, h.size, fun k hk _ => h.block k hk⟩
theorem below_of {w w' : World} (h : w.grownBy w' none) : Below w.heap.size w w' := ⟨h.os, h.tape, h.output, h.size, fun k hk => h.block k hk (by simp)⟩
theorem gtrans {w w1 w2 : World} {r : Option Nat} (h : w.grownBy w1 r) (k : Below w1.heap.size w1 w2) : w.grownBy w2 r := h.trans (grown_of k r)
theorem btrans {w w1 w2 : World} {r : Option Nat} (h : Below w.heap.size w w1) (k : w1.grownBy w2 r) : w.grownBy w2 r := (grown_of h r).trans k
theorem below_grown {w w1 w2 : World} {g : Nat} (h : Below w.heap.size w w1) (k : w1.grownBy w2 (some g)) (hg : w.heap.size ≤ g) : Below w.heap.size w w2 := h.grown k h.size (fun r hr => by cases hr; exact hg)

/-! ### Rows of cells -/

/-- A block of c cells whose first cells are given. -/
def Row (w : World) (g : Nat) (t : TypeId) (xs : List Value) (c : Nat) : Prop := ∃ cur : Array Value, w.heap[g]? = some (.cells cur t (0, 0)) ∧ cur.toList.take xs.length = xs ∧ cur.size = c
theorem Row.lt {w : World} {g : Nat} {t : TypeId} {xs : List Value} {c : Nat} (h : Row w g t xs c) : g < w.heap.size := by
  obtain ⟨cur, hg, _⟩ := h
  exact (Array.getElem?_eq_some_iff.1 hg).1
theorem Row.len {w : World} {g : Nat} {t : TypeId} {xs : List Value} {c : Nat} (h : Row w g t xs c) : xs.length ≤ c := by
  obtain ⟨cur, _, ht, rfl⟩ := h
  have := congrArg List.length ht
  rw [List.length_take] at this
  rw [← Array.length_toList]
  omega
theorem Row.cell {w : World} {g : Nat} {t : TypeId} {xs : List Value} {c : Nat} (h : Row w g t xs c) (j : Nat) (hj : j < xs.length) : w.cell? ⟨g, j, none⟩ = xs[j]? := by
  obtain ⟨cur, hg, ht, _⟩ := h
  rw [cell_of_row w g j cur _ (0, 0) hg, ← ht, List.getElem?_take, if_pos hj]
  simp
theorem Row.frozen {w : World} {g : Nat} {t : TypeId} {xs : List Value} {c : Nat} (h : Row w g t xs c) (j : Nat) : w.frozen? ⟨g, j, none⟩ = false := by
  obtain ⟨cur, hg, _⟩ := h
  exact frozen_of_row w g j cur _ hg
theorem Row.grown {w w' : World} {row : Option Nat} {g : Nat} {t : TypeId} {xs : List Value} {c : Nat} (h : Row w g t xs c) (hg : w.grownBy w' row) (hne : some g ≠ row) : Row w' g t xs c := by
  have hl := h.lt
  obtain ⟨cur, h1, h2⟩ := h
  exact ⟨cur, (hg.block g hl hne).trans h1, h2⟩
theorem Row.below {w w' : World} {g : Nat} {t : TypeId} {xs : List Value} {c : Nat} (h : Row w g t xs c) (hb : Below w.heap.size w w') : Row w' g t xs c := h.grown (grown_of hb none) (by simp)
theorem Row.set {w : World} {g : Nat} {t : TypeId} {xs : List Value} {c : Nat} (h : Row w g t xs c) (i : Nat) (u : Value) : Row (w.setCell ⟨g, i, none⟩ u) g t (xs.set i u) c ∧ w.grownBy (w.setCell ⟨g, i, none⟩ u) (some g) := by
  obtain ⟨cur, hg, ht, hc⟩ := h
  refine ⟨⟨_, heap_setCell_same w g i cur _ _ hg, ?_, by simp [hc]⟩, ⟨rfl, rfl, rfl, by simp, fun k _ hk => heap_setCell_other w ⟨g, i, none⟩ k _ (fun e => hk (by simp [e]))⟩⟩
  rw [Array.toList_setIfInBounds, List.length_set, List.take_set, ht]
theorem Row.ne {w : World} {g g' : Nat} {t t' : TypeId} {xs xs' : List Value} {c c' : Nat} (h : Row w g t xs c) (h' : Row w g' t' xs' c') (hne : t ≠ t') : g ≠ g' := by
  intro e
  subst e
  obtain ⟨cur, h1, _⟩ := h
  obtain ⟨cur', h2, _⟩ := h'
  rw [h1] at h2
  injection h2 with h3
  injection h3 with _ h4
  exact hne h4
theorem Bx.row {w : World} {g : Nat} {t : TypeId} {cs : Array Value} (h : Bx w g t cs) : Row w g t cs.toList cs.size := ⟨cs, h, List.take_of_length_le (Nat.le_refl _), rfl⟩
theorem Row.splice {w : World} {g : Nat} {t : TypeId} {xs : List Value} {c : Nat} (h : Row w g t xs c) (off : Nat) (cs : List Value) (hf : off + cs.length ≤ xs.length) :
    ∃ cur : Array Value, w.heap[g]? = some (.cells cur t (0, 0)) ∧ off + cs.length ≤ cur.size ∧ Row (w.setRow g (cur.toList.take off ++ (cs ++ cur.toList.drop (off + cs.length))).toArray) g t (xs.take off ++ (cs ++ xs.drop (off + cs.length))) c ∧ w.grownBy (w.setRow g (cur.toList.take off ++ (cs ++ cur.toList.drop (off + cs.length))).toArray) (some g) := by
  have hl := h.len
  obtain ⟨cur, hg, ht, hc⟩ := h
  have hcl : cur.toList.length = c := by rw [Array.length_toList]; exact hc
  refine ⟨cur, hg, by omega, ⟨_, setRow_heap w g _ _ t _ hg, ?_, ?_⟩, ⟨rfl, rfl, rfl, by simp [World.setRow], fun k _ hk => setRow_other w g k _ (fun e => hk (by rw [e]))⟩⟩
  · show List.take _ (cur.toList.take off ++ (cs ++ cur.toList.drop (off + cs.length))) = _
    have e1 : xs.take off = cur.toList.take off := by rw [← ht, List.take_take]; congr 1; omega
    have e2 : xs.drop (off + cs.length) = (cur.toList.drop (off + cs.length)).take (xs.length - (off + cs.length)) := by
      rw [List.take_drop, show off + cs.length + (xs.length - (off + cs.length)) = xs.length by omega, ht]
    rw [e1, e2]
    have h1 : (cur.toList.take off).length = off := by rw [List.length_take]; omega
    have h2 : ((cur.toList.drop (off + cs.length)).take (xs.length - (off + cs.length))).length = xs.length - (off + cs.length) := by rw [List.length_take, List.length_drop]; omega
    rw [show (cur.toList.take off ++ (cs ++ (cur.toList.drop (off + cs.length)).take (xs.length - (off + cs.length)))).length = off + (cs.length + (xs.length - (off + cs.length))) by rw [List.length_append, List.length_append, h1, h2]]
    rw [List.take_append, h1, List.take_of_length_le (l := cur.toList.take off) (by omega), show off + (cs.length + (xs.length - (off + cs.length))) - off = cs.length + (xs.length - (off + cs.length)) by omega, List.take_append, List.take_of_length_le (l := cs) (by omega), show cs.length + (xs.length - (off + cs.length)) - cs.length = xs.length - (off + cs.length) by omega]
  · simp
    omega
theorem own_row {w : World} {base g n c : Nat} {t : TypeId} {xs : List Value} (h : w.ownsRow base t 1 (.slice (some ⟨g, 0, none⟩) n c) n xs) (hx : xs.length = n) : Row w g t xs c := by
  obtain ⟨_, ⟨h1, _⟩ | ⟨g', cap, cur, hv, hg, hh, hle, hm, hsz, ht⟩⟩ := h
  · cases h1
  · injection hv with e1 e2 e3
    injection e1 with e1
    injection e1 with e1
    subst e1 e3
    exact ⟨cur, hh, by rw [hx]; simpa using ht, by simpa using hsz⟩
/-- The cells of keys as numbers. -/
def bsI (l : List UInt8) : List Value := l.map fun b => .int .i64 (b.toNat : Int)
theorem bsI_len (l : List UInt8) : (bsI l).length = l.length := by simp [bsI]
theorem bsI_get (l : List UInt8) (j : Nat) (hj : j < l.length) : (bsI l)[j]? = some (.int .i64 ((gt l j).toNat : Int)) := by
  rw [gt_lt hj]
  simp [bsI, List.getElem?_eq_getElem hj]
theorem bsI_set (l : List UInt8) (i : Nat) (x : UInt8) : (bsI l).set i (.int .i64 (x.toNat : Int)) = bsI (l.set i x) := by simp [bsI, List.map_set]
theorem Row.rd {w : World} {g c : Nat} {t : TypeId} {l : List UInt8} (h : Row w g t (bsU l) c) (a k : Nat) (hk : a + k ≤ l.length) : Rd w (some ⟨g, a, none⟩) ((l.drop a).take k) := by
  refine .inr ⟨g, a, rfl, fun j hj => ?_⟩
  rw [List.length_take, List.length_drop] at hj
  rw [h.cell (a + j) (by rw [bsU_len]; omega), bsU_get l (a + j) (by omega)]
  congr 3
  rw [gt_lt (by omega), gt_lt (by rw [List.length_take, List.length_drop]; omega)]
  simp

/-! ### Storages -/

/-- A storage of the program: its bytes and its locks. -/
def Sto (w : World) (a g h n m : Nat) (bs ks : List UInt8) : Prop :=
  Bx w a 84 #[.slice (some ⟨g, 0, none⟩) n n, .slice (some ⟨h, 0, none⟩) m m] ∧ Row w g 5 (bsU bs) n ∧ Row w h 85 (bsU ks) m ∧ bs.length = n ∧ ks.length = m ∧ n = m * 2048 ∧ 1 ≤ m ∧ m ≤ 32
/-- A storage of the given answers. -/
def Rfs (w : World) (a g h n m c d : Nat) (bs ks : List UInt8) : Prop :=
  Bx w a 81 #[.slice (some ⟨g, 0, none⟩) n c, .slice (some ⟨h, 0, none⟩) m d] ∧ Row w g 5 (bsU bs) c ∧ Row w h 3 (bsI ks) d ∧ bs.length = n ∧ ks.length = m ∧ n = m * 2048 ∧ 1 ≤ m ∧ m ≤ 32 ∧ c ≤ 9223372036854775807 ∧ d ≤ 9223372036854775807
theorem Sto.grown {w w' : World} {row : Option Nat} {a g h n m : Nat} {bs ks : List UInt8} (s : Sto w a g h n m bs ks) (hg : w.grownBy w' row) (h1 : some a ≠ row) (h2 : some g ≠ row) (h3 : some h ≠ row) : Sto w' a g h n m bs ks :=
  ⟨s.1.grown hg h1, s.2.1.grown hg h2, s.2.2.1.grown hg h3, s.2.2.2⟩
theorem Sto.below {w w' : World} {a g h n m : Nat} {bs ks : List UInt8} (s : Sto w a g h n m bs ks) (hb : Below w.heap.size w w') : Sto w' a g h n m bs ks := s.grown (grown_of hb none) (by simp) (by simp) (by simp)
theorem Rfs.grown {w w' : World} {row : Option Nat} {a g h n m c d : Nat} {bs ks : List UInt8} (s : Rfs w a g h n m c d bs ks) (hg : w.grownBy w' row) (h1 : some a ≠ row) (h2 : some g ≠ row) (h3 : some h ≠ row) : Rfs w' a g h n m c d bs ks :=
  ⟨s.1.grown hg h1, s.2.1.grown hg h2, s.2.2.1.grown hg h3, s.2.2.2⟩
theorem Rfs.below {w w' : World} {a g h n m c d : Nat} {bs ks : List UInt8} (s : Rfs w a g h n m c d bs ks) (hb : Below w.heap.size w w') : Rfs w' a g h n m c d bs ks := s.grown (grown_of hb none) (by simp) (by simp) (by simp)
theorem Sto.c0 {w : World} {a g h n m : Nat} {bs ks : List UInt8} (s : Sto w a g h n m bs ks) : w.cell? ⟨a, 0, none⟩ = some (.slice (some ⟨g, 0, none⟩) n n) := s.1.cell 0
theorem Sto.c1 {w : World} {a g h n m : Nat} {bs ks : List UInt8} (s : Sto w a g h n m bs ks) : w.cell? ⟨a, 1, none⟩ = some (.slice (some ⟨h, 0, none⟩) m m) := s.1.cell 1
theorem Rfs.c0 {w : World} {a g h n m c d : Nat} {bs ks : List UInt8} (s : Rfs w a g h n m c d bs ks) : w.cell? ⟨a, 0, none⟩ = some (.slice (some ⟨g, 0, none⟩) n c) := s.1.cell 0
theorem Rfs.c1 {w : World} {a g h n m c d : Nat} {bs ks : List UInt8} (s : Rfs w a g h n m c d bs ks) : w.cell? ⟨a, 1, none⟩ = some (.slice (some ⟨h, 0, none⟩) m d) := s.1.cell 1
theorem Sto.byte {w : World} {a g h n m : Nat} {bs ks : List UInt8} (s : Sto w a g h n m bs ks) (j : Nat) (hj : j < n) : w.cell? ⟨g, j, none⟩ = some (.int .u8 ((gt bs j).toNat : Int)) := by
  obtain ⟨_, h1, _, rfl, _⟩ := s
  rw [h1.cell j (by rw [bsU_len]; exact hj), bsU_get _ _ hj]
theorem Sto.lock {w : World} {a g h n m : Nat} {bs ks : List UInt8} (s : Sto w a g h n m bs ks) (j : Nat) (hj : j < m) : w.cell? ⟨h, j, none⟩ = some (.int .u8 ((gt ks j).toNat : Int)) := by
  obtain ⟨_, _, h1, _, rfl, _⟩ := s
  rw [h1.cell j (by rw [bsU_len]; exact hj), bsU_get _ _ hj]
theorem Rfs.byte {w : World} {a g h n m c d : Nat} {bs ks : List UInt8} (s : Rfs w a g h n m c d bs ks) (j : Nat) (hj : j < n) : w.cell? ⟨g, j, none⟩ = some (.int .u8 ((gt bs j).toNat : Int)) := by
  obtain ⟨_, h1, _, rfl, _⟩ := s
  rw [h1.cell j (by rw [bsU_len]; exact hj), bsU_get _ _ hj]
theorem Rfs.lock {w : World} {a g h n m c d : Nat} {bs ks : List UInt8} (s : Rfs w a g h n m c d bs ks) (j : Nat) (hj : j < m) : w.cell? ⟨h, j, none⟩ = some (.int .i64 ((gt ks j).toNat : Int)) := by
  obtain ⟨_, _, h1, _, rfl, _⟩ := s
  rw [h1.cell j (by rw [bsI_len]; exact hj), bsI_get _ _ hj]
/-- The storage's own blocks lie apart. -/
theorem Sto.apart {w : World} {a g h n m : Nat} {bs ks : List UInt8} (s : Sto w a g h n m bs ks) : g ≠ a ∧ h ≠ a ∧ g ≠ h := ⟨s.2.1.ne s.1.row (by decide), s.2.2.1.ne s.1.row (by decide), s.2.1.ne s.2.2.1 (by decide)⟩
theorem Rfs.apart {w : World} {a g h n m c d : Nat} {bs ks : List UInt8} (s : Rfs w a g h n m c d bs ks) : g ≠ a ∧ h ≠ a ∧ g ≠ h := ⟨s.2.1.ne s.1.row (by decide), s.2.2.1.ne s.1.row (by decide), s.2.1.ne s.2.2.1 (by decide)⟩
/-- A row's bytes are spliced. -/
theorem Sto.spliced {w : World} {a g h n m : Nat} {bs ks : List UInt8} (s : Sto w a g h n m bs ks) {w' : World} {bs' : List UInt8} (hr : Row w' g 5 (bsU bs') n) (hl : bs'.length = n) (hg : w.grownBy w' (some g)) : Sto w' a g h n m bs' ks := by
  obtain ⟨e1, e2, e3⟩ := s.apart
  exact ⟨s.1.grown hg (fun e => e1 (Option.some.inj e).symm), hr, s.2.2.1.grown hg (fun e => e3 (Option.some.inj e).symm), hl, s.2.2.2.2⟩
theorem Rfs.spliced {w : World} {a g h n m c d : Nat} {bs ks : List UInt8} (s : Rfs w a g h n m c d bs ks) {w' : World} {bs' : List UInt8} (hr : Row w' g 5 (bsU bs') c) (hl : bs'.length = n) (hg : w.grownBy w' (some g)) : Rfs w' a g h n m c d bs' ks := by
  obtain ⟨e1, e2, e3⟩ := s.apart
  exact ⟨s.1.grown hg (fun e => e1 (Option.some.inj e).symm), hr, s.2.2.1.grown hg (fun e => e3 (Option.some.inj e).symm), hl, s.2.2.2.2⟩
theorem Sto.relocked {w : World} {a g h n m : Nat} {bs ks : List UInt8} (s : Sto w a g h n m bs ks) {w' : World} {ks' : List UInt8} (hr : Row w' h 85 (bsU ks') m) (hl : ks'.length = m) (hg : w.grownBy w' (some h)) : Sto w' a g h n m bs ks' := by
  obtain ⟨e1, e2, e3⟩ := s.apart
  exact ⟨s.1.grown hg (fun e => e2 (Option.some.inj e).symm), s.2.1.grown hg (fun e => e3 (Option.some.inj e)), hr, s.2.2.2.1, hl, s.2.2.2.2.2⟩
theorem Rfs.relocked {w : World} {a g h n m c d : Nat} {bs ks : List UInt8} (s : Rfs w a g h n m c d bs ks) {w' : World} {ks' : List UInt8} (hr : Row w' h 3 (bsI ks') d) (hl : ks'.length = m) (hg : w.grownBy w' (some h)) : Rfs w' a g h n m c d bs ks' := by
  obtain ⟨e1, e2, e3⟩ := s.apart
  exact ⟨s.1.grown hg (fun e => e2 (Option.some.inj e).symm), s.2.1.grown hg (fun e => e3 (Option.some.inj e)), hr, s.2.2.2.1, hl, s.2.2.2.2.2⟩
/-- The nine numbers of a storage are what they are. -/
theorem Sto.nums {w : World} {a g h n m : Nat} {bs ks : List UInt8} (s : Sto w a g h n m bs ks) : bs.length = n ∧ ks.length = m ∧ n = m * 2048 ∧ 1 ≤ m ∧ m ≤ 32 := s.2.2.2
theorem Rfs.nums {w : World} {a g h n m c d : Nat} {bs ks : List UInt8} (s : Rfs w a g h n m c d bs ks) : bs.length = n ∧ ks.length = m ∧ n = m * 2048 ∧ 1 ≤ m ∧ m ≤ 32 ∧ c ≤ 9223372036854775807 ∧ d ≤ 9223372036854775807 := s.2.2.2

end E
end Go.Proofs.YtbcncohjjnmdcaaGreatDoor
namespace Go.Proofs.YtbcncohjjnmdcaaGreatDoor
open Go.RowKit
set_option linter.unusedVariables false
namespace E

/-- Is the range of k bytes from a on in a storage of n bytes? -/
def inB (n : Nat) (a k : Int) : Bool := decide (0 ≤ a ∧ 0 ≤ k ∧ k ≤ (n : Int) - a)
/-- May an access with the key store into a block with the number l? -/
def stP (key : Int) (l : UInt8) : Bool := key == 0 || key == ((l.toNat / 2 : Nat) : Int)
/-- May it fetch? -/
def ftP (key : Int) (l : UInt8) : Bool := stP key l || !(l.toNat % 2 == 1)
/-- Is the access allowed for each byte of the range? -/
def allB (p : UInt8 → Bool) (ks : List UInt8) (a k : Nat) : Bool := (List.range k).all fun i => p (gt ks ((a + i) / 2048))
/-- The code of an access. -/
def codeV (p : UInt8 → Bool) (n : Nat) (ks : List UInt8) (a k : Int) : Int := if inB n a k = true then (if allB p ks a.toNat k.toNat = true then 0 else 4) else 5
/-- The bytes with b from a on. -/
def putL (l : List UInt8) (a : Nat) (b : List UInt8) : List UInt8 := l.take a ++ (b ++ l.drop (a + b.length))
/-- The k bytes from a on. -/
def subL (l : List UInt8) (a k : Nat) : List UInt8 := (l.drop a).take k
theorem inB_iff {n : Nat} {a k : Int} : inB n a k = true ↔ 0 ≤ a ∧ 0 ≤ k ∧ k ≤ (n : Int) - a := by unfold inB; exact decide_eq_true_iff
theorem putL_len {l b : List UInt8} {a : Nat} (h : a + b.length ≤ l.length) : (putL l a b).length = l.length := by
  simp [putL]; omega
theorem subL_len {l : List UInt8} {a k : Nat} (h : a + k ≤ l.length) : (subL l a k).length = k := by
  simp [subL]; omega
theorem gt_putL {l b : List UInt8} {a : Nat} (h : a + b.length ≤ l.length) (j : Nat) : gt (putL l a b) j = if a ≤ j ∧ j < a + b.length then gt b (j - a) else gt l j := by
  unfold gt putL
  simp only [List.getD_eq_getElem?_getD]
  rw [List.getElem?_append, List.length_take, Nat.min_eq_left (by omega)]
  by_cases h1 : j < a
  · rw [if_pos h1, if_neg (by omega), List.getElem?_take, if_pos h1]
  · rw [if_neg h1, List.getElem?_append]
    by_cases h2 : j - a < b.length
    · rw [if_pos h2, if_pos (by omega)]
    · rw [if_neg h2, if_neg (by omega), List.getElem?_drop, show a + b.length + (j - a - b.length) = j by omega]
theorem ext_gt {l m : List UInt8} (h : l.length = m.length) (hg : ∀ j, j < l.length → gt l j = gt m j) : l = m := by
  refine List.ext_getElem h fun j h1 h2 => ?_
  have := hg j h1
  rwa [gt_lt h1, gt_lt h2] at this
theorem gt_setX {l : List UInt8} {i : Nat} {x : UInt8} (h : i < l.length) (j : Nat) : gt (l.set i x) j = if j = i then x else gt l j := by
  unfold gt
  simp only [List.getD_eq_getElem?_getD, List.getElem?_set]
  by_cases e : i = j
  · rw [if_pos e, if_pos h, if_pos e.symm]; rfl
  · rw [if_neg e, if_neg (fun h => e h.symm)]
theorem subL_all (l : List UInt8) {n : Nat} (h : l.length = n) : subL l 0 n = l := by
  subst h
  simp [subL]

/-! ### The blocks of a range -/

/-- How many blocks it touches. -/
def blkN (a k : Nat) : Nat := if k = 0 then 0 else (a + k - 1) / 2048 - a / 2048 + 1
/-- Where the i-th of them is entered. -/
def atB (a i : Nat) : Nat := if i = 0 then a else (a / 2048 + i) * 2048
theorem atB_div (a i : Nat) : atB a i / 2048 = a / 2048 + i := by
  unfold atB
  split
  · omega
  · omega
theorem atB_lt (a k i : Nat) : atB a i < a + k ↔ i < blkN a k := by
  unfold atB blkN
  split
  · rename_i h
    subst h
    split
    · omega
    · omega
  · split
    · omega
    · omega
theorem atB_next (a i : Nat) : atB a (i + 1) = (a / 2048 + i + 1) * 2048 := by
  unfold atB
  rw [if_neg (by omega)]
  rfl
/-- What is answered for each of the first i blocks. -/
def grL (p : UInt8 → Bool) (ks : List UInt8) (a i : Nat) : List Bool := (List.range i).map fun j => p (gt ks (a / 2048 + j))
theorem grL_len (p : UInt8 → Bool) (ks : List UInt8) (a i : Nat) : (grL p ks a i).length = i := by simp [grL]
theorem grL_succ (p : UInt8 → Bool) (ks : List UInt8) (a i : Nat) : grL p ks a (i + 1) = grL p ks a i ++ [p (gt ks (a / 2048 + i))] := by
  simp [grL, List.range_succ]
theorem grL_pre (p : UInt8 → Bool) (ks : List UInt8) (a i K : Nat) (h : i ≤ K) : grL p ks a i <+: grL p ks a K := by
  unfold grL
  obtain ⟨d, rfl⟩ : ∃ d, K = i + d := ⟨K - i, by omega⟩
  rw [List.range_add, List.map_append]
  exact List.prefix_append _ _
theorem grL_all (p : UInt8 → Bool) (ks : List UInt8) (a k : Nat) : (grL p ks a (blkN a k)).all id = allB p ks a k := by
  rw [Bool.eq_iff_iff]
  unfold grL allB
  simp only [List.all_eq_true, List.mem_map, List.mem_range, id]
  constructor
  · intro h i hi
    have h2 : (a + i) / 2048 = a / 2048 + ((a + i) / 2048 - a / 2048) := by omega
    refine h _ ⟨(a + i) / 2048 - a / 2048, ?_, by rw [← h2]⟩
    unfold blkN
    rw [if_neg (by omega)]
    omega
  · rintro h _ ⟨j, hj, rfl⟩
    have h1 := (atB_lt a k j).2 hj
    have h2 := atB_div a j
    have h3 : a ≤ atB a j := by unfold atB; split <;> omega
    have h4 := h (atB a j - a) (by omega)
    rwa [show a + (atB a j - a) = atB a j by omega, h2] at h4
theorem allB_iff (p : UInt8 → Bool) (ks : List UInt8) (a k : Nat) : allB p ks a k = true ↔ ∀ i, i < k → p (gt ks ((a + i) / 2048)) = true := by
  unfold allB
  simp
theorem allB_no {p : UInt8 → Bool} {ks : List UInt8} {a k i : Nat} (hi : i < k) (h : p (gt ks ((a + i) / 2048)) = false) : allB p ks a k = false := by
  cases e : allB p ks a k with
  | false => rfl
  | true => rw [(allB_iff p ks a k).1 e i hi] at h; cases h

end E
end Go.Proofs.YtbcncohjjnmdcaaGreatDoor
namespace Go.Proofs.YtbcncohjjnmdcaaGreatDoor
open Go.RowKit
set_option linter.unusedVariables false
namespace E

set_option maxRecDepth 100000 in
theorem holds_any (a g n : Nat) (x k : Int) (w : World) (hx : x ≤ 9223372036854775807) (hn : n ≤ 65536) (hc : w.cell? ⟨a, 0, none⟩ = some (.slice (some ⟨g, 0, none⟩) n n)) :
    Calls Tryz.prog 40 #[.pointer (some ⟨a, 0, none⟩), .int .i64 x, .int .i64 k] w fun e w' => e = .returned (.bool (inB n x k)) ∧ w = w' := by
  by_cases h0 : 0 ≤ x
  · by_cases h1 : 0 ≤ k
    · have he : wrap64 ((n : Int) - x) = (n : Int) - x := by unfold wrap64; omega
      have hr : decide (k ≤ (n : Int) - x) = inB n x k := by
        unfold inB
        exact decide_eq_decide.2 ⟨fun h => ⟨h0, h1, h⟩, fun h => h.2.2⟩
      generalize inB n x k = r at hr ⊢
      go_enter Tryz.func40, Tryz.ntmps40
      go_wp2
      go_ret
      exact ⟨by simp, rfl⟩
    · have hr : inB n x k = false := by unfold inB; exact decide_eq_false (fun h => h1 h.2.1)
      rw [hr]
      clear hr
      go_enter Tryz.func40, Tryz.ntmps40
      go_wp2
      go_ret
      exact ⟨rfl, rfl⟩
  · have hr : inB n x k = false := by unfold inB; exact decide_eq_false (fun h => h0 h.1)
    rw [hr]
    clear hr
    go_enter Tryz.func40, Tryz.ntmps40
    go_wp2
    go_ret
    exact ⟨rfl, rfl⟩
set_option maxRecDepth 100000 in
theorem rin_any (a g n c : Nat) (x k : Int) (w : World) (hn : n ≤ 65536) (hc : w.cell? ⟨a, 0, none⟩ = some (.slice (some ⟨g, 0, none⟩) n c)) :
    Calls Tryz.prog 117 #[.pointer (some ⟨a, 0, none⟩), .int .i64 x, .int .i64 k] w fun e w' => e = .returned (.bool (inB n x k)) ∧ w = w' := by
  by_cases h0 : 0 ≤ x
  · by_cases h1 : 0 ≤ k
    · by_cases h2 : x ≤ (n : Int)
      · have he : wrap64 ((n : Int) - x) = (n : Int) - x := by unfold wrap64; omega
        have hr : decide (k ≤ (n : Int) - x) = inB n x k := by
          unfold inB
          exact decide_eq_decide.2 ⟨fun h => ⟨h0, h1, h⟩, fun h => h.2.2⟩
        generalize inB n x k = r at hr ⊢
        go_enter Tryz.func117, Tryz.ntmps117
        go_wp2
        go_ret
        exact ⟨by simp, rfl⟩
      · have hr : inB n x k = false := by unfold inB; exact decide_eq_false (fun h => by omega)
        rw [hr]
        clear hr
        go_enter Tryz.func117, Tryz.ntmps117
        go_wp2
        go_ret
        exact ⟨rfl, rfl⟩
    · have hr : inB n x k = false := by unfold inB; exact decide_eq_false (fun h => h1 h.2.1)
      rw [hr]
      clear hr
      go_enter Tryz.func117, Tryz.ntmps117
      go_wp2
      go_ret
      exact ⟨rfl, rfl⟩
  · have hr : inB n x k = false := by unfold inB; exact decide_eq_false (fun h => h0 h.1)
    rw [hr]
    clear hr
    go_enter Tryz.func117, Tryz.ntmps117
    go_wp2
    go_ret
    exact ⟨rfl, rfl⟩
theorem blockOf_any (x : Nat) (w : World) (hx : x ≤ 131072) : Calls Tryz.prog 41 #[.int .i64 (x : Int)] w fun e w' => e = .returned (.int .i64 ((x / 2048 : Nat) : Int)) ∧ w = w' := by
  go_enter Tryz.func41, Tryz.ntmps41
  have e1 : wrap64 ((x : Int) / 2048) = ((x / 2048 : Nat) : Int) := by unfold wrap64; omega
  go_wp2
  go_ret
  exact ⟨by simp, rfl⟩
theorem lockKey_any (l : UInt8) (w : World) : Calls Tryz.prog 92 #[.int .u8 (l.toNat : Int)] w fun e w' => e = .returned (.int .i64 ((l.toNat / 2 : Nat) : Int)) ∧ w = w' := by
  have h1 := l.toNat_lt
  go_enter Tryz.func92, Tryz.ntmps92
  go_wp2
  go_ret
  exact ⟨by simp, rfl⟩
theorem lockFetch_any (l : UInt8) (w : World) : Calls Tryz.prog 205 #[.int .u8 (l.toNat : Int)] w fun e w' => e = .returned (.bool (l.toNat % 2 == 1)) ∧ w = w' := by
  have h1 := l.toNat_lt
  have h2 : (((l.toNat : Int) % 2) == 1) = (l.toNat % 2 == 1) := by
    rw [Bool.eq_iff_iff]
    simp
    omega
  go_enter Tryz.func205, Tryz.ntmps205
  go_wp2
  go_ret
  exact ⟨by simp, rfl⟩
theorem size_any (a g n : Nat) (w : World) (hc : w.cell? ⟨a, 0, none⟩ = some (.slice (some ⟨g, 0, none⟩) n n)) : Calls Tryz.prog 19 #[.pointer (some ⟨a, 0, none⟩)] w fun e w' => e = .returned (.int .i64 (n : Int)) ∧ w = w' := by
  go_enter Tryz.func19, Tryz.ntmps19
  go_wp2
  go_ret
  exact ⟨rfl, rfl⟩

end E
end Go.Proofs.YtbcncohjjnmdcaaGreatDoor
namespace Go.Proofs.YtbcncohjjnmdcaaGreatDoor
open Go.RowKit Go.Shelf
set_option linter.unusedVariables false
namespace E
attribute [local go_sem] Oper.semAt_some

set_option maxRecDepth 100000 in
theorem stores_any (K : Nat) (key : Int) (l : UInt8) (w : World) (hb : Boxed w K 3 (.int .i64 key)) : Calls Tryz.prog 91 #[.int .u8 (l.toNat : Int), .pointer (some ⟨K, 0, none⟩)] w (New w (.bool (stP key l))) := by
  have h1 := l.toNat_lt
  have hc := hb.cell
  have HC := Lib.hid (And.intro hc (Below.refl w.heap.size w).drew)
  clear hc hb
  by_cases h0 : key = 0
  · subst h0
    have hr : stP 0 l = true := rfl
    rw [hr]
    clear hr
    go_enter Tryz.func91, Tryz.ntmps91
    go_upto_region 1 with fail
    refine wp_region_noPanic ?_
    refine wp_region_held_drew (S := fun W => W.cell? ⟨K, 0, none⟩ = some (.int .i64 0) ∧ Below w.heap.size w W) (by kernel_rfl) (HC.out) (fun k0 => ?_)
    show wpAnyH _ _ _ _ _ 9 #[false, false, false, false, false, false, false, false, false] _ _
    refine wpAnyH_take (i := 0) (oi := ⟨some 4, _, _, _, _, _⟩) (v := .int .i64 0) rfl (by kernel_rfl) (by kernel_rfl) (by kernel_rfl) (fun _ _ _ h => h) (Or.inl ⟨by rfl, fun W hSw => by (try dsimp only at hSw); go_simp⟩) k0 ?_
    try simp only [Act.put, List.setIfInBounds_toArray, List.set_cons_zero, List.set_cons_succ]
    refine wpAnyH_take (i := 1) (oi := ⟨some 5, _, _, _, _, _⟩) (v := .bool true) rfl (by kernel_rfl) (by kernel_rfl) (by kernel_rfl) (fun _ _ _ h => h) (Or.inl ⟨by rfl, fun W hSw => by (try dsimp only at hSw); go_simp⟩) k0 ?_
    try simp only [Act.put, List.setIfInBounds_toArray, List.set_cons_zero, List.set_cons_succ]
    refine wpAnyH_take (i := 2) (oi := ⟨some 6, _, _, _, _, _⟩) (v := .bool true) rfl (by kernel_rfl) (by kernel_rfl) (by kernel_rfl) (fun _ _ _ h => h) (Or.inl ⟨by rfl, fun W hSw => by (try dsimp only at hSw); go_simp⟩) k0 ?_
    try simp only [Act.put, List.setIfInBounds_toArray, List.set_cons_zero, List.set_cons_succ]
    refine wpAnyH_take (i := 3) (oi := ⟨some 7, _, _, _, _, _⟩) (v := undef) rfl (by kernel_rfl) (by kernel_rfl) (by kernel_rfl) (fun _ _ _ h => h) (Or.inr ⟨by rfl, rfl⟩) k0 ?_
    try simp only [Act.put, List.setIfInBounds_toArray, List.set_cons_zero, List.set_cons_succ]
    refine wpAnyH_take (i := 4) (oi := ⟨some 8, _, _, _, _, _⟩) (v := undef) rfl (by kernel_rfl) (by kernel_rfl) (by kernel_rfl) (fun _ _ _ h => h) (Or.inr ⟨by rfl, rfl⟩) k0 ?_
    try simp only [Act.put, List.setIfInBounds_toArray, List.set_cons_zero, List.set_cons_succ]
    refine wpAnyH_take (i := 5) (oi := ⟨some 9, _, _, _, _, _⟩) (v := undef) rfl (by kernel_rfl) (by kernel_rfl) (by kernel_rfl) (fun _ _ _ h => h) (Or.inr ⟨by rfl, rfl⟩) k0 ?_
    try simp only [Act.put, List.setIfInBounds_toArray, List.set_cons_zero, List.set_cons_succ]
    refine wpAnyH_take (i := 6) (oi := ⟨some 10, _, _, _, _, _⟩) (v := undef) rfl (by kernel_rfl) (by kernel_rfl) (by kernel_rfl) (fun _ _ _ h => h) (Or.inr ⟨by rfl, rfl⟩) k0 ?_
    try simp only [Act.put, List.setIfInBounds_toArray, List.set_cons_zero, List.set_cons_succ]
    refine wpAnyH_take (i := 7) (oi := ⟨some 11, _, _, _, _, _⟩) (v := .bool true) rfl (by kernel_rfl) (by kernel_rfl) (by kernel_rfl) (fun _ _ _ h => h) (Or.inl ⟨by rfl, fun W hSw => by (try dsimp only at hSw); go_simp⟩) k0 ?_
    try simp only [Act.put, List.setIfInBounds_toArray, List.set_cons_zero, List.set_cons_succ]
    refine wpAnyH_take (i := 8) (oi := ⟨some 3, _, _, _, _, _⟩) (v := .bool true) rfl (by kernel_rfl) (by kernel_rfl) (by kernel_rfl) (fun _ _ _ h => h) (Or.inl ⟨by rfl, fun W hSw => by (try dsimp only at hSw); go_simp⟩) k0 ?_
    try simp only [Act.put, List.setIfInBounds_toArray, List.set_cons_zero, List.set_cons_succ]
    refine wpAnyH_done (by kernel_rfl) ?_ _
    refine NoPanic.normal ?_
    have HB := Lib.hid k0.2
    clear k0
    go_wp2
    go_ret
    exact ⟨rfl, HB.out⟩
  · have hr : stP key l = (key == ((l.toNat / 2 : Nat) : Int)) := by unfold stP; simp [h0]
    have h0' : (key == 0) = false := by simpa using h0
    have H1 := Lib.hid (lockKey_any l)
    rw [hr]
    clear hr h0
    generalize ((l.toNat / 2 : Nat) : Int) = q at *
    go_enter Tryz.func91, Tryz.ntmps91
    go_upto_region 1 with fail
    refine wp_region_noPanic ?_
    refine wp_region_held_drew (S := fun W => W.cell? ⟨K, 0, none⟩ = some (.int .i64 key) ∧ Below w.heap.size w W) (by kernel_rfl) (HC.out) (fun k0 => ?_)
    show wpAnyH _ _ _ _ _ 9 #[false, false, false, false, false, false, false, false, false] _ _
    refine wpAnyH_take (i := 0) (oi := ⟨some 4, _, _, _, _, _⟩) (v := .int .i64 key) rfl (by kernel_rfl) (by kernel_rfl) (by kernel_rfl) (fun _ _ _ h => h) (Or.inl ⟨by rfl, fun W hSw => by (try dsimp only at hSw); go_simp⟩) k0 ?_
    try simp only [Act.put, List.setIfInBounds_toArray, List.set_cons_zero, List.set_cons_succ]
    refine wpAnyH_take (i := 1) (oi := ⟨some 5, _, _, _, _, _⟩) (v := .bool false) rfl (by kernel_rfl) (by kernel_rfl) (by kernel_rfl) (fun _ _ _ h => h) (Or.inl ⟨by rfl, fun W hSw => by (try dsimp only at hSw); go_simp⟩) k0 ?_
    try simp only [Act.put, List.setIfInBounds_toArray, List.set_cons_zero, List.set_cons_succ]
    refine wpAnyH_take (i := 2) (oi := ⟨some 6, _, _, _, _, _⟩) (v := .bool false) rfl (by kernel_rfl) (by kernel_rfl) (by kernel_rfl) (fun _ _ _ h => h) (Or.inl ⟨by rfl, fun W hSw => by (try dsimp only at hSw); go_simp⟩) k0 ?_
    try simp only [Act.put, List.setIfInBounds_toArray, List.set_cons_zero, List.set_cons_succ]
    refine wpAnyH_take (i := 3) (oi := ⟨some 7, _, _, _, _, _⟩) (v := .int .i64 key) rfl (by kernel_rfl) (by kernel_rfl) (by kernel_rfl) (fun _ _ _ h => h) (Or.inl ⟨by rfl, fun W hSw => by (try dsimp only at hSw); go_simp⟩) k0 ?_
    try simp only [Act.put, List.setIfInBounds_toArray, List.set_cons_zero, List.set_cons_succ]
    refine wpAnyH_take (i := 4) (oi := ⟨some 8, _, _, _, _, _⟩) (v := .int .u8 (l.toNat : Int)) rfl (by kernel_rfl) (by kernel_rfl) (by kernel_rfl) (fun _ _ _ h => h) (Or.inl ⟨by rfl, fun W hSw => by (try dsimp only at hSw); go_simp⟩) k0 ?_
    try simp only [Act.put, List.setIfInBounds_toArray, List.set_cons_zero, List.set_cons_succ]
    refine wpAnyH_ready (rs := [5]) (by kernel_rfl) (by simp) ?_
    refine AllReadyH.cons (o := ⟨some 9, _, _, _, _, _⟩) rfl (fun K hK => ?_) AllReadyH.nil
    go_simp
    go_at_call 92
    refine (H1.out _).mono ?_
    rintro e x1 ⟨rfl, rfl⟩
    go_wp2_with fail
    refine hK.out _ _ (k0) (fun k1 => ?_)
    clear hK K
    try simp only [List.setIfInBounds_toArray, List.set_cons_zero, List.set_cons_succ]
    refine wpAnyH_take (i := 6) (oi := ⟨some 10, _, _, _, _, _⟩) (v := .bool (key == q)) rfl (by kernel_rfl) (by kernel_rfl) (by kernel_rfl) (fun _ _ _ h => h) (Or.inl ⟨by rfl, fun W hSw => by (try dsimp only at hSw); go_simp⟩) k1 ?_
    try simp only [Act.put, List.setIfInBounds_toArray, List.set_cons_zero, List.set_cons_succ]
    refine wpAnyH_take (i := 7) (oi := ⟨some 11, _, _, _, _, _⟩) (v := .bool (key == q)) rfl (by kernel_rfl) (by kernel_rfl) (by kernel_rfl) (fun _ _ _ h => h) (Or.inl ⟨by rfl, fun W hSw => by (try dsimp only at hSw); go_simp⟩) k1 ?_
    try simp only [Act.put, List.setIfInBounds_toArray, List.set_cons_zero, List.set_cons_succ]
    refine wpAnyH_take (i := 8) (oi := ⟨some 3, _, _, _, _, _⟩) (v := .bool (key == q)) rfl (by kernel_rfl) (by kernel_rfl) (by kernel_rfl) (fun _ _ _ h => h) (Or.inl ⟨by rfl, fun W hSw => by (try dsimp only at hSw); go_simp⟩) k1 ?_
    try simp only [Act.put, List.setIfInBounds_toArray, List.set_cons_zero, List.set_cons_succ]
    refine wpAnyH_done (by kernel_rfl) ?_ _
    refine NoPanic.normal ?_
    have HB := Lib.hid k1.2
    clear k1
    go_wp2
    go_ret
    exact ⟨rfl, HB.out⟩
/-- The closure that mayStore makes. -/
def storesV (K : Nat) : Value := .func (.func 91) #[] #[.pointer (some ⟨K, 0, none⟩)]
theorem mayStore_any (key : Int) (w : World) : Calls Tryz.prog 43 #[.int .i64 key] w fun e w' => e = .returned (storesV w.heap.size) ∧ Boxed w' w.heap.size 3 (.int .i64 key) ∧ Below w.heap.size w w' := by
  go_enter Tryz.func43, Tryz.ntmps43
  go_wp2
  go_ret
  exact ⟨rfl, Boxed.new w _ _, below_new w _⟩
set_option maxRecDepth 100000 in
theorem fetches_any (J K : Nat) (key : Int) (l : UInt8) (w : World) (hb : Boxed w K 3 (.int .i64 key)) (hj : Boxed w J 88 (storesV K)) : Calls Tryz.prog 204 #[.int .u8 (l.toNat : Int), .pointer (some ⟨J, 0, none⟩)] w (New w (.bool (ftP key l))) := by
  have hc := hj.cell
  unfold storesV at hc
  have H1 := Lib.hid (stores_any K key l w hb)
  have H2 := Lib.hid (lockFetch_any l)
  unfold ftP
  generalize stP key l = r at *
  generalize (l.toNat % 2 == 1) = q at *
  clear hb hj
  cases r with
  | true =>
    go_enter Tryz.func204, Tryz.ntmps204
    go_wp2_with fail
    refine H1.out.mono ?_
    rintro e w1 ⟨rfl, hb⟩
    go_wp2
    go_ret
    exact ⟨rfl, hb⟩
  | false =>
    go_enter Tryz.func204, Tryz.ntmps204
    go_wp2_with fail
    refine H1.out.mono ?_
    rintro e w1 ⟨rfl, hb⟩
    go_wp2_with fail
    refine (H2.out _).mono ?_
    rintro e w2 ⟨rfl, rfl⟩
    go_wp2
    go_ret
    exact ⟨by simp, hb⟩
/-- What is stored in a new block of one cell. -/
theorem store_box (w : World) (t : TypeId) (u v : Value) (hv : v.oneCell' = true) : (store ⟨w.heap.size, 0, none⟩ v).run Tryz.prog (w.alloc (.cells #[u] t)) = .ok () (w.alloc (.cells #[v] t)) := by
  have h1 : (w.alloc (.cells #[u] t)).cell? ⟨w.heap.size, 0, none⟩ = some u := by simp [go_sem]
  have h2 : (w.alloc (.cells #[u] t)).frozen? ⟨w.heap.size, 0, none⟩ = false := by simp [go_sem]
  have h3 : (w.alloc (.cells #[u] t)).setCell ⟨w.heap.size, 0, none⟩ v = w.alloc (.cells #[v] t) := by simp [go_sem]
  rw [run_store _ _ _ _ _ hv, h1, ← h3]
  simp [h2]
/-- The closure that mayFetch makes. -/
def fetchesV (J : Nat) : Value := .func (.func 204) #[] #[.pointer (some ⟨J, 0, none⟩)]
theorem mayFetch_any (key : Int) (w : World) : Calls Tryz.prog 183 #[.int .i64 key] w fun e w' => ∃ J K, e = .returned (fetchesV J) ∧ Boxed w' K 3 (.int .i64 key) ∧ Boxed w' J 88 (storesV K) ∧ Below w.heap.size w w' := by
  go_enter Tryz.func183, Tryz.ntmps183
  go_wp2_with fail
  refine (mayStore_any key w).mono ?_
  rintro e w1 ⟨rfl, hb, hbel⟩
  have HB := Lib.hid hb
  have HW := Lib.hid hbel
  clear hb hbel
  unfold storesV
  go_wp2_with fail
  rw [store_box _ _ _ _ rfl]
  go_wp2
  go_ret
  refine ⟨_, _, rfl, HB.out.alloc _, Boxed.new w1 _ _, bel0 HW.out (below_new w1 _)⟩

end E
end Go.Proofs.YtbcncohjjnmdcaaGreatDoor

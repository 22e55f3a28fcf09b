/- Blocks of cells, slices that read as lists, maps; equal slices are the same. -/
import Derived.Test.YtijkbenbjdeocaaDoorPkMem
import Derived.Test.YtijkbenbjdeocaaDoorPkMem
import Derived.Deep.AppendLies
import Derived.Deep.RegionHeld3
import Derived.MapKept
namespace Go.Proofs.YtijkbenbjdeocaaDoor
open Go.RowKit
set_option linter.unusedVariables false
namespace E

theorem bel0 {w W W' : World} (h : Below w.heap.size w W) (hb : Below W.heap.size W W') : Below w.heap.size w W' := h.trans (hb.mono h.size)
theorem below2 (w : World) (a b : Obj) : Below w.heap.size w ((w.alloc a).alloc b) := bel0 (below_new w a) (below_new _ b)
/-- A block of cells. -/
def Bx (w : World) (g : Nat) (t : TypeId) (cs : Array Value) : Prop := w.heap[g]? = some (.cells cs t (0, 0))
theorem Bx.lt {w : World} {g : Nat} {t : TypeId} {cs : Array Value} (h : Bx w g t cs) : g < w.heap.size := (Array.getElem?_eq_some_iff.1 h).1
theorem Bx.cell {w : World} {g : Nat} {t : TypeId} {cs : Array Value} (h : Bx w g t cs) (i : Nat) : w.cell? ⟨g, i, none⟩ = cs[i]? := cell_of_row w g i cs t (0, 0) h
theorem Bx.frozen {w : World} {g : Nat} {t : TypeId} {cs : Array Value} (h : Bx w g t cs) (i : Nat) : w.frozen? ⟨g, i, none⟩ = false := frozen_of_row w g i cs _ h
theorem Bx.new (w : World) (t : TypeId) (cs : Array Value) : Bx (w.alloc (.cells cs t)) w.heap.size t cs := heap_alloc_new w _
theorem Bx.below {w w' : World} {g : Nat} {t : TypeId} {cs : Array Value} (h : Bx w g t cs) (hb : Below w.heap.size w w') : Bx w' g t cs := (hb.block g h.lt).trans h
theorem Bx.set {w : World} {g : Nat} {t : TypeId} {cs : Array Value} (h : Bx w g t cs) (i : Nat) (u : Value) : Bx (w.setCell ⟨g, i, none⟩ u) g t (cs.setIfInBounds i u) := heap_setCell_same w g i cs _ _ h
theorem Bx.far {w : World} {g : Nat} {t : TypeId} {cs : Array Value} (h : Bx w g t cs) {p : Addr} (hp : p.block ≠ g) (u : Value) : Bx (w.setCell p u) g t cs := (heap_setCell_other w p g _ (fun e => hp e.symm)).trans h
theorem Bx.grown {w w' : World} {g : Nat} {row : Option Nat} {t : TypeId} {cs : Array Value} (h : Bx w g t cs) (hg : w.grownBy w' row) (hne : some g ≠ row) : Bx w' g t cs := (hg.block g h.lt hne).trans h
theorem Bx.bel {w w' : World} {g B : Nat} {t : TypeId} {cs : Array Value} (h : Bx w g t cs) (hb : Below B w w') (hg : g < B) : Bx w' g t cs := (hb.block g hg).trans h
/-- A slice that reads as a list and may be cut. -/
def SvB (W : World) (sv : Value) (l : List UInt8) : Prop := ∃ p c, sv = .slice p l.length c ∧ Rd W p l ∧ l.length ≤ c ∧ c ≤ 9223372036854775807 ∧ (p = none → c = 0)
theorem SvB.below {w w' : World} {sv : Value} {l : List UInt8} (h : SvB w sv l) (hb : Below w.heap.size w w') : SvB w' sv l := by
  obtain ⟨p, c, h1, h2, h3⟩ := h
  exact ⟨p, c, h1, h2.below hb, h3⟩
theorem SvB.nil (W : World) : SvB W (.slice none 0 0) [] := ⟨none, 0, rfl, .inl rfl, Nat.le_refl _, by omega, fun _ => rfl⟩
theorem Hold.svb {w : World} {base : Nat} {sv : Value} {l : List UInt8} (h : Hold w base sv l) : SvB w sv l := by
  obtain ⟨p, c, h1, h2, h3⟩ := h.full
  exact ⟨p, c, h1, h2, h3⟩
theorem svb_new (w : World) (l : List UInt8) (hl : l.length ≤ 1000) : SvB (w.alloc (.cells (bsU l).toArray 5)) (.slice (some ⟨w.heap.size, 0, none⟩) l.length l.length) l := ⟨_, _, rfl, rd_new w l _, Nat.le_refl _, by omega, fun h => by cases h⟩
/-! ### The map of the control bytes -/

/-- A block that is a map. -/
def Mp (w : World) (g : Nat) (es : Array MapEntry) (c : Nat) : Prop := w.heap[g]? = some (.map es c)
theorem Mp.lt {w : World} {g : Nat} {es : Array MapEntry} {c : Nat} (h : Mp w g es c) : g < w.heap.size := (Array.getElem?_eq_some_iff.1 h).1
theorem Mp.below {w w' : World} {g : Nat} {es : Array MapEntry} {c : Nat} (h : Mp w g es c) (hb : Below w.heap.size w w') : Mp w' g es c := (hb.block g h.lt).trans h
theorem Mp.bel {w w' : World} {g B : Nat} {es : Array MapEntry} {c : Nat} (h : Mp w g es c) (hb : Below B w w') (hg : g < B) : Mp w' g es c := (hb.block g hg).trans h
def ctlV (f : Nat) : Value := .func (.func f) #[] #[]
def mpPut (w : World) (g : Nat) (o : Obj) : World := { w with heap := w.heap.setIfInBounds g o }
theorem mpPut_at {w : World} {g : Nat} (hg : g < w.heap.size) (es : Array MapEntry) (c : Nat) : Mp (mpPut w g (.map es c)) g es c := by
  show (w.heap.setIfInBounds g _)[g]? = _
  simp [hg]
theorem mpPut_below {w W : World} {B g : Nat} {o : Obj} (h : Below B w W) (hg : B ≤ g) : Below B w (mpPut W g o) :=
  h.trans ⟨rfl, rfl, rfl, by simp [mpPut], fun k hk => by show (W.heap.setIfInBounds g o)[k]? = _; rw [Array.getElem?_setIfInBounds_ne (by omega)]⟩
end E
end Go.Proofs.YtijkbenbjdeocaaDoor

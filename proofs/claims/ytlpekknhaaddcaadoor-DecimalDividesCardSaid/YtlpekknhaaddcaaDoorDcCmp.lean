/- The contract of the comparison of two pairs. -/
import Derived.Test.YtlpekknhaaddcaaDoorDcPair
namespace Go.Proofs.YtlpekknhaaddcaaDoor
open Go.RowKit Go.Shelf
set_option linter.unusedVariables false
namespace E

/-- What the comparison leaves: a number that is negative just where x is less. -/
def CpPost (w : World) (x y : Nat) (e : Ending) (w' : World) : Prop := ∃ c : Int, e = .returned (.int .i64 c) ∧ decide (c < 0) = decide (x < y) ∧ Below w.heap.size w w'
/-- Two blocks of two cells are kept, and all that lay. -/
def Ap4 (w : World) (D E : Nat) (a b c d : Value) (W : World) : Prop := W.cell? ⟨D, 0, none⟩ = some a ∧ W.cell? ⟨D, 1, none⟩ = some b ∧ W.cell? ⟨E, 0, none⟩ = some c ∧ W.cell? ⟨E, 1, none⟩ = some d ∧ ApS w W
theorem Ap4.next {w W W' : World} {D E : Nat} {a b c d : Value} (h : Ap4 w D E a b c d W) (hb : Below W.heap.size W W') : Ap4 w D E a b c d W' :=
  ⟨keepC h.1 hb, keepC h.2.1 hb, keepC h.2.2.1 hb, keepC h.2.2.2.1 hb, bel_app h.2.2.2.2 hb⟩
theorem Ap4.new {w W : World} {D E : Nat} {a b c d : Value} (o : Obj) (h : Ap4 w D E a b c d W) : Ap4 w D E a b c d (W.alloc o) := h.next (below_new W o)
set_option maxRecDepth 100000 in
set_option maxHeartbeats 2000000 in
theorem pcompare_any (x y : Nat) (w : World) (hx : x < 340282366920938463463374607431768211456) (hy : y < 340282366920938463463374607431768211456) :
    Calls Tryd.prog 63 #[pv x, pv y] w (CpPost w x y) := by
  obtain ⟨a, b, hx, ha, hb, ex⟩ := pv_of x hx
  obtain ⟨c, d, hy, hc, hd, ey⟩ := pv_of y hy
  have hcl := cmp_lt hx hy hb hd
  rw [ex, ey]
  have HCL := Lib.hid hcl
  have HOR := Lib.hid (fun g W => or_any (cmpN a c) (cmpN b d) g W)
  clear hcl ex ey hx hy
  obtain ⟨W0, hW0⟩ : ∃ W0, W0 = (w.alloc (.cells #[.int .u64 (a : Int), .int .u64 (b : Int)] 43)).alloc (.cells #[.int .u64 (c : Int), .int .u64 (d : Int)] 43) := ⟨_, rfl⟩
  have hb0 : Below w.heap.size w W0 := by rw [hW0]; exact below2 _ _ _
  have c1 : W0.cell? ⟨w.heap.size, 0, none⟩ = some (.int .u64 (a : Int)) := by rw [hW0]; simp [go_sem]
  have c2 : W0.cell? ⟨w.heap.size, 1, none⟩ = some (.int .u64 (b : Int)) := by rw [hW0]; simp [go_sem]
  have c3 : W0.cell? ⟨w.heap.size + 1, 0, none⟩ = some (.int .u64 (c : Int)) := by rw [hW0]; simp [go_sem]
  have c4 : W0.cell? ⟨w.heap.size + 1, 1, none⟩ = some (.int .u64 (d : Int)) := by rw [hW0]; simp [go_sem]
  have H0 : Hid (Ap4 W0 w.heap.size (w.heap.size + 1) (.int .u64 (a : Int)) (.int .u64 (b : Int)) (.int .u64 (c : Int)) (.int .u64 (d : Int)) W0.drew) := Lib.hid ⟨keepC c1 (Below.refl _ _).drew, keepC c2 (Below.refl _ _).drew, keepC c3 (Below.refl _ _).drew, keepC c4 (Below.refl _ _).drew, (Below.refl _ _).drew⟩
  have HB0 := Lib.hid hb0
  clear hb0 c1 c2 c3 c4
  go_enter Tryd.func63, Tryd.ntmps63
  go_wp2_with fail
  rw [← hW0]
  clear hW0
  go_region_held3 (fun W => W.cell? ⟨w.heap.size, 0, none⟩ = some (.int .u64 (a : Int)) ∧ W.cell? ⟨w.heap.size, 1, none⟩ = some (.int .u64 (b : Int)) ∧ W.cell? ⟨w.heap.size + 1, 0, none⟩ = some (.int .u64 (c : Int)) ∧ W.cell? ⟨w.heap.size + 1, 1, none⟩ = some (.int .u64 (d : Int)) ∧ ApS W0 W)
    (first | assumption | exact H0.out | exact Ap4.new _ (by assumption))
    (first
      | (go_at_call 80; refine (cmp_any _ _ _).mono ?_; rintro e w5 ⟨rfl, rfl⟩)
      | (go_at_call 79; refine (HOR.out _ _ (by simp [go_sem]) (by simp [go_sem])).mono ?_; rintro e w5 ⟨rfl, rfl⟩))
  all_goals go_wp2
  all_goals go_ret
  all_goals exact ⟨_, rfl, HCL.out, bel0 HB0.out ((below_new _ _).drew)⟩

/-! ### Blocks that are known whole -/

/-- Block g is just these cells. -/
def Bx (w : World) (g : Nat) (t : TypeId) (cs : Array Value) : Prop := w.heap[g]? = some (.cells cs t (0, 0))
theorem Bx.lt {w : World} {g : Nat} {t : TypeId} {cs : Array Value} (h : Bx w g t cs) : g < w.heap.size := (Array.getElem?_eq_some_iff.1 h).1
theorem Bx.cell {w : World} {g : Nat} {t : TypeId} {cs : Array Value} (h : Bx w g t cs) (i : Nat) : w.cell? ⟨g, i, none⟩ = cs[i]? := cell_of_row w g i cs t (0, 0) h
theorem Bx.frozen {w : World} {g : Nat} {t : TypeId} {cs : Array Value} (h : Bx w g t cs) (i : Nat) : w.frozen? ⟨g, i, none⟩ = false := frozen_of_row w g i cs _ h
theorem Bx.new (w : World) (t : TypeId) (cs : Array Value) : Bx (w.alloc (.cells cs t)) w.heap.size t cs := heap_alloc_new w _
theorem Bx.below {w w' : World} {g : Nat} {t : TypeId} {cs : Array Value} (h : Bx w g t cs) (hb : Below w.heap.size w w') : Bx w' g t cs := (hb.block g h.lt).trans h
theorem Bx.set {w : World} {g : Nat} {t : TypeId} {cs : Array Value} (h : Bx w g t cs) (i : Nat) (u : Value) : Bx (w.setCell ⟨g, i, none⟩ u) g t (cs.setIfInBounds i u) := heap_setCell_same w g i cs _ _ h
theorem Bx.far {w : World} {g : Nat} {t : TypeId} {cs : Array Value} (h : Bx w g t cs) {p : Addr} (hp : p.block ≠ g) (u : Value) : Bx (w.setCell p u) g t cs := (heap_setCell_other w p g _ (fun e => hp e.symm)).trans h
/-- A pair's two cells. -/
theorem Bx.two {w : World} {g : Nat} {t : TypeId} {a b : Value} (h : Bx w g t #[a, b]) : (w.cell? ⟨g, 0, none⟩ = some a ∧ w.cell? ⟨g, 1, none⟩ = some b) ∧ w.frozen? ⟨g, 0, none⟩ = false ∧ w.frozen? ⟨g, 1, none⟩ = false := ⟨⟨h.cell 0, h.cell 1⟩, h.frozen 0, h.frozen 1⟩
theorem Bx.three {w : World} {g : Nat} {t : TypeId} {a b c : Value} (h : Bx w g t #[a, b, c]) : (w.cell? ⟨g, 0, none⟩ = some a ∧ w.cell? ⟨g, 1, none⟩ = some b ∧ w.cell? ⟨g, 2, none⟩ = some c) ∧ w.frozen? ⟨g, 0, none⟩ = false ∧ w.frozen? ⟨g, 1, none⟩ = false ∧ w.frozen? ⟨g, 2, none⟩ = false := ⟨⟨h.cell 0, h.cell 1, h.cell 2⟩, h.frozen 0, h.frozen 1, h.frozen 2⟩
theorem Bx.set2 {w : World} {g : Nat} {t : TypeId} {a b : Value} (h : Bx w g t #[a, b]) (x y : Value) : Bx ((w.setCell ⟨g, 0, none⟩ x).setCell ⟨g, 1, none⟩ y) g t #[x, y] := (h.set 0 x).set 1 y

end E
end Go.Proofs.YtlpekknhaaddcaaDoor

/- Own of the given answers. -/
import Derived.Test.YtaodghaicmjadaaDoorIsOpen
import Derived.Test.YtaodghaicmjadaaDoorIsROf
namespace Go.Proofs.YtaodghaicmjadaaDoor
open Go.RowKit Go.Shelf
set_option linter.unusedVariables false
namespace E

/-- The fields of the format alone. -/
def ownQ (F : Nat) (Q : Ins) : Ins := (fldsT F).foldl (takeF Q) Q.hd
theorem bx_put {W : World} {g : Nat} {t : TypeId} {P : Ins} (h : Bx W g t P.cs) (k : Nat) (hk : k < 12) (z : Int) : Bx (W.setCell ⟨g, k, none⟩ (.int .i64 z)) g t (P.set k z).cs := by
  rw [← Ins.set_cs P k z hk]
  exact h.set k _
theorem bx_full {w : World} {g : Nat} {t : TypeId} {Q : Ins} (h : Bx w g t Q.cs) : w.cell? ⟨g, 0, none⟩ = some (.int .i64 Q.op) ∧ w.cell? ⟨g, 1, none⟩ = some (.int .i64 Q.fo) ∧ w.cell? ⟨g, 2, none⟩ = some (.int .i64 Q.r1) ∧ w.cell? ⟨g, 3, none⟩ = some (.int .i64 Q.r2) ∧ w.cell? ⟨g, 4, none⟩ = some (.int .i64 Q.x2) ∧ w.cell? ⟨g, 5, none⟩ = some (.int .i64 Q.b1) ∧ w.cell? ⟨g, 6, none⟩ = some (.int .i64 Q.d1) ∧ w.cell? ⟨g, 7, none⟩ = some (.int .i64 Q.b2) ∧ w.cell? ⟨g, 8, none⟩ = some (.int .i64 Q.d2) ∧ w.cell? ⟨g, 9, none⟩ = some (.int .i64 Q.l1) ∧ w.cell? ⟨g, 10, none⟩ = some (.int .i64 Q.l2) ∧ w.cell? ⟨g, 11, none⟩ = some (.int .i64 Q.i2) ∧ w.frozen? ⟨g, 0, none⟩ = false ∧ w.frozen? ⟨g, 1, none⟩ = false ∧ w.frozen? ⟨g, 2, none⟩ = false ∧ w.frozen? ⟨g, 3, none⟩ = false ∧ w.frozen? ⟨g, 4, none⟩ = false ∧ w.frozen? ⟨g, 5, none⟩ = false ∧ w.frozen? ⟨g, 6, none⟩ = false ∧ w.frozen? ⟨g, 7, none⟩ = false ∧ w.frozen? ⟨g, 8, none⟩ = false ∧ w.frozen? ⟨g, 9, none⟩ = false ∧ w.frozen? ⟨g, 10, none⟩ = false ∧ w.frozen? ⟨g, 11, none⟩ = false :=
  ⟨h.cell 0, h.cell 1, h.cell 2, h.cell 3, h.cell 4, h.cell 5, h.cell 6, h.cell 7, h.cell 8, h.cell 9, h.cell 10, h.cell 11, h.frozen 0, h.frozen 1, h.frozen 2, h.frozen 3, h.frozen 4, h.frozen 5, h.frozen 6, h.frozen 7, h.frozen 8, h.frozen 9, h.frozen 10, h.frozen 11⟩
theorem results_c {P : Program} {fn : Func} {p : Tmp} {t : TypeId} {w : World} {a : Addr} {v : Value} {tmps : Array Value} (h : fn.results = #[.cell p t]) (hp : tmps.getD p undef = .pointer (some a)) (la : (loadVar t a).run P w = .ok v w) : (results fn tmps).run P w = .ok v w := by
  have hp' : tmps[p]?.getD undef = .pointer (some a) := by simpa using hp
  simp [results, h, hp', asAddr, la]
theorem own_start (Q : Ins) (w : World) : ∃ (w2 w3 : World) (A R B : Nat), (w.alloc (.cells Q.cs 28)).alloc (.cells Ins.zero.cs 28) = w2 ∧ w2.alloc (.cells Q.hd.cs 28) = w3 ∧ w.heap.size = A ∧ A + 1 = R ∧ w2.heap.size = B ∧ Bx w2 A 28 Q.cs ∧ Bx w2 R 28 Ins.zero.cs ∧ Below w.heap.size w w2 ∧ Bx w3 A 28 Q.cs ∧ Bx w3 R 28 Ins.zero.cs ∧ Bx w3 B 28 Q.hd.cs ∧ Below w.heap.size w w3 ∧ Hid (B ≠ A ∧ B ≠ R ∧ w.heap.size ≤ R ∧ w.heap.size ≤ B) := by
  refine ⟨_, _, _, _, _, rfl, rfl, rfl, rfl, rfl, (Bx.new w 28 Q.cs).below (below_new _ _), ?_, below2 w _ _, ((Bx.new w 28 Q.cs).below (below_new _ _)).below (below_new _ _), ?_, Bx.new _ _ _, bel0 (below2 w _ _) (below_new _ _), Lib.hid ?_⟩
  · have h := Bx.new (w.alloc (.cells Q.cs 28)) 28 Ins.zero.cs
    rwa [World.size_alloc] at h
  · have h := (Bx.new (w.alloc (.cells Q.cs 28)) 28 Ins.zero.cs).below (below_new _ (.cells Q.hd.cs 28))
    rwa [World.size_alloc] at h
  · rw [World.size_alloc, World.size_alloc]
    omega
end E
end Go.Proofs.YtaodghaicmjadaaDoor

/- What a statement's premises give: a number of two bytes, four bytes in an array, a sequence of calls. -/
import Derived.Test.YtnnpnklbhghegaaPsLaid
import Derived.Test.YtnnpnklbhghegaaStOne
import Derived.Deep.Slices
namespace Go.Proofs.Ytnnpnklbhghegaa
open Go.ChangeShapes Go.WideShapes Go.ChangeAt Go.RowKit Go.ChangeMaps Go.Joins Go.Deep
set_option linter.unusedVariables false
namespace E

theorem cell_bel {w w' : World} {p : Addr} {v : Value} (hc : w.cell? p = some v) (hb : Below w.heap.size w w') : w'.cell? p = some v := (hb.cell (World.block_lt_of_cell? w _ hc)).trans hc
theorem addr_add (B o j : Nat) : (⟨B, o, none⟩ : Addr).add j = ⟨B, o + j, none⟩ := by
  unfold Addr.add
  split <;> simp_all
theorem u16_of {a : Int} (h : (Lit.int .u16 a).wf = true) : ∃ x : Nat, a = (x : Int) ∧ x < 65536 := by
  simp [Lit.wf, IntKind.min, IntKind.max, IntKind.bits, IntKind.signed] at h
  exact ⟨a.toNat, by omega, by omega⟩
theorem cellsI : Try.prog.cellsOf 3 = 1 := by kernel_rfl
theorem cellsA4 : Try.prog.cellsOf 44 = 4 := by kernel_rfl
theorem cellsOp : Try.prog.cellsOf 31 = 5 := by kernel_rfl
theorem arr4_of {H : Type} {enc : TypeId × Value → H} {W : World} {r : Reach} {b0 : Nat} {v : Value} {d : DataW H} {ps : List MemPlace} (hv : Value.okWide Try.prog W r b0 44 v) (h : DataW.Trod enc Try.prog W 0 (fun _ => true) true 44 v d ps) :
    ∃ x y z u : UInt8, v = .agg #[.int .u8 (x.toNat : Int), .int .u8 (y.toNat : Int), .int .u8 (z.toNat : Int), .int .u8 (u.toNat : Int)] := by
  have hv' : ∃ cs, v = .agg cs ∧ cs.size = Try.prog.cellsOf 44 := by
    simp only [Value.okWide, Try.underlying44] at hv
    obtain ⟨cs, h1, h2, _⟩ := hv
    exact ⟨cs, h1, h2⟩
  obtain ⟨cs, rfl, hsz⟩ := hv'
  obtain ⟨l⟩ := cs
  match l, hsz.trans cellsA4 with
  | [c0, c1, c2, c3], _ =>
    obtain ⟨fuel, hf⟩ := h
    obtain ⟨xs, m, _, ex, _, hl, hel⟩ := DataW.trod_array Try.underlying44 hf
    match xs, hl with
    | [y0, y1, y2, y3], _ =>
      have g0 := hel 0 (by decide)
      have g1 := hel 1 (by decide)
      have g2 := hel 2 (by decide)
      have g3 := hel 3 (by decide)
      simp [cellsU, Value.cells] at g0 g1 g2 g3
      obtain ⟨b0, e0, -, w0⟩ := DataW.trod_int Try.underlying5 g0
      obtain ⟨b1, e1, -, w1⟩ := DataW.trod_int Try.underlying5 g1
      obtain ⟨b2, e2, -, w2⟩ := DataW.trod_int Try.underlying5 g2
      obtain ⟨b3, e3, -, w3⟩ := DataW.trod_int Try.underlying5 g3
      simp at e0 e1 e2 e3
      subst e0 e1 e2 e3
      obtain ⟨x0, rfl⟩ := u8_of w0
      obtain ⟨x1, rfl⟩ := u8_of w1
      obtain ⟨x2, rfl⟩ := u8_of w2
      obtain ⟨x3, rfl⟩ := u8_of w3
      exact ⟨x0, x1, x2, x3, rfl⟩
section
variable {H : Type} {enc : TypeId × Value → H} {P : Program} {w : World} {base : Nat} {spare : Nat → Bool} {held : Bool}
theorem open_cells5 {fuel : Nat} {t : TypeId} {f0 f1 f2 f3 f4 : Field} {cs : List Value} {x : DataW H × List MemPlace} (hs : P.underlying t = some (.struct #[f0, f1, f2, f3, f4])) (hone : oneCellFields P #[f0, f1, f2, f3, f4] = true) (hC : cs.length = 5)
    (hf : DataW.trod enc P w base spare held fuel t cs = some x) :
    ∃ (v0 v1 v2 v3 v4 : Value) (y0 y1 y2 y3 y4 : DataW H × List MemPlace) (n : Nat), cs = [v0, v1, v2, v3, v4] ∧ DataW.trod enc P w base spare held n f0.type [v0] = some y0 ∧ DataW.trod enc P w base spare held n f1.type [v1] = some y1 ∧ DataW.trod enc P w base spare held n f2.type [v2] = some y2 ∧ DataW.trod enc P w base spare held n f3.type [v3] = some y3 ∧ DataW.trod enc P w base spare held n f4.type [v4] = some y4 := by
  match cs, hC with
  | [c0, c1, c2, c3, c4], _ =>
    obtain ⟨xs, n, _, hx, _, hlen, hg⟩ := DataW.trod_struct hs hf
    obtain ⟨o0, k0⟩ := hone_of hone 0 f0 rfl
    obtain ⟨o1, k1⟩ := hone_of hone 1 f1 rfl
    obtain ⟨o2, k2⟩ := hone_of hone 2 f2 rfl
    obtain ⟨o3, k3⟩ := hone_of hone 3 f3 rfl
    obtain ⟨o4, k4⟩ := hone_of hone 4 f4 rfl
    match xs, hlen with
    | [y0, y1, y2, y3, y4], _ =>
      exact ⟨c0, c1, c2, c3, c4, y0, y1, y2, y3, y4, n, rfl, by simpa [Value.cells, o0, k0] using hg 0 f0 rfl, by simpa [Value.cells, o1, k1] using hg 1 f1 rfl, by simpa [Value.cells, o2, k2] using hg 2 f2 rfl, by simpa [Value.cells, o3, k3] using hg 3 f3 rfl, by simpa [Value.cells, o4, k4] using hg 4 f4 rfl⟩
end
/-- A call that lies in memory. -/
def OpAt (w : World) (B off : Nat) : Prop := ∃ (kd : UInt8) (x k key : Int) (bv : Value) (b : List UInt8), w.cell? ⟨B, off, none⟩ = some (.int .u8 (kd.toNat : Int)) ∧ w.cell? ⟨B, off + 1, none⟩ = some (.int .i64 x) ∧ w.cell? ⟨B, off + 2, none⟩ = some (.int .i64 k) ∧ w.cell? ⟨B, off + 3, none⟩ = some (.int .i64 key) ∧ w.cell? ⟨B, off + 4, none⟩ = some bv ∧ x ≤ 9223372036854775807 ∧ SvB w bv b
/-- A sequence of calls that lies in memory. -/
def OpsR (w : World) (p : Option Addr) (n : Nat) : Prop := n = 0 ∨ ∃ B off, p = some ⟨B, off, none⟩ ∧ ∀ i, i < n → OpAt w B (off + i * 5)
theorem OpAt.below {w w' : World} {B off : Nat} (h : OpAt w B off) (hb : Below w.heap.size w w') : OpAt w' B off := by
  obtain ⟨kd, x, k, key, bv, b, c0, c1, c2, c3, c4, hx, hs⟩ := h
  exact ⟨kd, x, k, key, bv, b, cell_bel c0 hb, cell_bel c1 hb, cell_bel c2 hb, cell_bel c3 hb, cell_bel c4 hb, hx, hs.below hb⟩
set_option maxRecDepth 100000 in
theorem ops_of {H : Type} {enc : TypeId × Value → H} {W : World} {v : Value} {b0 : Nat} {r : Reach} {d : DataW H} {ps : List MemPlace} (hv : Value.okWide Try.prog W r b0 22 v) (h : DataW.Trod enc Try.prog W 0 (fun _ => true) true 22 v d ps) : ∃ (p : Option Addr) (n c : Nat), v = .slice p n c ∧ OpsR W p n := by
  obtain ⟨a0, len, cap, rfl⟩ := okWide_slice Try.underlying22 hv
  obtain ⟨fuel, hf⟩ := h
  have hf : DataW.trod enc Try.prog W 0 (fun _ => true) true fuel 22 [.slice a0 len cap] = _ := hf
  rcases open_slice Try.underlying22 hf with ⟨hcs, hx⟩ | ⟨a, len', cap', m, n, D, Pl, hcs, _, hl, hm, hmm, _, hel⟩
  · obtain ⟨rfl, rfl, rfl⟩ : a0 = none ∧ len = 0 ∧ cap = 0 := by simpa using hcs
    exact ⟨none, 0, 0, rfl, .inl rfl⟩
  · obtain ⟨rfl, rfl, rfl⟩ : a0 = some a ∧ len = len' ∧ cap = cap' := by simpa using hcs
    simp only [if_true] at hmm
    refine ⟨some a, len, cap, rfl, ?_⟩
    by_cases h0 : len = 0
    · exact .inl h0
    · have hcells : ∀ i, i < len → ∃ cs', cs'.length = 5 ∧ (∀ q, q < 5 → W.cell? ((a.add (i * 5)).add q) = cs'[q]?) ∧ DataW.trod enc Try.prog W 0 (fun _ => true) true n 31 cs' = some (D i, Pl i) := fun i hi => by
        obtain ⟨cs', h1, h2⟩ := hel i (by omega)
        rw [cellsOp] at h1
        obtain ⟨_, h3, h4⟩ := World.cells?_some h1
        exact ⟨cs', h3, h4, h2⟩
      obtain ⟨B, off, spot⟩ := a
      have hspot : spot = none := by
        obtain ⟨cs', h3, h4, h5⟩ := hcells 0 (by omega)
        have h6 := h4 0 (by omega)
        rw [List.getElem?_eq_getElem (by omega)] at h6
        have h7 := World.cell?_spot h6
        simp [Addr.add] at h7
        exact h7
      subst hspot
      refine .inr ⟨B, off, rfl, fun i hi => ?_⟩
      obtain ⟨cs', h3, h4, h5⟩ := hcells i hi
      obtain ⟨v0, v1, v2, v3, v4, y0, y1, y2, y3, y4, q, rfl, t0, t1, t2, t3, t4⟩ := open_cells5 Try.underlying31 (by kernel_rfl) h3 h5
      obtain ⟨z0, e0, -, w0⟩ := DataW.trod_int Try.underlying5 t0
      obtain ⟨z1, e1, -, w1⟩ := DataW.trod_int Try.underlying3 t1
      obtain ⟨z2, e2, -, w2⟩ := DataW.trod_int Try.underlying3 t2
      obtain ⟨z3, e3, -, w3⟩ := DataW.trod_int Try.underlying3 t3
      simp at e0
      simp at e1
      simp at e2
      simp at e3
      subst e0 e1 e2 e3
      obtain ⟨kd, rfl⟩ := u8_of w0
      obtain ⟨b, hb⟩ := sv_raw (v := v4) t4
      have g0 := h4 0 (by omega)
      have g1 := h4 1 (by omega)
      have g2 := h4 2 (by omega)
      have g3 := h4 3 (by omega)
      have g4 := h4 4 (by omega)
      have ha : ∀ q, ((⟨B, off, none⟩ : Addr).add (i * 5)).add q = ⟨B, off + i * 5 + q, none⟩ := fun q => by rw [addr_add, addr_add]
      rw [ha] at g0 g1 g2 g3 g4
      exact ⟨kd, z1, z2, z3, v4, b, by simpa using g0, by simpa using g1, by simpa using g2, by simpa using g3, by simpa using g4, by have := (i64_wf w1).2; omega, hb⟩

end E
end Go.Proofs.Ytnnpnklbhghegaa

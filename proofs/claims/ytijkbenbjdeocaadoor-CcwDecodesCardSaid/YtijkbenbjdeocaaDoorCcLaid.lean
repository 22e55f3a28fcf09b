/- What a statement's premises give: the bits of the flags lie as the text lays them; command words and status words. -/
import Derived.Test.YtijkbenbjdeocaaDoorPsLaid
import Derived.Test.YtijkbenbjdeocaaDoorCcWorks
import Derived.LaidMore
import Derived.Lay
import Derived.SevenTiedAt
import Derived.Stop.Joined
namespace Go.Proofs.YtijkbenbjdeocaaDoor
open Go.ChangeShapes Go.WideShapes Go.ChangeAt Go.RowKit Go.ChangeMaps Go.Joins Go.Deep
set_option linter.unusedVariables false
namespace E

/-- The listed variables. -/
abbrev lst : List (String × DataW Unit) := [("jobshop/ccw.flagBits", Rows.laid_jobshop_ccw_flagBits)]
theorem gBits : Tryd.prog.globalNamed "jobshop/ccw.flagBits" = some 0 := by kernel_rfl
theorem tBits : (Tryd.prog.globals[0]?).map (·.type) = some 66 := by kernel_rfl
theorem fb_of_laid {W : World} (h : laidMetH Tryd.prog lst W) : Fb W := by
  rw [MakeChecks.laidMetH_plain _ _ _ (by kernel_rfl)] at h
  obtain ⟨ps, ⟨g1, t1, cs1, f1, p1, q1, hg, ht, hv, hd, _⟩, _⟩ := h
  obtain rfl := Option.some.inj (gBits.symm.trans hg)
  obtain rfl := Option.some.inj (tBits.symm.trans ht)
  obtain ⟨xs, m, _, ex, _, hl, hel⟩ := DataW.trod_array Tryd.underlying66 hd
  have c5 : Tryd.prog.cellsOf 3 = 1 := by kernel_rfl
  have e3 : xs.map (·.1) = [DataW.lit (.int .i64 128), .lit (.int .i64 64), .lit (.int .i64 32), .lit (.int .i64 16), .lit (.int .i64 8)] := by
    have e := (Prod.mk.inj ex).1
    exact (DataW.agg.inj e).symm
  have key : ∀ (d : Nat) (v : Int), d < 5 → [(128 : Int), 64, 32, 16, 8][d]? = some v → W.cell? ⟨0, d, none⟩ = some (.int .i64 v) := fun d v hd5 hv5 => by
    have hE := hel d hd5
    rw [c5, Nat.mul_one, List.getElem?_eq_getElem (by omega)] at hE
    obtain ⟨z, e1, e2, _⟩ := DataW.trod_int Tryd.underlying3 hE
    have e4 : (xs.map (·.1))[d]? = [DataW.lit (.int .i64 128), .lit (.int .i64 64), .lit (.int .i64 32), .lit (.int .i64 16), .lit (.int .i64 8)][d]? := by rw [e3]
    rw [List.getElem?_map, List.getElem?_eq_getElem (by omega : d < xs.length), Option.map_some, e2] at e4
    have hz : z = v := by
      match d, hd5 with
      | 0, _ => simp at e4 hv5; omega
      | 1, _ => simp at e4 hv5; omega
      | 2, _ => simp at e4 hv5; omega
      | 3, _ => simp at e4 hv5; omega
      | 4, _ => simp at e4 hv5; omega
    rw [World.var?_cell hg hv d, ← hz]
    have : cs1.toList[d]? = some (.int .i64 z) := by
      have h0 : ((cs1.toList.drop d).take 1)[0]? = some (.int .i64 z) := by rw [e1]; rfl
      simpa using h0
    simpa using this
  exact ⟨key 0 _ (by decide) rfl, key 1 _ (by decide) rfl, key 2 _ (by decide) rfl, key 3 _ (by decide) rfl, key 4 _ (by decide) rfl⟩
section
variable {H : Type} {enc : TypeId × Value → H} {P : Program} {w : World} {base : Nat} {spare : Nat → Bool} {held : Bool}
theorem open_agg8' {r : Reach} {b0 : Nat} {t : TypeId} {f0 f1 f2 f3 f4 f5 f6 f7 : Field} {v : Value} {d : DataW H} {p : List MemPlace} (hs : P.underlying t = some (.struct #[f0, f1, f2, f3, f4, f5, f6, f7])) (hone : oneCellFields P #[f0, f1, f2, f3, f4, f5, f6, f7] = true) (hC : P.cellsOf t = 8)
    (hv : Value.okWide P w r b0 t v) (h : DataW.Trod enc P w base spare held t v d p) :
    ∃ (v0 v1 v2 v3 v4 v5 v6 v7 : Value) (y0 y1 y2 y3 y4 y5 y6 y7 : DataW H × List MemPlace) (n : Nat), v = .agg #[v0, v1, v2, v3, v4, v5, v6, v7] ∧ DataW.trod enc P w base spare held n f0.type [v0] = some y0 ∧ DataW.trod enc P w base spare held n f1.type [v1] = some y1 ∧ DataW.trod enc P w base spare held n f2.type [v2] = some y2 ∧ DataW.trod enc P w base spare held n f3.type [v3] = some y3 ∧ DataW.trod enc P w base spare held n f4.type [v4] = some y4 ∧ DataW.trod enc P w base spare held n f5.type [v5] = some y5 ∧ DataW.trod enc P w base spare held n f6.type [v6] = some y6 ∧ DataW.trod enc P w base spare held n f7.type [v7] = some y7 := by
  obtain ⟨cs, rfl, hsz⟩ := okWide_struct hs hv
  obtain ⟨l⟩ := cs
  match l, hsz.trans hC with
  | [c0, c1, c2, c3, c4, c5, c6, c7], _ =>
    obtain ⟨fuel, hf⟩ := h
    obtain ⟨xs, n, _, hx, _, hlen, hg⟩ := DataW.trod_struct hs hf
    obtain ⟨o0, k0⟩ := hone_of hone 0 f0 rfl
    obtain ⟨o1, k1⟩ := hone_of hone 1 f1 rfl
    obtain ⟨o2, k2⟩ := hone_of hone 2 f2 rfl
    obtain ⟨o3, k3⟩ := hone_of hone 3 f3 rfl
    obtain ⟨o4, k4⟩ := hone_of hone 4 f4 rfl
    obtain ⟨o5, k5⟩ := hone_of hone 5 f5 rfl
    obtain ⟨o6, k6⟩ := hone_of hone 6 f6 rfl
    obtain ⟨o7, k7⟩ := hone_of hone 7 f7 rfl
    match xs, hlen with
    | [y0, y1, y2, y3, y4, y5, y6, y7], _ =>
      exact ⟨c0, c1, c2, c3, c4, c5, c6, c7, y0, y1, y2, y3, y4, y5, y6, y7, n, rfl, by simpa [Value.cells, o0, k0] using hg 0 f0 rfl, by simpa [Value.cells, o1, k1] using hg 1 f1 rfl, by simpa [Value.cells, o2, k2] using hg 2 f2 rfl, by simpa [Value.cells, o3, k3] using hg 3 f3 rfl, by simpa [Value.cells, o4, k4] using hg 4 f4 rfl, by simpa [Value.cells, o5, k5] using hg 5 f5 rfl, by simpa [Value.cells, o6, k6] using hg 6 f6 rfl, by simpa [Value.cells, o7, k7] using hg 7 f7 rfl⟩
theorem open_agg5' {r : Reach} {b0 : Nat} {t : TypeId} {f0 f1 f2 f3 f4 : Field} {v : Value} {d : DataW H} {p : List MemPlace} (hs : P.underlying t = some (.struct #[f0, f1, f2, f3, f4])) (hone : oneCellFields P #[f0, f1, f2, f3, f4] = true) (hC : P.cellsOf t = 5)
    (hv : Value.okWide P w r b0 t v) (h : DataW.Trod enc P w base spare held t v d p) :
    ∃ (v0 v1 v2 v3 v4 : Value) (y0 y1 y2 y3 y4 : DataW H × List MemPlace) (n : Nat), v = .agg #[v0, v1, v2, v3, v4] ∧ DataW.trod enc P w base spare held n f0.type [v0] = some y0 ∧ DataW.trod enc P w base spare held n f1.type [v1] = some y1 ∧ DataW.trod enc P w base spare held n f2.type [v2] = some y2 ∧ DataW.trod enc P w base spare held n f3.type [v3] = some y3 ∧ DataW.trod enc P w base spare held n f4.type [v4] = some y4 := by
  obtain ⟨cs, rfl, hsz⟩ := okWide_struct hs hv
  obtain ⟨l⟩ := cs
  match l, hsz.trans hC with
  | [c0, c1, c2, c3, c4], _ =>
    obtain ⟨fuel, hf⟩ := h
    obtain ⟨xs, n, _, hx, _, hlen, hg⟩ := DataW.trod_struct hs hf
    obtain ⟨o0, k0⟩ := hone_of hone 0 f0 rfl
    obtain ⟨o1, k1⟩ := hone_of hone 1 f1 rfl
    obtain ⟨o2, k2⟩ := hone_of hone 2 f2 rfl
    obtain ⟨o3, k3⟩ := hone_of hone 3 f3 rfl
    obtain ⟨o4, k4⟩ := hone_of hone 4 f4 rfl
    match xs, hlen with
    | [y0, y1, y2, y3, y4], _ =>
      exact ⟨c0, c1, c2, c3, c4, y0, y1, y2, y3, y4, n, rfl, by simpa [Value.cells, o0, k0] using hg 0 f0 rfl, by simpa [Value.cells, o1, k1] using hg 1 f1 rfl, by simpa [Value.cells, o2, k2] using hg 2 f2 rfl, by simpa [Value.cells, o3, k3] using hg 3 f3 rfl, by simpa [Value.cells, o4, k4] using hg 4 f4 rfl⟩
end
theorem cells_ccw : Tryd.prog.cellsOf 26 = 8 := by kernel_rfl
set_option maxRecDepth 100000 in
theorem ccw_of {H : Type} {enc : TypeId × Value → H} {W : World} {r : Reach} {b0 : Nat} {v : Value} {d : DataW H} {ps : List MemPlace} (hv : Value.okWide Tryd.prog W r b0 26 v) (h : DataW.Trod enc Tryd.prog W 0 (fun _ => true) true 26 v d ps) : ∃ Q : Cw, v = Q.v := by
  obtain ⟨c0, c1, c2, c3, c4, c5, c6, c7, y0, y1, y2, y3, y4, y5, y6, y7, n, rfl, t0, t1, t2, t3, t4, t5, t6, t7⟩ := open_agg8' Tryd.underlying26 (by kernel_rfl) cells_ccw hv h
  obtain ⟨b0, e0, -, -⟩ := DataW.trod_int Tryd.underlying3 t0
  obtain ⟨b1, e1, -, -⟩ := DataW.trod_int Tryd.underlying3 t1
  obtain ⟨b2, e2, -⟩ := DataW.trod_bool Tryd.underlying4 t2
  obtain ⟨b3, e3, -⟩ := DataW.trod_bool Tryd.underlying4 t3
  obtain ⟨b4, e4, -⟩ := DataW.trod_bool Tryd.underlying4 t4
  obtain ⟨b5, e5, -⟩ := DataW.trod_bool Tryd.underlying4 t5
  obtain ⟨b6, e6, -⟩ := DataW.trod_bool Tryd.underlying4 t6
  obtain ⟨b7, e7, -, -⟩ := DataW.trod_int Tryd.underlying3 t7
  simp at e0
  simp at e1
  simp at e2
  simp at e3
  simp at e4
  simp at e5
  simp at e6
  simp at e7
  subst e0 e1 e2 e3 e4 e5 e6 e7
  exact ⟨⟨b0, b1, b2, b3, b4, b5, b6, b7⟩, rfl⟩
theorem cells_csw : Tryd.prog.cellsOf 36 = 5 := by kernel_rfl
set_option maxRecDepth 100000 in
theorem csw_of {H : Type} {enc : TypeId × Value → H} {W : World} {r : Reach} {b0 : Nat} {v : Value} {d : DataW H} {ps : List MemPlace} (hv : Value.okWide Tryd.prog W r b0 36 v) (h : DataW.Trod enc Tryd.prog W 0 (fun _ => true) true 36 v d ps) : ∃ Q : Cs, v = Q.v := by
  obtain ⟨c0, c1, c2, c3, c4, y0, y1, y2, y3, y4, n, rfl, t0, t1, t2, t3, t4⟩ := open_agg5' Tryd.underlying36 (by kernel_rfl) cells_csw hv h
  obtain ⟨b0, e0, -, -⟩ := DataW.trod_int Tryd.underlying3 t0
  obtain ⟨b1, e1, -, -⟩ := DataW.trod_int Tryd.underlying3 t1
  obtain ⟨b2, e2, -, -⟩ := DataW.trod_int Tryd.underlying3 t2
  obtain ⟨b3, e3, -, -⟩ := DataW.trod_int Tryd.underlying3 t3
  obtain ⟨b4, e4, -, -⟩ := DataW.trod_int Tryd.underlying3 t4
  simp at e0
  simp at e1
  simp at e2
  simp at e3
  simp at e4
  subst e0 e1 e2 e3 e4
  exact ⟨⟨b0, b1, b2, b3, b4⟩, rfl⟩
end E
end Go.Proofs.YtijkbenbjdeocaaDoor

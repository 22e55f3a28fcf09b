/- What a statement's premises give: the table of the signs lies as the text lays it; a slice of bytes reads as a list. -/
import Derived.Test.YtlpekknhaaddcaaDoorPkDecode
import Derived.OpenShut
import Derived.ChangeMaps5
import Derived.LaidMore
import Derived.Lay
import Derived.SevenTiedAt
import Derived.Stop.Joined
namespace Go.Proofs.YtlpekknhaaddcaaDoor
open Go.ChangeShapes Go.WideShapes Go.ChangeAt Go.RowKit Go.ChangeMaps
set_option linter.unusedVariables false
namespace E

/-- The listed variables. -/
abbrev lst : List (String × DataW Unit) := [("unicode/utf8.acceptRanges", Rows.laid_unicode_utf8_acceptRanges), ("jobshop/packed.signs", Rows.laid_jobshop_packed_signs), ("unicode/utf8.first", Rows.laid_unicode_utf8_first)]
theorem gSigns : Tryd.prog.globalNamed "jobshop/packed.signs" = some 0 := by kernel_rfl
theorem tSigns : (Tryd.prog.globals[0]?).map (·.type) = some 100 := by kernel_rfl
theorem laid_signs : (Rows.laid_jobshop_packed_signs : DataW Unit) = .agg ((List.range 16).map fun d => .lit (.int .i64 (if h : d < 16 then (signV ⟨d, h⟩ : Int) else 0))) := by kernel_rfl
theorem sg_of_laid {W : World} (h : laidMetH Tryd.prog lst W) : Sg W := by
  rw [MakeChecks.laidMetH_plain _ _ _ (by kernel_rfl)] at h
  obtain ⟨ps, ⟨g0, t0, cs0, f0, p0, q0, _, _, _, _, ⟨g1, t1, cs1, f1, p1, q1, hg, ht, hv, hd, _⟩, _⟩, _, _⟩ := h
  obtain rfl := Option.some.inj (gSigns.symm.trans hg)
  obtain rfl := Option.some.inj (tSigns.symm.trans ht)
  obtain ⟨xs, m, _, ex, _, hl, hel⟩ := DataW.trod_array Tryd.underlying100 hd
  have c5 : Tryd.prog.cellsOf 3 = 1 := by kernel_rfl
  intro d
  have hE := hel d.val d.isLt
  rw [c5, Nat.mul_one, List.getElem?_eq_getElem (by have := d.isLt; omega)] at hE
  obtain ⟨z, e1, e2, _⟩ := DataW.trod_int Tryd.underlying3 hE
  have hd16 := d.isLt
  have e3 : xs.map (·.1) = (List.range 16).map fun d => (DataW.lit (.int .i64 (if h : d < 16 then (signV ⟨d, h⟩ : Int) else 0)) : DataW Unit) := by
    have e := (Prod.mk.inj ex).1
    rw [laid_signs] at e
    exact (DataW.agg.inj e).symm
  have e4 : (xs.map (·.1))[d.val]? = ((List.range 16).map fun d => (DataW.lit (.int .i64 (if h : d < 16 then (signV ⟨d, h⟩ : Int) else 0)) : DataW Unit))[d.val]? := by rw [e3]
  rw [List.getElem?_map, List.getElem?_map, List.getElem?_eq_getElem (by omega : d.val < xs.length), List.getElem?_range hd16, e2] at e4
  have hz : z = (signV d : Int) := by
    simp only [Option.map_some, Option.some.injEq, DataW.lit.injEq, Lit.int.injEq, true_and] at e4
    rw [e4, dif_pos hd16]
  rw [World.var?_cell hg hv d.val, ← hz]
  have : cs1.toList[d.val]? = some (.int .i64 z) := by
    have h0 : ((cs1.toList.drop d.val).take 1)[0]? = some (.int .i64 z) := by rw [e1]; rfl
    simpa using h0
  simpa using this
theorem own : ownKnob Tryd.prog.godebug = none := by kernel_rfl
theorem laid : laidOutB Tryd.prog = true := by kernel_rfl
theorem cellsU : Tryd.prog.cellsOf 5 = 1 := by kernel_rfl
theorem bytes_of (zs : List Int) (h : ∀ x ∈ zs, (Lit.int .u8 x).wf = true) : ∃ l : List UInt8, l.length = zs.length ∧ ∀ j, j < l.length → ((gt l j).toNat : Int) = zs.getD j 0 := by
  induction zs with
  | nil => exact ⟨[], rfl, fun j hj => by simp at hj⟩
  | cons z zs ih =>
    obtain ⟨l, hl, hg⟩ := ih (fun x hx => h x (List.mem_cons_of_mem _ hx))
    obtain ⟨x, hx⟩ := u8_of (h z (List.mem_cons_self ..))
    refine ⟨x :: l, by simp [hl], fun j hj => ?_⟩
    cases j with
    | zero => simp [gt, hx]
    | succ j =>
      have hj' : j < l.length := by simp at hj; omega
      have h2 := hg j hj'
      simp only [gt, List.getD_cons_succ] at h2 ⊢
      exact h2
theorem rd_of {H : Type} {enc : TypeId × Value → H} {W : World} {a0 : Option Addr} {len cap : Nat} {d : DataW H} {ps : List MemPlace} (h : DataW.Trod enc Tryd.prog W 0 (fun _ => true) true 22 (.slice a0 len cap) d ps) :
    ∃ l : List UInt8, len = l.length ∧ Rd W a0 l ∧ l.length ≤ cap ∧ cap ≤ 9223372036854775807 ∧ (a0 = none → cap = 0) := by
  obtain ⟨fuel, hf⟩ := h
  rcases open_ints Tryd.underlying22 Tryd.underlying5 cellsU hf with ⟨hcs, hx⟩ | ⟨a, len', cap', zs, hcs, _, hl, hm, hz, hx, hcell, hwz⟩
  · simp [Value.cells] at hcs
    obtain ⟨rfl, rfl, rfl⟩ := hcs
    exact ⟨[], rfl, .inl rfl, by simp, by omega, fun _ => rfl⟩
  · simp [Value.cells] at hcs
    obtain ⟨rfl, rfl, rfl⟩ := hcs
    simp only [if_true] at hz
    have hm' : cap ≤ 9223372036854775807 := by unfold maxLen at hm; omega
    obtain ⟨l, hll, hlc⟩ := bytes_of (zs.take len) (fun x hx => hwz x (List.mem_of_mem_take hx))
    have hlen : l.length = len := by rw [hll, List.length_take]; omega
    refine ⟨l, hlen.symm, ?_, by omega, hm', fun h => by cases h⟩
    by_cases h0 : l.length = 0
    · exact .inl (List.length_eq_zero_iff.1 h0)
    · obtain ⟨B, off, spot⟩ := a
      have hspot : spot = none := by simpa [Addr.add] using World.cell?_spot (hcell 0 (by omega))
      subst hspot
      refine .inr ⟨B, off, rfl, fun j hj => ?_⟩
      have hc := hcell j (by omega)
      rw [show ((⟨B, off, none⟩ : Addr).add j) = ⟨B, off + j, none⟩ from by simp [Addr.add]] at hc
      rw [hc, hlc j hj]
      have hj2 : j < len := by omega
      simp [List.getD_eq_getElem?_getD, hj2]

end E
end Go.Proofs.YtlpekknhaaddcaaDoor

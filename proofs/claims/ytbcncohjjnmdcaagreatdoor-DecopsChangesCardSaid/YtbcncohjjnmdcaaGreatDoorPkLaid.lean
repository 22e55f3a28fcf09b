/- What a statement's premises give: the table of the signs lies as the text lays it; a slice of bytes reads as a list. -/
import Derived.Test.YtbcncohjjnmdcaaGreatDoorRows
import Derived.ChangeMaps5
import Derived.LaidMore
import Derived.Lay
import Derived.Lib.SmallJoins
import Derived.OpenShut
import Derived.SevenTiedAt
import Derived.Stop.Joined
import Derived.Test.YtbcncohjjnmdcaaGreatDoorPkC
namespace Go.Proofs.YtbcncohjjnmdcaaGreatDoor
open Go.ChangeShapes Go.WideShapes Go.ChangeAt Go.RowKit Go.ChangeMaps
set_option linter.unusedVariables false
namespace E

/-- The listed variables. -/
abbrev lst : List (String × DataW Unit) := [("unicode/utf8.acceptRanges", Rows.laid_unicode_utf8_acceptRanges), ("jobshop/packed.signs", Rows.laid_jobshop_packed_signs), ("unicode/utf8.first", Rows.laid_unicode_utf8_first)]
theorem gSigns : Tryz.prog.globalNamed "jobshop/packed.signs" = some 0 := by kernel_rfl
theorem tSigns : (Tryz.prog.globals[0]?).map (·.type) = some 235 := by kernel_rfl
theorem laid_signs : (Rows.laid_jobshop_packed_signs : DataW Unit) = .agg ((List.range 16).map fun d => .lit (.int .i64 (if h : d < 16 then (signV ⟨d, h⟩ : Int) else 0))) := by kernel_rfl
theorem sg_of_laid {W : World} (h : laidMetH Tryz.prog lst W) : Sg W := by
  rw [MakeChecks.laidMetH_plain _ _ _ (by kernel_rfl)] at h
  obtain ⟨ps, ⟨g0, t0, cs0, f0, p0, q0, _, _, _, _, ⟨g1, t1, cs1, f1, p1, q1, hg, ht, hv, hd, _⟩, _⟩, _, _⟩ := h
  obtain rfl := Option.some.inj (gSigns.symm.trans hg)
  obtain rfl := Option.some.inj (tSigns.symm.trans ht)
  obtain ⟨xs, m, _, ex, _, hl, hel⟩ := DataW.trod_array Tryz.underlying235 hd
  have c5 : Tryz.prog.cellsOf 3 = 1 := by kernel_rfl
  intro d
  have hE := hel d.val d.isLt
  rw [c5, Nat.mul_one, List.getElem?_eq_getElem (by have := d.isLt; omega)] at hE
  obtain ⟨z, e1, e2, _⟩ := DataW.trod_int Tryz.underlying3 hE
  have hd16 := d.isLt
  have e3 : xs.map (·.1) = (List.range 16).map fun d => (DataW.lit (.int .i64 (if h : d < 16 then (signV ⟨d, h⟩ : Int) else 0)) : DataW Unit) := by
    have e := (Prod.mk.inj ex).1
    rw [laid_signs] at e
    exact (DataW.agg.inj e).symm
  have e4 : (xs.map (·.1))[d.val]? = ((List.range 16).map fun d => (DataW.lit (.int .i64 (if h : d < 16 then (signV ⟨d, h⟩ : Int) else 0)) : DataW Unit))[d.val]? := by rw [e3]
  rw [List.getElem?_map, List.getElem?_map, List.getElem?_eq_getElem (by omega : d.val < xs.length), List.getElem?_range hd16, e2] at e4
  have hz : z = (signV d : Int) := by
    simp only [Option.map_some, Option.some.injEq, DataW.lit.injEq, Lit.int.injEq, true_and] at e4
    rw [e4, dif_pos hd16]
  rw [World.var?_cell hg hv d.val, ← hz]
  have : cs1.toList[d.val]? = some (.int .i64 z) := by
    have h0 : ((cs1.toList.drop d.val).take 1)[0]? = some (.int .i64 z) := by rw [e1]; rfl
    simpa using h0
  simpa using this
end E
end Go.Proofs.YtbcncohjjnmdcaaGreatDoor

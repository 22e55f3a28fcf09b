/- What a statement's premises give: slices of bytes read as lists; structs of them. -/
import Derived.Test.YtbcncohjjnmdcaaGreatDoorRows
import Derived.ChangeMaps5
import Derived.Lib.SmallJoins
import Derived.OpenShut
import Derived.Test.YtbcncohjjnmdcaaGreatDoorPkA
namespace Go.Proofs.YtbcncohjjnmdcaaGreatDoor
open Go.ChangeShapes Go.WideShapes Go.ChangeAt Go.RowKit Go.ChangeMaps Go.Joins
set_option linter.unusedVariables false
namespace E

theorem own : ownKnob Tryz.prog.godebug = none := by kernel_rfl
theorem laid : laidOutB Tryz.prog = true := by kernel_rfl
theorem cellsU : Tryz.prog.cellsOf 5 = 1 := by kernel_rfl
theorem bytes_of (zs : List Int) (h : ∀ x ∈ zs, (Lit.int .u8 x).wf = true) : ∃ l : List UInt8, l.length = zs.length ∧ ∀ j, j < l.length → ((gt l j).toNat : Int) = zs.getD j 0 := by
  induction zs with
  | nil => exact ⟨[], rfl, fun j hj => by simp at hj⟩
  | cons z zs ih =>
    obtain ⟨l, hl, hg⟩ := ih (fun x hx => h x (List.mem_cons_of_mem _ hx))
    obtain ⟨x, hx⟩ := u8_of (h z (List.mem_cons_self ..))
    refine ⟨x :: l, by simp [hl], fun j hj => ?_⟩
    cases j with
    | zero => simp [gt, hx]
    | succ j =>
      have hj' : j < l.length := by simp at hj; omega
      have h2 := hg j hj'
      simp only [gt, List.getD_cons_succ] at h2 ⊢
      exact h2
theorem sv_raw {H : Type} {enc : TypeId × Value → H} {W : World} {v : Value} {fuel : Nat} {y : DataW H × List MemPlace} (hf : DataW.trod enc Tryz.prog W 0 (fun _ => true) true fuel 31 [v] = some y) : ∃ l : List UInt8, SvB W v l := by
  rcases open_ints Tryz.underlying31 Tryz.underlying5 cellsU hf with ⟨hcs, hx⟩ | ⟨a, len, cap, zs, hcs, _, hl, hm, hz, hx, hcell, hwz⟩
  · obtain rfl : v = .slice none 0 0 := by simpa using hcs
    exact ⟨[], SvB.nil _⟩
  · obtain rfl : v = .slice (some a) len cap := by simpa using hcs
    simp only [if_true] at hz
    have hm' : cap ≤ 9223372036854775807 := by unfold maxLen at hm; omega
    obtain ⟨l, hll, hlc⟩ := bytes_of (zs.take len) (fun x hx => hwz x (List.mem_of_mem_take hx))
    have hlen : l.length = len := by rw [hll, List.length_take]; omega
    refine ⟨l, some a, cap, by rw [hlen], ?_, by omega, hm', fun h => by cases h⟩
    by_cases h0 : l.length = 0
    · exact .inl (List.length_eq_zero_iff.1 h0)
    · obtain ⟨B, off, spot⟩ := a
      have hspot : spot = none := by simpa [Addr.add] using World.cell?_spot (hcell 0 (by omega))
      subst hspot
      refine .inr ⟨B, off, rfl, fun j hj => ?_⟩
      have hc := hcell j (by omega)
      rw [show ((⟨B, off, none⟩ : Addr).add j) = ⟨B, off + j, none⟩ from by simp [Addr.add]] at hc
      rw [hc, hlc j hj]
      have hj2 : j < len := by omega
      simp [List.getD_eq_getElem?_getD, hj2]
/-- A number of the statements: its digits, its sign, its message bytes. -/
def NumV (w : World) (v : Value) (l : List UInt8) (neg : Bool) (m : List UInt8) : Prop := ∃ d t, v = .agg #[d, .bool neg, t] ∧ SvB w d l ∧ SvB w t m
theorem NumV.below {w w' : World} {v : Value} {l m : List UInt8} {neg : Bool} (h : NumV w v l neg m) (hb : Below w.heap.size w w') : NumV w' v l neg m := by
  obtain ⟨d, t, h1, h2, h3⟩ := h
  exact ⟨d, t, h1, h2.below hb, h3.below hb⟩
end E
end Go.Proofs.YtbcncohjjnmdcaaGreatDoor

/- A number of 32 bits as a natural number. -/
import Derived.Test.YtlpekknhaaddcaaDoorPkLaid
namespace Go.Proofs.YtlpekknhaaddcaaDoor
open Go.ChangeShapes Go.WideShapes Go.ChangeAt Go.RowKit Go.ChangeMaps
namespace E

theorem u32_nat {x : Int} (h : (Lit.int .u32 x).wf = true) : ∃ n : Nat, n < 4294967296 ∧ x = (n : Int) := by
  have hh : 0 ≤ x ∧ x < 4294967296 := by
    simp [Lit.wf, IntKind.min, IntKind.max, IntKind.bits, IntKind.signed] at h
    omega
  exact ⟨x.toNat, by omega, by omega⟩

end E
end Go.Proofs.YtlpekknhaaddcaaDoor

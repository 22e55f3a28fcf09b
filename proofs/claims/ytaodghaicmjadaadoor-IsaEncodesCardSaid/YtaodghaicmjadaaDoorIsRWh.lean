/- The given answers: half. -/
import Derived.Test.YtaodghaicmjadaaDoorIsCheck
namespace Go.Proofs.YtaodghaicmjadaaDoor
open Go.RowKit Go.Shelf
set_option linter.unusedVariables false
namespace E

def hB (n : Int) : Bool := decide (0 ≤ n) && decide (n ≤ 15)
theorem half_ref (n : Int) (w : World) : Calls Tryd.prog 54 #[.int .i64 n] w fun e w' => e = .returned (.bool (hB n)) ∧ w = w' := by
  by_cases h0 : 0 ≤ n
  · by_cases h1 : n ≤ 15
    · have hv : hB n = true := by unfold hB; rw [decide_eq_true h0, decide_eq_true h1]; rfl
      rw [hv]
      clear hv
      go_enter Tryd.func54, Tryd.ntmps54
      go_wp2
      go_ret
      exact ⟨rfl, rfl⟩
    · have hv : hB n = false := by unfold hB; rw [decide_eq_true h0, decide_eq_false h1]; rfl
      rw [hv]
      clear hv
      go_enter Tryd.func54, Tryd.ntmps54
      go_wp2
      go_ret
      exact ⟨rfl, rfl⟩
  · have hv : hB n = false := by unfold hB; rw [decide_eq_false h0]; rfl
    rw [hv]
    clear hv
    go_enter Tryd.func54, Tryd.ntmps54
    go_wp2
    go_ret
    exact ⟨rfl, rfl⟩
end E
end Go.Proofs.YtaodghaicmjadaaDoor

/- What editing answers, case by case: the code, the length, the bytes, the mark. -/
import Derived.Test.YtbcncohjjnmdcaaGreatDoorRows
import Derived.Test.YtbcncohjjnmdcaaGreatDoorEdA
namespace Go.Proofs.YtbcncohjjnmdcaaGreatDoor
set_option linter.unusedVariables false
namespace E

theorem edCC_le (s : ES) : edCC s ≤ 2 := by
  unfold edCC
  split
  · split <;> omega
  · omega
theorem res_cases (pat src : List UInt8) :
    (edRes pat src = ([], 0, 0, 6) ∧ ¬ (1 ≤ pat.length ∧ pat.length ≤ 256)) ∨ (∃ c, (c = 5 ∨ c = 7) ∧ edRes pat src = ([], 0, 0, c) ∧ 1 ≤ pat.length ∧ pat.length ≤ 256) ∨
    (∃ t cc mk, edRes pat src = (t, cc, mk, 0) ∧ 1 ≤ pat.length ∧ pat.length ≤ 256 ∧ t.length = pat.length ∧ cc ≤ 2 ∧ (∀ j, j < pat.length → edGood (gt pat 0) (gt pat j) (gt t j)) ∧
      (mk = -1 ∨ ∃ j, j < pat.length ∧ mk = ((j : Nat) : Int) ∧ (gt pat j = 32 ∨ gt pat j = 33) ∧ 241 ≤ (gt t j).toNat ∧ (gt t j).toNat ≤ 249)) := by
  by_cases hl : 1 ≤ pat.length ∧ pat.length ≤ 256
  · by_cases h0 : (edRun (pat.headD 0) (edL src) pat 0 edInit).1 = 0
    · obtain ⟨t, h1, h2, h3, h4⟩ := run_good (pat.headD 0) (edL src) (edL_nines src) pat 0 edInit h0
      have hhd : pat.headD 0 = gt pat 0 := by
        cases pat
        · rfl
        · rfl
      have ht : (edRun (pat.headD 0) (edL src) pat 0 edInit).2.text = t := h2
      refine .inr (.inr ⟨t, _, _, by unfold edRes; rw [if_pos hl, if_pos h0, ht], hl.1, hl.2, h1, edCC_le _, fun j hj => ?_, ?_⟩)
      · rw [← hhd]
        exact h3 j hj
      · rcases h4 with h4 | ⟨j, hj, h4, h5⟩
        · exact .inl h4
        · refine .inr ⟨j, hj, ?_, h5⟩
          rw [h4]
          congr 1
          omega
    · refine .inr (.inl ⟨_, ?_, by unfold edRes; rw [if_pos hl, if_neg h0], hl⟩)
      rcases run_code (pat.headD 0) (edL src) pat 0 edInit with h | h | h
      · exact absurd h h0
      · exact .inl h
      · exact .inr h
  · exact .inl ⟨by unfold edRes; rw [if_neg hl], hl⟩

end E
end Go.Proofs.YtbcncohjjnmdcaaGreatDoor

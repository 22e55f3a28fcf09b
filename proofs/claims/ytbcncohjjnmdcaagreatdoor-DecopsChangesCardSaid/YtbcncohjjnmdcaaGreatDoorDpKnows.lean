/- Which codes are decimal instructions: the program's answer and the given one. -/
import Derived.Test.YtbcncohjjnmdcaaGreatDoorRows
import Derived.Test.YtbcncohjjnmdcaaGreatDoorGnX
namespace Go.Proofs.YtbcncohjjnmdcaaGreatDoor
namespace E
end E
open Go.RowKit Go.Shelf E
set_option linter.unusedVariables false
namespace M

/-- The codes in ascending order. -/
def opsR : List Nat := [78, 79, 222, 223, 240, 241, 242, 243, 248, 249, 250, 251, 252, 253]
/-- Is it the code of a decimal instruction? -/
def knB (x : Int) : Bool := opsR.any fun (o : Nat) => x == (o : Int)
theorem action_some (o : Nat) (h : o ∈ opsR) : ∃ f, Go.Proofs.Enters Tryz.prog f ∧ ∀ X, Calls Tryz.prog 28 #[.int .i64 (o : Int)] X fun e X' => e = .returned (fnV f) ∧ X = X' := by
  simp only [opsR, List.mem_cons, List.not_mem_nil, or_false] at h
  rcases h with rfl | rfl | rfl | rfl | rfl | rfl | rfl | rfl | rfl | rfl | rfl | rfl | rfl | rfl
  · exact ⟨45, enters_of Tryz.func45 (by kernel_rfl) rfl, fun X => action_78 X⟩
  · exact ⟨44, enters_of Tryz.func44 (by kernel_rfl) rfl, fun X => action_79 X⟩
  · exact ⟨56, enters_of Tryz.func56 (by kernel_rfl) rfl, fun X => action_222 X⟩
  · exact ⟨57, enters_of Tryz.func57 (by kernel_rfl) rfl, fun X => action_223 X⟩
  · exact ⟨55, enters_of Tryz.func55 (by kernel_rfl) rfl, fun X => action_240 X⟩
  · exact ⟨48, enters_of Tryz.func48 (by kernel_rfl) rfl, fun X => action_241 X⟩
  · exact ⟨46, enters_of Tryz.func46 (by kernel_rfl) rfl, fun X => action_242 X⟩
  · exact ⟨47, enters_of Tryz.func47 (by kernel_rfl) rfl, fun X => action_243 X⟩
  · exact ⟨49, enters_of Tryz.func49 (by kernel_rfl) rfl, fun X => action_248 X⟩
  · exact ⟨52, enters_of Tryz.func52 (by kernel_rfl) rfl, fun X => action_249 X⟩
  · exact ⟨50, enters_of Tryz.func50 (by kernel_rfl) rfl, fun X => action_250 X⟩
  · exact ⟨51, enters_of Tryz.func51 (by kernel_rfl) rfl, fun X => action_251 X⟩
  · exact ⟨53, enters_of Tryz.func53 (by kernel_rfl) rfl, fun X => action_252 X⟩
  · exact ⟨54, enters_of Tryz.func54 (by kernel_rfl) rfl, fun X => action_253 X⟩
theorem knows_any (x : Int) (w : World) : Calls Tryz.prog 11 #[.int .i64 x] w fun e w' => e = .returned (.bool (knB x)) ∧ w = w' := by
  cases hk : knB x with
  | true =>
    unfold knB at hk
    rw [List.any_eq_true] at hk
    obtain ⟨o, ho, hx⟩ := hk
    obtain rfl : x = (o : Int) := by simpa using hx
    obtain ⟨f, _, hf⟩ := action_some o ho
    exact knows_yes _ f w hf
  | false =>
    refine knows_no x w (fun X => action_none x X (fun o ho e => ?_))
    have h2 : o ∈ opsR := (show ∀ o ∈ opsL, o ∈ opsR by decide) o ho
    have : knB x = true := by
      unfold knB
      rw [List.any_eq_true]
      exact ⟨o, h2, by simpa using e⟩
    rw [this] at hk
    cases hk

end M
end Go.Proofs.YtbcncohjjnmdcaaGreatDoor

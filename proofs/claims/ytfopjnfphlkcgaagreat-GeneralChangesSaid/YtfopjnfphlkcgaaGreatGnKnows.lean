/- Which codes are general instructions: the program's answer and the given one. -/
import Derived.Test.YtfopjnfphlkcgaaGreatRows
import Derived.Test.YtfopjnfphlkcgaaGreatGnExec
import Derived.Test.YtfopjnfphlkcgaaGreatGnNone
namespace Go.Proofs.YtfopjnfphlkcgaaGreat
open Go.RowKit Go.Shelf E
set_option linter.unusedVariables false
namespace M

/-- The codes in ascending order. -/
def opsR : List Nat := [4, 5, 6, 7, 16, 17, 18, 19, 20, 21, 22, 23, 24, 25, 26, 27, 28, 29, 30, 31, 64, 65, 66, 67, 69, 70, 71, 72, 73, 74, 75, 76, 80, 84, 85, 86, 87, 88, 89, 90, 91, 92, 93, 94, 95, 134, 135, 136, 137, 138, 139, 140, 141, 142, 143, 144, 145, 146, 147, 148, 149, 150, 151, 152, 209, 210, 211, 212, 213, 214, 215, 220, 221]
/-- Is it the code of a general instruction? -/
def knB (x : Int) : Bool := opsR.any fun (o : Nat) => x == (o : Int)
theorem action_some (o : Nat) (h : o ∈ opsR) : ∃ f, Go.Proofs.Enters Tryz.prog f ∧ ∀ X, Calls Tryz.prog 29 #[.int .i64 (o : Int)] X fun e X' => e = .returned (fnV f) ∧ X = X' := by
  simp only [opsR, List.mem_cons, List.not_mem_nil, or_false] at h
  rcases h with rfl | rfl | rfl | rfl | rfl | rfl | rfl | rfl | rfl | rfl | rfl | rfl | rfl | rfl | rfl | rfl | rfl | rfl | rfl | rfl | rfl | rfl | rfl | rfl | rfl | rfl | rfl | rfl | rfl | rfl | rfl | rfl | rfl | rfl | rfl | rfl | rfl | rfl | rfl | rfl | rfl | rfl | rfl | rfl | rfl | rfl | rfl | rfl | rfl | rfl | rfl | rfl | rfl | rfl | rfl | rfl | rfl | rfl | rfl | rfl | rfl | rfl | rfl | rfl | rfl | rfl | rfl | rfl | rfl | rfl | rfl | rfl | rfl
  · exact ⟨62, enters_of Tryz.func62 (by kernel_rfl) rfl, fun X => action_4 X⟩
  · exact ⟨75, enters_of Tryz.func75 (by kernel_rfl) rfl, fun X => action_5 X⟩
  · exact ⟨75, enters_of Tryz.func75 (by kernel_rfl) rfl, fun X => action_6 X⟩
  · exact ⟨75, enters_of Tryz.func75 (by kernel_rfl) rfl, fun X => action_7 X⟩
  · exact ⟨52, enters_of Tryz.func52 (by kernel_rfl) rfl, fun X => action_16 X⟩
  · exact ⟨52, enters_of Tryz.func52 (by kernel_rfl) rfl, fun X => action_17 X⟩
  · exact ⟨52, enters_of Tryz.func52 (by kernel_rfl) rfl, fun X => action_18 X⟩
  · exact ⟨52, enters_of Tryz.func52 (by kernel_rfl) rfl, fun X => action_19 X⟩
  · exact ⟨55, enters_of Tryz.func55 (by kernel_rfl) rfl, fun X => action_20 X⟩
  · exact ⟨54, enters_of Tryz.func54 (by kernel_rfl) rfl, fun X => action_21 X⟩
  · exact ⟨55, enters_of Tryz.func55 (by kernel_rfl) rfl, fun X => action_22 X⟩
  · exact ⟨55, enters_of Tryz.func55 (by kernel_rfl) rfl, fun X => action_23 X⟩
  · exact ⟨51, enters_of Tryz.func51 (by kernel_rfl) rfl, fun X => action_24 X⟩
  · exact ⟨54, enters_of Tryz.func54 (by kernel_rfl) rfl, fun X => action_25 X⟩
  · exact ⟨53, enters_of Tryz.func53 (by kernel_rfl) rfl, fun X => action_26 X⟩
  · exact ⟨53, enters_of Tryz.func53 (by kernel_rfl) rfl, fun X => action_27 X⟩
  · exact ⟨56, enters_of Tryz.func56 (by kernel_rfl) rfl, fun X => action_28 X⟩
  · exact ⟨58, enters_of Tryz.func58 (by kernel_rfl) rfl, fun X => action_29 X⟩
  · exact ⟨53, enters_of Tryz.func53 (by kernel_rfl) rfl, fun X => action_30 X⟩
  · exact ⟨53, enters_of Tryz.func53 (by kernel_rfl) rfl, fun X => action_31 X⟩
  · exact ⟨63, enters_of Tryz.func63 (by kernel_rfl) rfl, fun X => action_64 X⟩
  · exact ⟨61, enters_of Tryz.func61 (by kernel_rfl) rfl, fun X => action_65 X⟩
  · exact ⟨63, enters_of Tryz.func63 (by kernel_rfl) rfl, fun X => action_66 X⟩
  · exact ⟨64, enters_of Tryz.func64 (by kernel_rfl) rfl, fun X => action_67 X⟩
  · exact ⟨75, enters_of Tryz.func75 (by kernel_rfl) rfl, fun X => action_69 X⟩
  · exact ⟨75, enters_of Tryz.func75 (by kernel_rfl) rfl, fun X => action_70 X⟩
  · exact ⟨75, enters_of Tryz.func75 (by kernel_rfl) rfl, fun X => action_71 X⟩
  · exact ⟨51, enters_of Tryz.func51 (by kernel_rfl) rfl, fun X => action_72 X⟩
  · exact ⟨54, enters_of Tryz.func54 (by kernel_rfl) rfl, fun X => action_73 X⟩
  · exact ⟨53, enters_of Tryz.func53 (by kernel_rfl) rfl, fun X => action_74 X⟩
  · exact ⟨53, enters_of Tryz.func53 (by kernel_rfl) rfl, fun X => action_75 X⟩
  · exact ⟨57, enters_of Tryz.func57 (by kernel_rfl) rfl, fun X => action_76 X⟩
  · exact ⟨63, enters_of Tryz.func63 (by kernel_rfl) rfl, fun X => action_80 X⟩
  · exact ⟨55, enters_of Tryz.func55 (by kernel_rfl) rfl, fun X => action_84 X⟩
  · exact ⟨54, enters_of Tryz.func54 (by kernel_rfl) rfl, fun X => action_85 X⟩
  · exact ⟨55, enters_of Tryz.func55 (by kernel_rfl) rfl, fun X => action_86 X⟩
  · exact ⟨55, enters_of Tryz.func55 (by kernel_rfl) rfl, fun X => action_87 X⟩
  · exact ⟨51, enters_of Tryz.func51 (by kernel_rfl) rfl, fun X => action_88 X⟩
  · exact ⟨54, enters_of Tryz.func54 (by kernel_rfl) rfl, fun X => action_89 X⟩
  · exact ⟨53, enters_of Tryz.func53 (by kernel_rfl) rfl, fun X => action_90 X⟩
  · exact ⟨53, enters_of Tryz.func53 (by kernel_rfl) rfl, fun X => action_91 X⟩
  · exact ⟨56, enters_of Tryz.func56 (by kernel_rfl) rfl, fun X => action_92 X⟩
  · exact ⟨58, enters_of Tryz.func58 (by kernel_rfl) rfl, fun X => action_93 X⟩
  · exact ⟨53, enters_of Tryz.func53 (by kernel_rfl) rfl, fun X => action_94 X⟩
  · exact ⟨53, enters_of Tryz.func53 (by kernel_rfl) rfl, fun X => action_95 X⟩
  · exact ⟨75, enters_of Tryz.func75 (by kernel_rfl) rfl, fun X => action_134 X⟩
  · exact ⟨75, enters_of Tryz.func75 (by kernel_rfl) rfl, fun X => action_135 X⟩
  · exact ⟨59, enters_of Tryz.func59 (by kernel_rfl) rfl, fun X => action_136 X⟩
  · exact ⟨59, enters_of Tryz.func59 (by kernel_rfl) rfl, fun X => action_137 X⟩
  · exact ⟨59, enters_of Tryz.func59 (by kernel_rfl) rfl, fun X => action_138 X⟩
  · exact ⟨59, enters_of Tryz.func59 (by kernel_rfl) rfl, fun X => action_139 X⟩
  · exact ⟨60, enters_of Tryz.func60 (by kernel_rfl) rfl, fun X => action_140 X⟩
  · exact ⟨60, enters_of Tryz.func60 (by kernel_rfl) rfl, fun X => action_141 X⟩
  · exact ⟨60, enters_of Tryz.func60 (by kernel_rfl) rfl, fun X => action_142 X⟩
  · exact ⟨60, enters_of Tryz.func60 (by kernel_rfl) rfl, fun X => action_143 X⟩
  · exact ⟨66, enters_of Tryz.func66 (by kernel_rfl) rfl, fun X => action_144 X⟩
  · exact ⟨69, enters_of Tryz.func69 (by kernel_rfl) rfl, fun X => action_145 X⟩
  · exact ⟨67, enters_of Tryz.func67 (by kernel_rfl) rfl, fun X => action_146 X⟩
  · exact ⟨70, enters_of Tryz.func70 (by kernel_rfl) rfl, fun X => action_147 X⟩
  · exact ⟨68, enters_of Tryz.func68 (by kernel_rfl) rfl, fun X => action_148 X⟩
  · exact ⟨69, enters_of Tryz.func69 (by kernel_rfl) rfl, fun X => action_149 X⟩
  · exact ⟨68, enters_of Tryz.func68 (by kernel_rfl) rfl, fun X => action_150 X⟩
  · exact ⟨68, enters_of Tryz.func68 (by kernel_rfl) rfl, fun X => action_151 X⟩
  · exact ⟨65, enters_of Tryz.func65 (by kernel_rfl) rfl, fun X => action_152 X⟩
  · exact ⟨71, enters_of Tryz.func71 (by kernel_rfl) rfl, fun X => action_209 X⟩
  · exact ⟨71, enters_of Tryz.func71 (by kernel_rfl) rfl, fun X => action_210 X⟩
  · exact ⟨71, enters_of Tryz.func71 (by kernel_rfl) rfl, fun X => action_211 X⟩
  · exact ⟨71, enters_of Tryz.func71 (by kernel_rfl) rfl, fun X => action_212 X⟩
  · exact ⟨72, enters_of Tryz.func72 (by kernel_rfl) rfl, fun X => action_213 X⟩
  · exact ⟨71, enters_of Tryz.func71 (by kernel_rfl) rfl, fun X => action_214 X⟩
  · exact ⟨71, enters_of Tryz.func71 (by kernel_rfl) rfl, fun X => action_215 X⟩
  · exact ⟨73, enters_of Tryz.func73 (by kernel_rfl) rfl, fun X => action_220 X⟩
  · exact ⟨74, enters_of Tryz.func74 (by kernel_rfl) rfl, fun X => action_221 X⟩
theorem knows_any (x : Int) (w : World) : Calls Tryz.prog 13 #[.int .i64 x] w fun e w' => e = .returned (.bool (knB x)) ∧ w = w' := by
  cases hk : knB x with
  | true =>
    unfold knB at hk
    rw [List.any_eq_true] at hk
    obtain ⟨o, ho, hx⟩ := hk
    obtain rfl : x = (o : Int) := by simpa using hx
    obtain ⟨f, _, hf⟩ := action_some o ho
    exact knows_yes _ f w hf
  | false =>
    refine knows_no x w (fun X => action_none x X (fun o ho e => ?_))
    have h2 : o ∈ opsR := (show ∀ o ∈ opsL, o ∈ opsR by decide) o ho
    have : knB x = true := by
      unfold knB
      rw [List.any_eq_true]
      exact ⟨o, h2, by simpa using e⟩
    rw [this] at hk
    cases hk

end M
end Go.Proofs.YtfopjnfphlkcgaaGreat

/- Which codes are general instructions: the program's answer and the given one. -/
import Derived.Test.YtfopjnfphlkcgaaGreatGnExec
namespace Go.Proofs.YtfopjnfphlkcgaaGreat
open Go.RowKit Go.Shelf E
set_option linter.unusedVariables false
namespace M

/-- The codes in ascending order. -/
def opsR : List Nat := [4, 5, 6, 7, 16, 17, 18, 19, 20, 21, 22, 23, 24, 25, 26, 27, 28, 29, 30, 31, 64, 65, 66, 67, 69, 70, 71, 72, 73, 74, 75, 76, 80, 84, 85, 86, 87, 88, 89, 90, 91, 92, 93, 94, 95, 134, 135, 136, 137, 138, 139, 140, 141, 142, 143, 144, 145, 146, 147, 148, 149, 150, 151, 152, 209, 210, 211, 212, 213, 214, 215, 220, 221]
def opsC : Array Value := (opsR.map fun (o : Nat) => Value.int .i64 (o : Int)).toArray
theorem opsC_eq : opsC = #[.int .i64 4, .int .i64 5, .int .i64 6, .int .i64 7, .int .i64 16, .int .i64 17, .int .i64 18, .int .i64 19, .int .i64 20, .int .i64 21, .int .i64 22, .int .i64 23, .int .i64 24, .int .i64 25, .int .i64 26, .int .i64 27, .int .i64 28, .int .i64 29, .int .i64 30, .int .i64 31, .int .i64 64, .int .i64 65, .int .i64 66, .int .i64 67, .int .i64 69, .int .i64 70, .int .i64 71, .int .i64 72, .int .i64 73, .int .i64 74, .int .i64 75, .int .i64 76, .int .i64 80, .int .i64 84, .int .i64 85, .int .i64 86, .int .i64 87, .int .i64 88, .int .i64 89, .int .i64 90, .int .i64 91, .int .i64 92, .int .i64 93, .int .i64 94, .int .i64 95, .int .i64 134, .int .i64 135, .int .i64 136, .int .i64 137, .int .i64 138, .int .i64 139, .int .i64 140, .int .i64 141, .int .i64 142, .int .i64 143, .int .i64 144, .int .i64 145, .int .i64 146, .int .i64 147, .int .i64 148, .int .i64 149, .int .i64 150, .int .i64 151, .int .i64 152, .int .i64 209, .int .i64 210, .int .i64 211, .int .i64 212, .int .i64 213, .int .i64 214, .int .i64 215, .int .i64 220, .int .i64 221] := by kernel_rfl
set_option maxRecDepth 100000 in
set_option maxHeartbeats 2000000 in
theorem rops_any (w : World) : Calls Tryz.prog 30 #[] w fun e w' => ∃ g, e = .returned (.slice (some ⟨g, 0, none⟩) 73 73) ∧ Bx w' g 3 opsC ∧ Below w.heap.size w w' := by
  have HB := Lib.hid (And.intro (Bx.new w 3 opsC) (below_new w (.cells opsC 3)))
  rw [opsC_eq] at HB
  have HP : Hid (∀ W, Bx W w.heap.size 3 #[.int .i64 4, .int .i64 5, .int .i64 6, .int .i64 7, .int .i64 16, .int .i64 17, .int .i64 18, .int .i64 19, .int .i64 20, .int .i64 21, .int .i64 22, .int .i64 23, .int .i64 24, .int .i64 25, .int .i64 26, .int .i64 27, .int .i64 28, .int .i64 29, .int .i64 30, .int .i64 31, .int .i64 64, .int .i64 65, .int .i64 66, .int .i64 67, .int .i64 69, .int .i64 70, .int .i64 71, .int .i64 72, .int .i64 73, .int .i64 74, .int .i64 75, .int .i64 76, .int .i64 80, .int .i64 84, .int .i64 85, .int .i64 86, .int .i64 87, .int .i64 88, .int .i64 89, .int .i64 90, .int .i64 91, .int .i64 92, .int .i64 93, .int .i64 94, .int .i64 95, .int .i64 134, .int .i64 135, .int .i64 136, .int .i64 137, .int .i64 138, .int .i64 139, .int .i64 140, .int .i64 141, .int .i64 142, .int .i64 143, .int .i64 144, .int .i64 145, .int .i64 146, .int .i64 147, .int .i64 148, .int .i64 149, .int .i64 150, .int .i64 151, .int .i64 152, .int .i64 209, .int .i64 210, .int .i64 211, .int .i64 212, .int .i64 213, .int .i64 214, .int .i64 215, .int .i64 220, .int .i64 221] ∧ Below w.heap.size w W → ∃ g, Ending.returned (.slice (some ⟨w.heap.size, 0, none⟩) 73 73) = .returned (.slice (some ⟨g, 0, none⟩) 73 73) ∧ Bx W g 3 opsC ∧ Below w.heap.size w W) := Lib.hid (fun W h => ⟨w.heap.size, rfl, by rw [opsC_eq]; exact h.1, h.2⟩)
  go_enter Tryz.func30, Tryz.ntmps30
  go_wp2
  go_ret
  exact HP.out _ HB.out
def opAt (k : Nat) : Nat := opsR.getD k 0
theorem ops_cells (k : Nat) (hk : k < 73) : opsC[k]? = some (.int .i64 (opAt k : Int)) := by
  have hk' : k < opsR.length := hk
  unfold opsC opAt
  rw [List.getElem?_toArray, List.getElem?_map, List.getElem?_eq_getElem hk', List.getD_eq_getElem?_getD, List.getElem?_eq_getElem hk']
  rfl
theorem any_iff (x : Int) : (opsR.any fun (o : Nat) => x == (o : Int)) = true ↔ ∃ k, k < 73 ∧ x = (opAt k : Int) := by
  rw [List.any_eq_true]
  constructor
  · rintro ⟨o, ho, hx⟩
    obtain ⟨k, hk, rfl⟩ := List.getElem_of_mem ho
    exact ⟨k, hk, by simpa [opAt, List.getD_eq_getElem?_getD, List.getElem?_eq_getElem hk] using hx⟩
  · rintro ⟨k, hk, rfl⟩
    have hk' : k < opsR.length := hk
    exact ⟨opsR[k], List.getElem_mem hk', by simp [opAt, List.getD_eq_getElem?_getD, List.getElem?_eq_getElem hk']⟩
/-- Is it the code of a general instruction? -/
def knB (x : Int) : Bool := opsR.any fun (o : Nat) => x == (o : Int)
set_option maxRecDepth 100000 in
set_option maxHeartbeats 1000000 in
theorem rknows_any (x : Int) (w : World) : Calls Tryz.prog 14 #[.int .i64 x] w (New w (.bool (knB x))) := by
  have HO := Lib.hid (rops_any w)
  have HI := Lib.hid (any_iff x)
  have HKN : Hid (∀ r, knB x = r → Ending.returned (.bool r) = Ending.returned (.bool (knB x))) := Lib.hid (fun r h => by rw [h])
  have HF : Hid ((∀ k, k < 73 → x ≠ (opAt k : Int)) → knB x = false) := Lib.hid (fun h => by
    cases e : knB x with
    | false => rfl
    | true =>
      obtain ⟨k, hk, hx⟩ := (any_iff x).1 e
      exact absurd hx (h k hk))
  go_enter Tryz.func14, Tryz.ntmps14
  go_wp2_with fail
  refine HO.out.mono ?_
  rintro e w1 ⟨g, rfl, hx, hb⟩
  have HX := Lib.hid hx
  have HB := Lib.hid hb
  clear hx hb HO
  go_wp2
  go_loop [4] (fun i => ∃ k : Nat, k ≤ 73 ∧ i = .int .i64 (k : Int) ∧ ∀ j, j < k → x ≠ (opAt j : Int)) (fun i => 73 - (intOf i).toNat)
  case atStart => exact ⟨0, by omega, rfl, fun j hj => by omega⟩
  case round =>
    obtain ⟨k, hk, rfl, hn⟩ := hrel
    have HN := Lib.hid hn
    clear hn
    by_cases hlt : k < 73
    · have hcell : w1.cell? ⟨g, k, none⟩ = some (.int .i64 (opAt k : Int)) := (HX.out.cell k).trans (ops_cells k hlt)
      have hlt' : (k : Int) < 73 := by omega
      have HE : Hid (x = (opAt k : Int) → knB x = true) := Lib.hid (fun e => (any_iff x).2 ⟨k, hlt, e⟩)
      have HNE : Hid (x ≠ (opAt k : Int) → ∀ j, j < k + 1 → x ≠ (opAt j : Int)) := Lib.hid (fun hne j hj => by
        rcases (by omega : j < k ∨ j = k) with h | h
        · exact HN.out j h
        · rw [h]; exact hne)
      generalize (opAt k : Int) = y at hcell HE HNE
      by_cases he : x = y
      · subst he
        go_wp2
        go_ret
        exact ⟨HKN.out true (HE.out trivial), HB.out⟩
      · have he' : (y == x) = false := by simpa using fun h => he h.symm
        have HN2 := Lib.hid (HNE.out he)
        clear he
        go_wp2
        go_round
        case rel => exact ⟨k + 1, hlt, by go_num, HN2.out⟩
        case measure => simp [intOf]; omega
    · obtain rfl : k = 73 := by omega
      go_wp2
      go_ret
      exact ⟨HKN.out false (HF.out HN.out), HB.out⟩
theorem action_some (o : Nat) (h : o ∈ opsR) : ∃ f, Go.Proofs.Enters Tryz.prog f ∧ ∀ X, Calls Tryz.prog 29 #[.int .i64 (o : Int)] X fun e X' => e = .returned (fnV f) ∧ X = X' := by
  simp only [opsR, List.mem_cons, List.not_mem_nil, or_false] at h
  rcases h with rfl | rfl | rfl | rfl | rfl | rfl | rfl | rfl | rfl | rfl | rfl | rfl | rfl | rfl | rfl | rfl | rfl | rfl | rfl | rfl | rfl | rfl | rfl | rfl | rfl | rfl | rfl | rfl | rfl | rfl | rfl | rfl | rfl | rfl | rfl | rfl | rfl | rfl | rfl | rfl | rfl | rfl | rfl | rfl | rfl | rfl | rfl | rfl | rfl | rfl | rfl | rfl | rfl | rfl | rfl | rfl | rfl | rfl | rfl | rfl | rfl | rfl | rfl | rfl | rfl | rfl | rfl | rfl | rfl | rfl | rfl | rfl | rfl
  · exact ⟨62, enters_of Tryz.func62 (by kernel_rfl) rfl, fun X => action_4 X⟩
  · exact ⟨75, enters_of Tryz.func75 (by kernel_rfl) rfl, fun X => action_5 X⟩
  · exact ⟨75, enters_of Tryz.func75 (by kernel_rfl) rfl, fun X => action_6 X⟩
  · exact ⟨75, enters_of Tryz.func75 (by kernel_rfl) rfl, fun X => action_7 X⟩
  · exact ⟨52, enters_of Tryz.func52 (by kernel_rfl) rfl, fun X => action_16 X⟩
  · exact ⟨52, enters_of Tryz.func52 (by kernel_rfl) rfl, fun X => action_17 X⟩
  · exact ⟨52, enters_of Tryz.func52 (by kernel_rfl) rfl, fun X => action_18 X⟩
  · exact ⟨52, enters_of Tryz.func52 (by kernel_rfl) rfl, fun X => action_19 X⟩
  · exact ⟨55, enters_of Tryz.func55 (by kernel_rfl) rfl, fun X => action_20 X⟩
  · exact ⟨54, enters_of Tryz.func54 (by kernel_rfl) rfl, fun X => action_21 X⟩
  · exact ⟨55, enters_of Tryz.func55 (by kernel_rfl) rfl, fun X => action_22 X⟩
  · exact ⟨55, enters_of Tryz.func55 (by kernel_rfl) rfl, fun X => action_23 X⟩
  · exact ⟨51, enters_of Tryz.func51 (by kernel_rfl) rfl, fun X => action_24 X⟩
  · exact ⟨54, enters_of Tryz.func54 (by kernel_rfl) rfl, fun X => action_25 X⟩
  · exact ⟨53, enters_of Tryz.func53 (by kernel_rfl) rfl, fun X => action_26 X⟩
  · exact ⟨53, enters_of Tryz.func53 (by kernel_rfl) rfl, fun X => action_27 X⟩
  · exact ⟨56, enters_of Tryz.func56 (by kernel_rfl) rfl, fun X => action_28 X⟩
  · exact ⟨58, enters_of Tryz.func58 (by kernel_rfl) rfl, fun X => action_29 X⟩
  · exact ⟨53, enters_of Tryz.func53 (by kernel_rfl) rfl, fun X => action_30 X⟩
  · exact ⟨53, enters_of Tryz.func53 (by kernel_rfl) rfl, fun X => action_31 X⟩
  · exact ⟨63, enters_of Tryz.func63 (by kernel_rfl) rfl, fun X => action_64 X⟩
  · exact ⟨61, enters_of Tryz.func61 (by kernel_rfl) rfl, fun X => action_65 X⟩
  · exact ⟨63, enters_of Tryz.func63 (by kernel_rfl) rfl, fun X => action_66 X⟩
  · exact ⟨64, enters_of Tryz.func64 (by kernel_rfl) rfl, fun X => action_67 X⟩
  · exact ⟨75, enters_of Tryz.func75 (by kernel_rfl) rfl, fun X => action_69 X⟩
  · exact ⟨75, enters_of Tryz.func75 (by kernel_rfl) rfl, fun X => action_70 X⟩
  · exact ⟨75, enters_of Tryz.func75 (by kernel_rfl) rfl, fun X => action_71 X⟩
  · exact ⟨51, enters_of Tryz.func51 (by kernel_rfl) rfl, fun X => action_72 X⟩
  · exact ⟨54, enters_of Tryz.func54 (by kernel_rfl) rfl, fun X => action_73 X⟩
  · exact ⟨53, enters_of Tryz.func53 (by kernel_rfl) rfl, fun X => action_74 X⟩
  · exact ⟨53, enters_of Tryz.func53 (by kernel_rfl) rfl, fun X => action_75 X⟩
  · exact ⟨57, enters_of Tryz.func57 (by kernel_rfl) rfl, fun X => action_76 X⟩
  · exact ⟨63, enters_of Tryz.func63 (by kernel_rfl) rfl, fun X => action_80 X⟩
  · exact ⟨55, enters_of Tryz.func55 (by kernel_rfl) rfl, fun X => action_84 X⟩
  · exact ⟨54, enters_of Tryz.func54 (by kernel_rfl) rfl, fun X => action_85 X⟩
  · exact ⟨55, enters_of Tryz.func55 (by kernel_rfl) rfl, fun X => action_86 X⟩
  · exact ⟨55, enters_of Tryz.func55 (by kernel_rfl) rfl, fun X => action_87 X⟩
  · exact ⟨51, enters_of Tryz.func51 (by kernel_rfl) rfl, fun X => action_88 X⟩
  · exact ⟨54, enters_of Tryz.func54 (by kernel_rfl) rfl, fun X => action_89 X⟩
  · exact ⟨53, enters_of Tryz.func53 (by kernel_rfl) rfl, fun X => action_90 X⟩
  · exact ⟨53, enters_of Tryz.func53 (by kernel_rfl) rfl, fun X => action_91 X⟩
  · exact ⟨56, enters_of Tryz.func56 (by kernel_rfl) rfl, fun X => action_92 X⟩
  · exact ⟨58, enters_of Tryz.func58 (by kernel_rfl) rfl, fun X => action_93 X⟩
  · exact ⟨53, enters_of Tryz.func53 (by kernel_rfl) rfl, fun X => action_94 X⟩
  · exact ⟨53, enters_of Tryz.func53 (by kernel_rfl) rfl, fun X => action_95 X⟩
  · exact ⟨75, enters_of Tryz.func75 (by kernel_rfl) rfl, fun X => action_134 X⟩
  · exact ⟨75, enters_of Tryz.func75 (by kernel_rfl) rfl, fun X => action_135 X⟩
  · exact ⟨59, enters_of Tryz.func59 (by kernel_rfl) rfl, fun X => action_136 X⟩
  · exact ⟨59, enters_of Tryz.func59 (by kernel_rfl) rfl, fun X => action_137 X⟩
  · exact ⟨59, enters_of Tryz.func59 (by kernel_rfl) rfl, fun X => action_138 X⟩
  · exact ⟨59, enters_of Tryz.func59 (by kernel_rfl) rfl, fun X => action_139 X⟩
  · exact ⟨60, enters_of Tryz.func60 (by kernel_rfl) rfl, fun X => action_140 X⟩
  · exact ⟨60, enters_of Tryz.func60 (by kernel_rfl) rfl, fun X => action_141 X⟩
  · exact ⟨60, enters_of Tryz.func60 (by kernel_rfl) rfl, fun X => action_142 X⟩
  · exact ⟨60, enters_of Tryz.func60 (by kernel_rfl) rfl, fun X => action_143 X⟩
  · exact ⟨66, enters_of Tryz.func66 (by kernel_rfl) rfl, fun X => action_144 X⟩
  · exact ⟨69, enters_of Tryz.func69 (by kernel_rfl) rfl, fun X => action_145 X⟩
  · exact ⟨67, enters_of Tryz.func67 (by kernel_rfl) rfl, fun X => action_146 X⟩
  · exact ⟨70, enters_of Tryz.func70 (by kernel_rfl) rfl, fun X => action_147 X⟩
  · exact ⟨68, enters_of Tryz.func68 (by kernel_rfl) rfl, fun X => action_148 X⟩
  · exact ⟨69, enters_of Tryz.func69 (by kernel_rfl) rfl, fun X => action_149 X⟩
  · exact ⟨68, enters_of Tryz.func68 (by kernel_rfl) rfl, fun X => action_150 X⟩
  · exact ⟨68, enters_of Tryz.func68 (by kernel_rfl) rfl, fun X => action_151 X⟩
  · exact ⟨65, enters_of Tryz.func65 (by kernel_rfl) rfl, fun X => action_152 X⟩
  · exact ⟨71, enters_of Tryz.func71 (by kernel_rfl) rfl, fun X => action_209 X⟩
  · exact ⟨71, enters_of Tryz.func71 (by kernel_rfl) rfl, fun X => action_210 X⟩
  · exact ⟨71, enters_of Tryz.func71 (by kernel_rfl) rfl, fun X => action_211 X⟩
  · exact ⟨71, enters_of Tryz.func71 (by kernel_rfl) rfl, fun X => action_212 X⟩
  · exact ⟨72, enters_of Tryz.func72 (by kernel_rfl) rfl, fun X => action_213 X⟩
  · exact ⟨71, enters_of Tryz.func71 (by kernel_rfl) rfl, fun X => action_214 X⟩
  · exact ⟨71, enters_of Tryz.func71 (by kernel_rfl) rfl, fun X => action_215 X⟩
  · exact ⟨73, enters_of Tryz.func73 (by kernel_rfl) rfl, fun X => action_220 X⟩
  · exact ⟨74, enters_of Tryz.func74 (by kernel_rfl) rfl, fun X => action_221 X⟩
theorem knows_any (x : Int) (w : World) : Calls Tryz.prog 13 #[.int .i64 x] w fun e w' => e = .returned (.bool (knB x)) ∧ w = w' := by
  cases hk : knB x with
  | true =>
    unfold knB at hk
    rw [List.any_eq_true] at hk
    obtain ⟨o, ho, hx⟩ := hk
    obtain rfl : x = (o : Int) := by simpa using hx
    obtain ⟨f, _, hf⟩ := action_some o ho
    exact knows_yes _ f w hf
  | false =>
    refine knows_no x w (fun X => action_none x X (fun o ho e => ?_))
    have h2 : o ∈ opsR := (show ∀ o ∈ opsL, o ∈ opsR by decide) o ho
    have : knB x = true := by
      unfold knB
      rw [List.any_eq_true]
      exact ⟨o, h2, by simpa using e⟩
    rw [this] at hk
    cases hk

end M
end Go.Proofs.YtfopjnfphlkcgaaGreat

/- Which codes are decimal instructions: the program's answer and the given one. -/
import Derived.Test.YtbcncohjjnmdcaaGreatDoorRows
import Derived.Test.YtbcncohjjnmdcaaGreatDoorDpNone
import Derived.Test.YtbcncohjjnmdcaaGreatDoorGnExec
namespace Go.Proofs.YtbcncohjjnmdcaaGreatDoor
namespace E
end E
open Go.RowKit Go.Shelf E
set_option linter.unusedVariables false
namespace M

/-- The codes in ascending order. -/
def opsR : List Nat := [78, 79, 222, 223, 240, 241, 242, 243, 248, 249, 250, 251, 252, 253]
def opsC : Array Value := (opsR.map fun (o : Nat) => Value.int .i64 (o : Int)).toArray
theorem opsC_eq : opsC = #[.int .i64 78, .int .i64 79, .int .i64 222, .int .i64 223, .int .i64 240, .int .i64 241, .int .i64 242, .int .i64 243, .int .i64 248, .int .i64 249, .int .i64 250, .int .i64 251, .int .i64 252, .int .i64 253] := by kernel_rfl
set_option maxRecDepth 100000 in
set_option maxHeartbeats 2000000 in
theorem rops_any (w : World) : Calls Tryz.prog 29 #[] w fun e w' => ∃ g, e = .returned (.slice (some ⟨g, 0, none⟩) 14 14) ∧ Bx w' g 3 opsC ∧ Below w.heap.size w w' := by
  have HB := Lib.hid (And.intro (Bx.new w 3 opsC) (below_new w (.cells opsC 3)))
  rw [opsC_eq] at HB
  have HP : Hid (∀ W, Bx W w.heap.size 3 #[.int .i64 78, .int .i64 79, .int .i64 222, .int .i64 223, .int .i64 240, .int .i64 241, .int .i64 242, .int .i64 243, .int .i64 248, .int .i64 249, .int .i64 250, .int .i64 251, .int .i64 252, .int .i64 253] ∧ Below w.heap.size w W → ∃ g, Ending.returned (.slice (some ⟨w.heap.size, 0, none⟩) 14 14) = .returned (.slice (some ⟨g, 0, none⟩) 14 14) ∧ Bx W g 3 opsC ∧ Below w.heap.size w W) := Lib.hid (fun W h => ⟨w.heap.size, rfl, by rw [opsC_eq]; exact h.1, h.2⟩)
  go_enter Tryz.func29, Tryz.ntmps29
  go_wp2
  go_ret
  exact HP.out _ HB.out
def opAt (k : Nat) : Nat := opsR.getD k 0
theorem ops_cells (k : Nat) (hk : k < 14) : opsC[k]? = some (.int .i64 (opAt k : Int)) := by
  have hk' : k < opsR.length := hk
  unfold opsC opAt
  rw [List.getElem?_toArray, List.getElem?_map, List.getElem?_eq_getElem hk', List.getD_eq_getElem?_getD, List.getElem?_eq_getElem hk']
  rfl
theorem any_iff (x : Int) : (opsR.any fun (o : Nat) => x == (o : Int)) = true ↔ ∃ k, k < 14 ∧ x = (opAt k : Int) := by
  rw [List.any_eq_true]
  constructor
  · rintro ⟨o, ho, hx⟩
    obtain ⟨k, hk, rfl⟩ := List.getElem_of_mem ho
    exact ⟨k, hk, by simpa [opAt, List.getD_eq_getElem?_getD, List.getElem?_eq_getElem hk] using hx⟩
  · rintro ⟨k, hk, rfl⟩
    have hk' : k < opsR.length := hk
    exact ⟨opsR[k], List.getElem_mem hk', by simp [opAt, List.getD_eq_getElem?_getD, List.getElem?_eq_getElem hk']⟩
/-- Is it the code of a decimal instruction? -/
def knB (x : Int) : Bool := opsR.any fun (o : Nat) => x == (o : Int)
set_option maxRecDepth 100000 in
set_option maxHeartbeats 1000000 in
theorem rknows_any (x : Int) (w : World) : Calls Tryz.prog 12 #[.int .i64 x] w (New w (.bool (knB x))) := by
  have HO := Lib.hid (rops_any w)
  have HI := Lib.hid (any_iff x)
  have HKN : Hid (∀ r, knB x = r → Ending.returned (.bool r) = Ending.returned (.bool (knB x))) := Lib.hid (fun r h => by rw [h])
  have HF : Hid ((∀ k, k < 14 → x ≠ (opAt k : Int)) → knB x = false) := Lib.hid (fun h => by
    cases e : knB x with
    | false => rfl
    | true =>
      obtain ⟨k, hk, hx⟩ := (any_iff x).1 e
      exact absurd hx (h k hk))
  go_enter Tryz.func12, Tryz.ntmps12
  go_wp2_with fail
  refine HO.out.mono ?_
  rintro e w1 ⟨g, rfl, hx, hb⟩
  have HX := Lib.hid hx
  have HB := Lib.hid hb
  clear hx hb HO
  go_wp2
  go_loop [4] (fun i => ∃ k : Nat, k ≤ 14 ∧ i = .int .i64 (k : Int) ∧ ∀ j, j < k → x ≠ (opAt j : Int)) (fun i => 14 - (intOf i).toNat)
  case atStart => exact ⟨0, by omega, rfl, fun j hj => by omega⟩
  case round =>
    obtain ⟨k, hk, rfl, hn⟩ := hrel
    have HN := Lib.hid hn
    clear hn
    by_cases hlt : k < 14
    · have hcell : w1.cell? ⟨g, k, none⟩ = some (.int .i64 (opAt k : Int)) := (HX.out.cell k).trans (ops_cells k hlt)
      have hlt' : (k : Int) < 14 := by omega
      have HE : Hid (x = (opAt k : Int) → knB x = true) := Lib.hid (fun e => (any_iff x).2 ⟨k, hlt, e⟩)
      have HNE : Hid (x ≠ (opAt k : Int) → ∀ j, j < k + 1 → x ≠ (opAt j : Int)) := Lib.hid (fun hne j hj => by
        rcases (by omega : j < k ∨ j = k) with h | h
        · exact HN.out j h
        · rw [h]; exact hne)
      generalize (opAt k : Int) = y at hcell HE HNE
      by_cases he : x = y
      · subst he
        go_wp2
        go_ret
        exact ⟨HKN.out true (HE.out trivial), HB.out⟩
      · have he' : (y == x) = false := by simpa using fun h => he h.symm
        have HN2 := Lib.hid (HNE.out he)
        clear he
        go_wp2
        go_round
        case rel => exact ⟨k + 1, hlt, by go_num, HN2.out⟩
        case measure => simp [intOf]; omega
    · obtain rfl : k = 14 := by omega
      go_wp2
      go_ret
      exact ⟨HKN.out false (HF.out HN.out), HB.out⟩
theorem action_some (o : Nat) (h : o ∈ opsR) : ∃ f, Go.Proofs.Enters Tryz.prog f ∧ ∀ X, Calls Tryz.prog 28 #[.int .i64 (o : Int)] X fun e X' => e = .returned (fnV f) ∧ X = X' := by
  simp only [opsR, List.mem_cons, List.not_mem_nil, or_false] at h
  rcases h with rfl | rfl | rfl | rfl | rfl | rfl | rfl | rfl | rfl | rfl | rfl | rfl | rfl | rfl
  · exact ⟨45, enters_of Tryz.func45 (by kernel_rfl) rfl, fun X => action_78 X⟩
  · exact ⟨44, enters_of Tryz.func44 (by kernel_rfl) rfl, fun X => action_79 X⟩
  · exact ⟨56, enters_of Tryz.func56 (by kernel_rfl) rfl, fun X => action_222 X⟩
  · exact ⟨57, enters_of Tryz.func57 (by kernel_rfl) rfl, fun X => action_223 X⟩
  · exact ⟨55, enters_of Tryz.func55 (by kernel_rfl) rfl, fun X => action_240 X⟩
  · exact ⟨48, enters_of Tryz.func48 (by kernel_rfl) rfl, fun X => action_241 X⟩
  · exact ⟨46, enters_of Tryz.func46 (by kernel_rfl) rfl, fun X => action_242 X⟩
  · exact ⟨47, enters_of Tryz.func47 (by kernel_rfl) rfl, fun X => action_243 X⟩
  · exact ⟨49, enters_of Tryz.func49 (by kernel_rfl) rfl, fun X => action_248 X⟩
  · exact ⟨52, enters_of Tryz.func52 (by kernel_rfl) rfl, fun X => action_249 X⟩
  · exact ⟨50, enters_of Tryz.func50 (by kernel_rfl) rfl, fun X => action_250 X⟩
  · exact ⟨51, enters_of Tryz.func51 (by kernel_rfl) rfl, fun X => action_251 X⟩
  · exact ⟨53, enters_of Tryz.func53 (by kernel_rfl) rfl, fun X => action_252 X⟩
  · exact ⟨54, enters_of Tryz.func54 (by kernel_rfl) rfl, fun X => action_253 X⟩
theorem knows_any (x : Int) (w : World) : Calls Tryz.prog 11 #[.int .i64 x] w fun e w' => e = .returned (.bool (knB x)) ∧ w = w' := by
  cases hk : knB x with
  | true =>
    unfold knB at hk
    rw [List.any_eq_true] at hk
    obtain ⟨o, ho, hx⟩ := hk
    obtain rfl : x = (o : Int) := by simpa using hx
    obtain ⟨f, _, hf⟩ := action_some o ho
    exact knows_yes _ f w hf
  | false =>
    refine knows_no x w (fun X => action_none x X (fun o ho e => ?_))
    have h2 : o ∈ opsR := (show ∀ o ∈ opsL, o ∈ opsR by decide) o ho
    have : knB x = true := by
      unfold knB
      rw [List.any_eq_true]
      exact ⟨o, h2, by simpa using e⟩
    rw [this] at hk
    cases hk

end M
end Go.Proofs.YtbcncohjjnmdcaaGreatDoor

/- The walk of the statement PswBranchesOnce: it answers true, and below its own memory nothing turns. -/
import Derived.Test.YtfobmgoehamnnaaPsRAdm
import Derived.Test.YtfobmgoehamnnaaPsWorks
namespace Go.Proofs.Ytfobmgoehamnnaa.pswBranchesOnce
open Go.RowKit E
set_option linter.unusedVariables false

theorem once (M : Fin 16) (C : Fin 4) : brB (15 - (M.val : Int)) (C.val : Int) = (! brB (M.val : Int) (C.val : Int)) ∧ brB 15 (C.val : Int) = true := by
  revert M C
  decide +kernel
set_option maxRecDepth 100000 in
theorem walk (m c : Int) (w : World) : Calls Try.prog 10 #[.int .i64 m, .int .i64 c] w (New w (.bool true)) := by
  have e1 : bits .and .i64 m 15 = m % 16 := and_low m 4 (by decide)
  have e2 : bits .and .i64 c 3 = c % 4 := and_low c 2 (by decide)
  obtain ⟨M, hM⟩ := fin_of' (n := 16) (z := m % 16) (by omega) (by omega)
  obtain ⟨C, hC⟩ := fin_of' (n := 4) (z := c % 4) (by omega) (by omega)
  rw [hM] at e1
  rw [hC] at e2
  obtain ⟨h1, h2⟩ := once M C
  obtain ⟨z, hz⟩ : ∃ z : Int, z = 15 - (M.val : Int) := ⟨_, rfl⟩
  have e3 : wrap64 (15 - (M.val : Int)) = z := by have := M.isLt; rw [hz]; unfold wrap64; omega
  rw [← hz] at h1
  clear hM hC hz
  generalize (M.val : Int) = x at *
  generalize (C.val : Int) = y at *
  have H1 := Lib.hid (branch_any x y)
  have H2 := Lib.hid (branch_any z y)
  have H3 := Lib.hid (branch_any 15 y)
  rw [h1] at H2
  rw [h2] at H3
  clear h1 h2
  generalize brB x y = b at *
  cases b
  all_goals
    go_enter Try.func10, Try.ntmps10
    go_wp2_with fail
    refine (H1.out _).mono ?_
    rintro e w1 ⟨rfl, hb⟩
    have HB1 := Lib.hid hb
    clear hb H1
    go_wp2_with fail
    refine (H2.out _).mono ?_
    rintro e w2 ⟨rfl, hb⟩
    have HB2 := Lib.hid (bel0 HB1.out hb)
    clear hb H2 HB1
    go_wp2_with fail
    refine (H3.out _).mono ?_
    rintro e w3 ⟨rfl, hb⟩
    have HB3 := Lib.hid (bel0 HB2.out hb)
    clear hb H3 HB2
    go_wp2_with fail
    refine (works_any _).mono ?_
    rintro e w4 ⟨rfl, hb⟩
    have HB4 := Lib.hid (bel0 HB3.out hb)
    clear hb HB3
    go_wp2
    go_ret
    exact ⟨rfl, HB4.out⟩

end Go.Proofs.Ytfobmgoehamnnaa.pswBranchesOnce

/- Contracts of sums and differences. -/
import Derived.Test.YtkbnciekhllcpaaRows
import Derived.WalkKit
import Derived.ProofKit
import Derived.Lib.Hide
import Derived.Test.YtkbnciekhllcpaaWordSmall
namespace Go.Proofs.Ytkbnciekhllcpaa
open Go.RowKit
set_option linter.unusedVariables false
namespace W

theorem res3_out {n : Int} (h : inR n = false) : Ending.returned (.tuple #[.int .u32 (low n), .int .i64 (ncc n), .bool (!inR n)]) = .returned (.tuple #[.int .u32 (low n), .int .i64 3, .bool true]) := by
  unfold ncc; simp [h]
theorem res3_in {n : Int} (h : inR n = true) : Ending.returned (.tuple #[.int .u32 (low n), .int .i64 (ncc n), .bool (!inR n)]) = .returned (.tuple #[.int .u32 (low n), .int .i64 (ord (sg (low n)) 0), .bool false]) := by
  unfold ncc; rw [sg_low h]; simp [h]
theorem sl1 (a b : Int) : (a + 4294967296 - b) % 4294967296 = (a - b) % 4294967296 := by omega
theorem sl2 (a b : Int) : decide (4294967296 ≤ a + 4294967296 - b) = decide (b ≤ a) := by simp only [decide_eq_decide]; omega
theorem wlow (n : Int) : IntKind.u32.wrap n = low n := wrap_u32 n

theorem narrow_any (n : Int) (h0 : -9223372036854775808 ≤ n) (h1 : n < 9223372036854775808) (w : World) :
    Calls Try.prog 72 #[.int .i64 n] w fun e w' => e = .returned (.tuple #[.int .u32 ((n) % 4294967296), .int .i64 (ncc (n)), .bool (!inR (n))]) ∧ w = w' := by
  have hl := low_bd n
  have hw := wlow n
  rcases Bool.eq_false_or_eq_true (inR n) with hr | hr
  ·
    have hb : (!inR n) = false := by rw [hr]; rfl
    rw [res3_in hr]
    clear hw
    have H2 := Lib.hid hr; clear hr
    go_enter Try.func72, Try.ntmps72
    go_wp2_with fail
    refine (fits_any _ h0 h1 _).mono ?_
    rintro e w' ⟨rfl, rfl⟩
    go_wp2_with fail

    refine (test_any _ hl.1 hl.2 _).mono ?_
    rintro e w' ⟨rfl, rfl⟩
    go_wp2
    go_ret3

    exact ⟨rfl, rfl⟩
  ·
    have hb : (!inR n) = true := by rw [hr]; rfl
    rw [res3_out hr]
    clear hw
    have H2 := Lib.hid hr; clear hr
    go_enter Try.func72, Try.ntmps72
    go_wp2_with fail
    refine (fits_any _ h0 h1 _).mono ?_
    rintro e w' ⟨rfl, rfl⟩
    go_wp2
    go_ret3

    exact ⟨rfl, rfl⟩

theorem wAdd_any (a b : Int) (a0 : 0 ≤ a) (a1 : a < 4294967296) (b0 : 0 ≤ b) (b1 : b < 4294967296) (w : World) :
    Calls Try.prog 30 #[.int .u32 a, .int .u32 b] w fun e w' => e = .returned (.tuple #[.int .u32 ((sg a + sg b) % 4294967296), .int .i64 (ncc (sg a + sg b)), .bool (!inR (sg a + sg b))]) ∧ w = w' := by
  have ha := sg_bd a0 a1
  have hb := sg_bd b0 b1
  go_enter Try.func30, Try.ntmps30
  go_wp2_with fail
  refine (signed_any _ a0 a1 _).mono ?_
  rintro e w' ⟨rfl, rfl⟩
  go_wp2_with fail
  refine (signed_any _ b0 b1 _).mono ?_
  rintro e w' ⟨rfl, rfl⟩
  go_wp2_with fail
  refine (narrow_any _ (by omega) (by omega) _).mono ?_
  rintro e w' ⟨rfl, rfl⟩
  go_wp2
  go_ret3
  exact ⟨rfl, rfl⟩

theorem wSub_any (a b : Int) (a0 : 0 ≤ a) (a1 : a < 4294967296) (b0 : 0 ≤ b) (b1 : b < 4294967296) (w : World) :
    Calls Try.prog 32 #[.int .u32 a, .int .u32 b] w fun e w' => e = .returned (.tuple #[.int .u32 ((sg a - sg b) % 4294967296), .int .i64 (ncc (sg a - sg b)), .bool (!inR (sg a - sg b))]) ∧ w = w' := by
  have ha := sg_bd a0 a1
  have hb := sg_bd b0 b1
  go_enter Try.func32, Try.ntmps32
  go_wp2_with fail
  refine (signed_any _ a0 a1 _).mono ?_
  rintro e w' ⟨rfl, rfl⟩
  go_wp2_with fail
  refine (signed_any _ b0 b1 _).mono ?_
  rintro e w' ⟨rfl, rfl⟩
  go_wp2_with fail
  refine (narrow_any _ (by omega) (by omega) _).mono ?_
  rintro e w' ⟨rfl, rfl⟩
  go_wp2
  go_ret3
  exact ⟨rfl, rfl⟩

theorem wComplement_any (v : Int) (h0 : 0 ≤ v) (h1 : v < 4294967296) (w : World) :
    Calls Try.prog 34 #[.int .u32 v] w fun e w' => e = .returned (.tuple #[.int .u32 ((sg 0 - sg v) % 4294967296), .int .i64 (ncc (sg 0 - sg v)), .bool (!inR (sg 0 - sg v))]) ∧ w = w' := by
  go_enter Try.func34, Try.ntmps34
  go_wp2_with fail
  refine (wSub_any _ _ (by decide) (by decide) h0 h1 _).mono ?_
  rintro e w' ⟨rfl, rfl⟩
  go_wp2
  go_ret3
  exact ⟨rfl, rfl⟩

theorem logicalCode_any (v : Int) (c : Bool)  (w : World) :
    Calls Try.prog 76 #[.int .u32 v, .bool c] w fun e w' => e = .returned (.int .i64 (lcc v c)) ∧ w = w' := by
  cases c
  go_enter Try.func76, Try.ntmps76
  go_wp2
  all_goals go_ret
  all_goals (exact ⟨ret_int (by unfold lcc; simp_all), rfl⟩)

theorem wAddLogical_any (a b : Int) (a0 : 0 ≤ a) (a1 : a < 4294967296) (b0 : 0 ≤ b) (b1 : b < 4294967296) (w : World) :
    Calls Try.prog 36 #[.int .u32 a, .int .u32 b] w fun e w' => e = .returned (.tuple #[.int .u32 ((a + b) % 4294967296), .int .i64 (lcc ((a + b) % 4294967296) (decide (4294967296 ≤ a + b)))]) ∧ w = w' := by
  go_enter Try.func36, Try.ntmps36
  go_wp2_with fail
  rw [show decide ((a + b) % 4294967296 < a) = decide (4294967296 ≤ a + b) by rw [decide_eq_decide]; omega]
  refine (logicalCode_any _ _ _).mono ?_
  rintro e w' ⟨rfl, rfl⟩
  go_wp2
  go_ret2
  exact ⟨rfl, rfl⟩

theorem wSubLogical_any (a b : Int) (a0 : 0 ≤ a) (a1 : a < 4294967296) (b0 : 0 ≤ b) (b1 : b < 4294967296) (w : World) :
    Calls Try.prog 38 #[.int .u32 a, .int .u32 b] w fun e w' => e = .returned (.tuple #[.int .u32 ((a - b) % 4294967296), .int .i64 (lcc ((a - b) % 4294967296) (decide (b ≤ a)))]) ∧ w = w' := by
  go_enter Try.func38, Try.ntmps38
  go_wp2_with fail
  refine (logicalCode_any _ _ _).mono ?_
  rintro e w' ⟨rfl, rfl⟩
  go_wp2
  go_ret2
  exact ⟨rfl, rfl⟩

theorem wCompare_any (a b : Int) (a0 : 0 ≤ a) (a1 : a < 4294967296) (b0 : 0 ≤ b) (b1 : b < 4294967296) (w : World) :
    Calls Try.prog 40 #[.int .u32 a, .int .u32 b] w fun e w' => e = .returned (.int .i64 (ord (sg a) (sg b))) ∧ w = w' := by
  have hs : wrap32 a = sg a := wrap32_sg a0 a1
  have H := Lib.hid hs; clear hs
  have hs : wrap32 b = sg b := wrap32_sg b0 b1
  have H2 := Lib.hid hs; clear hs
  go_enter Try.func40, Try.ntmps40
  go_wp2_with fail
  refine (order_i32_any _ _ _).mono ?_
  rintro e w' ⟨rfl, rfl⟩
  go_wp2
  go_ret
  exact ⟨ret_int (by rw [H.out, H2.out]), rfl⟩

theorem wCompareLogical_any (a b : Int)  (w : World) :
    Calls Try.prog 42 #[.int .u32 a, .int .u32 b] w fun e w' => e = .returned (.int .i64 (ord a b)) ∧ w = w' := by
  go_enter Try.func42, Try.ntmps42
  go_wp2_with fail
  refine (order_u32_any _ _ _).mono ?_
  rintro e w' ⟨rfl, rfl⟩
  go_wp2
  go_ret
  exact ⟨rfl, rfl⟩

theorem rSigned_any (v : Int) (h0 : 0 ≤ v) (h1 : v < 4294967296) (w : World) :
    Calls Try.prog 75 #[.int .u32 v] w fun e w' => e = .returned (.int .i64 (sg v)) ∧ w = w' := by
  go_enter Try.func75, Try.ntmps75
  go_wp2
  all_goals
    go_ret
    exact ⟨ret_int (by unfold sg; split <;> omega), rfl⟩

theorem rTest_any (v : Int) (h0 : 0 ≤ v) (h1 : v < 4294967296) (w : World) :
    Calls Try.prog 45 #[.int .u32 v] w fun e w' => e = .returned (.int .i64 (ord (sg v) 0)) ∧ w = w' := by
  go_enter Try.func45, Try.ntmps45
  go_wp2_with (refine (rSigned_any _ h0 h1 _).mono ?_; rintro e w' ⟨rfl, rfl⟩)
  all_goals
    go_ret
    exact ⟨ret_int (by have e := sg_cases v; simp only [beq_iff_eq, beq_eq_false_iff_ne] at *; unfold ord; (repeat' split) <;> omega), rfl⟩

theorem rexact_any (n : Int) (h0 : -9223372036854775808 ≤ n) (h1 : n < 9223372036854775808) (w : World) :
    Calls Try.prog 74 #[.int .i64 n] w fun e w' => e = .returned (.tuple #[.int .u32 ((n) % 4294967296), .int .i64 (ncc (n)), .bool (!inR (n))]) ∧ w = w' := by
  have hl := low_bd n
  rcases Bool.eq_false_or_eq_true (inR n) with hr | hr
  ·
    have hb : (sg (n % 4294967296) != n) = false := by simpa using sg_low hr
    rw [res3_in hr]
    have H2 := Lib.hid hr; clear hr
    go_enter Try.func74, Try.ntmps74
    go_wp2_with fail
    refine (rSigned_any _ hl.1 hl.2 _).mono ?_
    rintro e w' ⟨rfl, rfl⟩
    go_wp2_with fail
    refine (rTest_any _ hl.1 hl.2 _).mono ?_
    rintro e w' ⟨rfl, rfl⟩
    go_wp2
    go_ret3
    exact ⟨rfl, rfl⟩
  ·
    have hb : (sg (n % 4294967296) != n) = true := by simpa using sg_low_ne hr
    rw [res3_out hr]
    have H2 := Lib.hid hr; clear hr
    go_enter Try.func74, Try.ntmps74
    go_wp2_with fail
    refine (rSigned_any _ hl.1 hl.2 _).mono ?_
    rintro e w' ⟨rfl, rfl⟩
    go_wp2
    go_ret3
    exact ⟨rfl, rfl⟩

theorem rAdd_any (a b : Int) (a0 : 0 ≤ a) (a1 : a < 4294967296) (b0 : 0 ≤ b) (b1 : b < 4294967296) (w : World) :
    Calls Try.prog 31 #[.int .u32 a, .int .u32 b] w fun e w' => e = .returned (.tuple #[.int .u32 ((sg a + sg b) % 4294967296), .int .i64 (ncc (sg a + sg b)), .bool (!inR (sg a + sg b))]) ∧ w = w' := by
  have ha := sg_bd a0 a1
  have hb := sg_bd b0 b1
  go_enter Try.func31, Try.ntmps31
  go_wp2_with fail
  refine (rSigned_any _ a0 a1 _).mono ?_
  rintro e w' ⟨rfl, rfl⟩
  go_wp2_with fail
  refine (rSigned_any _ b0 b1 _).mono ?_
  rintro e w' ⟨rfl, rfl⟩
  go_wp2_with fail
  refine (rexact_any _ (by omega) (by omega) _).mono ?_
  rintro e w' ⟨rfl, rfl⟩
  go_wp2
  go_ret3
  exact ⟨rfl, rfl⟩

theorem rSub_any (a b : Int) (a0 : 0 ≤ a) (a1 : a < 4294967296) (b0 : 0 ≤ b) (b1 : b < 4294967296) (w : World) :
    Calls Try.prog 33 #[.int .u32 a, .int .u32 b] w fun e w' => e = .returned (.tuple #[.int .u32 ((sg a - sg b) % 4294967296), .int .i64 (ncc (sg a - sg b)), .bool (!inR (sg a - sg b))]) ∧ w = w' := by
  have ha := sg_bd a0 a1
  have hb := sg_bd b0 b1
  go_enter Try.func33, Try.ntmps33
  go_wp2_with fail
  refine (rSigned_any _ a0 a1 _).mono ?_
  rintro e w' ⟨rfl, rfl⟩
  go_wp2_with fail
  refine (rSigned_any _ b0 b1 _).mono ?_
  rintro e w' ⟨rfl, rfl⟩
  go_wp2_with fail
  refine (rexact_any _ (by omega) (by omega) _).mono ?_
  rintro e w' ⟨rfl, rfl⟩
  go_wp2
  go_ret3
  exact ⟨rfl, rfl⟩

theorem rComplement_any (v : Int) (h0 : 0 ≤ v) (h1 : v < 4294967296) (w : World) :
    Calls Try.prog 35 #[.int .u32 v] w fun e w' => e = .returned (.tuple #[.int .u32 ((sg 0 - sg v) % 4294967296), .int .i64 (ncc (sg 0 - sg v)), .bool (!inR (sg 0 - sg v))]) ∧ w = w' := by
  have hv := sg_bd h0 h1
  go_enter Try.func35, Try.ntmps35
  go_wp2_with fail
  refine (rSigned_any _ h0 h1 _).mono ?_
  rintro e w' ⟨rfl, rfl⟩
  go_wp2_with fail
  rw [show -sg v = sg 0 - sg v by rw [show sg 0 = 0 from rfl]; omega]
  refine (rexact_any _ (by rw [show sg 0 = 0 from rfl]; omega) (by rw [show sg 0 = 0 from rfl]; omega) _).mono ?_
  rintro e w' ⟨rfl, rfl⟩
  go_wp2
  go_ret3
  exact ⟨rfl, rfl⟩

theorem rlogical_any (v : Int) (c : Bool)  (w : World) :
    Calls Try.prog 77 #[.int .u32 v, .bool c] w fun e w' => e = .returned (.tuple #[.int .u32 v, .int .i64 (lcc v c)]) ∧ w = w' := by
  cases c
  all_goals go_enter Try.func77, Try.ntmps77
  go_wp2
  all_goals go_ret2
  all_goals (refine ⟨?_, rfl⟩; have hh : (v != 0) = _ := ‹_›; simp only [bne_iff_ne, bne_eq_false_iff_eq] at hh; simp [lcc, hh])

theorem rAddLogical_any (a b : Int) (a0 : 0 ≤ a) (a1 : a < 4294967296) (b0 : 0 ≤ b) (b1 : b < 4294967296) (w : World) :
    Calls Try.prog 37 #[.int .u32 a, .int .u32 b] w fun e w' => e = .returned (.tuple #[.int .u32 ((a + b) % 4294967296), .int .i64 (lcc ((a + b) % 4294967296) (decide (4294967296 ≤ a + b)))]) ∧ w = w' := by
  go_enter Try.func37, Try.ntmps37
  go_wp2_with fail
  refine (rlogical_any _ _ _).mono ?_
  rintro e w' ⟨rfl, rfl⟩
  go_wp2
  go_ret2
  exact ⟨rfl, rfl⟩

theorem rSubLogical_any (a b : Int) (a0 : 0 ≤ a) (a1 : a < 4294967296) (b0 : 0 ≤ b) (b1 : b < 4294967296) (w : World) :
    Calls Try.prog 39 #[.int .u32 a, .int .u32 b] w fun e w' => e = .returned (.tuple #[.int .u32 ((a - b) % 4294967296), .int .i64 (lcc ((a - b) % 4294967296) (decide (b ≤ a)))]) ∧ w = w' := by
  go_enter Try.func39, Try.ntmps39
  go_wp2_with fail
  rw [sl1, sl2]
  refine (rlogical_any _ _ _).mono ?_
  rintro e w' ⟨rfl, rfl⟩
  go_wp2
  go_ret2
  exact ⟨rfl, rfl⟩

theorem rCompare_any (a b : Int) (a0 : 0 ≤ a) (a1 : a < 4294967296) (b0 : 0 ≤ b) (b1 : b < 4294967296) (w : World) :
    Calls Try.prog 41 #[.int .u32 a, .int .u32 b] w fun e w' => e = .returned (.int .i64 (ord (sg a) (sg b))) ∧ w = w' := by
  by_cases hab : a = b
  · subst hab
    go_enter Try.func41, Try.ntmps41
    go_wp2
    go_ret
    exact ⟨ret_int (by unfold ord; (repeat' split) <;> omega), rfl⟩
  · have hn : (a == b) = false := by simpa using hab
    go_enter Try.func41, Try.ntmps41
    go_wp2_with fail
    refine (rSigned_any _ a0 a1 _).mono ?_
    rintro e w' ⟨rfl, rfl⟩
    go_wp2_with fail
    refine (rSigned_any _ b0 b1 _).mono ?_
    rintro e w' ⟨rfl, rfl⟩
    go_wp2
    all_goals
      go_ret
      exact ⟨ret_int (by have e := sg_cases a; have e2 := sg_cases b; unfold ord; (repeat' split) <;> omega), rfl⟩

theorem rCompareLogical_any (a b : Int)  (w : World) :
    Calls Try.prog 43 #[.int .u32 a, .int .u32 b] w fun e w' => e = .returned (.int .i64 (ord a b)) ∧ w = w' := by
  go_enter Try.func43, Try.ntmps43
  go_wp2
  all_goals
    go_ret
    exact ⟨ret_int (by simp only [beq_iff_eq, beq_eq_false_iff_ne] at *; unfold ord; (repeat' split) <;> omega), rfl⟩

end W
end Go.Proofs.Ytkbnciekhllcpaa

/- Contracts of the small functions of package word and of its specification: what each returns. -/
import Derived.Test.YtkbnciekhllcpaaRows
import Derived.WalkKit
import Derived.ProofKit
import Derived.Lib.Hide
import Derived.Test.YtkbnciekhllcpaaWordMath
namespace Go.Proofs.Ytkbnciekhllcpaa
open Go.RowKit
set_option linter.unusedVariables false
namespace W


theorem ret_int {k : IntKind} {a b : Int} (h : a = b) : Ending.returned (.int k a) = .returned (.int k b) := by rw [h]
theorem ret_bool {a b : Bool} (h : a = b) : Ending.returned (.bool a) = .returned (.bool b) := by rw [h]
def res3 (n : Int) : Ending := .returned (.tuple #[.int .u32 (low n), .int .i64 (ncc n), .bool (!inR n)])
def lcc (v : Int) (c : Bool) : Int := (if c = true then 2 else 0) + (if v = 0 then 0 else 1)
def dbl (hi lo : Int) : Int := hi * 4294967296 + lo

theorem signed_any (v : Int) (h0 : 0 ≤ v) (h1 : v < 4294967296) (w : World) :
    Calls Try.prog 73 #[.int .u32 v] w fun e w' => e = .returned (.int .i64 (sg v)) ∧ w = w' := by
  go_enter Try.func73, Try.ntmps73
  go_wp2
  go_ret
  exact ⟨ret_int (by rw [w6432, wrap32_sg h0 h1]), rfl⟩
theorem fits_any (n : Int) (h0 : -9223372036854775808 ≤ n) (h1 : n < 9223372036854775808) (w : World) :
    Calls Try.prog 83 #[.int .i64 n] w fun e w' => e = .returned (.bool (inR n)) ∧ w = w' := by
  go_enter Try.func83, Try.ntmps83
  go_wp2
  go_ret
  exact ⟨ret_bool (inR_fits n), rfl⟩
theorem order_i32_any (a b : Int)  (w : World) :
    Calls Try.prog 78 #[.int .i32 a, .int .i32 b] w fun e w' => e = .returned (.int .i64 (ord a b)) ∧ w = w' := by
  go_enter Try.func78, Try.ntmps78
  go_wp2
  all_goals
    go_ret
    exact ⟨ret_int (by unfold ord; (repeat' split) <;> omega), rfl⟩
theorem order_u32_any (a b : Int)  (w : World) :
    Calls Try.prog 79 #[.int .u32 a, .int .u32 b] w fun e w' => e = .returned (.int .i64 (ord a b)) ∧ w = w' := by
  go_enter Try.func79, Try.ntmps79
  go_wp2
  all_goals
    go_ret
    exact ⟨ret_int (by unfold ord; (repeat' split) <;> omega), rfl⟩
theorem order_i64_any (a b : Int)  (w : World) :
    Calls Try.prog 95 #[.int .i64 a, .int .i64 b] w fun e w' => e = .returned (.int .i64 (ord a b)) ∧ w = w' := by
  go_enter Try.func95, Try.ntmps95
  go_wp2
  all_goals
    go_ret
    exact ⟨ret_int (by unfold ord; (repeat' split) <;> omega), rfl⟩
theorem test_any (v : Int) (h0 : 0 ≤ v) (h1 : v < 4294967296) (w : World) :
    Calls Try.prog 44 #[.int .u32 v] w fun e w' => e = .returned (.int .i64 (ord (sg v) 0)) ∧ w = w' := by
  have hs : wrap32 v = sg v := wrap32_sg h0 h1
  have H := Lib.hid hs; clear hs
  go_enter Try.func44, Try.ntmps44
  go_wp2_with fail
  refine (order_i32_any _ _ _).mono ?_
  rintro e w' ⟨rfl, rfl⟩
  go_wp2
  go_ret
  exact ⟨ret_int (by rw [H.out]), rfl⟩
end W
end Go.Proofs.Ytkbnciekhllcpaa

/- Contracts of the small functions of the statements about package word. -/
import Derived.Test.YtkbnciekhllcpaaRows
import Derived.WalkKit
import Derived.ProofKit
import Derived.Lib.Hide
import Derived.Test.YtkbnciekhllcpaaWordRead
import Derived.Test.YtkbnciekhllcpaaWordShifts
namespace Go.Proofs.Ytkbnciekhllcpaa
open Go.RowKit
set_option linter.unusedVariables false
namespace W

theorem lsigned_any (v : Int) (h0 : 0 ≤ v) (h1 : v < 4294967296) (w : World) :
    Calls Try.prog 62 #[.int .u32 v] w fun e w' => e = .returned (.int .i64 (sg v)) ∧ w = w' := by
  go_enter Try.func62, Try.ntmps62
  go_wp2
  go_ret
  exact ⟨ret_int (by first | rw [w6432, wrap32_sg h0 h1] | rw [wrap32_sg h0 h1]), rfl⟩

theorem lcode_any (n : Int)  (w : World) :
    Calls Try.prog 63 #[.int .i64 n] w fun e w' => e = .returned (.int .i64 (ord n 0)) ∧ w = w' := by
  go_enter Try.func63, Try.ntmps63
  go_wp2
  all_goals
    go_ret
    exact ⟨ret_int (by simp only [beq_iff_eq, beq_eq_false_iff_ne] at *; unfold ord; (repeat' split) <;> omega), rfl⟩

theorem llong_any (hi lo : Int) (h0 : 0 ≤ hi) (h1 : hi < 4294967296) (l0 : 0 ≤ lo) (l1 : lo < 4294967296) (w : World) :
    Calls Try.prog 64 #[.int .u32 hi, .int .u32 lo] w fun e w' => e = .returned (.int .i64 (sgd hi lo)) ∧ w = w' := by
  go_enter Try.func64, Try.ntmps64
  go_wp2
  go_ret
  exact ⟨ret_int (by rw [or_dbl h0 h1 l0 l1]; rfl), rfl⟩

/-- The size of a number, as an unsigned one. -/
def siz (n : Int) : Int := if n < 0 then -n else n
theorem lsize_any (n : Int) (h0 : -9223372036854775808 ≤ n) (h1 : n < 9223372036854775808) (w : World) :
    Calls Try.prog 65 #[.int .i64 n] w fun e w' => e = .returned (.int .u64 (siz n)) ∧ w = w' := by
  go_enter Try.func65, Try.ntmps65
  go_wp2
  all_goals
    go_ret
    exact ⟨ret_int (by unfold siz; (try simp only [wrap_u64]); split <;> omega), rfl⟩

end W
end Go.Proofs.Ytkbnciekhllcpaa

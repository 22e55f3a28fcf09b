/- Contracts of products and quotients. -/
import Derived.Test.YtkbnciekhllcpaaRows
import Derived.WalkKit
import Derived.ProofKit
import Derived.Lib.Hide
import Derived.Test.YtkbnciekhllcpaaWordSums
namespace Go.Proofs.Ytkbnciekhllcpaa
open Go.RowKit
set_option linter.unusedVariables false
namespace W

theorem or_dbl {hi lo : Int} (h0 : 0 ≤ hi) (h1 : hi < 4294967296) (l0 : 0 ≤ lo) (l1 : lo < 4294967296) : bits .or .u64 (hi * 4294967296) lo = hi * 4294967296 + lo := orDbl h0 h1 l0 l1

theorem double_any (hi lo : Int) (h0 : 0 ≤ hi) (h1 : hi < 4294967296) (l0 : 0 ≤ lo) (l1 : lo < 4294967296) (w : World) :
    Calls Try.prog 82 #[.int .u32 hi, .int .u32 lo] w fun e w' => e = .returned (.int .u64 (hi * 4294967296 + lo)) ∧ w = w' := by
  go_enter Try.func82, Try.ntmps82
  go_wp2
  go_ret
  exact ⟨ret_int (or_dbl h0 h1 l0 l1), rfl⟩

theorem split_any (v : Int) (h0 : 0 ≤ v) (h1 : v < 18446744073709551616) (w : World) :
    Calls Try.prog 80 #[.int .u64 v] w fun e w' => e = .returned (.tuple #[.int .u32 (v / 4294967296), .int .u32 (v % 4294967296)]) ∧ w = w' := by
  go_enter Try.func80, Try.ntmps80
  go_wp2
  go_ret2
  exact ⟨rfl, rfl⟩

theorem rlong_any (hi lo : Int) (h0 : 0 ≤ hi) (h1 : hi < 4294967296) (l0 : 0 ≤ lo) (l1 : lo < 4294967296) (w : World) :
    Calls Try.prog 84 #[.int .u32 hi, .int .u32 lo] w fun e w' => e = .returned (.int .u64 (hi * 4294967296 + lo)) ∧ w = w' := by
  go_enter Try.func84, Try.ntmps84
  go_wp2
  go_ret
  exact ⟨rfl, rfl⟩

theorem rwords_any (v : Int) (h0 : 0 ≤ v) (h1 : v < 18446744073709551616) (w : World) :
    Calls Try.prog 81 #[.int .u64 v] w fun e w' => e = .returned (.tuple #[.int .u32 (v / 4294967296), .int .u32 (v % 4294967296)]) ∧ w = w' := by
  go_enter Try.func81, Try.ntmps81
  go_wp2
  go_ret2
  exact ⟨rfl, rfl⟩

theorem mul_bd {x y : Int} (hx : -2147483648 ≤ x ∧ x < 2147483648) (hy : -2147483648 ≤ y ∧ y < 2147483648) : -4611686018427387904 ≤ x * y ∧ x * y ≤ 4611686018427387904 := by
  have h : (x * y).natAbs ≤ 2147483648 * 2147483648 := by rw [Int.natAbs_mul]; exact Nat.mul_le_mul (by omega) (by omega)
  omega

theorem wMul_any (a b : Int) (a0 : 0 ≤ a) (a1 : a < 4294967296) (b0 : 0 ≤ b) (b1 : b < 4294967296) (w : World) :
    Calls Try.prog 46 #[.int .u32 a, .int .u32 b] w fun e w' => e = .returned (.tuple #[.int .u32 (sg a * sg b % 18446744073709551616 / 4294967296), .int .u32 (sg a * sg b % 4294967296)]) ∧ w = w' := by
  have ha := sg_bd a0 a1
  have hb := sg_bd b0 b1
  have hm := mul_bd ha hb
  go_enter Try.func46, Try.ntmps46
  go_wp2_with fail
  refine (signed_any _ a0 a1 _).mono ?_
  rintro e w' ⟨rfl, rfl⟩
  go_wp2_with fail
  refine (signed_any _ b0 b1 _).mono ?_
  rintro e w' ⟨rfl, rfl⟩
  go_wp2_with fail
  rw [wrap_u64]
  refine (split_any _ (by omega) (by omega) _).mono ?_
  rintro e w' ⟨rfl, rfl⟩
  go_wp2
  go_ret2
  exact ⟨rfl, rfl⟩

theorem rMul_any (a b : Int) (a0 : 0 ≤ a) (a1 : a < 4294967296) (b0 : 0 ≤ b) (b1 : b < 4294967296) (w : World) :
    Calls Try.prog 47 #[.int .u32 a, .int .u32 b] w fun e w' => e = .returned (.tuple #[.int .u32 (sg a * sg b % 18446744073709551616 / 4294967296), .int .u32 (sg a * sg b % 4294967296)]) ∧ w = w' := by
  have ha := sg_bd a0 a1
  have hb := sg_bd b0 b1
  have hm := mul_bd ha hb
  go_enter Try.func47, Try.ntmps47
  go_wp2_with fail
  refine (rSigned_any _ a0 a1 _).mono ?_
  rintro e w' ⟨rfl, rfl⟩
  go_wp2_with fail
  refine (rSigned_any _ b0 b1 _).mono ?_
  rintro e w' ⟨rfl, rfl⟩
  go_wp2_with fail
  rw [wrap_u64]
  refine (rwords_any _ (by omega) (by omega) _).mono ?_
  rintro e w' ⟨rfl, rfl⟩
  go_wp2
  go_ret2
  exact ⟨rfl, rfl⟩

/-- The signed value of a double word. -/
def sgd (hi lo : Int) : Int := wrap64 (hi * 4294967296 + lo)
theorem sgd_bd (hi lo : Int) : -9223372036854775808 ≤ sgd hi lo ∧ sgd hi lo < 9223372036854775808 := by unfold sgd; rw [wrap64_eq]; omega
def dOk (n m : Int) : Bool := m != 0 && inR (n.tdiv m)
def dR (n m : Int) : Int := if dOk n m = true then n.tmod m % 4294967296 else 0
def dQ (n m : Int) : Int := if dOk n m = true then n.tdiv m % 4294967296 else 0
theorem sg_zero {d : Int} (h0 : 0 ≤ d) (h1 : d < 4294967296) : sg d = 0 ↔ d = 0 := by have := sg_cases d; omega
theorem tdiv_bd {n m : Int} (h : -9223372036854775808 < n ∧ n < 9223372036854775808) (hm : m ≠ 0) : -9223372036854775808 < n.tdiv m ∧ n.tdiv m < 9223372036854775808 := by
  have h2 : (n.tdiv m).natAbs ≤ n.natAbs := by rw [Int.natAbs_tdiv]; exact Nat.div_le_self _ _
  omega
theorem tdiv_bd1 {n m : Int} (h : -9223372036854775808 ≤ n ∧ n < 9223372036854775808) (hm : m ≠ 0) (hm1 : m ≠ -1) : -9223372036854775808 ≤ n.tdiv m ∧ n.tdiv m < 9223372036854775808 := by
  by_cases h1 : m = 1
  · subst h1; rw [Int.tdiv_one]; exact h
  · have h2 : (n.tdiv m).natAbs ≤ n.natAbs / 2 := by
      rw [Int.natAbs_tdiv]
      exact Nat.div_le_div_left (by omega) (by decide)
    omega
theorem tdiv_min {m : Int} (hm : -2147483648 ≤ m ∧ m < 2147483648) (h0 : m ≠ 0) : inR ((-9223372036854775808 : Int).tdiv m) = false := by
  have h2 : 4294967296 ≤ ((-9223372036854775808 : Int).tdiv m).natAbs := by
    rw [Int.natAbs_tdiv]
    have : 9223372036854775808 / 2147483648 ≤ 9223372036854775808 / m.natAbs := Nat.div_le_div_left (by omega) (by omega)
    exact this
  unfold inR
  generalize (-9223372036854775808 : Int).tdiv m = q at *
  simp; omega
theorem tmod_bd {n m : Int} (hm : m ≠ 0) : (n.tmod m).natAbs < m.natAbs := by
  rw [Int.natAbs_tmod]; exact Nat.mod_lt _ (by omega)

theorem d_no {n m : Int} (h : dOk n m = false) : dR n m = 0 ∧ dQ n m = 0 := by unfold dR dQ; simp [h]
theorem d_yes {n m : Int} (h : dOk n m = true) : dR n m = n.tmod m % 4294967296 ∧ dQ n m = n.tdiv m % 4294967296 := by unfold dR dQ; simp [h]
theorem ret_div {n m r q : Int} {o : Bool} (h1 : r = dR n m) (h2 : q = dQ n m) (h3 : o = dOk n m) : Ending.returned (.tuple #[.int .u32 r, .int .u32 q, .bool o]) = .returned (.tuple #[.int .u32 (dR (n) (m)), .int .u32 (dQ (n) (m)), .bool (dOk (n) (m))]) := by rw [h1, h2, h3]
theorem w64_bd (n : Int) : -9223372036854775808 ≤ wrap64 n ∧ wrap64 n < 9223372036854775808 := by rw [wrap64_eq]; omega
theorem inR_wq {n m : Int} (hn : -9223372036854775808 ≤ n ∧ n < 9223372036854775808) (hm : m ≠ 0) : inR (wrap64 (n.tdiv m)) = inR (n.tdiv m) := by
  by_cases h : m = -1
  · subst h
    rw [Int.tdiv_neg, Int.tdiv_one, wrap64_eq, Bool.eq_iff_iff]; simp [inR]; omega
  · rw [wrap64_id (tdiv_bd1 hn hm h).1 (tdiv_bd1 hn hm h).2]
theorem wDiv_any (hi lo d : Int) (h0 : 0 ≤ hi) (h1 : hi < 4294967296) (l0 : 0 ≤ lo) (l1 : lo < 4294967296) (d0 : 0 ≤ d) (d1 : d < 4294967296) (w : World) :
    Calls Try.prog 48 #[.int .u32 hi, .int .u32 lo, .int .u32 d] w fun e w' => e = .returned (.tuple #[.int .u32 (dR (sgd hi lo) (sg d)), .int .u32 (dQ (sgd hi lo) (sg d)), .bool (dOk (sgd hi lo) (sg d))]) ∧ w = w' := by
  have hs := sg_bd d0 d1
  have hz := sg_zero d0 d1
  have hn := sgd_bd hi lo
  have hsg : sgd hi lo = wrap64 (hi * 4294967296 + lo) := rfl
  by_cases hd : d = 0
  · subst hd
    have e : dOk (sgd hi lo) (sg 0) = false := by simp [dOk, sg]
    go_enter Try.func48, Try.ntmps48
    go_wp2
    go_ret3
    exact ⟨ret_div (d_no e).1.symm (d_no e).2.symm e.symm, rfl⟩
  · have hdb : (d == 0) = false := by simpa using hd
    have hm : sg d ≠ 0 := fun h => hd (hz.1 h)
    clear hz
    have hf : ∀ x, wrap64 (hi * 4294967296 + lo) = x → sgd hi lo = x := fun x h => h
    have hw := inR_wq hn hm
    rcases Bool.eq_false_or_eq_true (inR ((sgd hi lo).tdiv (sg d))) with hr | hr
    · have hb : (!inR (wrap64 ((sgd hi lo).tdiv (sg d)))) = false := by rw [hw, hr]; rfl
      have e : dOk (sgd hi lo) (sg d) = true := by simp [dOk, hr, hm]
      have E := Lib.hid e; clear e
      clear hw hsg hf hr
      go_enter Try.func48, Try.ntmps48
      go_wp2_with fail
      refine (double_any _ _ h0 h1 l0 l1 _).mono ?_
      rintro e w' ⟨rfl, rfl⟩
      go_wp2_with fail
      refine (signed_any _ d0 d1 _).mono ?_
      rintro e w' ⟨rfl, rfl⟩
      go_wp2_with fail
      rw [show wrap64 (hi * 4294967296 + lo) = sgd hi lo from rfl]
      refine (fits_any _ (w64_bd _).1 (w64_bd _).2 _).mono ?_
      rintro e w' ⟨rfl, rfl⟩
      go_wp2
      go_ret3
      refine ⟨ret_div ?_ ?_ E.out.symm, rfl⟩
      · rw [(d_yes E.out).1]; try rfl
      · rw [(d_yes E.out).2, wrap64_eq]; try omega
    · have hb : (!inR (wrap64 ((sgd hi lo).tdiv (sg d)))) = true := by rw [hw, hr]; rfl
      have e : dOk (sgd hi lo) (sg d) = false := by simp [dOk, hr]
      have E := Lib.hid e; clear e
      clear hw hsg hf hr
      go_enter Try.func48, Try.ntmps48
      go_wp2_with fail
      refine (double_any _ _ h0 h1 l0 l1 _).mono ?_
      rintro e w' ⟨rfl, rfl⟩
      go_wp2_with fail
      refine (signed_any _ d0 d1 _).mono ?_
      rintro e w' ⟨rfl, rfl⟩
      go_wp2_with fail
      rw [show wrap64 (hi * 4294967296 + lo) = sgd hi lo from rfl]
      refine (fits_any _ (w64_bd _).1 (w64_bd _).2 _).mono ?_
      rintro e w' ⟨rfl, rfl⟩
      go_wp2
      go_ret3
      exact ⟨ret_div (d_no E.out).1.symm (d_no E.out).2.symm E.out.symm, rfl⟩

theorem tdm (n m : Int) : n - n.tdiv m * m = n.tmod m := by have := Int.tdiv_mul_add_tmod n m; omega
theorem rDiv_any (hi lo d : Int) (h0 : 0 ≤ hi) (h1 : hi < 4294967296) (l0 : 0 ≤ lo) (l1 : lo < 4294967296) (d0 : 0 ≤ d) (d1 : d < 4294967296) (w : World) :
    Calls Try.prog 49 #[.int .u32 hi, .int .u32 lo, .int .u32 d] w fun e w' => e = .returned (.tuple #[.int .u32 (dR (sgd hi lo) (sg d)), .int .u32 (dQ (sgd hi lo) (sg d)), .bool (dOk (sgd hi lo) (sg d))]) ∧ w = w' := by
  have hs := sg_bd d0 d1
  have hn := sgd_bd hi lo
  by_cases hd : sg d = 0
  · have hdb : (sg d == 0) = true := by simpa using hd
    have e : dOk (sgd hi lo) (sg d) = false := by simp [dOk, hd]
    have E := Lib.hid e; clear e
    clear hd
    go_enter Try.func49, Try.ntmps49
    go_wp2_with fail
    refine (rlong_any _ _ h0 h1 l0 l1 _).mono ?_
    rintro e w' ⟨rfl, rfl⟩
    go_wp2_with fail
    refine (rSigned_any _ d0 d1 _).mono ?_
    rintro e w' ⟨rfl, rfl⟩
    go_wp2
    go_ret3
    exact ⟨ret_div (d_no E.out).1.symm (d_no E.out).2.symm E.out.symm, rfl⟩
  · have hdb : (sg d == 0) = false := by simpa using hd
    by_cases hm : sgd hi lo = -9223372036854775808
    · have hmb : (wrap64 (hi * 4294967296 + lo) == -9223372036854775808) = true := by show (sgd hi lo == _) = _; simpa using hm
      have e : dOk (sgd hi lo) (sg d) = false := by unfold dOk; rw [hm, tdiv_min hs hd, Bool.and_false]
      have E := Lib.hid e; clear e
      clear hd hm
      go_enter Try.func49, Try.ntmps49
      go_wp2_with fail
      refine (rlong_any _ _ h0 h1 l0 l1 _).mono ?_
      rintro e w' ⟨rfl, rfl⟩
      go_wp2_with fail
      refine (rSigned_any _ d0 d1 _).mono ?_
      rintro e w' ⟨rfl, rfl⟩
      go_wp2
      go_ret3
      exact ⟨ret_div (d_no E.out).1.symm (d_no E.out).2.symm E.out.symm, rfl⟩
    · have hmb : (wrap64 (hi * 4294967296 + lo) == -9223372036854775808) = false := by show (sgd hi lo == _) = _; simpa using hm
      have hq := tdiv_bd (n := sgd hi lo) (m := sg d) (by omega) hd
      have hwq : wrap64 ((sgd hi lo).tdiv (sg d)) = (sgd hi lo).tdiv (sg d) := wrap64_id (by omega) (by omega)
      have HW := Lib.hid hwq; clear hwq
      have hl := low_bd ((sgd hi lo).tdiv (sg d))
      rcases Bool.eq_false_or_eq_true (inR ((sgd hi lo).tdiv (sg d))) with hr | hr
      · have hb : (sg ((sgd hi lo).tdiv (sg d) % 4294967296) != (sgd hi lo).tdiv (sg d)) = false := by simpa using sg_low hr
        have e : dOk (sgd hi lo) (sg d) = true := by simp [dOk, hr, hd]
        have E := Lib.hid e; clear e
        clear hr hm
        go_enter Try.func49, Try.ntmps49
        go_wp2_with fail
        refine (rlong_any _ _ h0 h1 l0 l1 _).mono ?_
        rintro e w' ⟨rfl, rfl⟩
        go_wp2_with fail
        refine (rSigned_any _ d0 d1 _).mono ?_
        rintro e w' ⟨rfl, rfl⟩
        go_wp2_with fail
        rw [show wrap64 (hi * 4294967296 + lo) = sgd hi lo from rfl, HW.out]
        refine (rSigned_any _ hl.1 hl.2 _).mono ?_
        rintro e w' ⟨rfl, rfl⟩
        go_wp2
        go_ret3
        refine ⟨ret_div ?_ ?_ E.out.symm, rfl⟩
        · rw [(d_yes E.out).1, ← tdm]; simp only [wrap64_eq]; omega
        · rw [(d_yes E.out).2]
      · have hb : (sg ((sgd hi lo).tdiv (sg d) % 4294967296) != (sgd hi lo).tdiv (sg d)) = true := by simpa using sg_low_ne hr
        have e : dOk (sgd hi lo) (sg d) = false := by simp [dOk, hr]
        have E := Lib.hid e; clear e
        clear hr hm
        go_enter Try.func49, Try.ntmps49
        go_wp2_with fail
        refine (rlong_any _ _ h0 h1 l0 l1 _).mono ?_
        rintro e w' ⟨rfl, rfl⟩
        go_wp2_with fail
        refine (rSigned_any _ d0 d1 _).mono ?_
        rintro e w' ⟨rfl, rfl⟩
        go_wp2_with fail
        rw [show wrap64 (hi * 4294967296 + lo) = sgd hi lo from rfl, HW.out]
        refine (rSigned_any _ hl.1 hl.2 _).mono ?_
        rintro e w' ⟨rfl, rfl⟩
        go_wp2
        go_ret3
        exact ⟨ret_div (d_no E.out).1.symm (d_no E.out).2.symm E.out.symm, rfl⟩

end W
end Go.Proofs.Ytkbnciekhllcpaa

/- Words: sums and products. -/
import Derived.Test.YtfopjnfphlkcgaaGreatRows
import Derived.Lib.Hide
import Derived.ProofKit
import Derived.WalkKit
namespace Go.Proofs.YtfopjnfphlkcgaaGreat
open Go.RowKit
namespace W

/-- The signed value of a word. -/
def sg (v : Int) : Int := if v < 2147483648 then v else v - 4294967296
/-- The order of two numbers: 0 equal, 1 less, 2 greater. -/
def ord (a b : Int) : Int := if a < b then 1 else if b < a then 2 else 0
/-- Is a number a signed one of 32 bits? -/
def inR (n : Int) : Bool := decide (-2147483648 ≤ n ∧ n < 2147483648)
/-- The word of an exact result. -/
abbrev low (n : Int) : Int := n % 4294967296
/-- The condition code of an exact result. -/
def ncc (n : Int) : Int := if inR n = true then ord n 0 else 3

theorem wrap_i64 (n : Int) : IntKind.i64.wrap n = (n + 9223372036854775808) % 18446744073709551616 - 9223372036854775808 := by
  simp [IntKind.wrap, IntKind.bits, IntKind.signed]; split <;> omega
theorem wrap_u32 (n : Int) : IntKind.u32.wrap n = n % 4294967296 := by
  simp [IntKind.wrap, IntKind.bits, IntKind.signed]
theorem wrap_u64 (n : Int) : IntKind.u64.wrap n = n % 18446744073709551616 := by
  simp [IntKind.wrap, IntKind.bits, IntKind.signed]

theorem sg_bd {v : Int} (h0 : 0 ≤ v) (h1 : v < 4294967296) : -2147483648 ≤ sg v ∧ sg v < 2147483648 := by
  unfold sg; split <;> omega
theorem sg_cases (v : Int) : (v < 2147483648 ∧ sg v = v) ∨ (2147483648 ≤ v ∧ sg v = v - 4294967296) := by unfold sg; split <;> omega
theorem low_bd (n : Int) : 0 ≤ low n ∧ low n < 4294967296 := by simp only [low]; omega
theorem sg_low {n : Int} (h : inR n = true) : sg (low n) = n := by
  simp [inR] at h; unfold sg; simp only [low]; split <;> omega
theorem wrap32_eq (n : Int) : wrap32 n = (n + 2147483648) % 4294967296 - 2147483648 := by
  unfold wrap32; omega
theorem wrap64_eq (n : Int) : wrap64 n = (n + 9223372036854775808) % 18446744073709551616 - 9223372036854775808 := by
  unfold wrap64; omega
theorem wrap64_id {n : Int} (h0 : -9223372036854775808 ≤ n) (h1 : n < 9223372036854775808) : wrap64 n = n := by
  rw [wrap64_eq]; omega
theorem wrap32_sg {v : Int} (h0 : 0 ≤ v) (h1 : v < 4294967296) : wrap32 v = sg v := by
  rw [wrap32_eq]; unfold sg; split <;> omega
theorem w6432 (n : Int) : wrap64 (wrap32 n) = wrap32 n := by
  rw [wrap64_eq, wrap32_eq]; omega
theorem inR_fits (n : Int) : (n == wrap64 (wrap32 n)) = inR n := by
  rw [w6432, wrap32_eq, Bool.eq_iff_iff]; simp [inR]; omega
/-! Bits. -/
theorem bvNat {k : Nat} {x : Int} (h0 : 0 ≤ x) (h1 : x < 2 ^ k) : (BitVec.ofInt k x).toNat = x.toNat := by
  obtain ⟨n, rfl⟩ := Int.eq_ofNat_of_zero_le h0
  rw [BitVec.ofInt_natCast, BitVec.toNat_ofNat]
  have : n < 2 ^ k := by exact_mod_cast h1
  simp [Nat.mod_eq_of_lt this]
/-- An or with a multiple of a power of two is a sum. -/
theorem orNat (i a b : Nat) (hb : b < 2 ^ i) : 2 ^ i * a ||| b = 2 ^ i * a + b := (Nat.two_pow_add_eq_or_of_lt hb a).symm
theorem orDbl {hi lo : Int} (h0 : 0 ≤ hi) (h1 : hi < 4294967296) (l0 : 0 ≤ lo) (l1 : lo < 4294967296) : bits .or .u64 (hi * 4294967296) lo = hi * 4294967296 + lo := by
  have e : bits .or .u64 (hi * 4294967296) lo = IntKind.u64.wrap ((BitVec.ofInt 64 (hi * 4294967296) ||| BitVec.ofInt 64 lo).toNat : Int) := rfl
  rw [e, BitVec.toNat_or, bvNat (x := hi * 4294967296) (by omega) (by omega), bvNat (x := lo) (by omega) (by omega), wrap_u64]
  have h := orNat 32 hi.toNat lo.toNat (by omega)
  rw [show (hi * 4294967296).toNat = 2 ^ 32 * hi.toNat by omega, h]; omega
theorem orByte {v x : Int} (h0 : 0 ≤ v) (h1 : v < 16777216) (l0 : 0 ≤ x) (l1 : x < 256) : bits .or .u32 (v * 256) x = v * 256 + x := by
  have e : bits .or .u32 (v * 256) x = IntKind.u32.wrap ((BitVec.ofInt 32 (v * 256) ||| BitVec.ofInt 32 x).toNat : Int) := rfl
  rw [e, BitVec.toNat_or, bvNat (x := v * 256) (by omega) (by omega), bvNat (x := x) (by omega) (by omega), wrap_u32]
  have h := orNat 8 v.toNat x.toNat (by omega)
  rw [show (v * 256).toNat = 2 ^ 8 * v.toNat by omega, h]; omega
end W
end Go.Proofs.YtfopjnfphlkcgaaGreat
namespace Go.Proofs.YtfopjnfphlkcgaaGreat
open Go.RowKit
set_option linter.unusedVariables false
namespace W


theorem ret_int {k : IntKind} {a b : Int} (h : a = b) : Ending.returned (.int k a) = .returned (.int k b) := by rw [h]
theorem ret_bool {a b : Bool} (h : a = b) : Ending.returned (.bool a) = .returned (.bool b) := by rw [h]
def lcc (v : Int) (c : Bool) : Int := (if c = true then 2 else 0) + (if v = 0 then 0 else 1)
theorem signed_any (v : Int) (h0 : 0 ≤ v) (h1 : v < 4294967296) (w : World) :
    Calls Tryz.prog 199 #[.int .u32 v] w fun e w' => e = .returned (.int .i64 (sg v)) ∧ w = w' := by
  go_enter Tryz.func199, Tryz.ntmps199
  go_wp2
  go_ret
  exact ⟨ret_int (by rw [w6432, wrap32_sg h0 h1]), rfl⟩
theorem fits_any (n : Int) (h0 : -9223372036854775808 ≤ n) (h1 : n < 9223372036854775808) (w : World) :
    Calls Tryz.prog 204 #[.int .i64 n] w fun e w' => e = .returned (.bool (inR n)) ∧ w = w' := by
  go_enter Tryz.func204, Tryz.ntmps204
  go_wp2
  go_ret
  exact ⟨ret_bool (inR_fits n), rfl⟩
theorem order_i32_any (a b : Int)  (w : World) :
    Calls Tryz.prog 197 #[.int .i32 a, .int .i32 b] w fun e w' => e = .returned (.int .i64 (ord a b)) ∧ w = w' := by
  go_enter Tryz.func197, Tryz.ntmps197
  go_wp2
  all_goals
    go_ret
    exact ⟨ret_int (by unfold ord; (repeat' split) <;> omega), rfl⟩
theorem test_any (v : Int) (h0 : 0 ≤ v) (h1 : v < 4294967296) (w : World) :
    Calls Tryz.prog 125 #[.int .u32 v] w fun e w' => e = .returned (.int .i64 (ord (sg v) 0)) ∧ w = w' := by
  have hs : wrap32 v = sg v := wrap32_sg h0 h1
  have H := Lib.hid hs; clear hs
  go_enter Tryz.func125, Tryz.ntmps125
  go_wp2_with fail
  refine (order_i32_any _ _ _).mono ?_
  rintro e w' ⟨rfl, rfl⟩
  go_wp2
  go_ret
  exact ⟨ret_int (by rw [H.out]), rfl⟩
end W
end Go.Proofs.YtfopjnfphlkcgaaGreat
namespace Go.Proofs.YtfopjnfphlkcgaaGreat
open Go.RowKit
set_option linter.unusedVariables false
namespace W

theorem res3_out {n : Int} (h : inR n = false) : Ending.returned (.tuple #[.int .u32 (low n), .int .i64 (ncc n), .bool (!inR n)]) = .returned (.tuple #[.int .u32 (low n), .int .i64 3, .bool true]) := by
  unfold ncc; simp [h]
theorem res3_in {n : Int} (h : inR n = true) : Ending.returned (.tuple #[.int .u32 (low n), .int .i64 (ncc n), .bool (!inR n)]) = .returned (.tuple #[.int .u32 (low n), .int .i64 (ord (sg (low n)) 0), .bool false]) := by
  unfold ncc; rw [sg_low h]; simp [h]
theorem wlow (n : Int) : IntKind.u32.wrap n = low n := wrap_u32 n

theorem narrow_any (n : Int) (h0 : -9223372036854775808 ≤ n) (h1 : n < 9223372036854775808) (w : World) :
    Calls Tryz.prog 198 #[.int .i64 n] w fun e w' => e = .returned (.tuple #[.int .u32 ((n) % 4294967296), .int .i64 (ncc (n)), .bool (!inR (n))]) ∧ w = w' := by
  have hl := low_bd n
  have hw := wlow n
  rcases Bool.eq_false_or_eq_true (inR n) with hr | hr
  ·
    have hb : (!inR n) = false := by rw [hr]; rfl
    rw [res3_in hr]
    clear hw
    have H2 := Lib.hid hr; clear hr
    go_enter Tryz.func198, Tryz.ntmps198
    go_wp2_with fail
    refine (fits_any _ h0 h1 _).mono ?_
    rintro e w' ⟨rfl, rfl⟩
    go_wp2_with fail

    refine (test_any _ hl.1 hl.2 _).mono ?_
    rintro e w' ⟨rfl, rfl⟩
    go_wp2
    go_ret3

    exact ⟨rfl, rfl⟩
  ·
    have hb : (!inR n) = true := by rw [hr]; rfl
    rw [res3_out hr]
    clear hw
    have H2 := Lib.hid hr; clear hr
    go_enter Tryz.func198, Tryz.ntmps198
    go_wp2_with fail
    refine (fits_any _ h0 h1 _).mono ?_
    rintro e w' ⟨rfl, rfl⟩
    go_wp2
    go_ret3

    exact ⟨rfl, rfl⟩

theorem wAdd_any (a b : Int) (a0 : 0 ≤ a) (a1 : a < 4294967296) (b0 : 0 ≤ b) (b1 : b < 4294967296) (w : World) :
    Calls Tryz.prog 130 #[.int .u32 a, .int .u32 b] w fun e w' => e = .returned (.tuple #[.int .u32 ((sg a + sg b) % 4294967296), .int .i64 (ncc (sg a + sg b)), .bool (!inR (sg a + sg b))]) ∧ w = w' := by
  have ha := sg_bd a0 a1
  have hb := sg_bd b0 b1
  go_enter Tryz.func130, Tryz.ntmps130
  go_wp2_with fail
  refine (signed_any _ a0 a1 _).mono ?_
  rintro e w' ⟨rfl, rfl⟩
  go_wp2_with fail
  refine (signed_any _ b0 b1 _).mono ?_
  rintro e w' ⟨rfl, rfl⟩
  go_wp2_with fail
  refine (narrow_any _ (by omega) (by omega) _).mono ?_
  rintro e w' ⟨rfl, rfl⟩
  go_wp2
  go_ret3
  exact ⟨rfl, rfl⟩

theorem wSub_any (a b : Int) (a0 : 0 ≤ a) (a1 : a < 4294967296) (b0 : 0 ≤ b) (b1 : b < 4294967296) (w : World) :
    Calls Tryz.prog 131 #[.int .u32 a, .int .u32 b] w fun e w' => e = .returned (.tuple #[.int .u32 ((sg a - sg b) % 4294967296), .int .i64 (ncc (sg a - sg b)), .bool (!inR (sg a - sg b))]) ∧ w = w' := by
  have ha := sg_bd a0 a1
  have hb := sg_bd b0 b1
  go_enter Tryz.func131, Tryz.ntmps131
  go_wp2_with fail
  refine (signed_any _ a0 a1 _).mono ?_
  rintro e w' ⟨rfl, rfl⟩
  go_wp2_with fail
  refine (signed_any _ b0 b1 _).mono ?_
  rintro e w' ⟨rfl, rfl⟩
  go_wp2_with fail
  refine (narrow_any _ (by omega) (by omega) _).mono ?_
  rintro e w' ⟨rfl, rfl⟩
  go_wp2
  go_ret3
  exact ⟨rfl, rfl⟩

theorem wComplement_any (v : Int) (h0 : 0 ≤ v) (h1 : v < 4294967296) (w : World) :
    Calls Tryz.prog 128 #[.int .u32 v] w fun e w' => e = .returned (.tuple #[.int .u32 ((sg 0 - sg v) % 4294967296), .int .i64 (ncc (sg 0 - sg v)), .bool (!inR (sg 0 - sg v))]) ∧ w = w' := by
  go_enter Tryz.func128, Tryz.ntmps128
  go_wp2_with fail
  refine (wSub_any _ _ (by decide) (by decide) h0 h1 _).mono ?_
  rintro e w' ⟨rfl, rfl⟩
  go_wp2
  go_ret3
  exact ⟨rfl, rfl⟩

theorem logicalCode_any (v : Int) (c : Bool)  (w : World) :
    Calls Tryz.prog 200 #[.int .u32 v, .bool c] w fun e w' => e = .returned (.int .i64 (lcc v c)) ∧ w = w' := by
  cases c
  go_enter Tryz.func200, Tryz.ntmps200
  go_wp2
  all_goals go_ret
  all_goals (exact ⟨ret_int (by unfold lcc; simp_all), rfl⟩)

theorem wAddLogical_any (a b : Int) (a0 : 0 ≤ a) (a1 : a < 4294967296) (b0 : 0 ≤ b) (b1 : b < 4294967296) (w : World) :
    Calls Tryz.prog 132 #[.int .u32 a, .int .u32 b] w fun e w' => e = .returned (.tuple #[.int .u32 ((a + b) % 4294967296), .int .i64 (lcc ((a + b) % 4294967296) (decide (4294967296 ≤ a + b)))]) ∧ w = w' := by
  go_enter Tryz.func132, Tryz.ntmps132
  go_wp2_with fail
  rw [show decide ((a + b) % 4294967296 < a) = decide (4294967296 ≤ a + b) by rw [decide_eq_decide]; omega]
  refine (logicalCode_any _ _ _).mono ?_
  rintro e w' ⟨rfl, rfl⟩
  go_wp2
  go_ret2
  exact ⟨rfl, rfl⟩

theorem wCompare_any (a b : Int) (a0 : 0 ≤ a) (a1 : a < 4294967296) (b0 : 0 ≤ b) (b1 : b < 4294967296) (w : World) :
    Calls Tryz.prog 134 #[.int .u32 a, .int .u32 b] w fun e w' => e = .returned (.int .i64 (ord (sg a) (sg b))) ∧ w = w' := by
  have hs : wrap32 a = sg a := wrap32_sg a0 a1
  have H := Lib.hid hs; clear hs
  have hs : wrap32 b = sg b := wrap32_sg b0 b1
  have H2 := Lib.hid hs; clear hs
  go_enter Tryz.func134, Tryz.ntmps134
  go_wp2_with fail
  refine (order_i32_any _ _ _).mono ?_
  rintro e w' ⟨rfl, rfl⟩
  go_wp2
  go_ret
  exact ⟨ret_int (by rw [H.out, H2.out]), rfl⟩

end W
end Go.Proofs.YtfopjnfphlkcgaaGreat
namespace Go.Proofs.YtfopjnfphlkcgaaGreat
open Go.RowKit
set_option linter.unusedVariables false
namespace W

theorem or_dbl {hi lo : Int} (h0 : 0 ≤ hi) (h1 : hi < 4294967296) (l0 : 0 ≤ lo) (l1 : lo < 4294967296) : bits .or .u64 (hi * 4294967296) lo = hi * 4294967296 + lo := orDbl h0 h1 l0 l1

theorem double_any (hi lo : Int) (h0 : 0 ≤ hi) (h1 : hi < 4294967296) (l0 : 0 ≤ lo) (l1 : lo < 4294967296) (w : World) :
    Calls Tryz.prog 203 #[.int .u32 hi, .int .u32 lo] w fun e w' => e = .returned (.int .u64 (hi * 4294967296 + lo)) ∧ w = w' := by
  go_enter Tryz.func203, Tryz.ntmps203
  go_wp2
  go_ret
  exact ⟨ret_int (or_dbl h0 h1 l0 l1), rfl⟩

theorem split_any (v : Int) (h0 : 0 ≤ v) (h1 : v < 18446744073709551616) (w : World) :
    Calls Tryz.prog 202 #[.int .u64 v] w fun e w' => e = .returned (.tuple #[.int .u32 (v / 4294967296), .int .u32 (v % 4294967296)]) ∧ w = w' := by
  go_enter Tryz.func202, Tryz.ntmps202
  go_wp2
  go_ret2
  exact ⟨rfl, rfl⟩

theorem mul_bd {x y : Int} (hx : -2147483648 ≤ x ∧ x < 2147483648) (hy : -2147483648 ≤ y ∧ y < 2147483648) : -4611686018427387904 ≤ x * y ∧ x * y ≤ 4611686018427387904 := by
  have h : (x * y).natAbs ≤ 2147483648 * 2147483648 := by rw [Int.natAbs_mul]; exact Nat.mul_le_mul (by omega) (by omega)
  omega

theorem wMul_any (a b : Int) (a0 : 0 ≤ a) (a1 : a < 4294967296) (b0 : 0 ≤ b) (b1 : b < 4294967296) (w : World) :
    Calls Tryz.prog 140 #[.int .u32 a, .int .u32 b] w fun e w' => e = .returned (.tuple #[.int .u32 (sg a * sg b % 18446744073709551616 / 4294967296), .int .u32 (sg a * sg b % 4294967296)]) ∧ w = w' := by
  have ha := sg_bd a0 a1
  have hb := sg_bd b0 b1
  have hm := mul_bd ha hb
  go_enter Tryz.func140, Tryz.ntmps140
  go_wp2_with fail
  refine (signed_any _ a0 a1 _).mono ?_
  rintro e w' ⟨rfl, rfl⟩
  go_wp2_with fail
  refine (signed_any _ b0 b1 _).mono ?_
  rintro e w' ⟨rfl, rfl⟩
  go_wp2_with fail
  rw [wrap_u64]
  refine (split_any _ (by omega) (by omega) _).mono ?_
  rintro e w' ⟨rfl, rfl⟩
  go_wp2
  go_ret2
  exact ⟨rfl, rfl⟩

/-- The signed value of a double word. -/
def sgd (hi lo : Int) : Int := wrap64 (hi * 4294967296 + lo)
theorem sgd_bd (hi lo : Int) : -9223372036854775808 ≤ sgd hi lo ∧ sgd hi lo < 9223372036854775808 := by unfold sgd; rw [wrap64_eq]; omega
def dOk (n m : Int) : Bool := m != 0 && inR (n.tdiv m)
def dR (n m : Int) : Int := if dOk n m = true then n.tmod m % 4294967296 else 0
def dQ (n m : Int) : Int := if dOk n m = true then n.tdiv m % 4294967296 else 0
theorem sg_zero {d : Int} (h0 : 0 ≤ d) (h1 : d < 4294967296) : sg d = 0 ↔ d = 0 := by have := sg_cases d; omega
theorem tdiv_bd1 {n m : Int} (h : -9223372036854775808 ≤ n ∧ n < 9223372036854775808) (hm : m ≠ 0) (hm1 : m ≠ -1) : -9223372036854775808 ≤ n.tdiv m ∧ n.tdiv m < 9223372036854775808 := by
  by_cases h1 : m = 1
  · subst h1; rw [Int.tdiv_one]; exact h
  · have h2 : (n.tdiv m).natAbs ≤ n.natAbs / 2 := by
      rw [Int.natAbs_tdiv]
      exact Nat.div_le_div_left (by omega) (by decide)
    omega
theorem d_no {n m : Int} (h : dOk n m = false) : dR n m = 0 ∧ dQ n m = 0 := by unfold dR dQ; simp [h]
theorem d_yes {n m : Int} (h : dOk n m = true) : dR n m = n.tmod m % 4294967296 ∧ dQ n m = n.tdiv m % 4294967296 := by unfold dR dQ; simp [h]
theorem ret_div {n m r q : Int} {o : Bool} (h1 : r = dR n m) (h2 : q = dQ n m) (h3 : o = dOk n m) : Ending.returned (.tuple #[.int .u32 r, .int .u32 q, .bool o]) = .returned (.tuple #[.int .u32 (dR (n) (m)), .int .u32 (dQ (n) (m)), .bool (dOk (n) (m))]) := by rw [h1, h2, h3]
theorem w64_bd (n : Int) : -9223372036854775808 ≤ wrap64 n ∧ wrap64 n < 9223372036854775808 := by rw [wrap64_eq]; omega
theorem inR_wq {n m : Int} (hn : -9223372036854775808 ≤ n ∧ n < 9223372036854775808) (hm : m ≠ 0) : inR (wrap64 (n.tdiv m)) = inR (n.tdiv m) := by
  by_cases h : m = -1
  · subst h
    rw [Int.tdiv_neg, Int.tdiv_one, wrap64_eq, Bool.eq_iff_iff]; simp [inR]; omega
  · rw [wrap64_id (tdiv_bd1 hn hm h).1 (tdiv_bd1 hn hm h).2]
theorem wDiv_any (hi lo d : Int) (h0 : 0 ≤ hi) (h1 : hi < 4294967296) (l0 : 0 ≤ lo) (l1 : lo < 4294967296) (d0 : 0 ≤ d) (d1 : d < 4294967296) (w : World) :
    Calls Tryz.prog 141 #[.int .u32 hi, .int .u32 lo, .int .u32 d] w fun e w' => e = .returned (.tuple #[.int .u32 (dR (sgd hi lo) (sg d)), .int .u32 (dQ (sgd hi lo) (sg d)), .bool (dOk (sgd hi lo) (sg d))]) ∧ w = w' := by
  have hs := sg_bd d0 d1
  have hz := sg_zero d0 d1
  have hn := sgd_bd hi lo
  have hsg : sgd hi lo = wrap64 (hi * 4294967296 + lo) := rfl
  by_cases hd : d = 0
  · subst hd
    have e : dOk (sgd hi lo) (sg 0) = false := by simp [dOk, sg]
    go_enter Tryz.func141, Tryz.ntmps141
    go_wp2
    go_ret3
    exact ⟨ret_div (d_no e).1.symm (d_no e).2.symm e.symm, rfl⟩
  · have hdb : (d == 0) = false := by simpa using hd
    have hm : sg d ≠ 0 := fun h => hd (hz.1 h)
    clear hz
    have hf : ∀ x, wrap64 (hi * 4294967296 + lo) = x → sgd hi lo = x := fun x h => h
    have hw := inR_wq hn hm
    rcases Bool.eq_false_or_eq_true (inR ((sgd hi lo).tdiv (sg d))) with hr | hr
    · have hb : (!inR (wrap64 ((sgd hi lo).tdiv (sg d)))) = false := by rw [hw, hr]; rfl
      have e : dOk (sgd hi lo) (sg d) = true := by simp [dOk, hr, hm]
      have E := Lib.hid e; clear e
      clear hw hsg hf hr
      go_enter Tryz.func141, Tryz.ntmps141
      go_wp2_with fail
      refine (double_any _ _ h0 h1 l0 l1 _).mono ?_
      rintro e w' ⟨rfl, rfl⟩
      go_wp2_with fail
      refine (signed_any _ d0 d1 _).mono ?_
      rintro e w' ⟨rfl, rfl⟩
      go_wp2_with fail
      rw [show wrap64 (hi * 4294967296 + lo) = sgd hi lo from rfl]
      refine (fits_any _ (w64_bd _).1 (w64_bd _).2 _).mono ?_
      rintro e w' ⟨rfl, rfl⟩
      go_wp2
      go_ret3
      refine ⟨ret_div ?_ ?_ E.out.symm, rfl⟩
      · rw [(d_yes E.out).1]; try rfl
      · rw [(d_yes E.out).2, wrap64_eq]; try omega
    · have hb : (!inR (wrap64 ((sgd hi lo).tdiv (sg d)))) = true := by rw [hw, hr]; rfl
      have e : dOk (sgd hi lo) (sg d) = false := by simp [dOk, hr]
      have E := Lib.hid e; clear e
      clear hw hsg hf hr
      go_enter Tryz.func141, Tryz.ntmps141
      go_wp2_with fail
      refine (double_any _ _ h0 h1 l0 l1 _).mono ?_
      rintro e w' ⟨rfl, rfl⟩
      go_wp2_with fail
      refine (signed_any _ d0 d1 _).mono ?_
      rintro e w' ⟨rfl, rfl⟩
      go_wp2_with fail
      rw [show wrap64 (hi * 4294967296 + lo) = sgd hi lo from rfl]
      refine (fits_any _ (w64_bd _).1 (w64_bd _).2 _).mono ?_
      rintro e w' ⟨rfl, rfl⟩
      go_wp2
      go_ret3
      exact ⟨ret_div (d_no E.out).1.symm (d_no E.out).2.symm E.out.symm, rfl⟩

end W
end Go.Proofs.YtfopjnfphlkcgaaGreat

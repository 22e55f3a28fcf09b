/- Words: sums and products. -/
import Derived.WalkKit
import Derived.Test.YtijkbenbjdeocaaDoorRows
import Derived.ProofKit
import Derived.Lib.Hide
namespace Go.Proofs.YtijkbenbjdeocaaDoor
open Go.RowKit
namespace W

/-- The signed value of a word. -/
def sg (v : Int) : Int := if v < 2147483648 then v else v - 4294967296
/-- The order of two numbers: 0 equal, 1 less, 2 greater. -/
def ord (a b : Int) : Int := if a < b then 1 else if b < a then 2 else 0
/-- Is a number a signed one of 32 bits? -/
def inR (n : Int) : Bool := decide (-2147483648 ≤ n ∧ n < 2147483648)
/-- The word of an exact result. -/
abbrev low (n : Int) : Int := n % 4294967296
/-- The condition code of an exact result. -/
def ncc (n : Int) : Int := if inR n = true then ord n 0 else 3

theorem u32_wf {v : Int} (h : (Lit.int .u32 v).wf = true) : 0 ≤ v ∧ v < 4294967296 := by
  simp [Lit.wf, IntKind.min, IntKind.max, IntKind.bits, IntKind.signed] at h; omega
theorem i64_wf {v : Int} (h : (Lit.int .i64 v).wf = true) : -9223372036854775808 ≤ v ∧ v < 9223372036854775808 := by
  simp [Lit.wf, IntKind.min, IntKind.max, IntKind.bits, IntKind.signed] at h; omega
theorem u8_wf {v : Int} (h : (Lit.int .u8 v).wf = true) : 0 ≤ v ∧ v < 256 := by
  simp [Lit.wf, IntKind.min, IntKind.max, IntKind.bits, IntKind.signed] at h; omega

theorem wrap_i32 (n : Int) : IntKind.i32.wrap n = (n + 2147483648) % 4294967296 - 2147483648 := by
  simp [IntKind.wrap, IntKind.bits, IntKind.signed]; split <;> omega
theorem wrap_i64 (n : Int) : IntKind.i64.wrap n = (n + 9223372036854775808) % 18446744073709551616 - 9223372036854775808 := by
  simp [IntKind.wrap, IntKind.bits, IntKind.signed]; split <;> omega
theorem wrap_u32 (n : Int) : IntKind.u32.wrap n = n % 4294967296 := by
  simp [IntKind.wrap, IntKind.bits, IntKind.signed]
theorem wrap_u64 (n : Int) : IntKind.u64.wrap n = n % 18446744073709551616 := by
  simp [IntKind.wrap, IntKind.bits, IntKind.signed]

theorem sg_wrap {v : Int} (h0 : 0 ≤ v) (h1 : v < 4294967296) : IntKind.i32.wrap v = sg v := by
  rw [wrap_i32]; unfold sg; split <;> omega
theorem sg_bd {v : Int} (h0 : 0 ≤ v) (h1 : v < 4294967296) : -2147483648 ≤ sg v ∧ sg v < 2147483648 := by
  unfold sg; split <;> omega
theorem sg_cases (v : Int) : (v < 2147483648 ∧ sg v = v) ∨ (2147483648 ≤ v ∧ sg v = v - 4294967296) := by unfold sg; split <;> omega
theorem low_bd (n : Int) : 0 ≤ low n ∧ low n < 4294967296 := by simp only [low]; omega
theorem sg_low {n : Int} (h : inR n = true) : sg (low n) = n := by
  simp [inR] at h; unfold sg; simp only [low]; split <;> omega
theorem sg_low_ne {n : Int} (h : inR n = false) : sg (low n) ≠ n := by
  simp [inR] at h; unfold sg; simp only [low]; split <;> omega
theorem wrap32_eq (n : Int) : wrap32 n = (n + 2147483648) % 4294967296 - 2147483648 := by
  unfold wrap32; omega
theorem wrap64_eq (n : Int) : wrap64 n = (n + 9223372036854775808) % 18446744073709551616 - 9223372036854775808 := by
  unfold wrap64; omega
theorem wrap64_id {n : Int} (h0 : -9223372036854775808 ≤ n) (h1 : n < 9223372036854775808) : wrap64 n = n := by
  rw [wrap64_eq]; omega
theorem wrap32_sg {v : Int} (h0 : 0 ≤ v) (h1 : v < 4294967296) : wrap32 v = sg v := by
  rw [wrap32_eq]; unfold sg; split <;> omega
theorem w6432 (n : Int) : wrap64 (wrap32 n) = wrap32 n := by
  rw [wrap64_eq, wrap32_eq]; omega
theorem inR_fits (n : Int) : (n == wrap64 (wrap32 n)) = inR n := by
  rw [w6432, wrap32_eq, Bool.eq_iff_iff]; simp [inR]; omega
theorem ord_low {n : Int} (h : inR n = true) : ord (sg (low n)) 0 = ord n 0 := by rw [sg_low h]

/-! Bits. -/
theorem bvNat {k : Nat} {x : Int} (h0 : 0 ≤ x) (h1 : x < 2 ^ k) : (BitVec.ofInt k x).toNat = x.toNat := by
  obtain ⟨n, rfl⟩ := Int.eq_ofNat_of_zero_le h0
  rw [BitVec.ofInt_natCast, BitVec.toNat_ofNat]
  have : n < 2 ^ k := by exact_mod_cast h1
  simp [Nat.mod_eq_of_lt this]
theorem and_pow (x i : Nat) : x &&& 2 ^ i = x / 2 ^ i % 2 * 2 ^ i := by
  apply Nat.eq_of_testBit_eq
  intro j
  rw [Nat.testBit_and, Nat.testBit_two_pow, Nat.testBit_eq_decide_div_mod_eq]
  by_cases h : i = j
  · subst h
    rcases Nat.mod_two_eq_zero_or_one (x / 2 ^ i) with e | e
    · simp [e]
    · simp [e]
  · rcases Nat.mod_two_eq_zero_or_one (x / 2 ^ i) with e | e
    · simp [e, h]
    · simp [e, h]
theorem and31 {x : Int} (h0 : 0 ≤ x) (h1 : x < 4294967296) : bits .and .u32 x 2147483648 = if x < 2147483648 then 0 else 2147483648 := by
  have e : bits .and .u32 x 2147483648 = IntKind.u32.wrap ((BitVec.ofInt 32 x &&& BitVec.ofInt 32 2147483648).toNat : Int) := rfl
  rw [e, BitVec.toNat_and, bvNat h0 (by omega), bvNat (x := 2147483648) (by decide) (by decide)]
  have h := and_pow x.toNat 31
  simp only [show (2 : Nat) ^ 31 = 2147483648 from rfl] at h
  rw [show (2147483648 : Int).toNat = 2147483648 from rfl, h, wrap_u32]
  split <;> omega
theorem and63 {x : Int} (h0 : 0 ≤ x) (h1 : x < 18446744073709551616) : bits .and .u64 x 9223372036854775808 = if x < 9223372036854775808 then 0 else 9223372036854775808 := by
  have e : bits .and .u64 x 9223372036854775808 = IntKind.u64.wrap ((BitVec.ofInt 64 x &&& BitVec.ofInt 64 9223372036854775808).toNat : Int) := rfl
  rw [e, BitVec.toNat_and, bvNat h0 (by omega), bvNat (x := 9223372036854775808) (by decide) (by decide)]
  have h := and_pow x.toNat 63
  simp only [show (2 : Nat) ^ 63 = 9223372036854775808 from rfl] at h
  rw [show (9223372036854775808 : Int).toNat = 9223372036854775808 from rfl, h, wrap_u64]
  split <;> omega
theorem andNot31 {x : Int} (h0 : 0 ≤ x) (h1 : x < 4294967296) : bits .andNot .u32 x 2147483648 = x % 2147483648 := by
  have e : bits .andNot .u32 x 2147483648 = IntKind.u32.wrap ((BitVec.ofInt 32 x &&& ~~~ BitVec.ofInt 32 2147483648).toNat : Int) := rfl
  have c : (~~~ BitVec.ofInt 32 2147483648).toNat = 2 ^ 31 - 1 := by decide
  rw [e, BitVec.toNat_and, bvNat h0 (by omega), c, Nat.and_two_pow_sub_one_eq_mod, wrap_u32]
  omega
theorem andNot63 {x : Int} (h0 : 0 ≤ x) (h1 : x < 18446744073709551616) : bits .andNot .u64 x 9223372036854775808 = x % 9223372036854775808 := by
  have e : bits .andNot .u64 x 9223372036854775808 = IntKind.u64.wrap ((BitVec.ofInt 64 x &&& ~~~ BitVec.ofInt 64 9223372036854775808).toNat : Int) := rfl
  have c : (~~~ BitVec.ofInt 64 9223372036854775808).toNat = 2 ^ 63 - 1 := by decide
  rw [e, BitVec.toNat_and, bvNat h0 (by omega), c, Nat.and_two_pow_sub_one_eq_mod, wrap_u64]
  omega
/-- An or with a multiple of a power of two is a sum. -/
theorem orNat (i a b : Nat) (hb : b < 2 ^ i) : 2 ^ i * a ||| b = 2 ^ i * a + b := (Nat.two_pow_add_eq_or_of_lt hb a).symm
theorem or31 {x : Int} {s : Int} (h0 : 0 ≤ x) (h1 : x < 2147483648) (hs : s = 0 ∨ s = 2147483648) : bits .or .u32 x s = x + s := by
  have e : bits .or .u32 x s = IntKind.u32.wrap ((BitVec.ofInt 32 x ||| BitVec.ofInt 32 s).toNat : Int) := rfl
  rw [e, BitVec.toNat_or, bvNat h0 (by omega), bvNat (x := s) (by omega) (by omega), Nat.or_comm, wrap_u32]
  have h := orNat 31 (s.toNat / 2 ^ 31) x.toNat (by omega)
  rw [show 2 ^ 31 * (s.toNat / 2 ^ 31) = s.toNat by omega] at h
  rw [h]; omega
theorem or63 {x : Int} {s : Int} (h0 : 0 ≤ x) (h1 : x < 9223372036854775808) (hs : s = 0 ∨ s = 9223372036854775808) : bits .or .u64 x s = x + s := by
  have e : bits .or .u64 x s = IntKind.u64.wrap ((BitVec.ofInt 64 x ||| BitVec.ofInt 64 s).toNat : Int) := rfl
  rw [e, BitVec.toNat_or, bvNat h0 (by omega), bvNat (x := s) (by omega) (by omega), Nat.or_comm, wrap_u64]
  have h := orNat 63 (s.toNat / 2 ^ 63) x.toNat (by omega)
  rw [show 2 ^ 63 * (s.toNat / 2 ^ 63) = s.toNat by omega] at h
  rw [h]; omega
theorem orDbl {hi lo : Int} (h0 : 0 ≤ hi) (h1 : hi < 4294967296) (l0 : 0 ≤ lo) (l1 : lo < 4294967296) : bits .or .u64 (hi * 4294967296) lo = hi * 4294967296 + lo := by
  have e : bits .or .u64 (hi * 4294967296) lo = IntKind.u64.wrap ((BitVec.ofInt 64 (hi * 4294967296) ||| BitVec.ofInt 64 lo).toNat : Int) := rfl
  rw [e, BitVec.toNat_or, bvNat (x := hi * 4294967296) (by omega) (by omega), bvNat (x := lo) (by omega) (by omega), wrap_u64]
  have h := orNat 32 hi.toNat lo.toNat (by omega)
  rw [show (hi * 4294967296).toNat = 2 ^ 32 * hi.toNat by omega, h]; omega
theorem orByte {v x : Int} (h0 : 0 ≤ v) (h1 : v < 16777216) (l0 : 0 ≤ x) (l1 : x < 256) : bits .or .u32 (v * 256) x = v * 256 + x := by
  have e : bits .or .u32 (v * 256) x = IntKind.u32.wrap ((BitVec.ofInt 32 (v * 256) ||| BitVec.ofInt 32 x).toNat : Int) := rfl
  rw [e, BitVec.toNat_or, bvNat (x := v * 256) (by omega) (by omega), bvNat (x := x) (by omega) (by omega), wrap_u32]
  have h := orNat 8 v.toNat x.toNat (by omega)
  rw [show (v * 256).toNat = 2 ^ 8 * v.toNat by omega, h]; omega
theorem andOne {k : IntKind} {x : Int} (hk : k = .u64) (h0 : 0 ≤ x) (h1 : x < 18446744073709551616) : bits .and k x 1 = x % 2 := by
  subst hk
  have e : bits .and .u64 x 1 = IntKind.u64.wrap ((BitVec.ofInt 64 x &&& BitVec.ofInt 64 1).toNat : Int) := rfl
  have c : (BitVec.ofInt 64 1).toNat = 2 ^ 1 - 1 := by decide
  rw [e, BitVec.toNat_and, bvNat h0 (by omega), c, Nat.and_two_pow_sub_one_eq_mod, wrap_u64]
  omega
/-- The number of places: the low six bits of a signed number. -/
theorem places63 (n : Int) : bits .and .i64 n 63 = n % 64 := by
  have e : bits .and .i64 n 63 = IntKind.i64.wrap ((BitVec.ofInt 64 n &&& BitVec.ofInt 64 63).toNat : Int) := rfl
  have c : (BitVec.ofInt 64 63).toNat = 2 ^ 6 - 1 := by decide
  rw [e, BitVec.toNat_and, c, Nat.and_two_pow_sub_one_eq_mod, wrap_i64, BitVec.toNat_ofInt]
  omega
end W
end Go.Proofs.YtijkbenbjdeocaaDoor
namespace Go.Proofs.YtijkbenbjdeocaaDoor
open Go.RowKit
set_option linter.unusedVariables false
namespace W


theorem ret_int {k : IntKind} {a b : Int} (h : a = b) : Ending.returned (.int k a) = .returned (.int k b) := by rw [h]
theorem ret_bool {a b : Bool} (h : a = b) : Ending.returned (.bool a) = .returned (.bool b) := by rw [h]
def res3 (n : Int) : Ending := .returned (.tuple #[.int .u32 (low n), .int .i64 (ncc n), .bool (!inR n)])
def lcc (v : Int) (c : Bool) : Int := (if c = true then 2 else 0) + (if v = 0 then 0 else 1)
def dbl (hi lo : Int) : Int := hi * 4294967296 + lo

end W
end Go.Proofs.YtijkbenbjdeocaaDoor
namespace Go.Proofs.YtijkbenbjdeocaaDoor
open Go.RowKit
set_option linter.unusedVariables false
namespace W

theorem res3_out {n : Int} (h : inR n = false) : Ending.returned (.tuple #[.int .u32 (low n), .int .i64 (ncc n), .bool (!inR n)]) = .returned (.tuple #[.int .u32 (low n), .int .i64 3, .bool true]) := by
  unfold ncc; simp [h]
theorem res3_in {n : Int} (h : inR n = true) : Ending.returned (.tuple #[.int .u32 (low n), .int .i64 (ncc n), .bool (!inR n)]) = .returned (.tuple #[.int .u32 (low n), .int .i64 (ord (sg (low n)) 0), .bool false]) := by
  unfold ncc; rw [sg_low h]; simp [h]
theorem sl1 (a b : Int) : (a + 4294967296 - b) % 4294967296 = (a - b) % 4294967296 := by omega
theorem sl2 (a b : Int) : decide (4294967296 ≤ a + 4294967296 - b) = decide (b ≤ a) := by simp only [decide_eq_decide]; omega
theorem wlow (n : Int) : IntKind.u32.wrap n = low n := wrap_u32 n

end W
end Go.Proofs.YtijkbenbjdeocaaDoor
namespace Go.Proofs.YtijkbenbjdeocaaDoor
open Go.RowKit
set_option linter.unusedVariables false
namespace W

theorem or_dbl {hi lo : Int} (h0 : 0 ≤ hi) (h1 : hi < 4294967296) (l0 : 0 ≤ lo) (l1 : lo < 4294967296) : bits .or .u64 (hi * 4294967296) lo = hi * 4294967296 + lo := orDbl h0 h1 l0 l1

theorem mul_bd {x y : Int} (hx : -2147483648 ≤ x ∧ x < 2147483648) (hy : -2147483648 ≤ y ∧ y < 2147483648) : -4611686018427387904 ≤ x * y ∧ x * y ≤ 4611686018427387904 := by
  have h : (x * y).natAbs ≤ 2147483648 * 2147483648 := by rw [Int.natAbs_mul]; exact Nat.mul_le_mul (by omega) (by omega)
  omega

/-- The signed value of a double word. -/
def sgd (hi lo : Int) : Int := wrap64 (hi * 4294967296 + lo)
theorem sgd_bd (hi lo : Int) : -9223372036854775808 ≤ sgd hi lo ∧ sgd hi lo < 9223372036854775808 := by unfold sgd; rw [wrap64_eq]; omega
def dOk (n m : Int) : Bool := m != 0 && inR (n.tdiv m)
def dR (n m : Int) : Int := if dOk n m = true then n.tmod m % 4294967296 else 0
def dQ (n m : Int) : Int := if dOk n m = true then n.tdiv m % 4294967296 else 0
theorem sg_zero {d : Int} (h0 : 0 ≤ d) (h1 : d < 4294967296) : sg d = 0 ↔ d = 0 := by have := sg_cases d; omega
theorem tdiv_bd {n m : Int} (h : -9223372036854775808 < n ∧ n < 9223372036854775808) (hm : m ≠ 0) : -9223372036854775808 < n.tdiv m ∧ n.tdiv m < 9223372036854775808 := by
  have h2 : (n.tdiv m).natAbs ≤ n.natAbs := by rw [Int.natAbs_tdiv]; exact Nat.div_le_self _ _
  omega
theorem tdiv_bd1 {n m : Int} (h : -9223372036854775808 ≤ n ∧ n < 9223372036854775808) (hm : m ≠ 0) (hm1 : m ≠ -1) : -9223372036854775808 ≤ n.tdiv m ∧ n.tdiv m < 9223372036854775808 := by
  by_cases h1 : m = 1
  · subst h1; rw [Int.tdiv_one]; exact h
  · have h2 : (n.tdiv m).natAbs ≤ n.natAbs / 2 := by
      rw [Int.natAbs_tdiv]
      exact Nat.div_le_div_left (by omega) (by decide)
    omega
theorem tdiv_min {m : Int} (hm : -2147483648 ≤ m ∧ m < 2147483648) (h0 : m ≠ 0) : inR ((-9223372036854775808 : Int).tdiv m) = false := by
  have h2 : 4294967296 ≤ ((-9223372036854775808 : Int).tdiv m).natAbs := by
    rw [Int.natAbs_tdiv]
    have : 9223372036854775808 / 2147483648 ≤ 9223372036854775808 / m.natAbs := Nat.div_le_div_left (by omega) (by omega)
    exact this
  unfold inR
  generalize (-9223372036854775808 : Int).tdiv m = q at *
  simp; omega
theorem tmod_bd {n m : Int} (hm : m ≠ 0) : (n.tmod m).natAbs < m.natAbs := by
  rw [Int.natAbs_tmod]; exact Nat.mod_lt _ (by omega)

theorem d_no {n m : Int} (h : dOk n m = false) : dR n m = 0 ∧ dQ n m = 0 := by unfold dR dQ; simp [h]
theorem d_yes {n m : Int} (h : dOk n m = true) : dR n m = n.tmod m % 4294967296 ∧ dQ n m = n.tdiv m % 4294967296 := by unfold dR dQ; simp [h]
theorem ret_div {n m r q : Int} {o : Bool} (h1 : r = dR n m) (h2 : q = dQ n m) (h3 : o = dOk n m) : Ending.returned (.tuple #[.int .u32 r, .int .u32 q, .bool o]) = .returned (.tuple #[.int .u32 (dR (n) (m)), .int .u32 (dQ (n) (m)), .bool (dOk (n) (m))]) := by rw [h1, h2, h3]
theorem w64_bd (n : Int) : -9223372036854775808 ≤ wrap64 n ∧ wrap64 n < 9223372036854775808 := by rw [wrap64_eq]; omega
theorem inR_wq {n m : Int} (hn : -9223372036854775808 ≤ n ∧ n < 9223372036854775808) (hm : m ≠ 0) : inR (wrap64 (n.tdiv m)) = inR (n.tdiv m) := by
  by_cases h : m = -1
  · subst h
    rw [Int.tdiv_neg, Int.tdiv_one, wrap64_eq, Bool.eq_iff_iff]; simp [inR]; omega
  · rw [wrap64_id (tdiv_bd1 hn hm h).1 (tdiv_bd1 hn hm h).2]
theorem tdm (n m : Int) : n - n.tdiv m * m = n.tmod m := by have := Int.tdiv_mul_add_tmod n m; omega
end W
end Go.Proofs.YtijkbenbjdeocaaDoor

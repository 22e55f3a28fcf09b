/- Plain arithmetic of shifts, one place at a time and in closed form. -/
import Derived.Test.YtkbnciekhllcpaaRows
import Derived.WalkKit
import Derived.ProofKit
import Derived.Lib.Hide
import Derived.Test.YtkbnciekhllcpaaWordMath
namespace Go.Proofs.Ytkbnciekhllcpaa
open Go.RowKit
set_option linter.unusedVariables false
namespace W

/-! One place to the left: the sign stays, the numeric bits move. S is 2 to the number of numeric bits. -/
def sgn (S v : Int) : Int := if S ≤ v then S else 0
def stepL (S v : Int) : Int := v * 2 % S + sgn S v
def ovL (S v : Int) : Bool := decide (S ≤ v * 2 % (S + S)) != decide (S ≤ v)
def shv (S : Int) : Nat → Int → Int
  | 0, v => v
  | k + 1, v => stepL S (shv S k v)
def sho (S : Int) : Nat → Int → Bool
  | 0, _ => false
  | k + 1, v => sho S k v || ovL S (shv S k v)
/-- The signed value of a number of 0 up to below 2 S. -/
def sgS (S v : Int) : Int := if v < S then v else v - (S + S)
/-- One place to the right: copies of the sign come in. -/
def stepR (S v : Int) : Int := sgn S v + v / 2
def shr (S : Int) : Nat → Int → Int
  | 0, v => v
  | k + 1, v => stepR S (shr S k v)
theorem shv_add (S : Int) (i k : Nat) (v : Int) : shv S (i + k) v = shv S k (shv S i v) := by
  induction k with
  | zero => rfl
  | succ k ih => rw [← Nat.add_assoc]; simp only [shv, ih]
theorem sho_add (S : Int) (i k : Nat) (v : Int) : sho S (i + k) v = (sho S i v || sho S k (shv S i v)) := by
  induction k with
  | zero => simp [sho]
  | succ k ih => rw [← Nat.add_assoc]; simp only [sho, ih, shv_add, Bool.or_assoc]
theorem shr_add (S : Int) (i k : Nat) (v : Int) : shr S (i + k) v = shr S k (shr S i v) := by
  induction k with
  | zero => rfl
  | succ k ih => rw [← Nat.add_assoc]; simp only [shr, ih]
theorem pow_succ2 (y : Int) (k : Nat) : y * 2 ^ (k + 1) = y * 2 ^ k * 2 := by rw [Int.pow_succ, Int.mul_assoc]

theorem sgn31 (v : Int) : sgn 2147483648 v = 0 ∨ sgn 2147483648 v = 2147483648 := by unfold sgn; split <;> simp
theorem shv31_bd (k : Nat) {v : Int} (h0 : 0 ≤ v) (h1 : v < 4294967296) : 0 ≤ shv 2147483648 k v ∧ shv 2147483648 k v < 4294967296 ∧ ((2147483648 ≤ shv 2147483648 k v) ↔ 2147483648 ≤ v) := by
  induction k with
  | zero => exact ⟨h0, h1, Iff.rfl⟩
  | succ k ih => simp only [shv, stepL, sgn]; split <;> omega
theorem shv31_sgn (k : Nat) {v : Int} (h0 : 0 ≤ v) (h1 : v < 4294967296) : sgn 2147483648 (shv 2147483648 k v) = sgn 2147483648 v := by
  have := (shv31_bd k h0 h1).2.2
  unfold sgn; (repeat' split) <;> omega
theorem shv31_eq (k : Nat) {v : Int} (h0 : 0 ≤ v) (h1 : v < 4294967296) : shv 2147483648 (k + 1) v = v * 2 ^ (k + 1) % 2147483648 + sgn 2147483648 v := by
  induction k with
  | zero => simp only [shv, stepL]; rw [show v * 2 ^ (0 + 1) = v * 2 by rfl]
  | succ k ih =>
    have hs := shv31_sgn (k + 1) h0 h1
    rw [show shv 2147483648 (k + 1 + 1) v = shv 2147483648 (k + 1) v * 2 % 2147483648 + sgn 2147483648 (shv 2147483648 (k + 1) v) from rfl, hs, ih, pow_succ2 v (k + 1)]
    have := sgn31 v
    generalize v * 2 ^ (k + 1) = y at *
    omega
theorem sho31_eq (k : Nat) {v : Int} (h0 : 0 ≤ v) (h1 : v < 4294967296) : (sho 2147483648 k v = false → sgS 2147483648 (shv 2147483648 k v) = sgS 2147483648 v * 2 ^ k ∧ -2147483648 ≤ sgS 2147483648 v * 2 ^ k ∧ sgS 2147483648 v * 2 ^ k < 2147483648) ∧ (sho 2147483648 k v = true → ¬ (-2147483648 ≤ sgS 2147483648 v * 2 ^ k ∧ sgS 2147483648 v * 2 ^ k < 2147483648)) := by
  induction k with
  | zero => simp only [shv, sho, Int.pow_zero, Int.mul_one, sgS]; constructor <;> intro h <;> (try simp at h) <;> (split <;> omega)
  | succ k ih =>
    have hb := shv31_bd k h0 h1
    have hs := shv31_sgn k h0 h1
    rw [pow_succ2]
    simp only [shv, sho, stepL]
    generalize sgS 2147483648 v * 2 ^ k = y at *
    generalize hx : shv 2147483648 k v = x at *
    rw [hs]
    cases ho : sho 2147483648 k v with
    | true =>
      have := ih.2 ho
      constructor
      · intro h; simp at h
      · intro _; omega
    | false =>
      have hi := ih.1 ho
      simp only [sgS, sgn, ovL] at *
      constructor
      · intro h
        simp at h
        (repeat' split at hi) <;> (repeat' split) <;> omega
      · intro h
        simp at h
        (repeat' split at hi) <;> omega
theorem shr31_bd (k : Nat) {v : Int} (h0 : 0 ≤ v) (h1 : v < 4294967296) : 0 ≤ shr 2147483648 k v ∧ shr 2147483648 k v < 4294967296 ∧ ((2147483648 ≤ shr 2147483648 k v) ↔ 2147483648 ≤ v) := by
  induction k with
  | zero => exact ⟨h0, h1, Iff.rfl⟩
  | succ k ih => simp only [shr, stepR, sgn]; split <;> omega
theorem shr31_eq (k : Nat) {v : Int} (h0 : 0 ≤ v) (h1 : v < 4294967296) : shr 2147483648 k v = sgS 2147483648 v / 2 ^ k % 4294967296 ∧ sgS 2147483648 (shr 2147483648 k v) = sgS 2147483648 v / 2 ^ k := by
  induction k with
  | zero => simp only [shr, Int.pow_zero, Int.ediv_one]; refine ⟨?_, trivial⟩; unfold sgS; split <;> omega
  | succ k ih =>
    have hb := shr31_bd k h0 h1
    have e : sgS 2147483648 v / 2 ^ (k + 1) = sgS 2147483648 v / 2 ^ k / 2 := by rw [Int.pow_succ, Int.ediv_ediv_of_nonneg (Int.le_of_lt (Int.pow_pos (by decide)))]
    rw [e]
    simp only [shr, stepR]
    generalize sgS 2147483648 v / 2 ^ k = y at *
    generalize shr 2147483648 k v = x at *
    simp only [sgS, sgn] at *
    (repeat' split at ih) <;> (repeat' split) <;> omega

theorem sgn63 (v : Int) : sgn 9223372036854775808 v = 0 ∨ sgn 9223372036854775808 v = 9223372036854775808 := by unfold sgn; split <;> simp
theorem shv63_bd (k : Nat) {v : Int} (h0 : 0 ≤ v) (h1 : v < 18446744073709551616) : 0 ≤ shv 9223372036854775808 k v ∧ shv 9223372036854775808 k v < 18446744073709551616 ∧ ((9223372036854775808 ≤ shv 9223372036854775808 k v) ↔ 9223372036854775808 ≤ v) := by
  induction k with
  | zero => exact ⟨h0, h1, Iff.rfl⟩
  | succ k ih => simp only [shv, stepL, sgn]; split <;> omega
theorem shv63_sgn (k : Nat) {v : Int} (h0 : 0 ≤ v) (h1 : v < 18446744073709551616) : sgn 9223372036854775808 (shv 9223372036854775808 k v) = sgn 9223372036854775808 v := by
  have := (shv63_bd k h0 h1).2.2
  unfold sgn; (repeat' split) <;> omega
theorem shv63_eq (k : Nat) {v : Int} (h0 : 0 ≤ v) (h1 : v < 18446744073709551616) : shv 9223372036854775808 (k + 1) v = v * 2 ^ (k + 1) % 9223372036854775808 + sgn 9223372036854775808 v := by
  induction k with
  | zero => simp only [shv, stepL]; rw [show v * 2 ^ (0 + 1) = v * 2 by rfl]
  | succ k ih =>
    have hs := shv63_sgn (k + 1) h0 h1
    rw [show shv 9223372036854775808 (k + 1 + 1) v = shv 9223372036854775808 (k + 1) v * 2 % 9223372036854775808 + sgn 9223372036854775808 (shv 9223372036854775808 (k + 1) v) from rfl, hs, ih, pow_succ2 v (k + 1)]
    have := sgn63 v
    generalize v * 2 ^ (k + 1) = y at *
    omega
theorem sho63_eq (k : Nat) {v : Int} (h0 : 0 ≤ v) (h1 : v < 18446744073709551616) : (sho 9223372036854775808 k v = false → sgS 9223372036854775808 (shv 9223372036854775808 k v) = sgS 9223372036854775808 v * 2 ^ k ∧ -9223372036854775808 ≤ sgS 9223372036854775808 v * 2 ^ k ∧ sgS 9223372036854775808 v * 2 ^ k < 9223372036854775808) ∧ (sho 9223372036854775808 k v = true → ¬ (-9223372036854775808 ≤ sgS 9223372036854775808 v * 2 ^ k ∧ sgS 9223372036854775808 v * 2 ^ k < 9223372036854775808)) := by
  induction k with
  | zero => simp only [shv, sho, Int.pow_zero, Int.mul_one, sgS]; constructor <;> intro h <;> (try simp at h) <;> (split <;> omega)
  | succ k ih =>
    have hb := shv63_bd k h0 h1
    have hs := shv63_sgn k h0 h1
    rw [pow_succ2]
    simp only [shv, sho, stepL]
    generalize sgS 9223372036854775808 v * 2 ^ k = y at *
    generalize hx : shv 9223372036854775808 k v = x at *
    rw [hs]
    cases ho : sho 9223372036854775808 k v with
    | true =>
      have := ih.2 ho
      constructor
      · intro h; simp at h
      · intro _; omega
    | false =>
      have hi := ih.1 ho
      simp only [sgS, sgn, ovL] at *
      constructor
      · intro h
        simp at h
        (repeat' split at hi) <;> (repeat' split) <;> omega
      · intro h
        simp at h
        (repeat' split at hi) <;> omega
theorem shr63_bd (k : Nat) {v : Int} (h0 : 0 ≤ v) (h1 : v < 18446744073709551616) : 0 ≤ shr 9223372036854775808 k v ∧ shr 9223372036854775808 k v < 18446744073709551616 ∧ ((9223372036854775808 ≤ shr 9223372036854775808 k v) ↔ 9223372036854775808 ≤ v) := by
  induction k with
  | zero => exact ⟨h0, h1, Iff.rfl⟩
  | succ k ih => simp only [shr, stepR, sgn]; split <;> omega
theorem shr63_eq (k : Nat) {v : Int} (h0 : 0 ≤ v) (h1 : v < 18446744073709551616) : shr 9223372036854775808 k v = sgS 9223372036854775808 v / 2 ^ k % 18446744073709551616 ∧ sgS 9223372036854775808 (shr 9223372036854775808 k v) = sgS 9223372036854775808 v / 2 ^ k := by
  induction k with
  | zero => simp only [shr, Int.pow_zero, Int.ediv_one]; refine ⟨?_, trivial⟩; unfold sgS; split <;> omega
  | succ k ih =>
    have hb := shr63_bd k h0 h1
    have e : sgS 9223372036854775808 v / 2 ^ (k + 1) = sgS 9223372036854775808 v / 2 ^ k / 2 := by rw [Int.pow_succ, Int.ediv_ediv_of_nonneg (Int.le_of_lt (Int.pow_pos (by decide)))]
    rw [e]
    simp only [shr, stepR]
    generalize sgS 9223372036854775808 v / 2 ^ k = y at *
    generalize shr 9223372036854775808 k v = x at *
    simp only [sgS, sgn] at *
    (repeat' split at ih) <;> (repeat' split) <;> omega

end W
end Go.Proofs.Ytkbnciekhllcpaa

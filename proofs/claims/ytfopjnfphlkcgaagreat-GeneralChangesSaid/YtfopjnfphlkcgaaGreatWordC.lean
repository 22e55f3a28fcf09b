/- Words: shifts. -/
import Derived.Test.YtfopjnfphlkcgaaGreatRows
import Derived.Test.YtfopjnfphlkcgaaGreatWordA
namespace Go.Proofs.YtfopjnfphlkcgaaGreat
open Go.RowKit
set_option linter.unusedVariables false
namespace W

/-! One place to the left: the sign stays, the numeric bits move. S is 2 to the number of numeric bits. -/
def sgn (S v : Int) : Int := if S ≤ v then S else 0
def stepL (S v : Int) : Int := v * 2 % S + sgn S v
def ovL (S v : Int) : Bool := decide (S ≤ v * 2 % (S + S)) != decide (S ≤ v)
def shv (S : Int) : Nat → Int → Int
  | 0, v => v
  | k + 1, v => stepL S (shv S k v)
def sho (S : Int) : Nat → Int → Bool
  | 0, _ => false
  | k + 1, v => sho S k v || ovL S (shv S k v)
/-- The signed value of a number of 0 up to below 2 S. -/
def sgS (S v : Int) : Int := if v < S then v else v - (S + S)
/-- One place to the right: copies of the sign come in. -/
def stepR (S v : Int) : Int := sgn S v + v / 2
def shr (S : Int) : Nat → Int → Int
  | 0, v => v
  | k + 1, v => stepR S (shr S k v)
theorem sgn31 (v : Int) : sgn 2147483648 v = 0 ∨ sgn 2147483648 v = 2147483648 := by unfold sgn; split <;> simp
theorem shv31_bd (k : Nat) {v : Int} (h0 : 0 ≤ v) (h1 : v < 4294967296) : 0 ≤ shv 2147483648 k v ∧ shv 2147483648 k v < 4294967296 ∧ ((2147483648 ≤ shv 2147483648 k v) ↔ 2147483648 ≤ v) := by
  induction k with
  | zero => exact ⟨h0, h1, Iff.rfl⟩
  | succ k ih => simp only [shv, stepL, sgn]; split <;> omega
theorem shv31_sgn (k : Nat) {v : Int} (h0 : 0 ≤ v) (h1 : v < 4294967296) : sgn 2147483648 (shv 2147483648 k v) = sgn 2147483648 v := by
  have := (shv31_bd k h0 h1).2.2
  unfold sgn; (repeat' split) <;> omega
theorem shr31_bd (k : Nat) {v : Int} (h0 : 0 ≤ v) (h1 : v < 4294967296) : 0 ≤ shr 2147483648 k v ∧ shr 2147483648 k v < 4294967296 ∧ ((2147483648 ≤ shr 2147483648 k v) ↔ 2147483648 ≤ v) := by
  induction k with
  | zero => exact ⟨h0, h1, Iff.rfl⟩
  | succ k ih => simp only [shr, stepR, sgn]; split <;> omega
theorem shr31_eq (k : Nat) {v : Int} (h0 : 0 ≤ v) (h1 : v < 4294967296) : shr 2147483648 k v = sgS 2147483648 v / 2 ^ k % 4294967296 ∧ sgS 2147483648 (shr 2147483648 k v) = sgS 2147483648 v / 2 ^ k := by
  induction k with
  | zero => simp only [shr, Int.pow_zero, Int.ediv_one]; refine ⟨?_, trivial⟩; unfold sgS; split <;> omega
  | succ k ih =>
    have hb := shr31_bd k h0 h1
    have e : sgS 2147483648 v / 2 ^ (k + 1) = sgS 2147483648 v / 2 ^ k / 2 := by rw [Int.pow_succ, Int.ediv_ediv_of_nonneg (Int.le_of_lt (Int.pow_pos (by decide)))]
    rw [e]
    simp only [shr, stepR]
    generalize sgS 2147483648 v / 2 ^ k = y at *
    generalize shr 2147483648 k v = x at *
    simp only [sgS, sgn] at *
    (repeat' split at ih) <;> (repeat' split) <;> omega

theorem sgn63 (v : Int) : sgn 9223372036854775808 v = 0 ∨ sgn 9223372036854775808 v = 9223372036854775808 := by unfold sgn; split <;> simp
theorem shv63_bd (k : Nat) {v : Int} (h0 : 0 ≤ v) (h1 : v < 18446744073709551616) : 0 ≤ shv 9223372036854775808 k v ∧ shv 9223372036854775808 k v < 18446744073709551616 ∧ ((9223372036854775808 ≤ shv 9223372036854775808 k v) ↔ 9223372036854775808 ≤ v) := by
  induction k with
  | zero => exact ⟨h0, h1, Iff.rfl⟩
  | succ k ih => simp only [shv, stepL, sgn]; split <;> omega
theorem shv63_sgn (k : Nat) {v : Int} (h0 : 0 ≤ v) (h1 : v < 18446744073709551616) : sgn 9223372036854775808 (shv 9223372036854775808 k v) = sgn 9223372036854775808 v := by
  have := (shv63_bd k h0 h1).2.2
  unfold sgn; (repeat' split) <;> omega
theorem shr63_bd (k : Nat) {v : Int} (h0 : 0 ≤ v) (h1 : v < 18446744073709551616) : 0 ≤ shr 9223372036854775808 k v ∧ shr 9223372036854775808 k v < 18446744073709551616 ∧ ((9223372036854775808 ≤ shr 9223372036854775808 k v) ↔ 9223372036854775808 ≤ v) := by
  induction k with
  | zero => exact ⟨h0, h1, Iff.rfl⟩
  | succ k ih => simp only [shr, stepR, sgn]; split <;> omega
theorem shr63_eq (k : Nat) {v : Int} (h0 : 0 ≤ v) (h1 : v < 18446744073709551616) : shr 9223372036854775808 k v = sgS 9223372036854775808 v / 2 ^ k % 18446744073709551616 ∧ sgS 9223372036854775808 (shr 9223372036854775808 k v) = sgS 9223372036854775808 v / 2 ^ k := by
  induction k with
  | zero => simp only [shr, Int.pow_zero, Int.ediv_one]; refine ⟨?_, trivial⟩; unfold sgS; split <;> omega
  | succ k ih =>
    have hb := shr63_bd k h0 h1
    have e : sgS 9223372036854775808 v / 2 ^ (k + 1) = sgS 9223372036854775808 v / 2 ^ k / 2 := by rw [Int.pow_succ, Int.ediv_ediv_of_nonneg (Int.le_of_lt (Int.pow_pos (by decide)))]
    rw [e]
    simp only [shr, stepR]
    generalize sgS 9223372036854775808 v / 2 ^ k = y at *
    generalize shr 9223372036854775808 k v = x at *
    simp only [sgS, sgn] at *
    (repeat' split at ih) <;> (repeat' split) <;> omega

end W
end Go.Proofs.YtfopjnfphlkcgaaGreat
namespace Go.Proofs.YtfopjnfphlkcgaaGreat
open Go.RowKit
set_option linter.unusedVariables false
namespace W

theorem places_any (n : Int) (h0 : -9223372036854775808 ≤ n) (h1 : n < 9223372036854775808) (w : World) :
    Calls Tryz.prog 207 #[.int .i64 n] w fun e w' => e = .returned (.int .u64 (n % 64)) ∧ w = w' := by
  go_enter Tryz.func207, Tryz.ntmps207
  go_wp2
  go_ret
  exact ⟨ret_int (by first | rfl | (rw [wrap_u64, places63]; omega) | (rw [places63]; omega)), rfl⟩

theorem step31 {v x : Int} (h0 : 0 ≤ v) (h1 : v < 4294967296) (hs : sgn 2147483648 v = x) : bits .or .u32 (bits .andNot .u32 (v * 2 % 4294967296) 2147483648) x = stepL 2147483648 v := by
  rw [andNot31 (by omega) (by omega)]
  have := sgn31 v
  subst hs
  rw [or31 (by omega) (by omega) this]
  unfold stepL; omega
theorem kept31 {v : Int} (h0 : 0 ≤ v) (h1 : v < 4294967296) : bits .and .u32 v 2147483648 = sgn 2147483648 v := by
  rw [and31 h0 h1]; unfold sgn; (repeat' split) <;> omega
theorem over31 {v : Int} (h0 : 0 ≤ v) (h1 : v < 4294967296) : (bits .and .u32 (v * 2 % 4294967296) 2147483648 != sgn 2147483648 v) = ovL 2147483648 v := by
  rw [kept31 (by omega) (by omega), Bool.eq_iff_iff]
  unfold ovL sgn
  simp only [bne_iff_ne, ne_eq, decide_eq_decide]
  (repeat' split) <;> omega
theorem shiftLeft32_any (v : Int) (n : Nat) (h0 : 0 ≤ v) (h1 : v < 4294967296) (hn : n < 64) (w : World) :
    Calls Tryz.prog 206 #[.int .u32 v, .int .u32 2147483648, .int .u64 n] w fun e w' => e = .returned (.tuple #[.int .u32 (shv 2147483648 n v), .bool (sho 2147483648 n v)]) ∧ w = w' := by
  have hk := kept31 h0 h1
  go_enter Tryz.func206, Tryz.ntmps206
  go_wp2
  have HK := Lib.hid hk; clear hk
  go_loop [0, 7, 13] (fun x o i => ∃ k : Nat, k ≤ n ∧ i = .int .u64 k ∧ x = .int .u32 (shv 2147483648 k v) ∧ o = .bool (sho 2147483648 k v)) (fun _ _ i => n - (intOf i).toNat)
  case atStart => exact ⟨0, Nat.zero_le _, rfl, rfl, rfl⟩
  case round =>
    obtain ⟨k, hk, rfl, rfl, rfl⟩ := hrel
    by_cases hlt : k < n
    · have hb := shv31_bd k h0 h1
      have hb0 := hb.1
      have hb1 := hb.2.1
      have hsg := shv31_sgn k h0 h1
      have hst := step31 hb.1 hb.2.1 hsg
      have hov := over31 hb.1 hb.2.1
      rw [hsg] at hov
      have ex1 : shv 2147483648 (k + 1) v = stepL 2147483648 (shv 2147483648 k v) := rfl
      have ex2 : sho 2147483648 (k + 1) v = (sho 2147483648 k v || ovL 2147483648 (shv 2147483648 k v)) := rfl
      have HST := Lib.hid hst
      have HX1 := Lib.hid ex1
      have HX2 := Lib.hid ex2
      clear hb hsg hst ex1 ex2
      rcases Bool.eq_false_or_eq_true (ovL 2147483648 (shv 2147483648 k v)) with ho | ho
      · rw [ho] at hov
        have HO := Lib.hid ho
        clear ho
        go_wp2
        go_round
        case rel => exact ⟨k + 1, by omega, by go_num, by rw [HX1.out, ← HST.out], by rw [HX2.out, HO.out, Bool.or_true]⟩
        case measure => simp [intOf]; omega
      · rw [ho] at hov
        have HO := Lib.hid ho
        clear ho
        go_wp2
        go_round
        case rel => exact ⟨k + 1, by omega, by go_num, by rw [HX1.out, ← HST.out], by rw [HX2.out, HO.out, Bool.or_false]⟩
        case measure => simp [intOf]; omega
    · obtain rfl : k = n := by omega
      go_wp2
      go_ret2
      exact ⟨rfl, rfl⟩

theorem step63 {v x : Int} (h0 : 0 ≤ v) (h1 : v < 18446744073709551616) (hs : sgn 9223372036854775808 v = x) : bits .or .u64 (bits .andNot .u64 (IntKind.u64.wrap (v * 2)) 9223372036854775808) x = stepL 9223372036854775808 v := by
  rw [wrap_u64]
  rw [andNot63 (by omega) (by omega)]
  have := sgn63 v
  subst hs
  rw [or63 (by omega) (by omega) this]
  unfold stepL; omega
theorem kept63 {v : Int} (h0 : 0 ≤ v) (h1 : v < 18446744073709551616) : bits .and .u64 v 9223372036854775808 = sgn 9223372036854775808 v := by
  rw [and63 h0 h1]; unfold sgn; (repeat' split) <;> omega
theorem over63 {v : Int} (h0 : 0 ≤ v) (h1 : v < 18446744073709551616) : (bits .and .u64 (IntKind.u64.wrap (v * 2)) 9223372036854775808 != sgn 9223372036854775808 v) = ovL 9223372036854775808 v := by
  rw [wrap_u64]
  rw [kept63 (by omega) (by omega), Bool.eq_iff_iff]
  unfold ovL sgn
  simp only [bne_iff_ne, ne_eq, decide_eq_decide]
  (repeat' split) <;> omega
theorem shiftLeft64_any (v : Int) (n : Nat) (h0 : 0 ≤ v) (h1 : v < 18446744073709551616) (hn : n < 64) (w : World) :
    Calls Tryz.prog 209 #[.int .u64 v, .int .u64 9223372036854775808, .int .u64 n] w fun e w' => e = .returned (.tuple #[.int .u64 (shv 9223372036854775808 n v), .bool (sho 9223372036854775808 n v)]) ∧ w = w' := by
  have hk := kept63 h0 h1
  go_enter Tryz.func209, Tryz.ntmps209
  go_wp2
  have HK := Lib.hid hk; clear hk
  go_loop [0, 7, 13] (fun x o i => ∃ k : Nat, k ≤ n ∧ i = .int .u64 k ∧ x = .int .u64 (shv 9223372036854775808 k v) ∧ o = .bool (sho 9223372036854775808 k v)) (fun _ _ i => n - (intOf i).toNat)
  case atStart => exact ⟨0, Nat.zero_le _, rfl, rfl, rfl⟩
  case round =>
    obtain ⟨k, hk, rfl, rfl, rfl⟩ := hrel
    by_cases hlt : k < n
    · have hb := shv63_bd k h0 h1
      have hb0 := hb.1
      have hb1 := hb.2.1
      have hsg := shv63_sgn k h0 h1
      have hst := step63 hb.1 hb.2.1 hsg
      have hov := over63 hb.1 hb.2.1
      rw [hsg] at hov
      have ex1 : shv 9223372036854775808 (k + 1) v = stepL 9223372036854775808 (shv 9223372036854775808 k v) := rfl
      have ex2 : sho 9223372036854775808 (k + 1) v = (sho 9223372036854775808 k v || ovL 9223372036854775808 (shv 9223372036854775808 k v)) := rfl
      have HST := Lib.hid hst
      have HX1 := Lib.hid ex1
      have HX2 := Lib.hid ex2
      clear hb hsg hst ex1 ex2
      rcases Bool.eq_false_or_eq_true (ovL 9223372036854775808 (shv 9223372036854775808 k v)) with ho | ho
      · rw [ho] at hov
        have HO := Lib.hid ho
        clear ho
        go_wp2
        go_round
        case rel => exact ⟨k + 1, by omega, by go_num, by rw [HX1.out, ← HST.out], by rw [HX2.out, HO.out, Bool.or_true]⟩
        case measure => simp [intOf]; omega
      · rw [ho] at hov
        have HO := Lib.hid ho
        clear ho
        go_wp2
        go_round
        case rel => exact ⟨k + 1, by omega, by go_num, by rw [HX1.out, ← HST.out], by rw [HX2.out, HO.out, Bool.or_false]⟩
        case measure => simp [intOf]; omega
    · obtain rfl : k = n := by omega
      go_wp2
      go_ret2
      exact ⟨rfl, rfl⟩

def sl32cc (p : Nat) (v : Int) : Int := if sho 2147483648 p v = true then 3 else ord (sg (shv 2147483648 p v)) 0
def sl64cc (p : Nat) (v : Int) : Int := if sho 9223372036854775808 p v = true then 3 else ord (wrap64 (shv 9223372036854775808 p v)) 0
def pl (n : Int) : Nat := (n % 64).toNat
theorem pl_eq (n : Int) : ((pl n : Nat) : Int) = n % 64 := by unfold pl; omega
theorem pl_lt (n : Int) : pl n < 64 := by unfold pl; omega
theorem places2 (n : Int) (h0 : -9223372036854775808 ≤ n) (h1 : n < 9223372036854775808) (w : World) :
    Calls Tryz.prog 207 #[.int .i64 n] w fun e w' => e = .returned (.int .u64 (pl n)) ∧ w = w' :=
  (places_any n h0 h1 w).mono fun e w' ⟨he, hw⟩ => ⟨by rw [he, pl_eq], hw⟩
theorem testDouble_any (v : Int) (w : World) :
    Calls Tryz.prog 210 #[.int .u64 v] w fun e w' => e = .returned (.int .i64 (ord (wrap64 v) 0)) ∧ w = w' := by
  go_enter Tryz.func210, Tryz.ntmps210
  go_wp2_with fail
  refine (order_i64_any _ _ _).mono ?_
  rintro e w' ⟨rfl, rfl⟩
  go_wp2
  go_ret
  exact ⟨rfl, rfl⟩

theorem wShiftLeft_any (v n : Int) (v0 : 0 ≤ v) (v1 : v < 4294967296) (h0 : -9223372036854775808 ≤ n) (h1 : n < 9223372036854775808) (w : World) :
    Calls Tryz.prog 144 #[.int .u32 v, .int .i64 n] w fun e w' => e = .returned (.tuple #[.int .u32 (shv 2147483648 (pl n) v), .int .i64 (sl32cc (pl n) v), .bool (sho 2147483648 (pl n) v)]) ∧ w = w' := by
  have hp := pl_lt n
  have hb := shv31_bd (pl n) v0 v1
  rcases Bool.eq_false_or_eq_true (sho 2147483648 (pl n) v) with ho | ho
  · rw [show sl32cc (pl n) v = 3 by simp [sl32cc, ho], ho]
    go_enter Tryz.func144, Tryz.ntmps144
    go_wp2_with fail
    refine (places2 _ h0 h1 _).mono ?_
    rintro e w' ⟨rfl, rfl⟩
    go_wp2_with fail
    refine (shiftLeft32_any _ _ v0 v1 hp _).mono ?_
    rintro e w' ⟨rfl, rfl⟩
    go_wp2
    go_ret3
    exact ⟨rfl, rfl⟩
  · rw [show sl32cc (pl n) v = ord (sg (shv 2147483648 (pl n) v)) 0 by simp [sl32cc, ho], ho]
    go_enter Tryz.func144, Tryz.ntmps144
    go_wp2_with fail
    refine (places2 _ h0 h1 _).mono ?_
    rintro e w' ⟨rfl, rfl⟩
    go_wp2_with fail
    refine (shiftLeft32_any _ _ v0 v1 hp _).mono ?_
    rintro e w' ⟨rfl, rfl⟩
    go_wp2_with fail
    refine (test_any _ hb.1 hb.2.1 _).mono ?_
    rintro e w' ⟨rfl, rfl⟩
    go_wp2
    go_ret3
    exact ⟨rfl, rfl⟩

/-- A right shift by min n 32 places. -/
theorem sr32 {v : Int} (v0 : 0 ≤ v) (v1 : v < 4294967296) (p : Nat) (hp : p < 64) : sg v / 2 ^ min p 32 = sg v / 2 ^ p := by
  by_cases h : p ≤ 32
  · rw [Nat.min_eq_left h]
  · rw [Nat.min_eq_right (by omega)]
    have hs := sg_bd v0 v1
    have e : (2 : Int) ^ p = 2 ^ 32 * 2 ^ (p - 32) := by rw [← Int.pow_add]; congr 1; omega
    rw [e, ← Int.ediv_ediv_of_nonneg (by decide)]
    have h1 : (0 : Int) < 2 ^ (p - 32) := Int.pow_pos (by decide)
    have h2 : sg v / 2 ^ 32 = 0 ∨ sg v / 2 ^ 32 = -1 := by omega
    rcases h2 with h2 | h2
    · rw [h2]; simp
    · rw [h2]; exact (Int.ediv_eq_neg_one_of_neg_of_le (by decide) (by omega)).symm

theorem sr_eq {v : Int} (v0 : 0 ≤ v) (v1 : v < 4294967296) (n : Int) : wrap32 v / 2 ^ min (pl n) 32 % 4294967296 = shr 2147483648 (pl n) v := by
  rw [(shr31_eq (pl n) v0 v1).1, wrap32_sg v0 v1, sr32 v0 v1 _ (pl_lt n)]; rfl
theorem sr_eq64 {v : Int} (v0 : 0 ≤ v) (v1 : v < 18446744073709551616) (p : Nat) : IntKind.u64.wrap (wrap64 v / 2 ^ p) = shr 9223372036854775808 p v := by
  rw [(shr63_eq p v0 v1).1, wrap_u64]
  congr 2
  unfold sgS; rw [wrap64_eq]; split <;> omega
/-- The result of a logical shift of a number below D. -/
def slg (D : Int) (l : Bool) (p : Nat) (v : Int) : Int := if l = true then v * 2 ^ p % D else v / 2 ^ p
theorem sl_min (v : Int) (p : Nat) : v * 2 ^ min p 32 % 4294967296 = v * 2 ^ p % 4294967296 := by
  by_cases h : p ≤ 32
  · rw [Nat.min_eq_left h]
  · rw [Nat.min_eq_right (by omega)]
    have e : (2 : Int) ^ p = 2 ^ (p - 32) * 2 ^ 32 := by rw [← Int.pow_add]; congr 1; omega
    rw [e, ← Int.mul_assoc]
    generalize v * 2 ^ (p - 32) = y
    omega
theorem sr_min {v : Int} (v0 : 0 ≤ v) (v1 : v < 4294967296) (p : Nat) : v / 2 ^ min p 32 = v / 2 ^ p := by
  by_cases h : p ≤ 32
  · rw [Nat.min_eq_left h]
  · rw [Nat.min_eq_right (by omega)]
    have e : (2 : Int) ^ p = 2 ^ 32 * 2 ^ (p - 32) := by rw [← Int.pow_add]; congr 1; omega
    rw [e, ← Int.ediv_ediv_of_nonneg (by decide), show v / 2 ^ 32 = 0 by omega, Int.zero_ediv]
theorem slg_bd {D v : Int} (l : Bool) (p : Nat) (h0 : 0 ≤ v) (h1 : v < D) : 0 ≤ slg D l p v ∧ slg D l p v < D := by
  unfold slg
  split
  · exact ⟨Int.emod_nonneg _ (by omega), Int.emod_lt_of_pos _ (by omega)⟩
  · exact ⟨Int.ediv_nonneg h0 (Int.le_of_lt (Int.pow_pos (by decide))), Int.lt_of_le_of_lt (Int.ediv_le_self _ h0) h1⟩
theorem wShiftRight_any (v n : Int) (v0 : 0 ≤ v) (v1 : v < 4294967296) (h0 : -9223372036854775808 ≤ n) (h1 : n < 9223372036854775808) (w : World) :
    Calls Tryz.prog 145 #[.int .u32 v, .int .i64 n] w fun e w' => e = .returned (.tuple #[.int .u32 (shr 2147483648 (pl n) v), .int .i64 (ord (sg (shr 2147483648 (pl n) v)) 0)]) ∧ w = w' := by
  have hp := pl_lt n
  have hb := shr31_bd (pl n) v0 v1
  have hb0 := hb.1
  have hb1 := hb.2.1
  clear hb
  go_enter Tryz.func145, Tryz.ntmps145
  go_wp2_with fail
  refine (places2 _ h0 h1 _).mono ?_
  rintro e w' ⟨rfl, rfl⟩
  go_wp2_with fail
  rw [sr_eq v0 v1]
  refine (test_any _ hb0 hb1 _).mono ?_
  rintro e w' ⟨rfl, rfl⟩
  go_wp2
  go_ret2
  exact ⟨rfl, rfl⟩

theorem shiftLogical32_any (v : Int) (n : Nat) (l : Bool) (h0 : 0 ≤ v) (h1 : v < 4294967296) (hn : n < 64) (w : World) :
    Calls Tryz.prog 208 #[.int .u32 v, .int .u64 n, .bool l] w fun e w' => e = .returned (.int .u32 (slg 4294967296 l n v)) ∧ w = w' := by
  cases l
  · go_enter Tryz.func208, Tryz.ntmps208
    go_wp2
    go_ret
    exact ⟨ret_int (sr_min h0 h1 n), rfl⟩
  · go_enter Tryz.func208, Tryz.ntmps208
    go_wp2
    go_ret
    exact ⟨ret_int (sl_min v n), rfl⟩

theorem shiftLogical64_any (v : Int) (n : Nat) (l : Bool) (h0 : 0 ≤ v) (h1 : v < 18446744073709551616) (hn : n < 64) (w : World) :
    Calls Tryz.prog 212 #[.int .u64 v, .int .u64 n, .bool l] w fun e w' => e = .returned (.int .u64 (slg 18446744073709551616 l n v)) ∧ w = w' := by
  cases l
  · go_enter Tryz.func212, Tryz.ntmps212
    go_wp2
    go_ret
    exact ⟨ret_int (rfl), rfl⟩
  · go_enter Tryz.func212, Tryz.ntmps212
    go_wp2
    go_ret
    exact ⟨ret_int (wrap_u64 _), rfl⟩

theorem wShiftLogical_any (v n : Int) (l : Bool) (v0 : 0 ≤ v) (v1 : v < 4294967296) (h0 : -9223372036854775808 ≤ n) (h1 : n < 9223372036854775808) (w : World) :
    Calls Tryz.prog 146 #[.int .u32 v, .int .i64 n, .bool l] w fun e w' => e = .returned (.int .u32 (slg 4294967296 l (pl n) v)) ∧ w = w' := by
  have hp := pl_lt n
  go_enter Tryz.func146, Tryz.ntmps146
  go_wp2_with fail
  refine (places2 _ h0 h1 _).mono ?_
  rintro e w' ⟨rfl, rfl⟩
  go_wp2_with fail
  refine (shiftLogical32_any _ _ _ v0 v1 hp _).mono ?_
  rintro e w' ⟨rfl, rfl⟩
  go_wp2
  go_ret
  exact ⟨rfl, rfl⟩

theorem wShiftLogicalDouble_any (hi lo n : Int) (l : Bool) (a0 : 0 ≤ hi) (a1 : hi < 4294967296) (b0 : 0 ≤ lo) (b1 : lo < 4294967296) (h0 : -9223372036854775808 ≤ n) (h1 : n < 9223372036854775808) (w : World) :
    Calls Tryz.prog 150 #[.int .u32 hi, .int .u32 lo, .int .i64 n, .bool l] w fun e w' => e = .returned (.tuple #[.int .u32 (slg 18446744073709551616 l (pl n) (hi * 4294967296 + lo) / 4294967296), .int .u32 (slg 18446744073709551616 l (pl n) (hi * 4294967296 + lo) % 4294967296)]) ∧ w = w' := by
  have hp := pl_lt n
  have hd0 : 0 ≤ hi * 4294967296 + lo := by omega
  have hd1 : hi * 4294967296 + lo < 18446744073709551616 := by omega
  have hb := slg_bd l (pl n) hd0 hd1
  have hb0 := hb.1
  have hb1 := hb.2
  clear hb
  go_enter Tryz.func150, Tryz.ntmps150
  go_wp2_with fail
  refine (double_any _ _ a0 a1 b0 b1 _).mono ?_
  rintro e w' ⟨rfl, rfl⟩
  go_wp2_with fail
  refine (places2 _ h0 h1 _).mono ?_
  rintro e w' ⟨rfl, rfl⟩
  go_wp2_with fail
  refine (shiftLogical64_any _ _ _ hd0 hd1 hp _).mono ?_
  rintro e w' ⟨rfl, rfl⟩
  go_wp2_with fail
  refine (split_any _ hb0 hb1 _).mono ?_
  rintro e w' ⟨rfl, rfl⟩
  go_wp2
  go_ret2
  exact ⟨rfl, rfl⟩

theorem wShiftRightDouble_any (hi lo n : Int) (a0 : 0 ≤ hi) (a1 : hi < 4294967296) (b0 : 0 ≤ lo) (b1 : lo < 4294967296) (h0 : -9223372036854775808 ≤ n) (h1 : n < 9223372036854775808) (w : World) :
    Calls Tryz.prog 149 #[.int .u32 hi, .int .u32 lo, .int .i64 n] w fun e w' => e = .returned (.tuple #[.int .u32 (shr 9223372036854775808 (pl n) (hi * 4294967296 + lo) / 4294967296), .int .u32 (shr 9223372036854775808 (pl n) (hi * 4294967296 + lo) % 4294967296), .int .i64 (ord (wrap64 (shr 9223372036854775808 (pl n) (hi * 4294967296 + lo))) 0)]) ∧ w = w' := by
  have hp := pl_lt n
  have hd0 : 0 ≤ hi * 4294967296 + lo := by omega
  have hd1 : hi * 4294967296 + lo < 18446744073709551616 := by omega
  have hb := shr63_bd (pl n) hd0 hd1
  have hb0 := hb.1
  have hb1 := hb.2.1
  clear hb
  go_enter Tryz.func149, Tryz.ntmps149
  go_wp2_with fail
  refine (double_any _ _ a0 a1 b0 b1 _).mono ?_
  rintro e w' ⟨rfl, rfl⟩
  go_wp2_with fail
  refine (places2 _ h0 h1 _).mono ?_
  rintro e w' ⟨rfl, rfl⟩
  go_wp2_with fail

  rw [sr_eq64 hd0 hd1]
  refine (split_any _ hb0 hb1 _).mono ?_
  rintro e w' ⟨rfl, rfl⟩
  go_wp2_with fail
  refine (testDouble_any _ _).mono ?_
  rintro e w' ⟨rfl, rfl⟩
  go_wp2
  go_ret3
  exact ⟨rfl, rfl⟩

/-- The end of a function that hands four of its slots back. -/
theorem fourOut (t u v x : Tmp) {P : Program} {fn : Func} {Q : Ending → World → Prop} {act : Act} {w : World} (hf : fn.results = #[.tmp t, .tmp u, .tmp v, .tmp x]) (hd : act.defers = [])
    (h : Q (.returned (.tuple #[act.tmps.getD t undef, act.tmps.getD u undef, act.tmps.getD v undef, act.tmps.getD x undef])) w) : bodyPost P fn Q .ret act w :=
  bodyPost_ret (by simp [results, hf]) hd h
theorem wShiftLeftDouble_any (hi lo n : Int) (a0 : 0 ≤ hi) (a1 : hi < 4294967296) (b0 : 0 ≤ lo) (b1 : lo < 4294967296) (h0 : -9223372036854775808 ≤ n) (h1 : n < 9223372036854775808) (w : World) :
    Calls Tryz.prog 147 #[.int .u32 hi, .int .u32 lo, .int .i64 n] w fun e w' => e = .returned (.tuple #[.int .u32 (shv 9223372036854775808 (pl n) (hi * 4294967296 + lo) / 4294967296), .int .u32 (shv 9223372036854775808 (pl n) (hi * 4294967296 + lo) % 4294967296), .int .i64 (sl64cc (pl n) (hi * 4294967296 + lo)), .bool (sho 9223372036854775808 (pl n) (hi * 4294967296 + lo))]) ∧ w = w' := by
  have hp := pl_lt n
  have hd0 : 0 ≤ hi * 4294967296 + lo := by omega
  have hd1 : hi * 4294967296 + lo < 18446744073709551616 := by omega
  have hb := shv63_bd (pl n) hd0 hd1
  have hb0 := hb.1
  have hb1 := hb.2.1
  clear hb
  rcases Bool.eq_false_or_eq_true (sho 9223372036854775808 (pl n) (hi * 4294967296 + lo)) with ho | ho
  · rw [show sl64cc (pl n) (hi * 4294967296 + lo) = 3 by simp [sl64cc, ho], ho]
    go_enter Tryz.func147, Tryz.ntmps147
    go_wp2_with fail
    refine (double_any _ _ a0 a1 b0 b1 _).mono ?_
    rintro e w' ⟨rfl, rfl⟩
    go_wp2_with fail
    refine (places2 _ h0 h1 _).mono ?_
    rintro e w' ⟨rfl, rfl⟩
    go_wp2_with fail
    refine (shiftLeft64_any _ _ hd0 hd1 hp _).mono ?_
    rintro e w' ⟨rfl, rfl⟩
    go_wp2_with fail
    refine (split_any _ hb0 hb1 _).mono ?_
    rintro e w' ⟨rfl, rfl⟩
    go_wp2
    refine fourOut _ _ _ _ rfl rfl ?_
    exact ⟨rfl, rfl⟩
  · rw [show sl64cc (pl n) (hi * 4294967296 + lo) = ord (wrap64 (shv 9223372036854775808 (pl n) (hi * 4294967296 + lo))) 0 by simp [sl64cc, ho], ho]
    go_enter Tryz.func147, Tryz.ntmps147
    go_wp2_with fail
    refine (double_any _ _ a0 a1 b0 b1 _).mono ?_
    rintro e w' ⟨rfl, rfl⟩
    go_wp2_with fail
    refine (places2 _ h0 h1 _).mono ?_
    rintro e w' ⟨rfl, rfl⟩
    go_wp2_with fail
    refine (shiftLeft64_any _ _ hd0 hd1 hp _).mono ?_
    rintro e w' ⟨rfl, rfl⟩
    go_wp2_with fail
    refine (testDouble_any _ _).mono ?_
    rintro e w' ⟨rfl, rfl⟩
    go_wp2_with fail
    refine (split_any _ hb0 hb1 _).mono ?_
    rintro e w' ⟨rfl, rfl⟩
    go_wp2
    refine fourOut _ _ _ _ rfl rfl ?_
    exact ⟨rfl, rfl⟩

end W
end Go.Proofs.YtfopjnfphlkcgaaGreat
namespace Go.Proofs.YtfopjnfphlkcgaaGreat
open Go.RowKit
set_option linter.unusedVariables false
namespace W

end W
end Go.Proofs.YtfopjnfphlkcgaaGreat

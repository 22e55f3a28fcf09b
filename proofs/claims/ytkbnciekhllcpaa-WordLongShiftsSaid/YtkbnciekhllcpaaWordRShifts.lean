/- Contracts of the shifts of the specification of package word. -/
import Derived.Test.YtkbnciekhllcpaaRows
import Derived.WalkKit
import Derived.ProofKit
import Derived.Lib.Hide
import Derived.Test.YtkbnciekhllcpaaWordShifts
namespace Go.Proofs.Ytkbnciekhllcpaa
open Go.RowKit
set_option linter.unusedVariables false
namespace W

theorem tmod64 (x m : Int) : (x % 18446744073709551616).tmod m = (x % 18446744073709551616) % m := Int.tmod_eq_emod_of_nonneg (Int.emod_nonneg _ (by decide))

theorem rPlaces_any (n : Int) (h0 : -9223372036854775808 ≤ n) (h1 : n < 9223372036854775808) (w : World) :
    Calls Try.prog 88 #[.int .i64 n] w fun e w' => e = .returned (.int .i64 (pl n)) ∧ w = w' := by
  by_cases hn : 0 ≤ n
  · go_enter Try.func88, Try.ntmps88
    go_wp2
    all_goals
      go_ret
      exact ⟨ret_int (by have := pl_eq n; omega), rfl⟩
  · have ht : n.tmod 64 = -((-n) % 64) := by rw [← Int.neg_neg n, Int.neg_tmod, Int.tmod_eq_emod_of_nonneg (by omega)]; omega
    by_cases hz : (-n) % 64 = 0
    · rw [hz] at ht
      have hf : (pl n : Int) = 0 := by rw [pl_eq]; omega
      clear hz
      have HF := Lib.hid hf; clear hf
      go_enter Try.func88, Try.ntmps88
      go_wp2
      go_ret
      exact ⟨ret_int (by rw [HF.out]), rfl⟩
    · have hlt : n.tmod 64 < 0 := by omega
      have hge : -64 < n.tmod 64 := by omega
      have hf : (pl n : Int) = n.tmod 64 + 64 := by rw [pl_eq]; omega
      have HF := Lib.hid hf; clear hf ht hz
      go_enter Try.func88, Try.ntmps88
      go_wp2
      go_ret
      exact ⟨ret_int HF.out.symm, rfl⟩

theorem sign31 {v : Int} (h0 : 0 ≤ v) (h1 : v < 4294967296) : bits .and .u64 (v / 2147483648) 1 * 2147483648 = sgn 2147483648 v ∧ 0 ≤ bits .and .u64 (v / 2147483648) 1 ∧ bits .and .u64 (v / 2147483648) 1 ≤ 1 := by
  rw [andOne rfl (by omega) (by omega)]; unfold sgn; split <;> omega
theorem rover31 {v s : Int} (h0 : 0 ≤ v) (h1 : v < 4294967296) (hs : s * 2147483648 = sgn 2147483648 v) : (bits .and .u64 (v / 1073741824) 1 != s) = ovL 2147483648 v := by
  rw [andOne rfl (by omega) (by omega), Bool.eq_iff_iff]
  unfold sgn at hs
  unfold ovL
  simp only [bne_iff_ne, ne_eq, decide_eq_decide]
  split at hs <;> omega
theorem rleft32_any (v : Int) (n : Nat) (h0 : 0 ≤ v) (h1 : v < 4294967296) (hn : n < 64) (w : World) :
    Calls Try.prog 87 #[.int .u64 v, .int .i64 32, .int .i64 n] w fun e w' => e = .returned (.tuple #[.int .u64 (shv 2147483648 n v), .bool (sho 2147483648 n v)]) ∧ w = w' := by
  obtain ⟨hs1, hs2, hs3⟩ := sign31 h0 h1
  obtain ⟨s, hs⟩ : ∃ s, bits .and .u64 (v / 2147483648) 1 = s := ⟨_, rfl⟩
  rw [hs] at hs1 hs2 hs3
  have HS := Lib.hid hs1; clear hs1
  go_enter Try.func87, Try.ntmps87
  go_wp2
  have HS0 := Lib.hid hs; clear hs
  go_loop [0, 10, 11] (fun x o i => ∃ k : Nat, k ≤ n ∧ i = .int .i64 k ∧ x = .int .u64 (shv 2147483648 k v) ∧ o = .bool (sho 2147483648 k v)) (fun _ _ i => n - (intOf i).toNat)
  case atStart => exact ⟨0, Nat.zero_le _, rfl, rfl, rfl⟩
  case round =>
    obtain ⟨k, hk, rfl, rfl, rfl⟩ := hrel
    by_cases hlt : k < n
    · have hb := shv31_bd k h0 h1
      have hb0 := hb.1
      have hb1 := hb.2.1
      have hsg := shv31_sgn k h0 h1
      rw [← HS.out] at hsg
      have hov := rover31 hb.1 hb.2.1 hsg.symm
      have ex1 : shv 2147483648 (k + 1) v = stepL 2147483648 (shv 2147483648 k v) := rfl
      have ex2 : sho 2147483648 (k + 1) v = (sho 2147483648 k v || ovL 2147483648 (shv 2147483648 k v)) := rfl
      have HSG := Lib.hid hsg
      have HX1 := Lib.hid ex1
      have HX2 := Lib.hid ex2
      clear hb hsg ex1 ex2
      rcases Bool.eq_false_or_eq_true (ovL 2147483648 (shv 2147483648 k v)) with ho | ho
      · rw [ho] at hov
        have HO := Lib.hid ho
        clear ho
        go_wp2
        go_round
        case rel => exact ⟨k + 1, by omega, by go_num, by rw [HX1.out]; unfold stepL; rw [HSG.out]; congr 1; (try omega), by rw [HX2.out, HO.out, Bool.or_true]⟩
        case measure => simp [intOf]; omega
      · rw [ho] at hov
        have HO := Lib.hid ho
        clear ho
        go_wp2
        go_round
        case rel => exact ⟨k + 1, by omega, by go_num, by rw [HX1.out]; unfold stepL; rw [HSG.out]; congr 1; (try omega), by rw [HX2.out, HO.out, Bool.or_false]⟩
        case measure => simp [intOf]; omega
    · obtain rfl : k = n := by omega
      go_wp2
      go_ret2
      exact ⟨rfl, rfl⟩

theorem sign63 {v : Int} (h0 : 0 ≤ v) (h1 : v < 18446744073709551616) : bits .and .u64 (v / 9223372036854775808) 1 * 9223372036854775808 = sgn 9223372036854775808 v ∧ 0 ≤ bits .and .u64 (v / 9223372036854775808) 1 ∧ bits .and .u64 (v / 9223372036854775808) 1 ≤ 1 := by
  rw [andOne rfl (by omega) (by omega)]; unfold sgn; split <;> omega
theorem rover63 {v s : Int} (h0 : 0 ≤ v) (h1 : v < 18446744073709551616) (hs : s * 9223372036854775808 = sgn 9223372036854775808 v) : (bits .and .u64 (v / 4611686018427387904) 1 != s) = ovL 9223372036854775808 v := by
  rw [andOne rfl (by omega) (by omega), Bool.eq_iff_iff]
  unfold sgn at hs
  unfold ovL
  simp only [bne_iff_ne, ne_eq, decide_eq_decide]
  split at hs <;> omega
theorem rleft64_any (v : Int) (n : Nat) (h0 : 0 ≤ v) (h1 : v < 18446744073709551616) (hn : n < 64) (w : World) :
    Calls Try.prog 87 #[.int .u64 v, .int .i64 64, .int .i64 n] w fun e w' => e = .returned (.tuple #[.int .u64 (shv 9223372036854775808 n v), .bool (sho 9223372036854775808 n v)]) ∧ w = w' := by
  obtain ⟨hs1, hs2, hs3⟩ := sign63 h0 h1
  obtain ⟨s, hs⟩ : ∃ s, bits .and .u64 (v / 9223372036854775808) 1 = s := ⟨_, rfl⟩
  rw [hs] at hs1 hs2 hs3
  have HS := Lib.hid hs1; clear hs1
  go_enter Try.func87, Try.ntmps87
  go_wp2
  have HS0 := Lib.hid hs; clear hs
  go_loop [0, 10, 11] (fun x o i => ∃ k : Nat, k ≤ n ∧ i = .int .i64 k ∧ x = .int .u64 (shv 9223372036854775808 k v) ∧ o = .bool (sho 9223372036854775808 k v)) (fun _ _ i => n - (intOf i).toNat)
  case atStart => exact ⟨0, Nat.zero_le _, rfl, rfl, rfl⟩
  case round =>
    obtain ⟨k, hk, rfl, rfl, rfl⟩ := hrel
    by_cases hlt : k < n
    · have hb := shv63_bd k h0 h1
      have hb0 := hb.1
      have hb1 := hb.2.1
      have hsg := shv63_sgn k h0 h1
      rw [← HS.out] at hsg
      have hov := rover63 hb.1 hb.2.1 hsg.symm
      have ex1 : shv 9223372036854775808 (k + 1) v = stepL 9223372036854775808 (shv 9223372036854775808 k v) := rfl
      have ex2 : sho 9223372036854775808 (k + 1) v = (sho 9223372036854775808 k v || ovL 9223372036854775808 (shv 9223372036854775808 k v)) := rfl
      have HSG := Lib.hid hsg
      have HX1 := Lib.hid ex1
      have HX2 := Lib.hid ex2
      clear hb hsg ex1 ex2
      rcases Bool.eq_false_or_eq_true (ovL 9223372036854775808 (shv 9223372036854775808 k v)) with ho | ho
      · rw [ho] at hov
        have HO := Lib.hid ho
        clear ho
        go_wp2
        go_round
        case rel => exact ⟨k + 1, by omega, by go_num, by rw [HX1.out]; unfold stepL; rw [HSG.out]; congr 1; (try simp only [wrap_u64, tmod64]); omega, by rw [HX2.out, HO.out, Bool.or_true]⟩
        case measure => simp [intOf]; omega
      · rw [ho] at hov
        have HO := Lib.hid ho
        clear ho
        go_wp2
        go_round
        case rel => exact ⟨k + 1, by omega, by go_num, by rw [HX1.out]; unfold stepL; rw [HSG.out]; congr 1; (try simp only [wrap_u64, tmod64]); omega, by rw [HX2.out, HO.out, Bool.or_false]⟩
        case measure => simp [intOf]; omega
    · obtain rfl : k = n := by omega
      go_wp2
      go_ret2
      exact ⟨rfl, rfl⟩

theorem rright32_any (v : Int) (n : Nat) (h0 : 0 ≤ v) (h1 : v < 4294967296) (hn : n < 64) (w : World) :
    Calls Try.prog 89 #[.int .u64 v, .int .i64 32, .int .i64 n] w fun e w' => e = .returned (.int .u64 (shr 2147483648 n v)) ∧ w = w' := by
  obtain ⟨hs1, hs2, hs3⟩ := sign31 h0 h1
  obtain ⟨s, hs⟩ : ∃ s, bits .and .u64 (v / 2147483648) 1 = s := ⟨_, rfl⟩
  rw [hs] at hs1 hs2 hs3
  have HS := Lib.hid hs1; clear hs1
  go_enter Try.func89, Try.ntmps89
  go_wp2
  have HS0 := Lib.hid hs; clear hs
  go_loop [0, 9] (fun x i => ∃ k : Nat, k ≤ n ∧ i = .int .i64 k ∧ x = .int .u64 (shr 2147483648 k v)) (fun _ i => n - (intOf i).toNat)
  case atStart => exact ⟨0, Nat.zero_le _, rfl, rfl⟩
  case round =>
    obtain ⟨k, hk, rfl, rfl⟩ := hrel
    by_cases hlt : k < n
    · have hb := shr31_bd k h0 h1
      have hb0 := hb.1
      have hb1 := hb.2.1
      have hsg : sgn 2147483648 (shr 2147483648 k v) = sgn 2147483648 v := by have := hb.2.2; unfold sgn; (repeat' split) <;> omega
      rw [← HS.out] at hsg
      have ex1 : shr 2147483648 (k + 1) v = stepR 2147483648 (shr 2147483648 k v) := rfl
      have HSG := Lib.hid hsg
      have HX1 := Lib.hid ex1
      clear hb hsg ex1
      go_wp2
      go_round
      case rel => exact ⟨k + 1, by omega, by go_num, by rw [HX1.out]; unfold stepR; rw [HSG.out]⟩
      case measure => simp [intOf]; omega
    · obtain rfl : k = n := by omega
      go_wp2
      go_ret
      exact ⟨rfl, rfl⟩

theorem rright64_any (v : Int) (n : Nat) (h0 : 0 ≤ v) (h1 : v < 18446744073709551616) (hn : n < 64) (w : World) :
    Calls Try.prog 89 #[.int .u64 v, .int .i64 64, .int .i64 n] w fun e w' => e = .returned (.int .u64 (shr 9223372036854775808 n v)) ∧ w = w' := by
  obtain ⟨hs1, hs2, hs3⟩ := sign63 h0 h1
  obtain ⟨s, hs⟩ : ∃ s, bits .and .u64 (v / 9223372036854775808) 1 = s := ⟨_, rfl⟩
  rw [hs] at hs1 hs2 hs3
  have HS := Lib.hid hs1; clear hs1
  go_enter Try.func89, Try.ntmps89
  go_wp2
  have HS0 := Lib.hid hs; clear hs
  go_loop [0, 9] (fun x i => ∃ k : Nat, k ≤ n ∧ i = .int .i64 k ∧ x = .int .u64 (shr 9223372036854775808 k v)) (fun _ i => n - (intOf i).toNat)
  case atStart => exact ⟨0, Nat.zero_le _, rfl, rfl⟩
  case round =>
    obtain ⟨k, hk, rfl, rfl⟩ := hrel
    by_cases hlt : k < n
    · have hb := shr63_bd k h0 h1
      have hb0 := hb.1
      have hb1 := hb.2.1
      have hsg : sgn 9223372036854775808 (shr 9223372036854775808 k v) = sgn 9223372036854775808 v := by have := hb.2.2; unfold sgn; (repeat' split) <;> omega
      rw [← HS.out] at hsg
      have ex1 : shr 9223372036854775808 (k + 1) v = stepR 9223372036854775808 (shr 9223372036854775808 k v) := rfl
      have HSG := Lib.hid hsg
      have HX1 := Lib.hid ex1
      clear hb hsg ex1
      go_wp2
      go_round
      case rel => exact ⟨k + 1, by omega, by go_num, by rw [HX1.out]; unfold stepR; rw [HSG.out]⟩
      case measure => simp [intOf]; omega
    · obtain rfl : k = n := by omega
      go_wp2
      go_ret
      exact ⟨rfl, rfl⟩

theorem rShiftLeft_any (v n : Int) (v0 : 0 ≤ v) (v1 : v < 4294967296) (h0 : -9223372036854775808 ≤ n) (h1 : n < 9223372036854775808) (w : World) :
    Calls Try.prog 51 #[.int .u32 v, .int .i64 n] w fun e w' => e = .returned (.tuple #[.int .u32 (shv 2147483648 (pl n) v), .int .i64 (sl32cc (pl n) v), .bool (sho 2147483648 (pl n) v)]) ∧ w = w' := by
  have hp := pl_lt n
  have hb := shv31_bd (pl n) v0 v1
  have hb0 := hb.1
  have hb1 := hb.2.1
  clear hb
  rcases Bool.eq_false_or_eq_true (sho 2147483648 (pl n) v) with ho | ho
  · rw [show sl32cc (pl n) v = 3 by simp [sl32cc, ho], ho]
    go_enter Try.func51, Try.ntmps51
    go_wp2_with fail
    refine (rPlaces_any _ h0 h1 _).mono ?_
    rintro e w' ⟨rfl, rfl⟩
    go_wp2_with fail
    refine (rleft32_any _ _ v0 v1 hp _).mono ?_
    rintro e w' ⟨rfl, rfl⟩
    go_wp2
    go_ret3
    exact ⟨rfl, rfl⟩
  · rw [show sl32cc (pl n) v = ord (sg (shv 2147483648 (pl n) v)) 0 by simp [sl32cc, ho], ho]
    go_enter Try.func51, Try.ntmps51
    go_wp2_with fail
    refine (rPlaces_any _ h0 h1 _).mono ?_
    rintro e w' ⟨rfl, rfl⟩
    go_wp2_with fail
    refine (rleft32_any _ _ v0 v1 hp _).mono ?_
    rintro e w' ⟨rfl, rfl⟩
    go_wp2_with fail
    refine (rTest_any _ hb0 hb1 _).mono ?_
    rintro e w' ⟨rfl, rfl⟩
    go_wp2
    go_ret3
    exact ⟨rfl, rfl⟩

theorem rShiftRight_any (v n : Int) (v0 : 0 ≤ v) (v1 : v < 4294967296) (h0 : -9223372036854775808 ≤ n) (h1 : n < 9223372036854775808) (w : World) :
    Calls Try.prog 53 #[.int .u32 v, .int .i64 n] w fun e w' => e = .returned (.tuple #[.int .u32 (shr 2147483648 (pl n) v), .int .i64 (ord (sg (shr 2147483648 (pl n) v)) 0)]) ∧ w = w' := by
  have hp := pl_lt n
  have hb := shr31_bd (pl n) v0 v1
  have hb0 := hb.1
  have hb1 := hb.2.1
  clear hb
  go_enter Try.func53, Try.ntmps53
  go_wp2_with fail
  refine (rPlaces_any _ h0 h1 _).mono ?_
  rintro e w' ⟨rfl, rfl⟩
  go_wp2_with fail
  refine (rright32_any _ _ v0 v1 hp _).mono ?_
  rintro e w' ⟨rfl, rfl⟩
  go_wp2_with fail
  refine (rTest_any _ hb0 hb1 _).mono ?_
  rintro e w' ⟨rfl, rfl⟩
  go_wp2
  go_ret2
  exact ⟨rfl, rfl⟩

theorem rtest_any (v : Int) (h0 : 0 ≤ v) (h1 : v < 18446744073709551616) (w : World) :
    Calls Try.prog 93 #[.int .u64 v] w fun e w' => e = .returned (.int .i64 (ord (wrap64 v) 0)) ∧ w = w' := by
  have hw : wrap64 v = if v < 9223372036854775808 then v else v - 18446744073709551616 := by rw [wrap64_eq]; split <;> omega
  have HW := Lib.hid hw; clear hw
  go_enter Try.func93, Try.ntmps93
  go_wp2
  all_goals
    go_ret
    exact ⟨ret_int (by rw [HW.out]; simp only [beq_iff_eq, beq_eq_false_iff_ne] at *; unfold ord; (repeat' split) <;> omega), rfl⟩

theorem rShiftRightDouble_any (hi lo n : Int) (a0 : 0 ≤ hi) (a1 : hi < 4294967296) (b0 : 0 ≤ lo) (b1 : lo < 4294967296) (h0 : -9223372036854775808 ≤ n) (h1 : n < 9223372036854775808) (w : World) :
    Calls Try.prog 59 #[.int .u32 hi, .int .u32 lo, .int .i64 n] w fun e w' => e = .returned (.tuple #[.int .u32 (shr 9223372036854775808 (pl n) (hi * 4294967296 + lo) / 4294967296), .int .u32 (shr 9223372036854775808 (pl n) (hi * 4294967296 + lo) % 4294967296), .int .i64 (ord (wrap64 (shr 9223372036854775808 (pl n) (hi * 4294967296 + lo))) 0)]) ∧ w = w' := by
  have hp := pl_lt n
  have hd0 : 0 ≤ hi * 4294967296 + lo := by omega
  have hd1 : hi * 4294967296 + lo < 18446744073709551616 := by omega
  have hb := shr63_bd (pl n) hd0 hd1
  have hb0 := hb.1
  have hb1 := hb.2.1
  clear hb
  go_enter Try.func59, Try.ntmps59
  go_wp2_with fail
  refine (rlong_any _ _ a0 a1 b0 b1 _).mono ?_
  rintro e w' ⟨rfl, rfl⟩
  go_wp2_with fail
  refine (rPlaces_any _ h0 h1 _).mono ?_
  rintro e w' ⟨rfl, rfl⟩
  go_wp2_with fail
  refine (rright64_any _ _ hd0 hd1 hp _).mono ?_
  rintro e w' ⟨rfl, rfl⟩
  go_wp2_with fail
  refine (rwords_any _ hb0 hb1 _).mono ?_
  rintro e w' ⟨rfl, rfl⟩
  go_wp2_with fail
  refine (rtest_any _ hb0 hb1 _).mono ?_
  rintro e w' ⟨rfl, rfl⟩
  go_wp2
  go_ret3
  exact ⟨rfl, rfl⟩

theorem rShiftLeftDouble_any (hi lo n : Int) (a0 : 0 ≤ hi) (a1 : hi < 4294967296) (b0 : 0 ≤ lo) (b1 : lo < 4294967296) (h0 : -9223372036854775808 ≤ n) (h1 : n < 9223372036854775808) (w : World) :
    Calls Try.prog 57 #[.int .u32 hi, .int .u32 lo, .int .i64 n] w fun e w' => e = .returned (.tuple #[.int .u32 (shv 9223372036854775808 (pl n) (hi * 4294967296 + lo) / 4294967296), .int .u32 (shv 9223372036854775808 (pl n) (hi * 4294967296 + lo) % 4294967296), .int .i64 (sl64cc (pl n) (hi * 4294967296 + lo)), .bool (sho 9223372036854775808 (pl n) (hi * 4294967296 + lo))]) ∧ w = w' := by
  have hp := pl_lt n
  have hd0 : 0 ≤ hi * 4294967296 + lo := by omega
  have hd1 : hi * 4294967296 + lo < 18446744073709551616 := by omega
  have hb := shv63_bd (pl n) hd0 hd1
  have hb0 := hb.1
  have hb1 := hb.2.1
  clear hb
  rcases Bool.eq_false_or_eq_true (sho 9223372036854775808 (pl n) (hi * 4294967296 + lo)) with ho | ho
  · rw [show sl64cc (pl n) (hi * 4294967296 + lo) = 3 by simp [sl64cc, ho], ho]
    go_enter Try.func57, Try.ntmps57
    go_wp2_with fail
    refine (rlong_any _ _ a0 a1 b0 b1 _).mono ?_
    rintro e w' ⟨rfl, rfl⟩
    go_wp2_with fail
    refine (rPlaces_any _ h0 h1 _).mono ?_
    rintro e w' ⟨rfl, rfl⟩
    go_wp2_with fail
    refine (rleft64_any _ _ hd0 hd1 hp _).mono ?_
    rintro e w' ⟨rfl, rfl⟩
    go_wp2_with fail
    refine (rtest_any _ hb0 hb1 _).mono ?_
    rintro e w' ⟨rfl, rfl⟩
    go_wp2_with fail
    refine (rwords_any _ hb0 hb1 _).mono ?_
    rintro e w' ⟨rfl, rfl⟩
    go_wp2
    refine fourOut _ _ _ _ rfl rfl ?_
    exact ⟨rfl, rfl⟩
  · rw [show sl64cc (pl n) (hi * 4294967296 + lo) = ord (wrap64 (shv 9223372036854775808 (pl n) (hi * 4294967296 + lo))) 0 by simp [sl64cc, ho], ho]
    go_enter Try.func57, Try.ntmps57
    go_wp2_with fail
    refine (rlong_any _ _ a0 a1 b0 b1 _).mono ?_
    rintro e w' ⟨rfl, rfl⟩
    go_wp2_with fail
    refine (rPlaces_any _ h0 h1 _).mono ?_
    rintro e w' ⟨rfl, rfl⟩
    go_wp2_with fail
    refine (rleft64_any _ _ hd0 hd1 hp _).mono ?_
    rintro e w' ⟨rfl, rfl⟩
    go_wp2_with fail
    refine (rtest_any _ hb0 hb1 _).mono ?_
    rintro e w' ⟨rfl, rfl⟩
    go_wp2_with fail
    refine (rwords_any _ hb0 hb1 _).mono ?_
    rintro e w' ⟨rfl, rfl⟩
    go_wp2
    refine fourOut _ _ _ _ rfl rfl ?_
    exact ⟨rfl, rfl⟩

theorem slg_step {D : Int} (l : Bool) (p : Nat) (v : Int) (hD : 0 < D) (h0 : 0 ≤ v) : slg D l (p + 1) v = if l = true then slg D l p v * 2 % D else slg D l p v / 2 := by
  cases l
  · simp only [slg]
    simp only [Bool.false_eq_true, if_false]
    rw [Int.pow_succ, Int.ediv_ediv_of_nonneg (Int.le_of_lt (Int.pow_pos (by decide)))]
  · simp only [slg, if_true]
    rw [Int.pow_succ, ← Int.mul_assoc, Int.mul_emod (v * 2 ^ p % D) 2 D, Int.emod_emod, ← Int.mul_emod]

theorem rShiftLogical_any (v n : Int) (l : Bool) (v0 : 0 ≤ v) (v1 : v < 4294967296) (h0 : -9223372036854775808 ≤ n) (h1 : n < 9223372036854775808) (w : World) :
    Calls Try.prog 55 #[.int .u32 v, .int .i64 n, .bool l] w fun e w' => e = .returned (.int .u32 (slg 4294967296 l (pl n) v)) ∧ w = w' := by
  have hp := pl_lt n
  go_enter Try.func55, Try.ntmps55
  go_wp2
  go_loop [0, 7] (fun x i => ∃ k : Nat, k ≤ pl n ∧ i = .int .i64 k ∧ x = .int .u32 (slg 4294967296 l k v)) (fun _ i => pl n - (intOf i).toNat)
  case atStart => exact ⟨0, Nat.zero_le _, rfl, by cases l <;> simp only [slg, Int.pow_zero, Int.mul_one, Int.ediv_one, if_true, Bool.false_eq_true, if_false]; congr 1; omega⟩
  case round =>
    obtain ⟨k, hk, rfl, rfl⟩ := hrel
    by_cases hlt : k < pl n
    · have hb := slg_bd l k v0 v1
      have hb0 := hb.1
      have hb1 := hb.2
      have hst := slg_step (D := 4294967296) l k v (by decide) v0
      have HST := Lib.hid hst
      clear hb hst
      cases l
      · go_wp2_with fail
        refine (rPlaces_any _ h0 h1 _).mono ?_
        rintro e w' ⟨rfl, rfl⟩
        go_wp2
        go_round
        case rel => exact ⟨k + 1, by omega, by go_num, by rw [HST.out]; rfl⟩
        case measure => simp [intOf]; omega
      · go_wp2_with fail
        refine (rPlaces_any _ h0 h1 _).mono ?_
        rintro e w' ⟨rfl, rfl⟩
        go_wp2
        go_round
        case rel => exact ⟨k + 1, by omega, by go_num, by rw [HST.out]; rfl⟩
        case measure => simp [intOf]; omega
    · obtain rfl : k = pl n := by omega
      go_wp2_with fail
      refine (rPlaces_any _ h0 h1 _).mono ?_
      rintro e w' ⟨rfl, rfl⟩
      go_wp2
      go_ret
      exact ⟨rfl, rfl⟩

theorem rShiftLogicalDouble_any (hi lo n : Int) (l : Bool) (a0 : 0 ≤ hi) (a1 : hi < 4294967296) (b0 : 0 ≤ lo) (b1 : lo < 4294967296) (h0 : -9223372036854775808 ≤ n) (h1 : n < 9223372036854775808) (w : World) :
    Calls Try.prog 61 #[.int .u32 hi, .int .u32 lo, .int .i64 n, .bool l] w fun e w' => e = .returned (.tuple #[.int .u32 (slg 18446744073709551616 l (pl n) (hi * 4294967296 + lo) / 4294967296), .int .u32 (slg 18446744073709551616 l (pl n) (hi * 4294967296 + lo) % 4294967296)]) ∧ w = w' := by
  have hp := pl_lt n
  have hd0 : 0 ≤ hi * 4294967296 + lo := by omega
  have hd1 : hi * 4294967296 + lo < 18446744073709551616 := by omega
  go_enter Try.func61, Try.ntmps61
  go_wp2_with fail
  refine (rlong_any _ _ a0 a1 b0 b1 _).mono ?_
  rintro e w' ⟨rfl, rfl⟩
  go_wp2
  go_loop [10, 11] (fun x i => ∃ k : Nat, k ≤ pl n ∧ i = .int .i64 k ∧ x = .int .u64 (slg 18446744073709551616 l k (hi * 4294967296 + lo))) (fun _ i => pl n - (intOf i).toNat)
  case atStart => exact ⟨0, Nat.zero_le _, rfl, by cases l <;> simp only [slg, Int.pow_zero, Int.mul_one, Int.ediv_one, if_true, Bool.false_eq_true, if_false]; congr 1; omega⟩
  case round =>
    obtain ⟨k, hk, rfl, rfl⟩ := hrel
    have hb := slg_bd l k hd0 hd1
    have hb0 := hb.1
    have hb1 := hb.2
    by_cases hlt : k < pl n
    · have hst := slg_step (D := 18446744073709551616) l k (hi * 4294967296 + lo) (by decide) hd0
      have HST := Lib.hid hst
      clear hb hst
      cases l
      · go_wp2_with fail
        refine (rPlaces_any _ h0 h1 _).mono ?_
        rintro e w' ⟨rfl, rfl⟩
        go_wp2
        go_round
        case rel => exact ⟨k + 1, by omega, by go_num, by rw [HST.out]; rfl⟩
        case measure => simp [intOf]; omega
      · go_wp2_with fail
        refine (rPlaces_any _ h0 h1 _).mono ?_
        rintro e w' ⟨rfl, rfl⟩
        go_wp2
        go_round
        case rel => exact ⟨k + 1, by omega, by go_num, by rw [HST.out, wrap_u64]; rfl⟩
        case measure => simp [intOf]; omega
    · obtain rfl : k = pl n := by omega
      clear hb
      go_wp2_with fail
      refine (rPlaces_any _ h0 h1 _).mono ?_
      rintro e w' ⟨rfl, rfl⟩
      go_wp2_with fail
      refine (rwords_any _ hb0 hb1 _).mono ?_
      rintro e w' ⟨rfl, rfl⟩
      go_wp2
      go_ret2
      exact ⟨rfl, rfl⟩

end W
end Go.Proofs.Ytkbnciekhllcpaa

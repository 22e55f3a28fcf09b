/- The statement WordLongMultiplies, case by case. -/
import Derived.Test.YtkbnciekhllcpaaRows
import Derived.WalkKit
import Derived.ProofKit
import Derived.Lib.Hide
import Derived.Test.YtkbnciekhllcpaaWordLaws
namespace Go.Proofs.Ytkbnciekhllcpaa
open Go.RowKit
set_option linter.unusedVariables false
namespace W

set_option maxRecDepth 100000 in
theorem qA0 (hi lo n : Int) (p : Nat) (h0 : 0 ≤ hi) (h1 : hi < 4294967296) (l0 : 0 ≤ lo) (l1 : lo < 4294967296) (hP : n.tmod 64 = p) (hp64 : p < 64)
    (a b c d t f g h V U : Int) (a0 : 0 ≤ a) (a1 : a < 4294967296) (b0 : 0 ≤ b) (b1 : b < 4294967296) (c0 : 0 ≤ c) (c1 : c < 4294967296) (d0 : 0 ≤ d) (d1 : d < 4294967296)
    (e0 : 0 ≤ t) (e1 : t < 4294967296) (f0 : 0 ≤ f) (f1 : f < 4294967296) (g0 : 0 ≤ g) (g1 : g < 4294967296) (k0 : 0 ≤ h) (k1 : h < 4294967296) (u0 : 0 ≤ U) (u1 : U < 18446744073709551616) (v0 : -9223372036854775808 ≤ V) (v1 : V < 9223372036854775808)
    (hV : sgd hi lo = V) (hU : IntKind.u64.wrap V = U)
    (HA : Hid (∀ w : World, Calls Try.prog 56 #[.int .u32 hi, .int .u32 lo, .int .i64 n] w fun e w' => e = .returned (.tuple #[.int .u32 a, .int .u32 b, .int .i64 (ord (sgd a b) 0), .bool false]) ∧ w = w'))
    (HB : Hid (∀ w : World, Calls Try.prog 58 #[.int .u32 hi, .int .u32 lo, .int .i64 n] w fun e w' => e = .returned (.tuple #[.int .u32 c, .int .u32 d, .int .i64 (ord (V / 2 ^ p) 0)]) ∧ w = w'))
    (HC : Hid (∀ w : World, Calls Try.prog 60 #[.int .u32 hi, .int .u32 lo, .int .i64 n, .bool true] w fun e w' => e = .returned (.tuple #[.int .u32 t, .int .u32 f]) ∧ w = w'))
    (HD : Hid (∀ w : World, Calls Try.prog 60 #[.int .u32 hi, .int .u32 lo, .int .i64 n, .bool false] w fun e w' => e = .returned (.tuple #[.int .u32 g, .int .u32 h]) ∧ w = w'))
    (s0 : sgd c d = V / 2 ^ p) (s1 : sgd t f = wrap64 (V * 2 ^ p)) (s2 : IntKind.u64.wrap (sgd g h) = U / 2 ^ p) (s3 : (wrap64 (V * 2 ^ p) / 2 ^ p == V) = true)
    (s4 : bits .or .u64 (U / 9223372036854775808 * 9223372036854775808) (bits .and .u64 (IntKind.u64.wrap (U * 2 ^ p)) 9223372036854775807) = IntKind.u64.wrap (sgd a b)) (w : World) :
    Calls Try.prog 15 #[.int .u32 hi, .int .u32 lo, .int .i64 n] w fun e w' => e = .returned (.bool true) ∧ Grown w w' := by
  go_enter Try.func15, Try.ntmps15
  go_wp2_with (first | (go_at_call 64; refine (llong_any _ _ (by omega) (by omega) (by omega) (by omega) _).mono ?_; rintro e w' ⟨rfl, rfl⟩))
  refine (HA.out _).mono ?_
  rintro e w' ⟨rfl, rfl⟩
  go_wp2_with fail
  refine (HB.out _).mono ?_
  rintro e w' ⟨rfl, rfl⟩
  go_wp2_with fail
  refine (HC.out _).mono ?_
  rintro e w' ⟨rfl, rfl⟩
  go_wp2_with fail
  refine (HD.out _).mono ?_
  rintro e w' ⟨rfl, rfl⟩
  go_wp2_with (first | (go_at_call 64; refine (llong_any _ _ (by omega) (by omega) (by omega) (by omega) _).mono ?_; rintro e w' ⟨rfl, rfl⟩) | (go_at_call 63; refine (lcode_any _ _).mono ?_; rintro e w' ⟨rfl, rfl⟩) | (go_at_call 18; refine (works_any _).mono ?_; rintro e w' ⟨rfl, hg, hb⟩; clear hb))

  go_ret
  exact ⟨rfl, hg⟩

set_option maxRecDepth 100000 in
theorem qA1 (hi lo n : Int) (p : Nat) (h0 : 0 ≤ hi) (h1 : hi < 4294967296) (l0 : 0 ≤ lo) (l1 : lo < 4294967296) (hP : n.tmod 64 = p) (hp64 : p < 64)
    (a b c d t f g h V U : Int) (a0 : 0 ≤ a) (a1 : a < 4294967296) (b0 : 0 ≤ b) (b1 : b < 4294967296) (c0 : 0 ≤ c) (c1 : c < 4294967296) (d0 : 0 ≤ d) (d1 : d < 4294967296)
    (e0 : 0 ≤ t) (e1 : t < 4294967296) (f0 : 0 ≤ f) (f1 : f < 4294967296) (g0 : 0 ≤ g) (g1 : g < 4294967296) (k0 : 0 ≤ h) (k1 : h < 4294967296) (u0 : 0 ≤ U) (u1 : U < 18446744073709551616) (v0 : -9223372036854775808 ≤ V) (v1 : V < 9223372036854775808)
    (hV : sgd hi lo = V) (hU : IntKind.u64.wrap V = U)
    (HA : Hid (∀ w : World, Calls Try.prog 56 #[.int .u32 hi, .int .u32 lo, .int .i64 n] w fun e w' => e = .returned (.tuple #[.int .u32 a, .int .u32 b, .int .i64 (3), .bool true]) ∧ w = w'))
    (HB : Hid (∀ w : World, Calls Try.prog 58 #[.int .u32 hi, .int .u32 lo, .int .i64 n] w fun e w' => e = .returned (.tuple #[.int .u32 c, .int .u32 d, .int .i64 (ord (V / 2 ^ p) 0)]) ∧ w = w'))
    (HC : Hid (∀ w : World, Calls Try.prog 60 #[.int .u32 hi, .int .u32 lo, .int .i64 n, .bool true] w fun e w' => e = .returned (.tuple #[.int .u32 t, .int .u32 f]) ∧ w = w'))
    (HD : Hid (∀ w : World, Calls Try.prog 60 #[.int .u32 hi, .int .u32 lo, .int .i64 n, .bool false] w fun e w' => e = .returned (.tuple #[.int .u32 g, .int .u32 h]) ∧ w = w'))
    (s0 : sgd c d = V / 2 ^ p) (s1 : sgd t f = wrap64 (V * 2 ^ p)) (s2 : IntKind.u64.wrap (sgd g h) = U / 2 ^ p) (s3 : (wrap64 (V * 2 ^ p) / 2 ^ p == V) = false)
    (s4 : bits .or .u64 (U / 9223372036854775808 * 9223372036854775808) (bits .and .u64 (IntKind.u64.wrap (U * 2 ^ p)) 9223372036854775807) = IntKind.u64.wrap (sgd a b)) (w : World) :
    Calls Try.prog 15 #[.int .u32 hi, .int .u32 lo, .int .i64 n] w fun e w' => e = .returned (.bool true) ∧ Grown w w' := by
  go_enter Try.func15, Try.ntmps15
  go_wp2_with (first | (go_at_call 64; refine (llong_any _ _ (by omega) (by omega) (by omega) (by omega) _).mono ?_; rintro e w' ⟨rfl, rfl⟩))
  refine (HA.out _).mono ?_
  rintro e w' ⟨rfl, rfl⟩
  go_wp2_with fail
  refine (HB.out _).mono ?_
  rintro e w' ⟨rfl, rfl⟩
  go_wp2_with fail
  refine (HC.out _).mono ?_
  rintro e w' ⟨rfl, rfl⟩
  go_wp2_with fail
  refine (HD.out _).mono ?_
  rintro e w' ⟨rfl, rfl⟩
  go_wp2_with (first | (go_at_call 64; refine (llong_any _ _ (by omega) (by omega) (by omega) (by omega) _).mono ?_; rintro e w' ⟨rfl, rfl⟩) | (go_at_call 63; refine (lcode_any _ _).mono ?_; rintro e w' ⟨rfl, rfl⟩) | (go_at_call 18; refine (works_any _).mono ?_; rintro e w' ⟨rfl, hg, hb⟩; clear hb))

  go_ret
  exact ⟨rfl, hg⟩

set_option maxRecDepth 100000 in
theorem qB0 (hi lo n : Int) (p : Nat) (h0 : 0 ≤ hi) (h1 : hi < 4294967296) (l0 : 0 ≤ lo) (l1 : lo < 4294967296) (hP : n.tmod 64 = p - 64) (hp : 0 < p) (hp64 : p < 64)
    (a b c d t f g h V U : Int) (a0 : 0 ≤ a) (a1 : a < 4294967296) (b0 : 0 ≤ b) (b1 : b < 4294967296) (c0 : 0 ≤ c) (c1 : c < 4294967296) (d0 : 0 ≤ d) (d1 : d < 4294967296)
    (e0 : 0 ≤ t) (e1 : t < 4294967296) (f0 : 0 ≤ f) (f1 : f < 4294967296) (g0 : 0 ≤ g) (g1 : g < 4294967296) (k0 : 0 ≤ h) (k1 : h < 4294967296) (u0 : 0 ≤ U) (u1 : U < 18446744073709551616) (v0 : -9223372036854775808 ≤ V) (v1 : V < 9223372036854775808)
    (hV : sgd hi lo = V) (hU : IntKind.u64.wrap V = U)
    (HA : Hid (∀ w : World, Calls Try.prog 56 #[.int .u32 hi, .int .u32 lo, .int .i64 n] w fun e w' => e = .returned (.tuple #[.int .u32 a, .int .u32 b, .int .i64 (ord (sgd a b) 0), .bool false]) ∧ w = w'))
    (HB : Hid (∀ w : World, Calls Try.prog 58 #[.int .u32 hi, .int .u32 lo, .int .i64 n] w fun e w' => e = .returned (.tuple #[.int .u32 c, .int .u32 d, .int .i64 (ord (V / 2 ^ p) 0)]) ∧ w = w'))
    (HC : Hid (∀ w : World, Calls Try.prog 60 #[.int .u32 hi, .int .u32 lo, .int .i64 n, .bool true] w fun e w' => e = .returned (.tuple #[.int .u32 t, .int .u32 f]) ∧ w = w'))
    (HD : Hid (∀ w : World, Calls Try.prog 60 #[.int .u32 hi, .int .u32 lo, .int .i64 n, .bool false] w fun e w' => e = .returned (.tuple #[.int .u32 g, .int .u32 h]) ∧ w = w'))
    (s0 : sgd c d = V / 2 ^ p) (s1 : sgd t f = wrap64 (V * 2 ^ p)) (s2 : IntKind.u64.wrap (sgd g h) = U / 2 ^ p) (s3 : (wrap64 (V * 2 ^ p) / 2 ^ p == V) = true)
    (s4 : bits .or .u64 (U / 9223372036854775808 * 9223372036854775808) (bits .and .u64 (IntKind.u64.wrap (U * 2 ^ p)) 9223372036854775807) = IntKind.u64.wrap (sgd a b)) (w : World) :
    Calls Try.prog 15 #[.int .u32 hi, .int .u32 lo, .int .i64 n] w fun e w' => e = .returned (.bool true) ∧ Grown w w' := by
  go_enter Try.func15, Try.ntmps15
  go_wp2_with (first | (go_at_call 64; refine (llong_any _ _ (by omega) (by omega) (by omega) (by omega) _).mono ?_; rintro e w' ⟨rfl, rfl⟩))
  refine (HA.out _).mono ?_
  rintro e w' ⟨rfl, rfl⟩
  go_wp2_with fail
  refine (HB.out _).mono ?_
  rintro e w' ⟨rfl, rfl⟩
  go_wp2_with fail
  refine (HC.out _).mono ?_
  rintro e w' ⟨rfl, rfl⟩
  go_wp2_with fail
  refine (HD.out _).mono ?_
  rintro e w' ⟨rfl, rfl⟩
  go_wp2_with (first | (go_at_call 64; refine (llong_any _ _ (by omega) (by omega) (by omega) (by omega) _).mono ?_; rintro e w' ⟨rfl, rfl⟩) | (go_at_call 63; refine (lcode_any _ _).mono ?_; rintro e w' ⟨rfl, rfl⟩) | (go_at_call 18; refine (works_any _).mono ?_; rintro e w' ⟨rfl, hg, hb⟩; clear hb))

  go_ret
  exact ⟨rfl, hg⟩

set_option maxRecDepth 100000 in
theorem qB1 (hi lo n : Int) (p : Nat) (h0 : 0 ≤ hi) (h1 : hi < 4294967296) (l0 : 0 ≤ lo) (l1 : lo < 4294967296) (hP : n.tmod 64 = p - 64) (hp : 0 < p) (hp64 : p < 64)
    (a b c d t f g h V U : Int) (a0 : 0 ≤ a) (a1 : a < 4294967296) (b0 : 0 ≤ b) (b1 : b < 4294967296) (c0 : 0 ≤ c) (c1 : c < 4294967296) (d0 : 0 ≤ d) (d1 : d < 4294967296)
    (e0 : 0 ≤ t) (e1 : t < 4294967296) (f0 : 0 ≤ f) (f1 : f < 4294967296) (g0 : 0 ≤ g) (g1 : g < 4294967296) (k0 : 0 ≤ h) (k1 : h < 4294967296) (u0 : 0 ≤ U) (u1 : U < 18446744073709551616) (v0 : -9223372036854775808 ≤ V) (v1 : V < 9223372036854775808)
    (hV : sgd hi lo = V) (hU : IntKind.u64.wrap V = U)
    (HA : Hid (∀ w : World, Calls Try.prog 56 #[.int .u32 hi, .int .u32 lo, .int .i64 n] w fun e w' => e = .returned (.tuple #[.int .u32 a, .int .u32 b, .int .i64 (3), .bool true]) ∧ w = w'))
    (HB : Hid (∀ w : World, Calls Try.prog 58 #[.int .u32 hi, .int .u32 lo, .int .i64 n] w fun e w' => e = .returned (.tuple #[.int .u32 c, .int .u32 d, .int .i64 (ord (V / 2 ^ p) 0)]) ∧ w = w'))
    (HC : Hid (∀ w : World, Calls Try.prog 60 #[.int .u32 hi, .int .u32 lo, .int .i64 n, .bool true] w fun e w' => e = .returned (.tuple #[.int .u32 t, .int .u32 f]) ∧ w = w'))
    (HD : Hid (∀ w : World, Calls Try.prog 60 #[.int .u32 hi, .int .u32 lo, .int .i64 n, .bool false] w fun e w' => e = .returned (.tuple #[.int .u32 g, .int .u32 h]) ∧ w = w'))
    (s0 : sgd c d = V / 2 ^ p) (s1 : sgd t f = wrap64 (V * 2 ^ p)) (s2 : IntKind.u64.wrap (sgd g h) = U / 2 ^ p) (s3 : (wrap64 (V * 2 ^ p) / 2 ^ p == V) = false)
    (s4 : bits .or .u64 (U / 9223372036854775808 * 9223372036854775808) (bits .and .u64 (IntKind.u64.wrap (U * 2 ^ p)) 9223372036854775807) = IntKind.u64.wrap (sgd a b)) (w : World) :
    Calls Try.prog 15 #[.int .u32 hi, .int .u32 lo, .int .i64 n] w fun e w' => e = .returned (.bool true) ∧ Grown w w' := by
  go_enter Try.func15, Try.ntmps15
  go_wp2_with (first | (go_at_call 64; refine (llong_any _ _ (by omega) (by omega) (by omega) (by omega) _).mono ?_; rintro e w' ⟨rfl, rfl⟩))
  refine (HA.out _).mono ?_
  rintro e w' ⟨rfl, rfl⟩
  go_wp2_with fail
  refine (HB.out _).mono ?_
  rintro e w' ⟨rfl, rfl⟩
  go_wp2_with fail
  refine (HC.out _).mono ?_
  rintro e w' ⟨rfl, rfl⟩
  go_wp2_with fail
  refine (HD.out _).mono ?_
  rintro e w' ⟨rfl, rfl⟩
  go_wp2_with (first | (go_at_call 64; refine (llong_any _ _ (by omega) (by omega) (by omega) (by omega) _).mono ?_; rintro e w' ⟨rfl, rfl⟩) | (go_at_call 63; refine (lcode_any _ _).mono ?_; rintro e w' ⟨rfl, rfl⟩) | (go_at_call 18; refine (works_any _).mono ?_; rintro e w' ⟨rfl, hg, hb⟩; clear hb))

  go_ret
  exact ⟨rfl, hg⟩

end W
end Go.Proofs.Ytkbnciekhllcpaa

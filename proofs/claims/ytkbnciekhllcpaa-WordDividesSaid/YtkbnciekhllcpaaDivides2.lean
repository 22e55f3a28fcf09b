/- The statement WordDivides, case by case (part 2). -/
import Derived.Test.YtkbnciekhllcpaaRows
import Derived.WalkKit
import Derived.ProofKit
import Derived.Deep.QuietTactic
import Derived.BigQuiet
import Derived.Lib.Hide
import Derived.Test.YtkbnciekhllcpaaWordLaws
namespace Go.Proofs.Ytkbnciekhllcpaa
open Go.RowKit
set_option linter.unusedVariables false
namespace W

set_option maxRecDepth 100000 in
theorem vn1 (hi lo d q r x y : Int) (h0 : 0 ≤ hi) (h1 : hi < 4294967296) (l0 : 0 ≤ lo) (l1 : lo < 4294967296) (d0 : 0 ≤ d) (d1 : d < 4294967296) (q0 : 0 ≤ q) (q1 : q < 4294967296) (r0 : 0 ≤ r) (r1 : r < 4294967296)
    (x0 : 0 ≤ x) (x1 : x < 4294967296) (y0 : 0 ≤ y) (y1 : y < 4294967296) 
    (sd : -2147483648 ≤ sg d ∧ sg d < 2147483648) (sr : -2147483648 ≤ sg r ∧ sg r < 2147483648) (sq : -2147483648 ≤ sg q ∧ sg q < 2147483648) 
    (sn : -9223372036854775808 ≤ sgd hi lo ∧ sgd hi lo < 9223372036854775808)
    (p0 : -4611686018427387904 ≤ sg q * sg d) (p1 : sg q * sg d ≤ 4611686018427387904)
    (HD : Hid (∀ w : World, Calls Try.prog 48 #[.int .u32 hi, .int .u32 lo, .int .u32 d] w fun e w' => e = .returned (.tuple #[.int .u32 0, .int .u32 0, .bool false]) ∧ w = w'))
    (HM : Hid (∀ w : World, Calls Try.prog 46 #[.int .u32 q, .int .u32 d] w fun e w' => e = .returned (.tuple #[.int .u32 x, .int .u32 y]) ∧ w = w')) (hm : (sgd x y != sg q * sg d) = false)
    (f0 : (sg d == 0) = false) (fa : (sg d != 0) = true) (fb : ¬ sg d = 0) (f1 : decide (siz (sgd hi lo) / siz (sg d) < 2147483648) = false) (f2 : 0 ≤ siz (sgd hi lo)) (f3 : 1 ≤ siz (sg d)) (f4 : siz (sg d) ≤ 2147483648) (f5 : siz (sgd hi lo) ≤ 9223372036854775808)
    (g1 : decide (siz (sg d) ≤ siz (sg r)) = true) (w : World) :
    Calls Try.prog 12 #[.agg #[.int .u32 hi, .int .u32 lo, .int .u32 d, .int .u32 q, .int .u32 r]] w fun e w' => e = .returned (.bool true) ∧ Grown w w' := by
  go_enter Try.func12, Try.ntmps12
  have hg0 := Lib.hid ((Grown.refl w).alloc #[.int .u32 hi, .int .u32 lo, .int .u32 d, .int .u32 q, .int .u32 r] 64)
  go_wp2
  go_quiet (fail)
  go_wp2_with fail
  refine (HD.out _).mono ?_
  rintro e w' ⟨rfl, rfl⟩
  go_wp2_with (first | (go_at_call 62; refine (lsigned_any _ (by omega) (by omega) _).mono ?_; rintro e w' ⟨rfl, rfl⟩) | (go_at_call 65; refine (lsize_any _ (by omega) (by omega) _).mono ?_; rintro e w' ⟨rfl, rfl⟩) | (go_at_call 18; refine (works_any _).mono ?_; rintro e w' ⟨rfl, hg, hb⟩; clear hb) | (go_at_call 64; refine (llong_any _ _ (by omega) (by omega) (by omega) (by omega) _).mono ?_; rintro e w' ⟨rfl, rfl⟩))

  refine (HM.out _).mono ?_
  rintro e w' ⟨rfl, rfl⟩
  go_wp2_with ((first | (go_at_call 62; refine (lsigned_any _ (by omega) (by omega) _).mono ?_; rintro e w' ⟨rfl, rfl⟩) | (go_at_call 65; refine (lsize_any _ (by omega) (by omega) _).mono ?_; rintro e w' ⟨rfl, rfl⟩) | (go_at_call 18; refine (works_any _).mono ?_; rintro e w' ⟨rfl, hg, hb⟩; clear hb) | (go_at_call 64; refine (llong_any _ _ (by omega) (by omega) (by omega) (by omega) _).mono ?_; rintro e w' ⟨rfl, rfl⟩)))

  go_ret
  exact ⟨rfl, grownThen hg0.out hg⟩

set_option maxRecDepth 100000 in
theorem vn4 (hi lo d q r x y : Int) (h0 : 0 ≤ hi) (h1 : hi < 4294967296) (l0 : 0 ≤ lo) (l1 : lo < 4294967296) (d0 : 0 ≤ d) (d1 : d < 4294967296) (q0 : 0 ≤ q) (q1 : q < 4294967296) (r0 : 0 ≤ r) (r1 : r < 4294967296)
    (x0 : 0 ≤ x) (x1 : x < 4294967296) (y0 : 0 ≤ y) (y1 : y < 4294967296) 
    (sd : -2147483648 ≤ sg d ∧ sg d < 2147483648) (sr : -2147483648 ≤ sg r ∧ sg r < 2147483648) (sq : -2147483648 ≤ sg q ∧ sg q < 2147483648) 
    (sn : -9223372036854775808 ≤ sgd hi lo ∧ sgd hi lo < 9223372036854775808)
    (p0 : -4611686018427387904 ≤ sg q * sg d) (p1 : sg q * sg d ≤ 4611686018427387904)
    (HD : Hid (∀ w : World, Calls Try.prog 48 #[.int .u32 hi, .int .u32 lo, .int .u32 d] w fun e w' => e = .returned (.tuple #[.int .u32 0, .int .u32 0, .bool false]) ∧ w = w'))
    (HM : Hid (∀ w : World, Calls Try.prog 46 #[.int .u32 q, .int .u32 d] w fun e w' => e = .returned (.tuple #[.int .u32 x, .int .u32 y]) ∧ w = w')) (hm : (sgd x y != sg q * sg d) = false)
    (f0 : (sg d == 0) = false) (fa : (sg d != 0) = true) (fb : ¬ sg d = 0) (f1 : decide (siz (sgd hi lo) / siz (sg d) < 2147483648) = false) (f2 : 0 ≤ siz (sgd hi lo)) (f3 : 1 ≤ siz (sg d)) (f4 : siz (sg d) ≤ 2147483648) (f5 : siz (sgd hi lo) ≤ 9223372036854775808)
    (g1 : decide (siz (sg d) ≤ siz (sg r)) = false) (g2 : (sg r != 0) = true) (g3 : (sg q * sg d != 0) = true) (g4 : decide (sg r < 0) = decide (sg q * sg d < 0))
    (S : Int) (s0 : 0 ≤ S) (s1 : S < 18446744073709551616) (hS : IntKind.u64.wrap (sg q * sg d + sg r) = S) (HD2 : Hid (∀ w : World, Calls Try.prog 48 #[.int .u32 (S / 4294967296), .int .u32 (S % 4294967296), .int .u32 d] w fun e w' => e = .returned (.tuple #[.int .u32 r, .int .u32 q, .bool true]) ∧ w = w')) (w : World) :
    Calls Try.prog 12 #[.agg #[.int .u32 hi, .int .u32 lo, .int .u32 d, .int .u32 q, .int .u32 r]] w fun e w' => e = .returned (.bool true) ∧ Grown w w' := by
  go_enter Try.func12, Try.ntmps12
  have hg0 := Lib.hid ((Grown.refl w).alloc #[.int .u32 hi, .int .u32 lo, .int .u32 d, .int .u32 q, .int .u32 r] 64)
  go_wp2
  go_quiet (fail)
  go_wp2_with fail
  refine (HD.out _).mono ?_
  rintro e w' ⟨rfl, rfl⟩
  go_wp2_with (first | (go_at_call 62; refine (lsigned_any _ (by omega) (by omega) _).mono ?_; rintro e w' ⟨rfl, rfl⟩) | (go_at_call 65; refine (lsize_any _ (by omega) (by omega) _).mono ?_; rintro e w' ⟨rfl, rfl⟩) | (go_at_call 18; refine (works_any _).mono ?_; rintro e w' ⟨rfl, hg, hb⟩; clear hb) | (go_at_call 64; refine (llong_any _ _ (by omega) (by omega) (by omega) (by omega) _).mono ?_; rintro e w' ⟨rfl, rfl⟩))

  refine (HM.out _).mono ?_
  rintro e w' ⟨rfl, rfl⟩
  go_wp2_with ((first | (go_at_call 62; refine (lsigned_any _ (by omega) (by omega) _).mono ?_; rintro e w' ⟨rfl, rfl⟩) | (go_at_call 65; refine (lsize_any _ (by omega) (by omega) _).mono ?_; rintro e w' ⟨rfl, rfl⟩) | (go_at_call 18; refine (works_any _).mono ?_; rintro e w' ⟨rfl, hg, hb⟩; clear hb) | (go_at_call 64; refine (llong_any _ _ (by omega) (by omega) (by omega) (by omega) _).mono ?_; rintro e w' ⟨rfl, rfl⟩)))
  refine (HD2.out _).mono ?_
  rintro e w' ⟨rfl, rfl⟩
  go_wp2

  go_ret
  exact ⟨rfl, grownThen hg0.out hg⟩

set_option maxRecDepth 100000 in
theorem va1 (hi lo d q r x y : Int) (h0 : 0 ≤ hi) (h1 : hi < 4294967296) (l0 : 0 ≤ lo) (l1 : lo < 4294967296) (d0 : 0 ≤ d) (d1 : d < 4294967296) (q0 : 0 ≤ q) (q1 : q < 4294967296) (r0 : 0 ≤ r) (r1 : r < 4294967296)
    (x0 : 0 ≤ x) (x1 : x < 4294967296) (y0 : 0 ≤ y) (y1 : y < 4294967296) (rem quo : Int) (e0 : 0 ≤ rem) (e1 : rem < 4294967296) (q20 : 0 ≤ quo) (q21 : quo < 4294967296) (z0 : -4611686018427387904 ≤ sg quo * sg d) (z1 : sg quo * sg d ≤ 4611686018427387904)
    (sd : -2147483648 ≤ sg d ∧ sg d < 2147483648) (sr : -2147483648 ≤ sg r ∧ sg r < 2147483648) (sq : -2147483648 ≤ sg q ∧ sg q < 2147483648) (se : -2147483648 ≤ sg rem ∧ sg rem < 2147483648)
    (sn : -9223372036854775808 ≤ sgd hi lo ∧ sgd hi lo < 9223372036854775808)
    (p0 : -4611686018427387904 ≤ sg q * sg d) (p1 : sg q * sg d ≤ 4611686018427387904)
    (HD : Hid (∀ w : World, Calls Try.prog 48 #[.int .u32 hi, .int .u32 lo, .int .u32 d] w fun e w' => e = .returned (.tuple #[.int .u32 rem, .int .u32 quo, .bool true]) ∧ w = w'))
    (HM : Hid (∀ w : World, Calls Try.prog 46 #[.int .u32 q, .int .u32 d] w fun e w' => e = .returned (.tuple #[.int .u32 x, .int .u32 y]) ∧ w = w')) (hm : (sgd x y != sg q * sg d) = false)
    (f0 : (sg d == 0) = false) (fa : (sg d != 0) = true) (fb : ¬ sg d = 0) (f1 : (sg quo * sg d + sg rem != sgd hi lo) = false) (f2 : decide (siz (sg d) ≤ siz (sg rem)) = false) (f3 : (rem != 0) = false)
    (g1 : decide (siz (sg d) ≤ siz (sg r)) = true) (w : World) :
    Calls Try.prog 12 #[.agg #[.int .u32 hi, .int .u32 lo, .int .u32 d, .int .u32 q, .int .u32 r]] w fun e w' => e = .returned (.bool true) ∧ Grown w w' := by
  go_enter Try.func12, Try.ntmps12
  have hg0 := Lib.hid ((Grown.refl w).alloc #[.int .u32 hi, .int .u32 lo, .int .u32 d, .int .u32 q, .int .u32 r] 64)
  go_wp2
  go_quiet (fail)
  go_wp2_with fail
  refine (HD.out _).mono ?_
  rintro e w' ⟨rfl, rfl⟩
  go_wp2_with (first | (go_at_call 62; refine (lsigned_any _ (by omega) (by omega) _).mono ?_; rintro e w' ⟨rfl, rfl⟩) | (go_at_call 65; refine (lsize_any _ (by omega) (by omega) _).mono ?_; rintro e w' ⟨rfl, rfl⟩) | (go_at_call 18; refine (works_any _).mono ?_; rintro e w' ⟨rfl, hg, hb⟩; clear hb) | (go_at_call 64; refine (llong_any _ _ (by omega) (by omega) (by omega) (by omega) _).mono ?_; rintro e w' ⟨rfl, rfl⟩))

  refine (HM.out _).mono ?_
  rintro e w' ⟨rfl, rfl⟩
  go_wp2_with ((first | (go_at_call 62; refine (lsigned_any _ (by omega) (by omega) _).mono ?_; rintro e w' ⟨rfl, rfl⟩) | (go_at_call 65; refine (lsize_any _ (by omega) (by omega) _).mono ?_; rintro e w' ⟨rfl, rfl⟩) | (go_at_call 18; refine (works_any _).mono ?_; rintro e w' ⟨rfl, hg, hb⟩; clear hb) | (go_at_call 64; refine (llong_any _ _ (by omega) (by omega) (by omega) (by omega) _).mono ?_; rintro e w' ⟨rfl, rfl⟩)))

  go_ret
  exact ⟨rfl, grownThen hg0.out hg⟩

set_option maxRecDepth 100000 in
theorem va4 (hi lo d q r x y : Int) (h0 : 0 ≤ hi) (h1 : hi < 4294967296) (l0 : 0 ≤ lo) (l1 : lo < 4294967296) (d0 : 0 ≤ d) (d1 : d < 4294967296) (q0 : 0 ≤ q) (q1 : q < 4294967296) (r0 : 0 ≤ r) (r1 : r < 4294967296)
    (x0 : 0 ≤ x) (x1 : x < 4294967296) (y0 : 0 ≤ y) (y1 : y < 4294967296) (rem quo : Int) (e0 : 0 ≤ rem) (e1 : rem < 4294967296) (q20 : 0 ≤ quo) (q21 : quo < 4294967296) (z0 : -4611686018427387904 ≤ sg quo * sg d) (z1 : sg quo * sg d ≤ 4611686018427387904)
    (sd : -2147483648 ≤ sg d ∧ sg d < 2147483648) (sr : -2147483648 ≤ sg r ∧ sg r < 2147483648) (sq : -2147483648 ≤ sg q ∧ sg q < 2147483648) (se : -2147483648 ≤ sg rem ∧ sg rem < 2147483648)
    (sn : -9223372036854775808 ≤ sgd hi lo ∧ sgd hi lo < 9223372036854775808)
    (p0 : -4611686018427387904 ≤ sg q * sg d) (p1 : sg q * sg d ≤ 4611686018427387904)
    (HD : Hid (∀ w : World, Calls Try.prog 48 #[.int .u32 hi, .int .u32 lo, .int .u32 d] w fun e w' => e = .returned (.tuple #[.int .u32 rem, .int .u32 quo, .bool true]) ∧ w = w'))
    (HM : Hid (∀ w : World, Calls Try.prog 46 #[.int .u32 q, .int .u32 d] w fun e w' => e = .returned (.tuple #[.int .u32 x, .int .u32 y]) ∧ w = w')) (hm : (sgd x y != sg q * sg d) = false)
    (f0 : (sg d == 0) = false) (fa : (sg d != 0) = true) (fb : ¬ sg d = 0) (f1 : (sg quo * sg d + sg rem != sgd hi lo) = false) (f2 : decide (siz (sg d) ≤ siz (sg rem)) = false) (f3 : (rem != 0) = false)
    (g1 : decide (siz (sg d) ≤ siz (sg r)) = false) (g2 : (sg r != 0) = true) (g3 : (sg q * sg d != 0) = true) (g4 : decide (sg r < 0) = decide (sg q * sg d < 0))
    (S : Int) (s0 : 0 ≤ S) (s1 : S < 18446744073709551616) (hS : IntKind.u64.wrap (sg q * sg d + sg r) = S) (HD2 : Hid (∀ w : World, Calls Try.prog 48 #[.int .u32 (S / 4294967296), .int .u32 (S % 4294967296), .int .u32 d] w fun e w' => e = .returned (.tuple #[.int .u32 r, .int .u32 q, .bool true]) ∧ w = w')) (w : World) :
    Calls Try.prog 12 #[.agg #[.int .u32 hi, .int .u32 lo, .int .u32 d, .int .u32 q, .int .u32 r]] w fun e w' => e = .returned (.bool true) ∧ Grown w w' := by
  go_enter Try.func12, Try.ntmps12
  have hg0 := Lib.hid ((Grown.refl w).alloc #[.int .u32 hi, .int .u32 lo, .int .u32 d, .int .u32 q, .int .u32 r] 64)
  go_wp2
  go_quiet (fail)
  go_wp2_with fail
  refine (HD.out _).mono ?_
  rintro e w' ⟨rfl, rfl⟩
  go_wp2_with (first | (go_at_call 62; refine (lsigned_any _ (by omega) (by omega) _).mono ?_; rintro e w' ⟨rfl, rfl⟩) | (go_at_call 65; refine (lsize_any _ (by omega) (by omega) _).mono ?_; rintro e w' ⟨rfl, rfl⟩) | (go_at_call 18; refine (works_any _).mono ?_; rintro e w' ⟨rfl, hg, hb⟩; clear hb) | (go_at_call 64; refine (llong_any _ _ (by omega) (by omega) (by omega) (by omega) _).mono ?_; rintro e w' ⟨rfl, rfl⟩))

  refine (HM.out _).mono ?_
  rintro e w' ⟨rfl, rfl⟩
  go_wp2_with ((first | (go_at_call 62; refine (lsigned_any _ (by omega) (by omega) _).mono ?_; rintro e w' ⟨rfl, rfl⟩) | (go_at_call 65; refine (lsize_any _ (by omega) (by omega) _).mono ?_; rintro e w' ⟨rfl, rfl⟩) | (go_at_call 18; refine (works_any _).mono ?_; rintro e w' ⟨rfl, hg, hb⟩; clear hb) | (go_at_call 64; refine (llong_any _ _ (by omega) (by omega) (by omega) (by omega) _).mono ?_; rintro e w' ⟨rfl, rfl⟩)))
  refine (HD2.out _).mono ?_
  rintro e w' ⟨rfl, rfl⟩
  go_wp2

  go_ret
  exact ⟨rfl, grownThen hg0.out hg⟩

set_option maxRecDepth 100000 in
theorem vb1 (hi lo d q r x y : Int) (h0 : 0 ≤ hi) (h1 : hi < 4294967296) (l0 : 0 ≤ lo) (l1 : lo < 4294967296) (d0 : 0 ≤ d) (d1 : d < 4294967296) (q0 : 0 ≤ q) (q1 : q < 4294967296) (r0 : 0 ≤ r) (r1 : r < 4294967296)
    (x0 : 0 ≤ x) (x1 : x < 4294967296) (y0 : 0 ≤ y) (y1 : y < 4294967296) (rem quo : Int) (e0 : 0 ≤ rem) (e1 : rem < 4294967296) (q20 : 0 ≤ quo) (q21 : quo < 4294967296) (z0 : -4611686018427387904 ≤ sg quo * sg d) (z1 : sg quo * sg d ≤ 4611686018427387904)
    (sd : -2147483648 ≤ sg d ∧ sg d < 2147483648) (sr : -2147483648 ≤ sg r ∧ sg r < 2147483648) (sq : -2147483648 ≤ sg q ∧ sg q < 2147483648) (se : -2147483648 ≤ sg rem ∧ sg rem < 2147483648)
    (sn : -9223372036854775808 ≤ sgd hi lo ∧ sgd hi lo < 9223372036854775808)
    (p0 : -4611686018427387904 ≤ sg q * sg d) (p1 : sg q * sg d ≤ 4611686018427387904)
    (HD : Hid (∀ w : World, Calls Try.prog 48 #[.int .u32 hi, .int .u32 lo, .int .u32 d] w fun e w' => e = .returned (.tuple #[.int .u32 rem, .int .u32 quo, .bool true]) ∧ w = w'))
    (HM : Hid (∀ w : World, Calls Try.prog 46 #[.int .u32 q, .int .u32 d] w fun e w' => e = .returned (.tuple #[.int .u32 x, .int .u32 y]) ∧ w = w')) (hm : (sgd x y != sg q * sg d) = false)
    (f0 : (sg d == 0) = false) (fa : (sg d != 0) = true) (fb : ¬ sg d = 0) (f1 : (sg quo * sg d + sg rem != sgd hi lo) = false) (f2 : decide (siz (sg d) ≤ siz (sg rem)) = false) (f3 : (rem != 0) = true) (f4 : decide (sg rem < 0) = decide (sgd hi lo < 0))
    (g1 : decide (siz (sg d) ≤ siz (sg r)) = true) (w : World) :
    Calls Try.prog 12 #[.agg #[.int .u32 hi, .int .u32 lo, .int .u32 d, .int .u32 q, .int .u32 r]] w fun e w' => e = .returned (.bool true) ∧ Grown w w' := by
  go_enter Try.func12, Try.ntmps12
  have hg0 := Lib.hid ((Grown.refl w).alloc #[.int .u32 hi, .int .u32 lo, .int .u32 d, .int .u32 q, .int .u32 r] 64)
  go_wp2
  go_quiet (fail)
  go_wp2_with fail
  refine (HD.out _).mono ?_
  rintro e w' ⟨rfl, rfl⟩
  go_wp2_with (first | (go_at_call 62; refine (lsigned_any _ (by omega) (by omega) _).mono ?_; rintro e w' ⟨rfl, rfl⟩) | (go_at_call 65; refine (lsize_any _ (by omega) (by omega) _).mono ?_; rintro e w' ⟨rfl, rfl⟩) | (go_at_call 18; refine (works_any _).mono ?_; rintro e w' ⟨rfl, hg, hb⟩; clear hb) | (go_at_call 64; refine (llong_any _ _ (by omega) (by omega) (by omega) (by omega) _).mono ?_; rintro e w' ⟨rfl, rfl⟩))

  refine (HM.out _).mono ?_
  rintro e w' ⟨rfl, rfl⟩
  go_wp2_with ((first | (go_at_call 62; refine (lsigned_any _ (by omega) (by omega) _).mono ?_; rintro e w' ⟨rfl, rfl⟩) | (go_at_call 65; refine (lsize_any _ (by omega) (by omega) _).mono ?_; rintro e w' ⟨rfl, rfl⟩) | (go_at_call 18; refine (works_any _).mono ?_; rintro e w' ⟨rfl, hg, hb⟩; clear hb) | (go_at_call 64; refine (llong_any _ _ (by omega) (by omega) (by omega) (by omega) _).mono ?_; rintro e w' ⟨rfl, rfl⟩)))

  go_ret
  exact ⟨rfl, grownThen hg0.out hg⟩

set_option maxRecDepth 100000 in
theorem vb4 (hi lo d q r x y : Int) (h0 : 0 ≤ hi) (h1 : hi < 4294967296) (l0 : 0 ≤ lo) (l1 : lo < 4294967296) (d0 : 0 ≤ d) (d1 : d < 4294967296) (q0 : 0 ≤ q) (q1 : q < 4294967296) (r0 : 0 ≤ r) (r1 : r < 4294967296)
    (x0 : 0 ≤ x) (x1 : x < 4294967296) (y0 : 0 ≤ y) (y1 : y < 4294967296) (rem quo : Int) (e0 : 0 ≤ rem) (e1 : rem < 4294967296) (q20 : 0 ≤ quo) (q21 : quo < 4294967296) (z0 : -4611686018427387904 ≤ sg quo * sg d) (z1 : sg quo * sg d ≤ 4611686018427387904)
    (sd : -2147483648 ≤ sg d ∧ sg d < 2147483648) (sr : -2147483648 ≤ sg r ∧ sg r < 2147483648) (sq : -2147483648 ≤ sg q ∧ sg q < 2147483648) (se : -2147483648 ≤ sg rem ∧ sg rem < 2147483648)
    (sn : -9223372036854775808 ≤ sgd hi lo ∧ sgd hi lo < 9223372036854775808)
    (p0 : -4611686018427387904 ≤ sg q * sg d) (p1 : sg q * sg d ≤ 4611686018427387904)
    (HD : Hid (∀ w : World, Calls Try.prog 48 #[.int .u32 hi, .int .u32 lo, .int .u32 d] w fun e w' => e = .returned (.tuple #[.int .u32 rem, .int .u32 quo, .bool true]) ∧ w = w'))
    (HM : Hid (∀ w : World, Calls Try.prog 46 #[.int .u32 q, .int .u32 d] w fun e w' => e = .returned (.tuple #[.int .u32 x, .int .u32 y]) ∧ w = w')) (hm : (sgd x y != sg q * sg d) = false)
    (f0 : (sg d == 0) = false) (fa : (sg d != 0) = true) (fb : ¬ sg d = 0) (f1 : (sg quo * sg d + sg rem != sgd hi lo) = false) (f2 : decide (siz (sg d) ≤ siz (sg rem)) = false) (f3 : (rem != 0) = true) (f4 : decide (sg rem < 0) = decide (sgd hi lo < 0))
    (g1 : decide (siz (sg d) ≤ siz (sg r)) = false) (g2 : (sg r != 0) = true) (g3 : (sg q * sg d != 0) = true) (g4 : decide (sg r < 0) = decide (sg q * sg d < 0))
    (S : Int) (s0 : 0 ≤ S) (s1 : S < 18446744073709551616) (hS : IntKind.u64.wrap (sg q * sg d + sg r) = S) (HD2 : Hid (∀ w : World, Calls Try.prog 48 #[.int .u32 (S / 4294967296), .int .u32 (S % 4294967296), .int .u32 d] w fun e w' => e = .returned (.tuple #[.int .u32 r, .int .u32 q, .bool true]) ∧ w = w')) (w : World) :
    Calls Try.prog 12 #[.agg #[.int .u32 hi, .int .u32 lo, .int .u32 d, .int .u32 q, .int .u32 r]] w fun e w' => e = .returned (.bool true) ∧ Grown w w' := by
  go_enter Try.func12, Try.ntmps12
  have hg0 := Lib.hid ((Grown.refl w).alloc #[.int .u32 hi, .int .u32 lo, .int .u32 d, .int .u32 q, .int .u32 r] 64)
  go_wp2
  go_quiet (fail)
  go_wp2_with fail
  refine (HD.out _).mono ?_
  rintro e w' ⟨rfl, rfl⟩
  go_wp2_with (first | (go_at_call 62; refine (lsigned_any _ (by omega) (by omega) _).mono ?_; rintro e w' ⟨rfl, rfl⟩) | (go_at_call 65; refine (lsize_any _ (by omega) (by omega) _).mono ?_; rintro e w' ⟨rfl, rfl⟩) | (go_at_call 18; refine (works_any _).mono ?_; rintro e w' ⟨rfl, hg, hb⟩; clear hb) | (go_at_call 64; refine (llong_any _ _ (by omega) (by omega) (by omega) (by omega) _).mono ?_; rintro e w' ⟨rfl, rfl⟩))

  refine (HM.out _).mono ?_
  rintro e w' ⟨rfl, rfl⟩
  go_wp2_with ((first | (go_at_call 62; refine (lsigned_any _ (by omega) (by omega) _).mono ?_; rintro e w' ⟨rfl, rfl⟩) | (go_at_call 65; refine (lsize_any _ (by omega) (by omega) _).mono ?_; rintro e w' ⟨rfl, rfl⟩) | (go_at_call 18; refine (works_any _).mono ?_; rintro e w' ⟨rfl, hg, hb⟩; clear hb) | (go_at_call 64; refine (llong_any _ _ (by omega) (by omega) (by omega) (by omega) _).mono ?_; rintro e w' ⟨rfl, rfl⟩)))
  refine (HD2.out _).mono ?_
  rintro e w' ⟨rfl, rfl⟩
  go_wp2

  go_ret
  exact ⟨rfl, grownThen hg0.out hg⟩

end W
end Go.Proofs.Ytkbnciekhllcpaa

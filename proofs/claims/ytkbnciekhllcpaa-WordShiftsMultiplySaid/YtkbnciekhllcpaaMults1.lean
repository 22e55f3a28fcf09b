/- The statement WordShiftsMultiply, case by case (part 1). -/
import Derived.Test.YtkbnciekhllcpaaRows
import Derived.WalkKit
import Derived.ProofKit
import Derived.Lib.Hide
import Derived.Test.YtkbnciekhllcpaaWordLaws
namespace Go.Proofs.Ytkbnciekhllcpaa
open Go.RowKit
set_option linter.unusedVariables false
namespace W

set_option maxRecDepth 100000 in
theorem mAb0 (v n : Int) (p : Nat) (v0 : 0 ≤ v) (v1 : v < 4294967296) (sv : -2147483648 ≤ sg v ∧ sg v < 2147483648) (hP : n.tmod 64 = p) (hp64 : p < 64)
    (a b cc L1 L2 : Int) (a0 : 0 ≤ a) (a1 : a < 4294967296) (b0 : 0 ≤ b) (b1 : b < 4294967296) (l0 : 0 ≤ L1) (l1 : L1 < 4294967296) (l2 : 0 ≤ L2) (l3 : L2 < 4294967296)
    (HA : Hid (∀ w : World, Calls Try.prog 50 #[.int .u32 v, .int .i64 n] w fun e w' => e = .returned (.tuple #[.int .u32 a, .int .i64 (ord (sg a) 0), .bool false]) ∧ w = w'))
    (HB : Hid (∀ w : World, Calls Try.prog 52 #[.int .u32 v, .int .i64 n] w fun e w' => e = .returned (.tuple #[.int .u32 b, .int .i64 (ord (sg b) 0)]) ∧ w = w'))
    (HC : Hid (∀ w : World, Calls Try.prog 50 #[.int .u32 v, .int .i64 p] w fun e w' => e = .returned (.tuple #[.int .u32 a, .int .i64 (ord (sg a) 0), .bool false]) ∧ w = w'))
    (HD : Hid (∀ w : World, Calls Try.prog 54 #[.int .u32 v, .int .i64 n, .bool true] w fun e w' => e = .returned (.int .u32 0) ∧ w = w'))
    (HE : Hid (∀ w : World, Calls Try.prog 54 #[.int .u32 v, .int .i64 n, .bool false] w fun e w' => e = .returned (.int .u32 0) ∧ w = w'))
    (hp32 : 32 ≤ p) (hov : (v != 0) = false) (hb : sg v / 2147483648 = sg b) (w : World) :
    Calls Try.prog 14 #[.int .u32 v, .int .i64 n] w fun e w' => e = .returned (.bool true) ∧ Grown w w' := by
  go_enter Try.func14, Try.ntmps14
  go_wp2_with fail
  refine (HA.out _).mono ?_
  rintro e w' ⟨rfl, rfl⟩
  go_wp2_with fail
  refine (HB.out _).mono ?_
  rintro e w' ⟨rfl, rfl⟩
  go_wp2_with fail
  refine (HC.out _).mono ?_
  rintro e w' ⟨rfl, rfl⟩
  go_wp2_with (first | (go_at_call 62; refine (lsigned_any _ (by omega) (by omega) _).mono ?_; rintro e w' ⟨rfl, rfl⟩) | (go_at_call 63; refine (lcode_any _ _).mono ?_; rintro e w' ⟨rfl, rfl⟩) | (go_at_call 18; refine (works_any _).mono ?_; rintro e w' ⟨rfl, hg, hb⟩; clear hb))
  refine (HD.out _).mono ?_
  rintro e w' ⟨rfl, rfl⟩
  go_wp2_with fail
  refine (HE.out _).mono ?_
  rintro e w' ⟨rfl, rfl⟩
  go_wp2
  go_ret
  exact ⟨rfl, hg⟩

set_option maxRecDepth 100000 in
theorem mAs1 (v n : Int) (p : Nat) (v0 : 0 ≤ v) (v1 : v < 4294967296) (sv : -2147483648 ≤ sg v ∧ sg v < 2147483648) (hP : n.tmod 64 = p) (hp64 : p < 64)
    (a b cc L1 L2 : Int) (a0 : 0 ≤ a) (a1 : a < 4294967296) (b0 : 0 ≤ b) (b1 : b < 4294967296) (l0 : 0 ≤ L1) (l1 : L1 < 4294967296) (l2 : 0 ≤ L2) (l3 : L2 < 4294967296)
    (HA : Hid (∀ w : World, Calls Try.prog 50 #[.int .u32 v, .int .i64 n] w fun e w' => e = .returned (.tuple #[.int .u32 a, .int .i64 (cc), .bool true]) ∧ w = w'))
    (HB : Hid (∀ w : World, Calls Try.prog 52 #[.int .u32 v, .int .i64 n] w fun e w' => e = .returned (.tuple #[.int .u32 b, .int .i64 (ord (sg b) 0)]) ∧ w = w'))
    (HC : Hid (∀ w : World, Calls Try.prog 50 #[.int .u32 v, .int .i64 p] w fun e w' => e = .returned (.tuple #[.int .u32 a, .int .i64 (cc), .bool true]) ∧ w = w'))
    (HD : Hid (∀ w : World, Calls Try.prog 54 #[.int .u32 v, .int .i64 n, .bool true] w fun e w' => e = .returned (.int .u32 L1) ∧ w = w'))
    (HE : Hid (∀ w : World, Calls Try.prog 54 #[.int .u32 v, .int .i64 n, .bool false] w fun e w' => e = .returned (.int .u32 L2) ∧ w = w'))
    (hp32 : p < 32) (X : Int) (hX : sg v * 2 ^ p = X) (x0 : -4611686018427387904 ≤ X) (x1 : X ≤ 4611686018427387904) (hb : sg v / 2 ^ p = sg b) (hl1 : (IntKind.u64.wrap (v * 2 ^ p)).tmod 4294967296 = L1) (hl2 : v / 2 ^ p = L2) (hx1 : (X / 2147483648 != 0) = true) (hx2 : (X / 2147483648 != -1) = true) (w : World) :
    Calls Try.prog 14 #[.int .u32 v, .int .i64 n] w fun e w' => e = .returned (.bool true) ∧ Grown w w' := by
  go_enter Try.func14, Try.ntmps14
  go_wp2_with fail
  refine (HA.out _).mono ?_
  rintro e w' ⟨rfl, rfl⟩
  go_wp2_with fail
  refine (HB.out _).mono ?_
  rintro e w' ⟨rfl, rfl⟩
  go_wp2_with fail
  refine (HC.out _).mono ?_
  rintro e w' ⟨rfl, rfl⟩
  go_wp2_with (first | (go_at_call 62; refine (lsigned_any _ (by omega) (by omega) _).mono ?_; rintro e w' ⟨rfl, rfl⟩) | (go_at_call 63; refine (lcode_any _ _).mono ?_; rintro e w' ⟨rfl, rfl⟩) | (go_at_call 18; refine (works_any _).mono ?_; rintro e w' ⟨rfl, hg, hb⟩; clear hb))
  refine (HD.out _).mono ?_
  rintro e w' ⟨rfl, rfl⟩
  go_wp2_with fail
  refine (HE.out _).mono ?_
  rintro e w' ⟨rfl, rfl⟩
  go_wp2
  go_ret
  exact ⟨rfl, hg⟩

set_option maxRecDepth 100000 in
theorem mAs0n (v n : Int) (p : Nat) (v0 : 0 ≤ v) (v1 : v < 4294967296) (sv : -2147483648 ≤ sg v ∧ sg v < 2147483648) (hP : n.tmod 64 = p) (hp64 : p < 64)
    (a b cc L1 L2 : Int) (a0 : 0 ≤ a) (a1 : a < 4294967296) (b0 : 0 ≤ b) (b1 : b < 4294967296) (l0 : 0 ≤ L1) (l1 : L1 < 4294967296) (l2 : 0 ≤ L2) (l3 : L2 < 4294967296)
    (HA : Hid (∀ w : World, Calls Try.prog 50 #[.int .u32 v, .int .i64 n] w fun e w' => e = .returned (.tuple #[.int .u32 a, .int .i64 (ord (sg a) 0), .bool false]) ∧ w = w'))
    (HB : Hid (∀ w : World, Calls Try.prog 52 #[.int .u32 v, .int .i64 n] w fun e w' => e = .returned (.tuple #[.int .u32 b, .int .i64 (ord (sg b) 0)]) ∧ w = w'))
    (HC : Hid (∀ w : World, Calls Try.prog 50 #[.int .u32 v, .int .i64 p] w fun e w' => e = .returned (.tuple #[.int .u32 a, .int .i64 (ord (sg a) 0), .bool false]) ∧ w = w'))
    (HD : Hid (∀ w : World, Calls Try.prog 54 #[.int .u32 v, .int .i64 n, .bool true] w fun e w' => e = .returned (.int .u32 L1) ∧ w = w'))
    (HE : Hid (∀ w : World, Calls Try.prog 54 #[.int .u32 v, .int .i64 n, .bool false] w fun e w' => e = .returned (.int .u32 L2) ∧ w = w'))
    (hp32 : p < 32) (X : Int) (hX : sg v * 2 ^ p = X) (x0 : -4611686018427387904 ≤ X) (x1 : X ≤ 4611686018427387904) (hb : sg v / 2 ^ p = sg b) (hl1 : (IntKind.u64.wrap (v * 2 ^ p)).tmod 4294967296 = L1) (hl2 : v / 2 ^ p = L2) (hx1 : (X / 2147483648 != 0) = true) (hx2 : (X / 2147483648 != -1) = false) (hxa : (sg a != X) = false) (w : World) :
    Calls Try.prog 14 #[.int .u32 v, .int .i64 n] w fun e w' => e = .returned (.bool true) ∧ Grown w w' := by
  go_enter Try.func14, Try.ntmps14
  go_wp2_with fail
  refine (HA.out _).mono ?_
  rintro e w' ⟨rfl, rfl⟩
  go_wp2_with fail
  refine (HB.out _).mono ?_
  rintro e w' ⟨rfl, rfl⟩
  go_wp2_with fail
  refine (HC.out _).mono ?_
  rintro e w' ⟨rfl, rfl⟩
  go_wp2_with (first | (go_at_call 62; refine (lsigned_any _ (by omega) (by omega) _).mono ?_; rintro e w' ⟨rfl, rfl⟩) | (go_at_call 63; refine (lcode_any _ _).mono ?_; rintro e w' ⟨rfl, rfl⟩) | (go_at_call 18; refine (works_any _).mono ?_; rintro e w' ⟨rfl, hg, hb⟩; clear hb))
  refine (HD.out _).mono ?_
  rintro e w' ⟨rfl, rfl⟩
  go_wp2_with fail
  refine (HE.out _).mono ?_
  rintro e w' ⟨rfl, rfl⟩
  go_wp2
  go_ret
  exact ⟨rfl, hg⟩

set_option maxRecDepth 100000 in
theorem mBb1 (v n : Int) (p : Nat) (v0 : 0 ≤ v) (v1 : v < 4294967296) (sv : -2147483648 ≤ sg v ∧ sg v < 2147483648) (hP : n.tmod 64 = p - 64) (hp : 0 < p) (hp64 : p < 64)
    (a b cc L1 L2 : Int) (a0 : 0 ≤ a) (a1 : a < 4294967296) (b0 : 0 ≤ b) (b1 : b < 4294967296) (l0 : 0 ≤ L1) (l1 : L1 < 4294967296) (l2 : 0 ≤ L2) (l3 : L2 < 4294967296)
    (HA : Hid (∀ w : World, Calls Try.prog 50 #[.int .u32 v, .int .i64 n] w fun e w' => e = .returned (.tuple #[.int .u32 a, .int .i64 (cc), .bool true]) ∧ w = w'))
    (HB : Hid (∀ w : World, Calls Try.prog 52 #[.int .u32 v, .int .i64 n] w fun e w' => e = .returned (.tuple #[.int .u32 b, .int .i64 (ord (sg b) 0)]) ∧ w = w'))
    (HC : Hid (∀ w : World, Calls Try.prog 50 #[.int .u32 v, .int .i64 p] w fun e w' => e = .returned (.tuple #[.int .u32 a, .int .i64 (cc), .bool true]) ∧ w = w'))
    (HD : Hid (∀ w : World, Calls Try.prog 54 #[.int .u32 v, .int .i64 n, .bool true] w fun e w' => e = .returned (.int .u32 0) ∧ w = w'))
    (HE : Hid (∀ w : World, Calls Try.prog 54 #[.int .u32 v, .int .i64 n, .bool false] w fun e w' => e = .returned (.int .u32 0) ∧ w = w'))
    (hp32 : 32 ≤ p) (hov : (v != 0) = true) (hb : sg v / 2147483648 = sg b) (w : World) :
    Calls Try.prog 14 #[.int .u32 v, .int .i64 n] w fun e w' => e = .returned (.bool true) ∧ Grown w w' := by
  go_enter Try.func14, Try.ntmps14
  go_wp2_with fail
  refine (HA.out _).mono ?_
  rintro e w' ⟨rfl, rfl⟩
  go_wp2_with fail
  refine (HB.out _).mono ?_
  rintro e w' ⟨rfl, rfl⟩
  go_wp2_with fail
  refine (HC.out _).mono ?_
  rintro e w' ⟨rfl, rfl⟩
  go_wp2_with (first | (go_at_call 62; refine (lsigned_any _ (by omega) (by omega) _).mono ?_; rintro e w' ⟨rfl, rfl⟩) | (go_at_call 63; refine (lcode_any _ _).mono ?_; rintro e w' ⟨rfl, rfl⟩) | (go_at_call 18; refine (works_any _).mono ?_; rintro e w' ⟨rfl, hg, hb⟩; clear hb))
  refine (HD.out _).mono ?_
  rintro e w' ⟨rfl, rfl⟩
  go_wp2_with fail
  refine (HE.out _).mono ?_
  rintro e w' ⟨rfl, rfl⟩
  go_wp2
  go_ret
  exact ⟨rfl, hg⟩

set_option maxRecDepth 100000 in
theorem mBs0p (v n : Int) (p : Nat) (v0 : 0 ≤ v) (v1 : v < 4294967296) (sv : -2147483648 ≤ sg v ∧ sg v < 2147483648) (hP : n.tmod 64 = p - 64) (hp : 0 < p) (hp64 : p < 64)
    (a b cc L1 L2 : Int) (a0 : 0 ≤ a) (a1 : a < 4294967296) (b0 : 0 ≤ b) (b1 : b < 4294967296) (l0 : 0 ≤ L1) (l1 : L1 < 4294967296) (l2 : 0 ≤ L2) (l3 : L2 < 4294967296)
    (HA : Hid (∀ w : World, Calls Try.prog 50 #[.int .u32 v, .int .i64 n] w fun e w' => e = .returned (.tuple #[.int .u32 a, .int .i64 (ord (sg a) 0), .bool false]) ∧ w = w'))
    (HB : Hid (∀ w : World, Calls Try.prog 52 #[.int .u32 v, .int .i64 n] w fun e w' => e = .returned (.tuple #[.int .u32 b, .int .i64 (ord (sg b) 0)]) ∧ w = w'))
    (HC : Hid (∀ w : World, Calls Try.prog 50 #[.int .u32 v, .int .i64 p] w fun e w' => e = .returned (.tuple #[.int .u32 a, .int .i64 (ord (sg a) 0), .bool false]) ∧ w = w'))
    (HD : Hid (∀ w : World, Calls Try.prog 54 #[.int .u32 v, .int .i64 n, .bool true] w fun e w' => e = .returned (.int .u32 L1) ∧ w = w'))
    (HE : Hid (∀ w : World, Calls Try.prog 54 #[.int .u32 v, .int .i64 n, .bool false] w fun e w' => e = .returned (.int .u32 L2) ∧ w = w'))
    (hp32 : p < 32) (X : Int) (hX : sg v * 2 ^ p = X) (x0 : -4611686018427387904 ≤ X) (x1 : X ≤ 4611686018427387904) (hb : sg v / 2 ^ p = sg b) (hl1 : (IntKind.u64.wrap (v * 2 ^ p)).tmod 4294967296 = L1) (hl2 : v / 2 ^ p = L2) (hx1 : (X / 2147483648 != 0) = false) (hxa : (sg a != X) = false) (w : World) :
    Calls Try.prog 14 #[.int .u32 v, .int .i64 n] w fun e w' => e = .returned (.bool true) ∧ Grown w w' := by
  go_enter Try.func14, Try.ntmps14
  go_wp2_with fail
  refine (HA.out _).mono ?_
  rintro e w' ⟨rfl, rfl⟩
  go_wp2_with fail
  refine (HB.out _).mono ?_
  rintro e w' ⟨rfl, rfl⟩
  go_wp2_with fail
  refine (HC.out _).mono ?_
  rintro e w' ⟨rfl, rfl⟩
  go_wp2_with (first | (go_at_call 62; refine (lsigned_any _ (by omega) (by omega) _).mono ?_; rintro e w' ⟨rfl, rfl⟩) | (go_at_call 63; refine (lcode_any _ _).mono ?_; rintro e w' ⟨rfl, rfl⟩) | (go_at_call 18; refine (works_any _).mono ?_; rintro e w' ⟨rfl, hg, hb⟩; clear hb))
  refine (HD.out _).mono ?_
  rintro e w' ⟨rfl, rfl⟩
  go_wp2_with fail
  refine (HE.out _).mono ?_
  rintro e w' ⟨rfl, rfl⟩
  go_wp2
  go_ret
  exact ⟨rfl, hg⟩

end W
end Go.Proofs.Ytkbnciekhllcpaa

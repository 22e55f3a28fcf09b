/- The statement WordCompares, case by case (part 4). -/
import Derived.Test.YtkbnciekhllcpaaRows
import Derived.WalkKit
import Derived.ProofKit
import Derived.Deep.QuietTactic
import Derived.BigQuiet
import Derived.Lib.Hide
import Derived.Test.YtkbnciekhllcpaaComparesBase
namespace Go.Proofs.Ytkbnciekhllcpaa
open Go.RowKit
set_option linter.unusedVariables false
namespace W

set_option maxRecDepth 100000 in
theorem k11inY (a b c : Int) (a0 : 0 ≤ a) (a1 : a < 4294967296) (b0 : 0 ≤ b) (b1 : b < 4294967296) (c0 : 0 ≤ c) (c1 : c < 4294967296)
    (e1 : ord (sg a) (sg b) = 1) (e2 : ord a b = 1) (e3 : ord (sg b) (sg a) = 2) (e4 : ord b a = 2) (e5 : (a == b) = false)
    (e6 : (!inR (sg a - sg b)) = false) (e7 : ncc (sg a - sg b) = 1)
    (e8 : decide (lcc ((a - b) % 4294967296) (decide (b ≤ a)) < 2) = true) (e9 : ord (sg a) (sg 0) = ord (sg a) 0)
    (e10 : (ord (sg b) (sg c) == 1) = false)
    (e12 : ord b c = 1) (e13 : ord a c = 1) (w : World) :
    Calls Try.prog 11 #[.int .u32 a, .int .u32 b, .int .u32 c] w fun e w' => e = .returned (.bool true) ∧ Grown w w' := by
  go_enter Try.func11, Try.ntmps11
  go_wp2_with fail
  refine (wSub_any _ _ a0 a1 b0 b1 _).mono ?_
  rintro e w' ⟨rfl, rfl⟩
  go_wp2_with fail
  refine (wSubLogical_any _ _ a0 a1 b0 b1 _).mono ?_
  rintro e w' ⟨rfl, rfl⟩
  go_wp2_with fail
  refine (wCompare_any _ _ a0 a1 b0 b1 _).mono ?_
  rintro e w' ⟨rfl, rfl⟩
  go_wp2_with fail
  refine (wCompareLogical_any _ _ _).mono ?_
  rintro e w' ⟨rfl, rfl⟩
  have hx0 := boxed w 0 0 rfl
  have hx1 := boxed w 1 2 rfl
  have hx2 := boxed w 2 1 rfl
  have hg0 := Lib.hid ((Grown.refl w).alloc #[Value.int IntKind.i64 0, Value.int IntKind.i64 2, Value.int IntKind.i64 1] 3)
  go_wp2_with fail
  go_quiet ((first | (go_at_call 40; exact quietOf (wCompare_any _ _ (by omega) (by omega) (by omega) (by omega) _)) | (go_at_call 42; exact quietOf (wCompareLogical_any _ _ _))))
  go_wp2_with (first | (go_at_call 40; refine (wCompare_any _ _ (by omega) (by omega) (by omega) (by omega) _).mono ?_; rintro e w' ⟨rfl, rfl⟩) | (go_at_call 42; refine (wCompareLogical_any _ _ _).mono ?_; rintro e w' ⟨rfl, rfl⟩) | (go_at_call 44; refine (test_any _ (by omega) (by omega) _).mono ?_; rintro e w' ⟨rfl, rfl⟩) | (go_at_call 18; refine (works_any _).mono ?_; rintro e w' ⟨rfl, hg, hb⟩; clear hb))
  go_ret
  exact ⟨rfl, grownThen hg0.out hg⟩

set_option maxRecDepth 100000 in
theorem k11onY (a b c : Int) (a0 : 0 ≤ a) (a1 : a < 4294967296) (b0 : 0 ≤ b) (b1 : b < 4294967296) (c0 : 0 ≤ c) (c1 : c < 4294967296)
    (e1 : ord (sg a) (sg b) = 1) (e2 : ord a b = 1) (e3 : ord (sg b) (sg a) = 2) (e4 : ord b a = 2) (e5 : (a == b) = false)
    (e6 : (!inR (sg a - sg b)) = true) (e7 : ord (sg ((sg a - sg b) % 4294967296)) 0 = 2)
    (e8 : decide (lcc ((a - b) % 4294967296) (decide (b ≤ a)) < 2) = true) (e9 : ord (sg a) (sg 0) = ord (sg a) 0)
    (e10 : (ord (sg b) (sg c) == 1) = false)
    (e12 : ord b c = 1) (e13 : ord a c = 1) (w : World) :
    Calls Try.prog 11 #[.int .u32 a, .int .u32 b, .int .u32 c] w fun e w' => e = .returned (.bool true) ∧ Grown w w' := by
  go_enter Try.func11, Try.ntmps11
  go_wp2_with fail
  refine (wSub_any _ _ a0 a1 b0 b1 _).mono ?_
  rintro e w' ⟨rfl, rfl⟩
  go_wp2_with fail
  refine (wSubLogical_any _ _ a0 a1 b0 b1 _).mono ?_
  rintro e w' ⟨rfl, rfl⟩
  go_wp2_with fail
  refine (wCompare_any _ _ a0 a1 b0 b1 _).mono ?_
  rintro e w' ⟨rfl, rfl⟩
  go_wp2_with fail
  refine (wCompareLogical_any _ _ _).mono ?_
  rintro e w' ⟨rfl, rfl⟩
  have hx0 := boxed w 0 0 rfl
  have hx1 := boxed w 1 2 rfl
  have hx2 := boxed w 2 1 rfl
  have hg0 := Lib.hid ((Grown.refl w).alloc #[Value.int IntKind.i64 0, Value.int IntKind.i64 2, Value.int IntKind.i64 1] 3)
  go_wp2_with fail
  go_quiet ((first | (go_at_call 40; exact quietOf (wCompare_any _ _ (by omega) (by omega) (by omega) (by omega) _)) | (go_at_call 42; exact quietOf (wCompareLogical_any _ _ _))))
  go_wp2_with (first | (go_at_call 40; refine (wCompare_any _ _ (by omega) (by omega) (by omega) (by omega) _).mono ?_; rintro e w' ⟨rfl, rfl⟩) | (go_at_call 42; refine (wCompareLogical_any _ _ _).mono ?_; rintro e w' ⟨rfl, rfl⟩) | (go_at_call 44; refine (test_any _ (by omega) (by omega) _).mono ?_; rintro e w' ⟨rfl, rfl⟩) | (go_at_call 18; refine (works_any _).mono ?_; rintro e w' ⟨rfl, hg, hb⟩; clear hb))
  go_ret
  exact ⟨rfl, grownThen hg0.out hg⟩

set_option maxRecDepth 100000 in
theorem k12oy (a b c : Int) (a0 : 0 ≤ a) (a1 : a < 4294967296) (b0 : 0 ≤ b) (b1 : b < 4294967296) (c0 : 0 ≤ c) (c1 : c < 4294967296)
    (e1 : ord (sg a) (sg b) = 1) (e2 : ord a b = 2) (e3 : ord (sg b) (sg a) = 2) (e4 : ord b a = 1) (e5 : (a == b) = false)
    (e6 : (!inR (sg a - sg b)) = true) (e7 : ord (sg ((sg a - sg b) % 4294967296)) 0 = 2)
    (e8 : decide (lcc ((a - b) % 4294967296) (decide (b ≤ a)) < 2) = false) (e9 : ord (sg a) (sg 0) = ord (sg a) 0)
    (e10 : ord (sg b) (sg c) = 1) (e11 : ord (sg a) (sg c) = 1) (w : World) :
    Calls Try.prog 11 #[.int .u32 a, .int .u32 b, .int .u32 c] w fun e w' => e = .returned (.bool true) ∧ Grown w w' := by
  go_enter Try.func11, Try.ntmps11
  go_wp2_with fail
  refine (wSub_any _ _ a0 a1 b0 b1 _).mono ?_
  rintro e w' ⟨rfl, rfl⟩
  go_wp2_with fail
  refine (wSubLogical_any _ _ a0 a1 b0 b1 _).mono ?_
  rintro e w' ⟨rfl, rfl⟩
  go_wp2_with fail
  refine (wCompare_any _ _ a0 a1 b0 b1 _).mono ?_
  rintro e w' ⟨rfl, rfl⟩
  go_wp2_with fail
  refine (wCompareLogical_any _ _ _).mono ?_
  rintro e w' ⟨rfl, rfl⟩
  have hx0 := boxed w 0 0 rfl
  have hx1 := boxed w 1 2 rfl
  have hx2 := boxed w 2 1 rfl
  have hg0 := Lib.hid ((Grown.refl w).alloc #[Value.int IntKind.i64 0, Value.int IntKind.i64 2, Value.int IntKind.i64 1] 3)
  go_wp2_with fail
  go_quiet ((first | (go_at_call 40; exact quietOf (wCompare_any _ _ (by omega) (by omega) (by omega) (by omega) _)) | (go_at_call 42; exact quietOf (wCompareLogical_any _ _ _))))
  go_wp2_with (first | (go_at_call 40; refine (wCompare_any _ _ (by omega) (by omega) (by omega) (by omega) _).mono ?_; rintro e w' ⟨rfl, rfl⟩) | (go_at_call 42; refine (wCompareLogical_any _ _ _).mono ?_; rintro e w' ⟨rfl, rfl⟩) | (go_at_call 44; refine (test_any _ (by omega) (by omega) _).mono ?_; rintro e w' ⟨rfl, rfl⟩) | (go_at_call 18; refine (works_any _).mono ?_; rintro e w' ⟨rfl, hg, hb⟩; clear hb))
  go_ret
  exact ⟨rfl, grownThen hg0.out hg⟩

set_option maxRecDepth 100000 in
theorem k21oY (a b c : Int) (a0 : 0 ≤ a) (a1 : a < 4294967296) (b0 : 0 ≤ b) (b1 : b < 4294967296) (c0 : 0 ≤ c) (c1 : c < 4294967296)
    (e1 : ord (sg a) (sg b) = 2) (e2 : ord a b = 1) (e3 : ord (sg b) (sg a) = 1) (e4 : ord b a = 2) (e5 : (a == b) = false)
    (e6 : (!inR (sg a - sg b)) = true) (e7 : ord (sg ((sg a - sg b) % 4294967296)) 0 = 1)
    (e8 : decide (lcc ((a - b) % 4294967296) (decide (b ≤ a)) < 2) = true) (e9 : ord (sg a) (sg 0) = ord (sg a) 0)
    (e12 : ord b c = 1) (e13 : ord a c = 1) (w : World) :
    Calls Try.prog 11 #[.int .u32 a, .int .u32 b, .int .u32 c] w fun e w' => e = .returned (.bool true) ∧ Grown w w' := by
  go_enter Try.func11, Try.ntmps11
  go_wp2_with fail
  refine (wSub_any _ _ a0 a1 b0 b1 _).mono ?_
  rintro e w' ⟨rfl, rfl⟩
  go_wp2_with fail
  refine (wSubLogical_any _ _ a0 a1 b0 b1 _).mono ?_
  rintro e w' ⟨rfl, rfl⟩
  go_wp2_with fail
  refine (wCompare_any _ _ a0 a1 b0 b1 _).mono ?_
  rintro e w' ⟨rfl, rfl⟩
  go_wp2_with fail
  refine (wCompareLogical_any _ _ _).mono ?_
  rintro e w' ⟨rfl, rfl⟩
  have hx0 := boxed w 0 0 rfl
  have hx1 := boxed w 1 2 rfl
  have hx2 := boxed w 2 1 rfl
  have hg0 := Lib.hid ((Grown.refl w).alloc #[Value.int IntKind.i64 0, Value.int IntKind.i64 2, Value.int IntKind.i64 1] 3)
  go_wp2_with fail
  go_quiet ((first | (go_at_call 40; exact quietOf (wCompare_any _ _ (by omega) (by omega) (by omega) (by omega) _)) | (go_at_call 42; exact quietOf (wCompareLogical_any _ _ _))))
  go_wp2_with (first | (go_at_call 40; refine (wCompare_any _ _ (by omega) (by omega) (by omega) (by omega) _).mono ?_; rintro e w' ⟨rfl, rfl⟩) | (go_at_call 42; refine (wCompareLogical_any _ _ _).mono ?_; rintro e w' ⟨rfl, rfl⟩) | (go_at_call 44; refine (test_any _ (by omega) (by omega) _).mono ?_; rintro e w' ⟨rfl, rfl⟩) | (go_at_call 18; refine (works_any _).mono ?_; rintro e w' ⟨rfl, hg, hb⟩; clear hb))
  go_ret
  exact ⟨rfl, grownThen hg0.out hg⟩

end W
end Go.Proofs.Ytkbnciekhllcpaa

/- The statement WordShiftsInParts, case by case (part 2). -/
import Derived.Test.YtkbnciekhllcpaaRows
import Derived.WalkKit
import Derived.ProofKit
import Derived.Deep.QuietTactic
import Derived.BigQuiet
import Derived.Lib.Hide
import Derived.Test.YtkbnciekhllcpaaWordLaws
namespace Go.Proofs.Ytkbnciekhllcpaa
open Go.RowKit
set_option linter.unusedVariables false
namespace W

set_option maxRecDepth 100000 in
theorem st1 (hi lo n m I K : Int) (left : Bool) (h0 : 0 ≤ hi) (h1 : hi < 4294967296) (l0 : 0 ≤ lo) (l1 : lo < 4294967296) (m0 : 0 ≤ m) (m1 : m < 256)
    (i0 : 0 ≤ I) (i1 : I < 64) (k0 : 0 ≤ K) (ik : I + K < 64) (hI : wrap64 ((IntKind.u64.wrap n).tmod 64) = I) (hK : m % (64 - I) = K)
    (a b x1 : Int) (two : Bool) (cc : Int)
    (HA : Hid (∀ w : World, Calls Try.prog 50 #[.int .u32 lo, .int .i64 I] w fun e w' => e = .returned (.tuple #[.int .u32 a, .int .i64 x1, .bool true]) ∧ w = w'))
    (HB : Hid (∀ w : World, Calls Try.prog 50 #[.int .u32 a, .int .i64 K] w fun e w' => e = .returned (.tuple #[.int .u32 b, .int .i64 cc, .bool two]) ∧ w = w'))
    (HC : Hid (∀ w : World, Calls Try.prog 50 #[.int .u32 lo, .int .i64 (I + K)] w fun e w' => e = .returned (.tuple #[.int .u32 b, .int .i64 3, .bool true]) ∧ w = w'))
    (r s x2 rc : Int)
    (HD : Hid (∀ w : World, Calls Try.prog 52 #[.int .u32 lo, .int .i64 I] w fun e w' => e = .returned (.tuple #[.int .u32 r, .int .i64 x2]) ∧ w = w'))
    (HE : Hid (∀ w : World, Calls Try.prog 52 #[.int .u32 r, .int .i64 K] w fun e w' => e = .returned (.tuple #[.int .u32 s, .int .i64 rc]) ∧ w = w'))
    (HF : Hid (∀ w : World, Calls Try.prog 52 #[.int .u32 lo, .int .i64 (I + K)] w fun e w' => e = .returned (.tuple #[.int .u32 s, .int .i64 rc]) ∧ w = w'))
    (g1 g2 : Int)
    (HG : Hid (∀ w : World, Calls Try.prog 54 #[.int .u32 lo, .int .i64 I, .bool left] w fun e w' => e = .returned (.int .u32 g1) ∧ w = w'))
    (HH : Hid (∀ w : World, Calls Try.prog 54 #[.int .u32 g1, .int .i64 K, .bool left] w fun e w' => e = .returned (.int .u32 g2) ∧ w = w'))
    (HI : Hid (∀ w : World, Calls Try.prog 54 #[.int .u32 lo, .int .i64 (I + K), .bool left] w fun e w' => e = .returned (.int .u32 g2) ∧ w = w'))
    (p q p2 q2 x3 : Int) 
    (HJ : Hid (∀ w : World, Calls Try.prog 56 #[.int .u32 hi, .int .u32 lo, .int .i64 I] w fun e w' => e = .returned (.tuple #[.int .u32 p, .int .u32 q, .int .i64 x3, .bool false]) ∧ w = w'))
    (HK : Hid (∀ w : World, Calls Try.prog 56 #[.int .u32 p, .int .u32 q, .int .i64 K] w fun e w' => e = .returned (.tuple #[.int .u32 p2, .int .u32 q2, .int .i64 3, .bool true]) ∧ w = w'))
    (HL : Hid (∀ w : World, Calls Try.prog 56 #[.int .u32 hi, .int .u32 lo, .int .i64 (I + K)] w fun e w' => e = .returned (.tuple #[.int .u32 p2, .int .u32 q2, .int .i64 3, .bool true]) ∧ w = w'))
    (y z y2 z2 x4 rd : Int)
    (HM : Hid (∀ w : World, Calls Try.prog 58 #[.int .u32 hi, .int .u32 lo, .int .i64 I] w fun e w' => e = .returned (.tuple #[.int .u32 y, .int .u32 z, .int .i64 x4]) ∧ w = w'))
    (HN : Hid (∀ w : World, Calls Try.prog 58 #[.int .u32 y, .int .u32 z, .int .i64 K] w fun e w' => e = .returned (.tuple #[.int .u32 y2, .int .u32 z2, .int .i64 rd]) ∧ w = w'))
    (HO : Hid (∀ w : World, Calls Try.prog 58 #[.int .u32 hi, .int .u32 lo, .int .i64 (I + K)] w fun e w' => e = .returned (.tuple #[.int .u32 y2, .int .u32 z2, .int .i64 rd]) ∧ w = w'))
    (f1 f2 f3 f4 : Int)
    (HP : Hid (∀ w : World, Calls Try.prog 60 #[.int .u32 hi, .int .u32 lo, .int .i64 I, .bool left] w fun e w' => e = .returned (.tuple #[.int .u32 f1, .int .u32 f2]) ∧ w = w'))
    (HQ : Hid (∀ w : World, Calls Try.prog 60 #[.int .u32 f1, .int .u32 f2, .int .i64 K, .bool left] w fun e w' => e = .returned (.tuple #[.int .u32 f3, .int .u32 f4]) ∧ w = w'))
    (HR : Hid (∀ w : World, Calls Try.prog 60 #[.int .u32 hi, .int .u32 lo, .int .i64 (I + K), .bool left] w fun e w' => e = .returned (.tuple #[.int .u32 f3, .int .u32 f4]) ∧ w = w'))
    (w : World) :
    Calls Try.prog 13 #[.agg #[.int .u32 hi, .int .u32 lo, .int .i64 n, .bool left], .int .u8 m] w fun e w' => e = .returned (.bool true) ∧ Grown w w' := by
  go_enter Try.func13, Try.ntmps13
  have hg0 := Lib.hid ((Grown.refl w).alloc #[.int .u32 hi, .int .u32 lo, .int .i64 n, .bool left] 50)
  go_wp2
  go_quiet (fail)
  go_wp2_with fail

  refine (HA.out _).mono ?_
  rintro e w' ⟨rfl, rfl⟩
  go_wp2_with fail
  refine (HB.out _).mono ?_
  rintro e w' ⟨rfl, rfl⟩
  go_wp2_with fail
  refine (HC.out _).mono ?_
  rintro e w' ⟨rfl, rfl⟩
  clear HA HB HC
  go_wp2_with (go_at_call 18; refine (works_any _).mono ?_; rintro e w' ⟨rfl, hg, hb⟩; clear hb)
  have hgw := Lib.hid (grownThen hg0.out hg)
  clear hg hg0
  go_wp2_with fail
  refine (HD.out _).mono ?_
  rintro e w' ⟨rfl, rfl⟩
  clear HD
  go_wp2_with fail
  refine (HE.out _).mono ?_
  rintro e w' ⟨rfl, rfl⟩
  clear HE
  go_wp2_with fail
  refine (HF.out _).mono ?_
  rintro e w' ⟨rfl, rfl⟩
  clear HF
  go_wp2_with fail
  refine (HG.out _).mono ?_
  rintro e w' ⟨rfl, rfl⟩
  clear HG
  go_wp2_with fail
  refine (HH.out _).mono ?_
  rintro e w' ⟨rfl, rfl⟩
  clear HH
  go_wp2_with fail
  refine (HI.out _).mono ?_
  rintro e w' ⟨rfl, rfl⟩
  clear HI
  go_wp2_with fail
  refine (HJ.out _).mono ?_
  rintro e w' ⟨rfl, rfl⟩
  clear HJ
  go_wp2_with fail
  refine (HK.out _).mono ?_
  rintro e w' ⟨rfl, rfl⟩
  clear HK
  go_wp2_with fail
  refine (HL.out _).mono ?_
  rintro e w' ⟨rfl, rfl⟩
  clear HL
  go_wp2_with fail
  refine (HM.out _).mono ?_
  rintro e w' ⟨rfl, rfl⟩
  clear HM
  go_wp2_with fail
  refine (HN.out _).mono ?_
  rintro e w' ⟨rfl, rfl⟩
  clear HN
  go_wp2_with fail
  refine (HO.out _).mono ?_
  rintro e w' ⟨rfl, rfl⟩
  clear HO
  go_wp2_with fail
  refine (HP.out _).mono ?_
  rintro e w' ⟨rfl, rfl⟩
  clear HP
  go_wp2_with fail
  refine (HQ.out _).mono ?_
  rintro e w' ⟨rfl, rfl⟩
  clear HQ
  go_wp2_with fail
  refine (HR.out _).mono ?_
  rintro e w' ⟨rfl, rfl⟩
  clear HR
  go_wp2
  go_ret
  exact ⟨rfl, hgw.out⟩

set_option maxRecDepth 100000 in
theorem s11 (hi lo n m I K : Int) (left : Bool) (h0 : 0 ≤ hi) (h1 : hi < 4294967296) (l0 : 0 ≤ lo) (l1 : lo < 4294967296) (m0 : 0 ≤ m) (m1 : m < 256)
    (i0 : 0 ≤ I) (i1 : I < 64) (k0 : 0 ≤ K) (ik : I + K < 64) (hI : wrap64 ((IntKind.u64.wrap n).tmod 64) = I) (hK : m % (64 - I) = K)
    (a b x1 : Int) 
    (HA : Hid (∀ w : World, Calls Try.prog 50 #[.int .u32 lo, .int .i64 I] w fun e w' => e = .returned (.tuple #[.int .u32 a, .int .i64 x1, .bool false]) ∧ w = w'))
    (HB : Hid (∀ w : World, Calls Try.prog 50 #[.int .u32 a, .int .i64 K] w fun e w' => e = .returned (.tuple #[.int .u32 b, .int .i64 3, .bool true]) ∧ w = w'))
    (HC : Hid (∀ w : World, Calls Try.prog 50 #[.int .u32 lo, .int .i64 (I + K)] w fun e w' => e = .returned (.tuple #[.int .u32 b, .int .i64 3, .bool true]) ∧ w = w'))
    (r s x2 rc : Int)
    (HD : Hid (∀ w : World, Calls Try.prog 52 #[.int .u32 lo, .int .i64 I] w fun e w' => e = .returned (.tuple #[.int .u32 r, .int .i64 x2]) ∧ w = w'))
    (HE : Hid (∀ w : World, Calls Try.prog 52 #[.int .u32 r, .int .i64 K] w fun e w' => e = .returned (.tuple #[.int .u32 s, .int .i64 rc]) ∧ w = w'))
    (HF : Hid (∀ w : World, Calls Try.prog 52 #[.int .u32 lo, .int .i64 (I + K)] w fun e w' => e = .returned (.tuple #[.int .u32 s, .int .i64 rc]) ∧ w = w'))
    (g1 g2 : Int)
    (HG : Hid (∀ w : World, Calls Try.prog 54 #[.int .u32 lo, .int .i64 I, .bool left] w fun e w' => e = .returned (.int .u32 g1) ∧ w = w'))
    (HH : Hid (∀ w : World, Calls Try.prog 54 #[.int .u32 g1, .int .i64 K, .bool left] w fun e w' => e = .returned (.int .u32 g2) ∧ w = w'))
    (HI : Hid (∀ w : World, Calls Try.prog 54 #[.int .u32 lo, .int .i64 (I + K), .bool left] w fun e w' => e = .returned (.int .u32 g2) ∧ w = w'))
    (p q p2 q2 x3 : Int) 
    (HJ : Hid (∀ w : World, Calls Try.prog 56 #[.int .u32 hi, .int .u32 lo, .int .i64 I] w fun e w' => e = .returned (.tuple #[.int .u32 p, .int .u32 q, .int .i64 x3, .bool false]) ∧ w = w'))
    (HK : Hid (∀ w : World, Calls Try.prog 56 #[.int .u32 p, .int .u32 q, .int .i64 K] w fun e w' => e = .returned (.tuple #[.int .u32 p2, .int .u32 q2, .int .i64 3, .bool true]) ∧ w = w'))
    (HL : Hid (∀ w : World, Calls Try.prog 56 #[.int .u32 hi, .int .u32 lo, .int .i64 (I + K)] w fun e w' => e = .returned (.tuple #[.int .u32 p2, .int .u32 q2, .int .i64 3, .bool true]) ∧ w = w'))
    (y z y2 z2 x4 rd : Int)
    (HM : Hid (∀ w : World, Calls Try.prog 58 #[.int .u32 hi, .int .u32 lo, .int .i64 I] w fun e w' => e = .returned (.tuple #[.int .u32 y, .int .u32 z, .int .i64 x4]) ∧ w = w'))
    (HN : Hid (∀ w : World, Calls Try.prog 58 #[.int .u32 y, .int .u32 z, .int .i64 K] w fun e w' => e = .returned (.tuple #[.int .u32 y2, .int .u32 z2, .int .i64 rd]) ∧ w = w'))
    (HO : Hid (∀ w : World, Calls Try.prog 58 #[.int .u32 hi, .int .u32 lo, .int .i64 (I + K)] w fun e w' => e = .returned (.tuple #[.int .u32 y2, .int .u32 z2, .int .i64 rd]) ∧ w = w'))
    (f1 f2 f3 f4 : Int)
    (HP : Hid (∀ w : World, Calls Try.prog 60 #[.int .u32 hi, .int .u32 lo, .int .i64 I, .bool left] w fun e w' => e = .returned (.tuple #[.int .u32 f1, .int .u32 f2]) ∧ w = w'))
    (HQ : Hid (∀ w : World, Calls Try.prog 60 #[.int .u32 f1, .int .u32 f2, .int .i64 K, .bool left] w fun e w' => e = .returned (.tuple #[.int .u32 f3, .int .u32 f4]) ∧ w = w'))
    (HR : Hid (∀ w : World, Calls Try.prog 60 #[.int .u32 hi, .int .u32 lo, .int .i64 (I + K), .bool left] w fun e w' => e = .returned (.tuple #[.int .u32 f3, .int .u32 f4]) ∧ w = w'))
    (w : World) :
    Calls Try.prog 13 #[.agg #[.int .u32 hi, .int .u32 lo, .int .i64 n, .bool left], .int .u8 m] w fun e w' => e = .returned (.bool true) ∧ Grown w w' := by
  go_enter Try.func13, Try.ntmps13
  have hg0 := Lib.hid ((Grown.refl w).alloc #[.int .u32 hi, .int .u32 lo, .int .i64 n, .bool left] 50)
  go_wp2
  go_quiet (fail)
  go_wp2_with fail

  refine (HA.out _).mono ?_
  rintro e w' ⟨rfl, rfl⟩
  go_wp2_with fail
  refine (HB.out _).mono ?_
  rintro e w' ⟨rfl, rfl⟩
  go_wp2_with fail
  refine (HC.out _).mono ?_
  rintro e w' ⟨rfl, rfl⟩
  clear HA HB HC
  go_wp2_with (go_at_call 18; refine (works_any _).mono ?_; rintro e w' ⟨rfl, hg, hb⟩; clear hb)
  have hgw := Lib.hid (grownThen hg0.out hg)
  clear hg hg0
  go_wp2_with fail
  refine (HD.out _).mono ?_
  rintro e w' ⟨rfl, rfl⟩
  clear HD
  go_wp2_with fail
  refine (HE.out _).mono ?_
  rintro e w' ⟨rfl, rfl⟩
  clear HE
  go_wp2_with fail
  refine (HF.out _).mono ?_
  rintro e w' ⟨rfl, rfl⟩
  clear HF
  go_wp2_with fail
  refine (HG.out _).mono ?_
  rintro e w' ⟨rfl, rfl⟩
  clear HG
  go_wp2_with fail
  refine (HH.out _).mono ?_
  rintro e w' ⟨rfl, rfl⟩
  clear HH
  go_wp2_with fail
  refine (HI.out _).mono ?_
  rintro e w' ⟨rfl, rfl⟩
  clear HI
  go_wp2_with fail
  refine (HJ.out _).mono ?_
  rintro e w' ⟨rfl, rfl⟩
  clear HJ
  go_wp2_with fail
  refine (HK.out _).mono ?_
  rintro e w' ⟨rfl, rfl⟩
  clear HK
  go_wp2_with fail
  refine (HL.out _).mono ?_
  rintro e w' ⟨rfl, rfl⟩
  clear HL
  go_wp2_with fail
  refine (HM.out _).mono ?_
  rintro e w' ⟨rfl, rfl⟩
  clear HM
  go_wp2_with fail
  refine (HN.out _).mono ?_
  rintro e w' ⟨rfl, rfl⟩
  clear HN
  go_wp2_with fail
  refine (HO.out _).mono ?_
  rintro e w' ⟨rfl, rfl⟩
  clear HO
  go_wp2_with fail
  refine (HP.out _).mono ?_
  rintro e w' ⟨rfl, rfl⟩
  clear HP
  go_wp2_with fail
  refine (HQ.out _).mono ?_
  rintro e w' ⟨rfl, rfl⟩
  clear HQ
  go_wp2_with fail
  refine (HR.out _).mono ?_
  rintro e w' ⟨rfl, rfl⟩
  clear HR
  go_wp2
  go_ret
  exact ⟨rfl, hgw.out⟩

set_option maxRecDepth 100000 in
theorem s01 (hi lo n m I K : Int) (left : Bool) (h0 : 0 ≤ hi) (h1 : hi < 4294967296) (l0 : 0 ≤ lo) (l1 : lo < 4294967296) (m0 : 0 ≤ m) (m1 : m < 256)
    (i0 : 0 ≤ I) (i1 : I < 64) (k0 : 0 ≤ K) (ik : I + K < 64) (hI : wrap64 ((IntKind.u64.wrap n).tmod 64) = I) (hK : m % (64 - I) = K)
    (a b x1 : Int) (cc : Int)
    (HA : Hid (∀ w : World, Calls Try.prog 50 #[.int .u32 lo, .int .i64 I] w fun e w' => e = .returned (.tuple #[.int .u32 a, .int .i64 x1, .bool false]) ∧ w = w'))
    (HB : Hid (∀ w : World, Calls Try.prog 50 #[.int .u32 a, .int .i64 K] w fun e w' => e = .returned (.tuple #[.int .u32 b, .int .i64 cc, .bool false]) ∧ w = w'))
    (HC : Hid (∀ w : World, Calls Try.prog 50 #[.int .u32 lo, .int .i64 (I + K)] w fun e w' => e = .returned (.tuple #[.int .u32 b, .int .i64 cc, .bool false]) ∧ w = w'))
    (r s x2 rc : Int)
    (HD : Hid (∀ w : World, Calls Try.prog 52 #[.int .u32 lo, .int .i64 I] w fun e w' => e = .returned (.tuple #[.int .u32 r, .int .i64 x2]) ∧ w = w'))
    (HE : Hid (∀ w : World, Calls Try.prog 52 #[.int .u32 r, .int .i64 K] w fun e w' => e = .returned (.tuple #[.int .u32 s, .int .i64 rc]) ∧ w = w'))
    (HF : Hid (∀ w : World, Calls Try.prog 52 #[.int .u32 lo, .int .i64 (I + K)] w fun e w' => e = .returned (.tuple #[.int .u32 s, .int .i64 rc]) ∧ w = w'))
    (g1 g2 : Int)
    (HG : Hid (∀ w : World, Calls Try.prog 54 #[.int .u32 lo, .int .i64 I, .bool left] w fun e w' => e = .returned (.int .u32 g1) ∧ w = w'))
    (HH : Hid (∀ w : World, Calls Try.prog 54 #[.int .u32 g1, .int .i64 K, .bool left] w fun e w' => e = .returned (.int .u32 g2) ∧ w = w'))
    (HI : Hid (∀ w : World, Calls Try.prog 54 #[.int .u32 lo, .int .i64 (I + K), .bool left] w fun e w' => e = .returned (.int .u32 g2) ∧ w = w'))
    (p q p2 q2 x3 : Int) 
    (HJ : Hid (∀ w : World, Calls Try.prog 56 #[.int .u32 hi, .int .u32 lo, .int .i64 I] w fun e w' => e = .returned (.tuple #[.int .u32 p, .int .u32 q, .int .i64 x3, .bool false]) ∧ w = w'))
    (HK : Hid (∀ w : World, Calls Try.prog 56 #[.int .u32 p, .int .u32 q, .int .i64 K] w fun e w' => e = .returned (.tuple #[.int .u32 p2, .int .u32 q2, .int .i64 3, .bool true]) ∧ w = w'))
    (HL : Hid (∀ w : World, Calls Try.prog 56 #[.int .u32 hi, .int .u32 lo, .int .i64 (I + K)] w fun e w' => e = .returned (.tuple #[.int .u32 p2, .int .u32 q2, .int .i64 3, .bool true]) ∧ w = w'))
    (y z y2 z2 x4 rd : Int)
    (HM : Hid (∀ w : World, Calls Try.prog 58 #[.int .u32 hi, .int .u32 lo, .int .i64 I] w fun e w' => e = .returned (.tuple #[.int .u32 y, .int .u32 z, .int .i64 x4]) ∧ w = w'))
    (HN : Hid (∀ w : World, Calls Try.prog 58 #[.int .u32 y, .int .u32 z, .int .i64 K] w fun e w' => e = .returned (.tuple #[.int .u32 y2, .int .u32 z2, .int .i64 rd]) ∧ w = w'))
    (HO : Hid (∀ w : World, Calls Try.prog 58 #[.int .u32 hi, .int .u32 lo, .int .i64 (I + K)] w fun e w' => e = .returned (.tuple #[.int .u32 y2, .int .u32 z2, .int .i64 rd]) ∧ w = w'))
    (f1 f2 f3 f4 : Int)
    (HP : Hid (∀ w : World, Calls Try.prog 60 #[.int .u32 hi, .int .u32 lo, .int .i64 I, .bool left] w fun e w' => e = .returned (.tuple #[.int .u32 f1, .int .u32 f2]) ∧ w = w'))
    (HQ : Hid (∀ w : World, Calls Try.prog 60 #[.int .u32 f1, .int .u32 f2, .int .i64 K, .bool left] w fun e w' => e = .returned (.tuple #[.int .u32 f3, .int .u32 f4]) ∧ w = w'))
    (HR : Hid (∀ w : World, Calls Try.prog 60 #[.int .u32 hi, .int .u32 lo, .int .i64 (I + K), .bool left] w fun e w' => e = .returned (.tuple #[.int .u32 f3, .int .u32 f4]) ∧ w = w'))
    (w : World) :
    Calls Try.prog 13 #[.agg #[.int .u32 hi, .int .u32 lo, .int .i64 n, .bool left], .int .u8 m] w fun e w' => e = .returned (.bool true) ∧ Grown w w' := by
  go_enter Try.func13, Try.ntmps13
  have hg0 := Lib.hid ((Grown.refl w).alloc #[.int .u32 hi, .int .u32 lo, .int .i64 n, .bool left] 50)
  go_wp2
  go_quiet (fail)
  go_wp2_with fail

  refine (HA.out _).mono ?_
  rintro e w' ⟨rfl, rfl⟩
  go_wp2_with fail
  refine (HB.out _).mono ?_
  rintro e w' ⟨rfl, rfl⟩
  go_wp2_with fail
  refine (HC.out _).mono ?_
  rintro e w' ⟨rfl, rfl⟩
  clear HA HB HC
  go_wp2_with (go_at_call 18; refine (works_any _).mono ?_; rintro e w' ⟨rfl, hg, hb⟩; clear hb)
  have hgw := Lib.hid (grownThen hg0.out hg)
  clear hg hg0
  go_wp2_with fail
  refine (HD.out _).mono ?_
  rintro e w' ⟨rfl, rfl⟩
  clear HD
  go_wp2_with fail
  refine (HE.out _).mono ?_
  rintro e w' ⟨rfl, rfl⟩
  clear HE
  go_wp2_with fail
  refine (HF.out _).mono ?_
  rintro e w' ⟨rfl, rfl⟩
  clear HF
  go_wp2_with fail
  refine (HG.out _).mono ?_
  rintro e w' ⟨rfl, rfl⟩
  clear HG
  go_wp2_with fail
  refine (HH.out _).mono ?_
  rintro e w' ⟨rfl, rfl⟩
  clear HH
  go_wp2_with fail
  refine (HI.out _).mono ?_
  rintro e w' ⟨rfl, rfl⟩
  clear HI
  go_wp2_with fail
  refine (HJ.out _).mono ?_
  rintro e w' ⟨rfl, rfl⟩
  clear HJ
  go_wp2_with fail
  refine (HK.out _).mono ?_
  rintro e w' ⟨rfl, rfl⟩
  clear HK
  go_wp2_with fail
  refine (HL.out _).mono ?_
  rintro e w' ⟨rfl, rfl⟩
  clear HL
  go_wp2_with fail
  refine (HM.out _).mono ?_
  rintro e w' ⟨rfl, rfl⟩
  clear HM
  go_wp2_with fail
  refine (HN.out _).mono ?_
  rintro e w' ⟨rfl, rfl⟩
  clear HN
  go_wp2_with fail
  refine (HO.out _).mono ?_
  rintro e w' ⟨rfl, rfl⟩
  clear HO
  go_wp2_with fail
  refine (HP.out _).mono ?_
  rintro e w' ⟨rfl, rfl⟩
  clear HP
  go_wp2_with fail
  refine (HQ.out _).mono ?_
  rintro e w' ⟨rfl, rfl⟩
  clear HQ
  go_wp2_with fail
  refine (HR.out _).mono ?_
  rintro e w' ⟨rfl, rfl⟩
  clear HR
  go_wp2
  go_ret
  exact ⟨rfl, hgw.out⟩

end W
end Go.Proofs.Ytkbnciekhllcpaa

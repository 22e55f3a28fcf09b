/- A product with a power of two is a long shift of the extended word, and products commute, for any two words and any number of places: the statement WordProductShifts, with no condition. -/
import Derived.Test.YtkbnciekhllcpaaRows
import Derived.WalkKit
import Derived.ProofKit
import Derived.OpenShut
import Derived.Lib.Hide
import Derived.Lib.SmallJoins
import Derived.Deep.QuietTactic
import Derived.BigQuiet
import Derived.Test.YtkbnciekhllcpaaWordLaws
namespace Go.Proofs.Ytkbnciekhllcpaa.wordProductShifts
open Go.ChangeShapes Go.WideShapes Go.ChangeAt Go.RowKit Go.Joins W
set_option linter.unusedVariables false

theorem own : ownKnob Try.prog.godebug = none := by kernel_rfl


theorem pl_id {n : Int} (h0 : 0 ≤ n) (h1 : n < 64) : pl n = n.toNat := by unfold pl; rw [show n % 64 = n by omega]
theorem sgS63 {v : Int} (h0 : 0 ≤ v) (h1 : v < 18446744073709551616) : sgS 9223372036854775808 v = wrap64 v := by unfold sgS; rw [wrap64_eq]; split <;> omega
theorem split_back {v : Int} (h0 : 0 ≤ v) (h1 : v < 18446744073709551616) : v / 4294967296 * 4294967296 + v % 4294967296 = v := by omega
theorem sgd_split {v : Int} (h0 : 0 ≤ v) (h1 : v < 18446744073709551616) : sgd (v / 4294967296) (v % 4294967296) = wrap64 v := by unfold sgd; rw [split_back h0 h1]
theorem shv_form {v : Int} (p : Nat) (h0 : 0 ≤ v) (h1 : v < 18446744073709551616) : shv 9223372036854775808 p v = v * 2 ^ p % 9223372036854775808 + sgn 9223372036854775808 v := by
  cases p with
  | zero => simp only [shv, Int.pow_zero, Int.mul_one]; unfold sgn; split <;> omega
  | succ k => exact shv63_eq k h0 h1

theorem prod_back {P : Int} (p0 : -4611686018427387904 ≤ P) (p1 : P ≤ 4611686018427387904) : sgd (P % 18446744073709551616 / 4294967296) (P % 4294967296) = P := by
  unfold sgd; rw [wrap64_eq]; omega
theorem ext_right {a : Int} (a0 : 0 ≤ a) (a1 : a < 4294967296) : wrap64 (shr 2147483648 31 a * 4294967296 + a) = sg a := by
  have h := (shr31_eq 31 a0 a1).1
  have hs : sgS 2147483648 a = sg a := by unfold sgS sg; (repeat' split) <;> omega
  rw [hs] at h
  rw [h, wrap64_eq]
  have hc := sg_cases a
  have h2 : (2 : Int) ^ 31 = 2147483648 := by decide
  rw [h2]
  omega
theorem small30 {a : Int} {p : Nat} (hb : -2147483648 ≤ a ∧ a < 2147483648) (h : p < 31) : -2305843009213693952 ≤ a * 2 ^ p ∧ a * 2 ^ p ≤ 2305843009213693952 := by
  have hp : (2 : Nat) ^ p ≤ 2 ^ 30 := Nat.pow_le_pow_right (by decide) (by omega)
  have hn : ((2 : Int) ^ p).natAbs = 2 ^ p := by rw [Int.natAbs_pow]; rfl
  have hm : (a * 2 ^ p).natAbs ≤ 2147483648 * 1073741824 := by
    rw [Int.natAbs_mul, hn]
    exact Nat.mul_le_mul (by omega) hp
  omega
theorem pow30 {p : Nat} (h : p < 31) : (0 : Int) ≤ 2 ^ p ∧ (2 : Int) ^ p ≤ 1073741824 := by
  have hp : (2 : Nat) ^ p ≤ 2 ^ 30 := Nat.pow_le_pow_right (by decide) (by omega)
  have h3 := Int.ofNat_le.2 hp
  rw [Int.natCast_pow] at h3
  exact ⟨Int.pow_nonneg (by decide), Int.le_trans h3 (by decide)⟩
theorem cong_back {x y : Int} (x0 : 0 ≤ x) (x1 : x < 18446744073709551616) (h : wrap64 x = y) : x = y % 18446744073709551616 := by rw [← h, wrap64_eq]; omega

set_option maxRecDepth 100000 in
theorem core (a b n : Int) (p : Nat) (Q : Int) (a0 : 0 ≤ a) (a1 : a < 4294967296) (b0 : 0 ≤ b) (b1 : b < 4294967296) (n0 : 0 ≤ n) (n1 : n < 256) (hP : n % 31 = p) (hp : p < 31) (hp2 : 2 ^ p % 4294967296 = Q) (sa : -2147483648 ≤ sg a ∧ sg a < 2147483648)
    (x y s r1 r2 t f x1 x2 x3 : Int) (x4 : Bool) (e0 : 0 ≤ t) (e1 : t < 4294967296) (f0 : 0 ≤ f) (f1 : f < 4294967296) (hn : sgd t f = -sg a)
    (HA : Hid (∀ w : World, Calls Try.prog 46 #[.int .u32 a, .int .u32 b] w fun e w' => e = .returned (.tuple #[.int .u32 x, .int .u32 y]) ∧ w = w'))
    (HB : Hid (∀ w : World, Calls Try.prog 46 #[.int .u32 b, .int .u32 a] w fun e w' => e = .returned (.tuple #[.int .u32 x, .int .u32 y]) ∧ w = w'))
    (HC : Hid (∀ w : World, Calls Try.prog 52 #[.int .u32 a, .int .i64 31] w fun e w' => e = .returned (.tuple #[.int .u32 s, .int .i64 x1]) ∧ w = w'))
    (HD : Hid (∀ w : World, Calls Try.prog 56 #[.int .u32 s, .int .u32 a, .int .i64 p] w fun e w' => e = .returned (.tuple #[.int .u32 r1, .int .u32 r2, .int .i64 x2, .bool false]) ∧ w = w'))
    (HE : Hid (∀ w : World, Calls Try.prog 46 #[.int .u32 a, .int .u32 Q] w fun e w' => e = .returned (.tuple #[.int .u32 r1, .int .u32 r2]) ∧ w = w'))
    (HF : Hid (∀ w : World, Calls Try.prog 46 #[.int .u32 a, .int .u32 0] w fun e w' => e = .returned (.tuple #[.int .u32 0, .int .u32 0]) ∧ w = w'))
    (HG : Hid (∀ w : World, Calls Try.prog 46 #[.int .u32 a, .int .u32 4294967295] w fun e w' => e = .returned (.tuple #[.int .u32 t, .int .u32 f]) ∧ w = w'))
    (HH : Hid (∀ w : World, Calls Try.prog 34 #[.int .u32 a] w fun e w' => e = .returned (.tuple #[.int .u32 f, .int .i64 x3, .bool x4]) ∧ w = w')) (w : World) :
    Calls Try.prog 16 #[.int .u32 a, .int .u32 b, .int .u8 n] w fun e w' => e = .returned (.bool true) ∧ Grown w w' := by
  go_enter Try.func16, Try.ntmps16
  go_wp2_with fail
  refine (HA.out _).mono ?_
  rintro e w' ⟨rfl, rfl⟩
  go_wp2_with fail
  refine (HB.out _).mono ?_
  rintro e w' ⟨rfl, rfl⟩
  go_wp2_with fail
  refine (HC.out _).mono ?_
  rintro e w' ⟨rfl, rfl⟩
  go_wp2_with fail
  refine (HD.out _).mono ?_
  rintro e w' ⟨rfl, rfl⟩
  go_wp2_with fail

  go_wp2_with fail
  refine (HE.out _).mono ?_
  rintro e w' ⟨rfl, rfl⟩
  go_wp2_with fail
  refine (HF.out _).mono ?_
  rintro e w' ⟨rfl, rfl⟩
  go_wp2_with fail
  refine (HG.out _).mono ?_
  rintro e w' ⟨rfl, rfl⟩
  go_wp2_with fail
  refine (HH.out _).mono ?_
  rintro e w' ⟨rfl, rfl⟩
  go_wp2_with (first | (go_at_call 62; refine (lsigned_any _ (by omega) (by omega) _).mono ?_; rintro e w' ⟨rfl, rfl⟩) | (go_at_call 64; refine (llong_any _ _ (by omega) (by omega) (by omega) (by omega) _).mono ?_; rintro e w' ⟨rfl, rfl⟩) | (go_at_call 18; refine (works_any _).mono ?_; rintro e w' ⟨rfl, hg, hb⟩; clear hb))
  go_ret
  exact ⟨rfl, hg⟩

theorem walk (a0 : Int) (w0 : (Lit.int .u32 a0).wf = true) (a1 : Int) (w1 : (Lit.int .u32 a1).wf = true) (a2 : Int) (w2 : (Lit.int .u8 a2).wf = true) (w : World) :
    Calls Try.prog 16 #[.int .u32 a0, .int .u32 a1, .int .u8 a2] w fun e w' => e = .returned (.bool true) ∧ Grown w w' := by
  obtain ⟨a00, a01⟩ := u32_wf w0
  obtain ⟨b00, b01⟩ := u32_wf w1
  obtain ⟨n0, n1⟩ := u8_wf w2
  clear w0 w1 w2
  have sa := sg_bd a00 a01
  have sb := sg_bd b00 b01
  obtain ⟨p, hP⟩ : ∃ p : Nat, a2 % 31 = p := ⟨(a2 % 31).toNat, by omega⟩
  have hp : p < 31 := by omega
  have hQ := pow30 hp
  have hq : (2 : Int) ^ p % 4294967296 = 2 ^ p := by omega
  have sQ : sg ((2 : Int) ^ p) = 2 ^ p := by unfold sg; rw [if_pos (by omega)]
  have sm : sg 4294967295 = -1 := by decide
  have hy := small30 sa hp
  have bS := shr31_bd 31 a00 a01
  have u0 : 0 ≤ shr 2147483648 31 a0 * 4294967296 + a0 := by omega
  have u1 : shr 2147483648 31 a0 * 4294967296 + a0 < 18446744073709551616 := by omega
  have hx := ext_right a00 a01
  have so := sho63_eq p u0 u1
  have bV := shv63_bd p u0 u1
  rw [sgS63 u0 u1, sgS63 bV.1 bV.2.1, hx] at so
  have pp : pl (p : Int) = p := by rw [pl_id (by omega) (by omega)]; omega
  have p31 : pl 31 = 31 := rfl
  have A := fun w => wMul_any a0 a1 a00 a01 b00 b01 w
  have B := fun w => wMul_any a1 a0 b00 b01 a00 a01 w
  rw [Int.mul_comm] at B
  have C := fun w => wShiftRight_any a0 31 a00 a01 (by decide) (by decide) w
  rw [p31] at C
  have E := fun w => wShiftLeftDouble_any (shr 2147483648 31 a0) a0 p bS.1 bS.2.1 a00 a01 (by omega) (by omega) w
  rw [pp] at E
  have G := fun w => wMul_any a0 (2 ^ p) a00 a01 hQ.1 (by omega) w
  rw [sQ] at G
  have H := fun w => wMul_any a0 0 a00 a01 (by decide) (by decide) w
  rw [show sg 0 = 0 from rfl, Int.mul_zero] at H
  have J := fun w => wMul_any a0 4294967295 a00 a01 (by decide) (by decide) w
  rw [sm] at J
  have K := fun w => wComplement_any a0 a00 a01 w
  rw [show (sg 0 - sg a0) = sg a0 * -1 by rw [show sg 0 = 0 from rfl]; omega] at K
  cases ho : sho 9223372036854775808 p (shr 2147483648 31 a0 * 4294967296 + a0) with
  | true => exact absurd (by omega) (so.2 ho)
  | false =>
    have hv := cong_back bV.1 bV.2.1 (so.1 ho).1
    have hl : shv 9223372036854775808 p (shr 2147483648 31 a0 * 4294967296 + a0) % 4294967296 = sg a0 * 2 ^ p % 4294967296 := by rw [hv]; omega
    rw [ho, hl, hv] at E
    refine core a0 a1 a2 p (2 ^ p) a00 a01 b00 b01 n0 n1 hP hp hq sa _ _ _ _ _ (sg a0 * -1 % 18446744073709551616 / 4294967296) (sg a0 * -1 % 4294967296) _ _ _ _ (by omega) (by omega) (by omega) (by omega) ?_
      (Lib.hid A) (Lib.hid B) (Lib.hid C) (Lib.hid E) (Lib.hid G) (Lib.hid H) (Lib.hid J) (Lib.hid K) w
    rw [prod_back (by omega) (by omega)]; omega

set_option maxRecDepth 100000 in
theorem lifted (os : Os) (started : os.Started) (H : Type) (enc : TypeId × Value → H) :
    ReturnsInHanded {} Try.checked os 16 .any (Rows.wordProductShiftsSpec.pre6 enc Try.prog Try.f16 Rows.wordProductShiftsRow.domain false) (Rows.wordProductShiftsSpec.post enc Try.prog Try.f16 false true false false) := by
  refine returnsInHanded_of_change (C := Try.checked) own started (by kernel_rfl) Try.func16
    (ChangeSpec.witness6 (enc := enc) (C := Try.checked) false ⟨#[], #[.int .u32 0, .int .u32 0, .int .u8 0], []⟩ 8 (by kernel_rfl) (by kernel_rfl) (by kernel_rfl) (by kernel_rfl)) ?_
  intro W base args ds gs before hval0 hW hcnd _
  have hval : ∀ (j : Nat) t v, Try.f16.params[j]? = some t → args[j]? = some v → Value.okWide Try.prog W .any base t v := hval0
  have hW' := hW
  obtain ⟨p, q, hA0, hV, rfl, hfz, hnd⟩ := hW
  have hA : DataW.TrodAll enc Try.prog W 0 (fun _ => true) true Try.f16.params.toList args.toList ds p := hA0
  rw [Try.params16] at hA hval
  obtain ⟨v0, vs0, d0, ds0, p0, q0, hargs, rfl, rfl, h0, r0⟩ := trodAll_cons hA
  obtain ⟨v1, vs1, d1, ds1, p1, q1, rfl, rfl, rfl, h1, r1⟩ := trodAll_cons r0
  obtain ⟨v2, vs2, d2, ds2, p2, q2, rfl, rfl, rfl, h2, r2⟩ := trodAll_cons r1
  obtain ⟨rfl, rfl, rfl⟩ := trodAll_nil r2
  obtain rfl : args = #[v0, v1, v2] := by cases args; simp_all
  obtain ⟨rfl, rfl⟩ := trodVars_none hV
  obtain ⟨a0, rfl, rfl, rfl, w0⟩ := open_int Try.underlying23 (hval 0 23 v0 rfl rfl) h0
  obtain ⟨a1, rfl, rfl, rfl, w1⟩ := open_int Try.underlying23 (hval 1 23 v1 rfl rfl) h1
  obtain ⟨a2, rfl, rfl, rfl, w2⟩ := open_int Try.underlying5 (hval 2 5 v2 rfl rfl) h2
  clear hA0 hval0
  simp only [List.append_nil] at hW'
  refine (walk a0 w0 a1 w1 a2 w2 W).mono fun e W' ⟨he, hg⟩ => ?_
  subst he
  exact ⟨_, rfl, post_of_same (pa := []) (pv := []) hW' (fun _ _ _ => (trodAll_cons_mk (shut_bool Try.underlying4 _) trodAll_mk0)) (fun sp _ => (trodAll_cons_mk (shut_int Try.underlying23 w0) (trodAll_cons_mk (shut_int Try.underlying23 w1) (trodAll_cons_mk (shut_int Try.underlying5 w2) trodAll_mk0)))) (fun _ _ => rfl) rfl
    (hg.frame _) hg.2.1 (ok_one (by kernel_rfl) rfl (okWide_bool_mk Try.underlying4 _))⟩

theorem over : Rows.wordProductShiftsRow.holds Try.pinned (OpenSpec.ofChange Rows.wordProductShiftsSpec) :=
  OpenClaim.holds_of_wide 16 Try.f16 rfl rfl rfl rfl rfl rfl rfl ⟨rfl, rfl, rfl, rfl, rfl⟩ rfl rfl rfl rfl rfl (by kernel_rfl) Try.func16 (by kernel_rfl)
    (of_decide_eq_true (by kernel_rfl)) (by unfold Func.isWrapper; first | (rw [if_pos (by decide +kernel)]; kernel_rfl) | (rw [if_neg (by decide +kernel)]; exact ⟨rfl, rfl⟩))
    (fun os started H enc _ => lifted os started H enc)

theorem proved : Rows.WordProductShiftsSaid :=
  over
#print axioms proved
end Go.Proofs.Ytkbnciekhllcpaa.wordProductShifts

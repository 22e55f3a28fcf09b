/- The shifts of a double word multiply and divide by powers of two, for any double word and any number of places: the statement WordLongMultiplies, with no condition. -/
import Derived.Test.YtkbnciekhllcpaaRows
import Derived.WalkKit
import Derived.ProofKit
import Derived.OpenShut
import Derived.Lib.Hide
import Derived.Lib.SmallJoins
import Derived.Deep.QuietTactic
import Derived.BigQuiet
import Derived.Test.YtkbnciekhllcpaaLongMults
namespace Go.Proofs.Ytkbnciekhllcpaa.wordLongMultiplies
open Go.ChangeShapes Go.WideShapes Go.ChangeAt Go.RowKit Go.Joins W
set_option linter.unusedVariables false

theorem own : ownKnob Try.prog.godebug = none := by kernel_rfl


theorem pl_id {n : Int} (h0 : 0 ≤ n) (h1 : n < 64) : pl n = n.toNat := by unfold pl; rw [show n % 64 = n by omega]
theorem sgS63 {v : Int} (h0 : 0 ≤ v) (h1 : v < 18446744073709551616) : sgS 9223372036854775808 v = wrap64 v := by unfold sgS; rw [wrap64_eq]; split <;> omega
theorem split_back {v : Int} (h0 : 0 ≤ v) (h1 : v < 18446744073709551616) : v / 4294967296 * 4294967296 + v % 4294967296 = v := by omega
theorem sgd_split {v : Int} (h0 : 0 ≤ v) (h1 : v < 18446744073709551616) : sgd (v / 4294967296) (v % 4294967296) = wrap64 v := by unfold sgd; rw [split_back h0 h1]
theorem shv_form {v : Int} (p : Nat) (h0 : 0 ≤ v) (h1 : v < 18446744073709551616) : shv 9223372036854775808 p v = v * 2 ^ p % 9223372036854775808 + sgn 9223372036854775808 v := by
  cases p with
  | zero => simp only [shv, Int.pow_zero, Int.mul_one]; unfold sgn; split <;> omega
  | succ k => exact shv63_eq k h0 h1

theorem tmod_pl (n : Int) : n.tmod 64 = pl n ∨ (n.tmod 64 = pl n - 64 ∧ 0 < pl n) := by
  have h := pl_eq n
  by_cases hn : 0 ≤ n
  · left; rw [Int.tmod_eq_emod_of_nonneg hn, h]
  · have e : n.tmod 64 = -((-n).tmod 64) := by rw [Int.neg_tmod]; omega
    have e2 : (-n).tmod 64 = (-n) % 64 := Int.tmod_eq_emod_of_nonneg (by omega)
    omega
theorem mul_wrap {v : Int} (h0 : 0 ≤ v) (h1 : v < 18446744073709551616) (q : Int) : wrap64 (v * q % 18446744073709551616) = wrap64 (wrap64 v * q) := by
  have h : ∃ k : Int, wrap64 v = v - 18446744073709551616 * k := ⟨if v < 9223372036854775808 then 0 else 1, by rw [wrap64_eq]; split <;> omega⟩
  obtain ⟨k, hk⟩ := h
  rw [hk, Int.sub_mul, Int.mul_assoc]
  generalize v * q = x
  generalize k * q = y
  simp only [wrap64_eq]; omega
theorem back_of {V q : Int} (q0 : 0 < q) (q1 : q ≤ 9223372036854775808) : (wrap64 (V * q) / q == V) = decide (-9223372036854775808 ≤ V * q ∧ V * q < 9223372036854775808) := by
  rw [Bool.eq_iff_iff, beq_iff_eq, decide_eq_true_eq]
  constructor
  · intro h
    have m1 := Int.mul_ediv_self_le (x := wrap64 (V * q)) (k := q) (by omega)
    have m2 := Int.lt_mul_ediv_self_add (x := wrap64 (V * q)) (k := q) q0
    rw [h, Int.mul_comm q V] at m1 m2
    have hw := wrap64_eq (V * q)
    omega
  · intro h
    rw [wrap64_id h.1 h.2, Int.mul_ediv_cancel _ (by omega)]
theorem or_form {U : Int} (h0 : 0 ≤ U) (h1 : U < 18446744073709551616) (x : Int) : bits .or .u64 (U / 9223372036854775808 * 9223372036854775808) (bits .and .u64 (IntKind.u64.wrap x) 9223372036854775807) = x % 9223372036854775808 + sgn 9223372036854775808 U := by
  have hw : IntKind.u64.wrap x = x % 18446744073709551616 := wrap_u64 x
  have ha : bits .and .u64 (IntKind.u64.wrap x) 9223372036854775807 = x % 9223372036854775808 := by
    have e : bits .and .u64 (IntKind.u64.wrap x) 9223372036854775807 = IntKind.u64.wrap ((BitVec.ofInt 64 (IntKind.u64.wrap x) &&& BitVec.ofInt 64 9223372036854775807).toNat : Int) := rfl
    have c : (BitVec.ofInt 64 9223372036854775807).toNat = 2 ^ 63 - 1 := by decide
    rw [e, BitVec.toNat_and, bvNat (by omega) (by omega), c, Nat.and_two_pow_sub_one_eq_mod, wrap_u64, hw]
    omega
  rw [ha]
  have e : bits .or .u64 (U / 9223372036854775808 * 9223372036854775808) (x % 9223372036854775808) = IntKind.u64.wrap ((BitVec.ofInt 64 (U / 9223372036854775808 * 9223372036854775808) ||| BitVec.ofInt 64 (x % 9223372036854775808)).toNat : Int) := rfl
  rw [e, BitVec.toNat_or, bvNat (by omega) (by omega), bvNat (by omega) (by omega), wrap_u64]
  have h := orNat 63 (U / 9223372036854775808).toNat (x % 9223372036854775808).toNat (by omega)
  rw [show (U / 9223372036854775808 * 9223372036854775808).toNat = 2 ^ 63 * (U / 9223372036854775808).toNat by omega, h]
  unfold sgn; split <;> omega

theorem walk (a0 : Int) (w0 : (Lit.int .u32 a0).wf = true) (a1 : Int) (w1 : (Lit.int .u32 a1).wf = true) (a2 : Int) (w2 : (Lit.int .i64 a2).wf = true) (w : World) :
    Calls Try.prog 15 #[.int .u32 a0, .int .u32 a1, .int .i64 a2] w fun e w' => e = .returned (.bool true) ∧ Grown w w' := by
  obtain ⟨h0, h1⟩ := u32_wf w0
  obtain ⟨l0, l1⟩ := u32_wf w1
  obtain ⟨n0, n1⟩ := i64_wf w2
  clear w0 w1 w2
  have u0 : 0 ≤ a0 * 4294967296 + a1 := by omega
  have u1 : a0 * 4294967296 + a1 < 18446744073709551616 := by omega
  have vb := sgd_bd a0 a1
  have hU : IntKind.u64.wrap (sgd a0 a1) = (a0 * 4294967296 + a1) := by unfold sgd; rw [wrap_u64, wrap64_eq]; omega
  have bA := shv63_bd (pl a2) u0 u1
  have bB := shr63_bd (pl a2) u0 u1
  have bC := slg_bd true (pl a2) u0 u1
  have bD := slg_bd false (pl a2) u0 u1
  have A := fun w => wShiftLeftDouble_any a0 a1 a2 h0 h1 l0 l1 n0 n1 w
  have B := fun w => wShiftRightDouble_any a0 a1 a2 h0 h1 l0 l1 n0 n1 w
  have C := fun w => wShiftLogicalDouble_any a0 a1 a2 true h0 h1 l0 l1 n0 n1 w
  have E := fun w => wShiftLogicalDouble_any a0 a1 a2 false h0 h1 l0 l1 n0 n1 w
  have hp64 := pl_lt a2
  have so := sho63_eq (pl a2) u0 u1
  rw [sgS63 u0 u1, sgS63 bA.1 bA.2.1] at so
  have sr := (shr63_eq (pl a2) u0 u1).2
  rw [sgS63 u0 u1, sgS63 bB.1 bB.2.1] at sr
  rw [sr] at B
  have s0 : sgd (shr 9223372036854775808 (pl a2) (a0 * 4294967296 + a1) / 4294967296) (shr 9223372036854775808 (pl a2) (a0 * 4294967296 + a1) % 4294967296) = sgd a0 a1 / 2 ^ pl a2 := by rw [sgd_split bB.1 bB.2.1, sr]; rfl
  have s1 : sgd (slg 18446744073709551616 true (pl a2) (a0 * 4294967296 + a1) / 4294967296) (slg 18446744073709551616 true (pl a2) (a0 * 4294967296 + a1) % 4294967296) = wrap64 (sgd a0 a1 * 2 ^ pl a2) := by
    rw [sgd_split bC.1 bC.2]; exact mul_wrap u0 u1 _
  have s2 : IntKind.u64.wrap (sgd (slg 18446744073709551616 false (pl a2) (a0 * 4294967296 + a1) / 4294967296) (slg 18446744073709551616 false (pl a2) (a0 * 4294967296 + a1) % 4294967296)) = (a0 * 4294967296 + a1) / 2 ^ pl a2 := by
    rw [sgd_split bD.1 bD.2, wrap_u64, wrap64_eq]
    have e : slg 18446744073709551616 false (pl a2) (a0 * 4294967296 + a1) = (a0 * 4294967296 + a1) / 2 ^ pl a2 := rfl
    rw [← e]; omega
  have s4 : bits .or .u64 ((a0 * 4294967296 + a1) / 9223372036854775808 * 9223372036854775808) (bits .and .u64 (IntKind.u64.wrap ((a0 * 4294967296 + a1) * 2 ^ pl a2)) 9223372036854775807) = IntKind.u64.wrap (sgd (shv 9223372036854775808 (pl a2) (a0 * 4294967296 + a1) / 4294967296) (shv 9223372036854775808 (pl a2) (a0 * 4294967296 + a1) % 4294967296)) := by
    rw [or_form u0 u1, sgd_split bA.1 bA.2.1, ← shv_form (pl a2) u0 u1, wrap_u64, wrap64_eq]; omega
  have q0 : (0 : Int) < 2 ^ pl a2 := Int.pow_pos (by decide)
  have q1 : (2 : Int) ^ pl a2 ≤ 9223372036854775808 := by
    have h : (2 : Nat) ^ pl a2 ≤ 2 ^ 63 := Nat.pow_le_pow_right (by decide) (by omega)
    have h2 : ((2 ^ pl a2 : Nat) : Int) = 2 ^ pl a2 := by simp
    omega
  have s3 := back_of (V := sgd a0 a1) q0 q1
  rw [show wrap64 (a0 * 4294967296 + a1) = sgd a0 a1 from rfl] at so
  have cc : sl64cc (pl a2) (a0 * 4294967296 + a1) = if sho 9223372036854775808 (pl a2) (a0 * 4294967296 + a1) = true then 3 else ord (wrap64 (shv 9223372036854775808 (pl a2) (a0 * 4294967296 + a1))) 0 := rfl
  rw [cc, ← sgd_split bA.1 bA.2.1] at A
  clear cc
  cases ho : sho 9223372036854775808 (pl a2) (a0 * 4294967296 + a1) <;> rw [ho] at A <;> simp only [Bool.false_eq_true, if_false, if_true] at A
  · have s3 : (wrap64 (sgd a0 a1 * 2 ^ pl a2) / 2 ^ pl a2 == sgd a0 a1) = true := by rw [s3]; exact decide_eq_true (so.1 ho).2
    rcases tmod_pl a2 with hT | ⟨hT, hp⟩
    · exact qA0 a0 a1 a2 (pl a2) h0 h1 l0 l1 hT hp64 _ _ _ _ _ _ _ _ _ _ (by omega) (by omega) (by omega) (by omega) (by omega) (by omega) (by omega) (by omega) (by omega) (by omega) (by omega) (by omega) (by omega) (by omega) (by omega) (by omega) u0 u1 vb.1 vb.2 rfl hU (Lib.hid A) (Lib.hid B) (Lib.hid C) (Lib.hid E) s0 s1 s2 s3 s4 w
    · exact qB0 a0 a1 a2 (pl a2) h0 h1 l0 l1 hT hp hp64 _ _ _ _ _ _ _ _ _ _ (by omega) (by omega) (by omega) (by omega) (by omega) (by omega) (by omega) (by omega) (by omega) (by omega) (by omega) (by omega) (by omega) (by omega) (by omega) (by omega) u0 u1 vb.1 vb.2 rfl hU (Lib.hid A) (Lib.hid B) (Lib.hid C) (Lib.hid E) s0 s1 s2 s3 s4 w
  · have s3 : (wrap64 (sgd a0 a1 * 2 ^ pl a2) / 2 ^ pl a2 == sgd a0 a1) = false := by rw [s3]; exact decide_eq_false (so.2 ho)
    rcases tmod_pl a2 with hT | ⟨hT, hp⟩
    · exact qA1 a0 a1 a2 (pl a2) h0 h1 l0 l1 hT hp64 _ _ _ _ _ _ _ _ _ _ (by omega) (by omega) (by omega) (by omega) (by omega) (by omega) (by omega) (by omega) (by omega) (by omega) (by omega) (by omega) (by omega) (by omega) (by omega) (by omega) u0 u1 vb.1 vb.2 rfl hU (Lib.hid A) (Lib.hid B) (Lib.hid C) (Lib.hid E) s0 s1 s2 s3 s4 w
    · exact qB1 a0 a1 a2 (pl a2) h0 h1 l0 l1 hT hp hp64 _ _ _ _ _ _ _ _ _ _ (by omega) (by omega) (by omega) (by omega) (by omega) (by omega) (by omega) (by omega) (by omega) (by omega) (by omega) (by omega) (by omega) (by omega) (by omega) (by omega) u0 u1 vb.1 vb.2 rfl hU (Lib.hid A) (Lib.hid B) (Lib.hid C) (Lib.hid E) s0 s1 s2 s3 s4 w

set_option maxRecDepth 100000 in
theorem lifted (os : Os) (started : os.Started) (H : Type) (enc : TypeId × Value → H) :
    ReturnsInHanded {} Try.checked os 15 .any (Rows.wordLongMultipliesSpec.pre6 enc Try.prog Try.f15 Rows.wordLongMultipliesRow.domain false) (Rows.wordLongMultipliesSpec.post enc Try.prog Try.f15 false true false false) := by
  refine returnsInHanded_of_change (C := Try.checked) own started (by kernel_rfl) Try.func15
    (ChangeSpec.witness6 (enc := enc) (C := Try.checked) false ⟨#[], #[.int .u32 0, .int .u32 0, .int .i64 0], []⟩ 8 (by kernel_rfl) (by kernel_rfl) (by kernel_rfl) (by kernel_rfl)) ?_
  intro W base args ds gs before hval0 hW hcnd _
  have hval : ∀ (j : Nat) t v, Try.f15.params[j]? = some t → args[j]? = some v → Value.okWide Try.prog W .any base t v := hval0
  have hW' := hW
  obtain ⟨p, q, hA0, hV, rfl, hfz, hnd⟩ := hW
  have hA : DataW.TrodAll enc Try.prog W 0 (fun _ => true) true Try.f15.params.toList args.toList ds p := hA0
  rw [Try.params15] at hA hval
  obtain ⟨v0, vs0, d0, ds0, p0, q0, hargs, rfl, rfl, h0, r0⟩ := trodAll_cons hA
  obtain ⟨v1, vs1, d1, ds1, p1, q1, rfl, rfl, rfl, h1, r1⟩ := trodAll_cons r0
  obtain ⟨v2, vs2, d2, ds2, p2, q2, rfl, rfl, rfl, h2, r2⟩ := trodAll_cons r1
  obtain ⟨rfl, rfl, rfl⟩ := trodAll_nil r2
  obtain rfl : args = #[v0, v1, v2] := by cases args; simp_all
  obtain ⟨rfl, rfl⟩ := trodVars_none hV
  obtain ⟨a0, rfl, rfl, rfl, w0⟩ := open_int Try.underlying23 (hval 0 23 v0 rfl rfl) h0
  obtain ⟨a1, rfl, rfl, rfl, w1⟩ := open_int Try.underlying23 (hval 1 23 v1 rfl rfl) h1
  obtain ⟨a2, rfl, rfl, rfl, w2⟩ := open_int Try.underlying3 (hval 2 3 v2 rfl rfl) h2
  clear hA0 hval0
  simp only [List.append_nil] at hW'
  refine (walk a0 w0 a1 w1 a2 w2 W).mono fun e W' ⟨he, hg⟩ => ?_
  subst he
  exact ⟨_, rfl, post_of_same (pa := []) (pv := []) hW' (fun _ _ _ => (trodAll_cons_mk (shut_bool Try.underlying4 _) trodAll_mk0)) (fun sp _ => (trodAll_cons_mk (shut_int Try.underlying23 w0) (trodAll_cons_mk (shut_int Try.underlying23 w1) (trodAll_cons_mk (shut_int Try.underlying3 w2) trodAll_mk0)))) (fun _ _ => rfl) rfl
    (hg.frame _) hg.2.1 (ok_one (by kernel_rfl) rfl (okWide_bool_mk Try.underlying4 _))⟩

theorem over : Rows.wordLongMultipliesRow.holds Try.pinned (OpenSpec.ofChange Rows.wordLongMultipliesSpec) :=
  OpenClaim.holds_of_wide 15 Try.f15 rfl rfl rfl rfl rfl rfl rfl ⟨rfl, rfl, rfl, rfl, rfl⟩ rfl rfl rfl rfl rfl (by kernel_rfl) Try.func15 (by kernel_rfl)
    (of_decide_eq_true (by kernel_rfl)) (by unfold Func.isWrapper; first | (rw [if_pos (by decide +kernel)]; kernel_rfl) | (rw [if_neg (by decide +kernel)]; exact ⟨rfl, rfl⟩))
    (fun os started H enc _ => lifted os started H enc)

theorem proved : Rows.WordLongMultipliesSaid :=
  over
#print axioms proved
end Go.Proofs.Ytkbnciekhllcpaa.wordLongMultiplies

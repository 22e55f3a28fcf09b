/- The shifts of a word multiply and divide by powers of two, for any word and any number of places: the statement WordShiftsMultiply, with no condition. -/
import Derived.Test.YtkbnciekhllcpaaRows
import Derived.WalkKit
import Derived.ProofKit
import Derived.OpenShut
import Derived.Lib.Hide
import Derived.Lib.SmallJoins
import Derived.Deep.QuietTactic
import Derived.BigQuiet
import Derived.Test.YtkbnciekhllcpaaMults1
import Derived.Test.YtkbnciekhllcpaaMults2
namespace Go.Proofs.Ytkbnciekhllcpaa.wordShiftsMultiply
open Go.ChangeShapes Go.WideShapes Go.ChangeAt Go.RowKit Go.Joins W
set_option linter.unusedVariables false

theorem own : ownKnob Try.prog.godebug = none := by kernel_rfl


theorem pl_pl (n : Int) : pl ((pl n : Nat) : Int) = pl n := by have := pl_eq n; unfold pl; unfold pl at this; omega
theorem tmod_pl (n : Int) : n.tmod 64 = pl n ∨ (n.tmod 64 = pl n - 64 ∧ 0 < pl n) := by
  have h := pl_eq n
  by_cases hn : 0 ≤ n
  · left; rw [Int.tmod_eq_emod_of_nonneg hn, h]
  · have e : n.tmod 64 = -((-n).tmod 64) := by rw [Int.neg_tmod]; omega
    have e2 : (-n).tmod 64 = (-n) % 64 := Int.tmod_eq_emod_of_nonneg (by omega)
    omega
theorem sgS31 (v : Int) : sgS 2147483648 v = sg v := by unfold sgS sg; (repeat' split) <;> omega
theorem pow_big {p : Nat} (h : 32 ≤ p) : ∃ y : Int, 0 < y ∧ (2 : Int) ^ p = 4294967296 * y :=
  ⟨2 ^ (p - 32), Int.pow_pos (by decide), by rw [show (4294967296 : Int) = 2 ^ 32 from rfl, ← Int.pow_add]; congr 1; omega⟩
theorem big_over {v : Int} {p : Nat} (v0 : 0 ≤ v) (v1 : v < 4294967296) (h : 32 ≤ p) : (v != 0) = sho 2147483648 p v := by
  obtain ⟨y, y0, hy⟩ := pow_big h
  obtain ⟨e1, e2⟩ := sho31_eq p v0 v1
  simp only [sgS31] at e1 e2
  rw [hy] at e1 e2
  have e : sg v * (4294967296 * y) = 4294967296 * (sg v * y) := by rw [Int.mul_left_comm]
  rw [e] at e1 e2
  have hc := sg_cases v
  by_cases hv : v = 0
  · have hz : sg v = 0 := by omega
    rw [hz, Int.zero_mul] at e2
    cases ho : sho 2147483648 p v
    · simp [hv]
    · exact absurd (by omega) (e2 ho)
  · have hz : sg v ≠ 0 := by omega
    have hne : sg v * y ≠ 0 := Int.mul_ne_zero hz (by omega)
    cases ho : sho 2147483648 p v
    · have := e1 ho; omega
    · simpa using hv
theorem big_right {v : Int} {p : Nat} (v0 : 0 ≤ v) (v1 : v < 4294967296) (h : 32 ≤ p) : sg v / 2147483648 = sg (shr 2147483648 p v) := by
  have e := (shr31_eq p v0 v1).2
  rw [sgS31, sgS31] at e
  rw [e]
  obtain ⟨y, y0, hy⟩ := pow_big h
  rw [hy, ← Int.ediv_ediv_of_nonneg (by decide)]
  have hc := sg_bd v0 v1
  have h2 : sg v / 4294967296 = 0 ∧ sg v / 2147483648 = 0 ∨ sg v / 4294967296 = -1 ∧ sg v / 2147483648 = -1 := by omega
  rcases h2 with ⟨h2, h3⟩ | ⟨h2, h3⟩
  · rw [h2, h3, Int.zero_ediv]
  · rw [h2, h3]; exact (Int.ediv_eq_neg_one_of_neg_of_le (by decide) (by omega)).symm
theorem big_log {v : Int} {p : Nat} (v0 : 0 ≤ v) (v1 : v < 4294967296) (h : 32 ≤ p) (l : Bool) : slg 4294967296 l p v = 0 := by
  obtain ⟨y, y0, hy⟩ := pow_big h
  cases l
  · simp only [slg, Bool.false_eq_true, if_false]
    rw [hy, ← Int.ediv_ediv_of_nonneg (by decide), show v / 4294967296 = 0 by omega, Int.zero_ediv]
  · simp only [slg, if_true]
    rw [hy, Int.mul_left_comm, Int.mul_emod_right]
theorem small_bd {v : Int} {p : Nat} (v0 : 0 ≤ v) (v1 : v < 4294967296) (h : p < 32) : -4611686018427387904 ≤ sg v * 2 ^ p ∧ sg v * 2 ^ p ≤ 4611686018427387904 := by
  have hc := sg_bd v0 v1
  have hp : (2 : Nat) ^ p ≤ 2 ^ 31 := Nat.pow_le_pow_right (by decide) (by omega)
  have hn : ((2 : Int) ^ p).natAbs = 2 ^ p := by rw [Int.natAbs_pow]; rfl
  have hm : (sg v * 2 ^ p).natAbs ≤ 2147483648 * 2147483648 := by
    rw [Int.natAbs_mul, hn]
    exact Nat.mul_le_mul (by omega) hp
  omega

theorem walk (a0 : Int) (w0 : (Lit.int .u32 a0).wf = true) (a1 : Int) (w1 : (Lit.int .i64 a1).wf = true) (w : World) :
    Calls Try.prog 14 #[.int .u32 a0, .int .i64 a1] w fun e w' => e = .returned (.bool true) ∧ Grown w w' := by
  obtain ⟨v0, v1⟩ := u32_wf w0
  obtain ⟨n0, n1⟩ := i64_wf w1
  clear w0 w1
  have sv := sg_bd v0 v1
  have bA := shv31_bd (pl a1) v0 v1
  have bB := shr31_bd (pl a1) v0 v1
  have bL := slg_bd true (pl a1) v0 v1
  have bR := slg_bd false (pl a1) v0 v1
  have A := fun w => wShiftLeft_any a0 a1 v0 v1 n0 n1 w
  have B := fun w => wShiftRight_any a0 a1 v0 v1 n0 n1 w
  have C := fun w => wShiftLeft_any a0 (pl a1) v0 v1 (by have := pl_lt a1; omega) (by have := pl_lt a1; omega) w
  have D := fun w => wShiftLogical_any a0 a1 true v0 v1 n0 n1 w
  have E := fun w => wShiftLogical_any a0 a1 false v0 v1 n0 n1 w
  rw [pl_pl] at C
  have hp64 := pl_lt a1
  have so := sho31_eq (pl a1) v0 v1
  rw [sgS31, sgS31] at so
  have sr := (shr31_eq (pl a1) v0 v1).2
  rw [sgS31, sgS31] at sr
  have cc : sl32cc (pl a1) a0 = if sho 2147483648 (pl a1) a0 = true then 3 else ord (sg (shv 2147483648 (pl a1) a0)) 0 := rfl
  rw [cc] at A C
  clear cc
  have hT := tmod_pl a1
  by_cases hb : 32 ≤ pl a1
  · have ov := big_over v0 v1 hb
    have br := big_right v0 v1 hb
    have l1 := big_log v0 v1 hb true
    have l2 := big_log v0 v1 hb false
    rw [l1] at D
    rw [l2] at E
    cases ho : sho 2147483648 (pl a1) a0 <;> rw [ho] at A C ov <;> simp only [Bool.false_eq_true, if_false, if_true] at A C
    · rcases hT with hT | ⟨hT, hp⟩
      · exact mAb0 a0 a1 (pl a1) v0 v1 sv hT hp64 _ _ 0 0 0 bA.1 bA.2.1 bB.1 bB.2.1 (by decide) (by decide) (by decide) (by decide) (Lib.hid A) (Lib.hid B) (Lib.hid C) (Lib.hid D) (Lib.hid E) hb ov br w
      · exact mBb0 a0 a1 (pl a1) v0 v1 sv hT hp hp64 _ _ 0 0 0 bA.1 bA.2.1 bB.1 bB.2.1 (by decide) (by decide) (by decide) (by decide) (Lib.hid A) (Lib.hid B) (Lib.hid C) (Lib.hid D) (Lib.hid E) hb ov br w
    · rcases hT with hT | ⟨hT, hp⟩
      · exact mAb1 a0 a1 (pl a1) v0 v1 sv hT hp64 _ _ 3 0 0 bA.1 bA.2.1 bB.1 bB.2.1 (by decide) (by decide) (by decide) (by decide) (Lib.hid A) (Lib.hid B) (Lib.hid C) (Lib.hid D) (Lib.hid E) hb ov br w
      · exact mBb1 a0 a1 (pl a1) v0 v1 sv hT hp hp64 _ _ 3 0 0 bA.1 bA.2.1 bB.1 bB.2.1 (by decide) (by decide) (by decide) (by decide) (Lib.hid A) (Lib.hid B) (Lib.hid C) (Lib.hid D) (Lib.hid E) hb ov br w
  · have hs : pl a1 < 32 := by omega
    obtain ⟨x0, x1⟩ := small_bd v0 v1 hs
    have e1 : (IntKind.u64.wrap (a0 * 2 ^ pl a1)).tmod 4294967296 = slg 4294967296 true (pl a1) a0 := by rw [wrap_u64, Int.tmod_eq_emod_of_nonneg (Int.emod_nonneg _ (by decide))]; simp only [slg, if_true]; generalize a0 * 2 ^ pl a1 = y; omega
    have e2 : a0 / 2 ^ pl a1 = slg 4294967296 false (pl a1) a0 := by simp only [slg, Bool.false_eq_true, if_false]
    obtain ⟨X, hX⟩ : ∃ X, sg a0 * 2 ^ pl a1 = X := ⟨_, rfl⟩
    rw [hX] at so x0 x1
    cases ho : sho 2147483648 (pl a1) a0 <;> rw [ho] at A C <;> simp only [Bool.false_eq_true, if_false, if_true] at A C
    · have hx := so.1 ho
      have hxa : (sg (shv 2147483648 (pl a1) a0) != X) = false := by simp only [bne_eq_false_iff_eq]; exact hx.1
      by_cases hx0 : 0 ≤ X
      · have q1 : (X / 2147483648 != 0) = false := by simp only [bne_eq_false_iff_eq]; omega
        rcases hT with hT | ⟨hT, hp⟩
        · exact mAs0p a0 a1 (pl a1) v0 v1 sv hT hp64 _ _ 0 _ _ bA.1 bA.2.1 bB.1 bB.2.1 bL.1 bL.2 bR.1 bR.2 (Lib.hid A) (Lib.hid B) (Lib.hid C) (Lib.hid D) (Lib.hid E) hs X hX x0 x1 sr.symm e1 e2 q1 hxa w
        · exact mBs0p a0 a1 (pl a1) v0 v1 sv hT hp hp64 _ _ 0 _ _ bA.1 bA.2.1 bB.1 bB.2.1 bL.1 bL.2 bR.1 bR.2 (Lib.hid A) (Lib.hid B) (Lib.hid C) (Lib.hid D) (Lib.hid E) hs X hX x0 x1 sr.symm e1 e2 q1 hxa w
      · have q1 : (X / 2147483648 != 0) = true := by simp only [bne_iff_ne, ne_eq]; omega
        have q2 : (X / 2147483648 != -1) = false := by simp only [bne_eq_false_iff_eq]; omega
        rcases hT with hT | ⟨hT, hp⟩
        · exact mAs0n a0 a1 (pl a1) v0 v1 sv hT hp64 _ _ 0 _ _ bA.1 bA.2.1 bB.1 bB.2.1 bL.1 bL.2 bR.1 bR.2 (Lib.hid A) (Lib.hid B) (Lib.hid C) (Lib.hid D) (Lib.hid E) hs X hX x0 x1 sr.symm e1 e2 q1 q2 hxa w
        · exact mBs0n a0 a1 (pl a1) v0 v1 sv hT hp hp64 _ _ 0 _ _ bA.1 bA.2.1 bB.1 bB.2.1 bL.1 bL.2 bR.1 bR.2 (Lib.hid A) (Lib.hid B) (Lib.hid C) (Lib.hid D) (Lib.hid E) hs X hX x0 x1 sr.symm e1 e2 q1 q2 hxa w
    · have hx := so.2 ho
      have q1 : (X / 2147483648 != 0) = true := by simp only [bne_iff_ne, ne_eq]; omega
      have q2 : (X / 2147483648 != -1) = true := by simp only [bne_iff_ne, ne_eq]; omega
      rcases hT with hT | ⟨hT, hp⟩
      · exact mAs1 a0 a1 (pl a1) v0 v1 sv hT hp64 _ _ 3 _ _ bA.1 bA.2.1 bB.1 bB.2.1 bL.1 bL.2 bR.1 bR.2 (Lib.hid A) (Lib.hid B) (Lib.hid C) (Lib.hid D) (Lib.hid E) hs X hX x0 x1 sr.symm e1 e2 q1 q2 w
      · exact mBs1 a0 a1 (pl a1) v0 v1 sv hT hp hp64 _ _ 3 _ _ bA.1 bA.2.1 bB.1 bB.2.1 bL.1 bL.2 bR.1 bR.2 (Lib.hid A) (Lib.hid B) (Lib.hid C) (Lib.hid D) (Lib.hid E) hs X hX x0 x1 sr.symm e1 e2 q1 q2 w

set_option maxRecDepth 100000 in
theorem lifted (os : Os) (started : os.Started) (H : Type) (enc : TypeId × Value → H) :
    ReturnsInHanded {} Try.checked os 14 .any (Rows.wordShiftsMultiplySpec.pre6 enc Try.prog Try.f14 Rows.wordShiftsMultiplyRow.domain false) (Rows.wordShiftsMultiplySpec.post enc Try.prog Try.f14 false true false false) := by
  refine returnsInHanded_of_change (C := Try.checked) own started (by kernel_rfl) Try.func14
    (ChangeSpec.witness6 (enc := enc) (C := Try.checked) false ⟨#[], #[.int .u32 0, .int .i64 0], []⟩ 8 (by kernel_rfl) (by kernel_rfl) (by kernel_rfl) (by kernel_rfl)) ?_
  intro W base args ds gs before hval0 hW hcnd _
  have hval : ∀ (j : Nat) t v, Try.f14.params[j]? = some t → args[j]? = some v → Value.okWide Try.prog W .any base t v := hval0
  have hW' := hW
  obtain ⟨p, q, hA0, hV, rfl, hfz, hnd⟩ := hW
  have hA : DataW.TrodAll enc Try.prog W 0 (fun _ => true) true Try.f14.params.toList args.toList ds p := hA0
  rw [Try.params14] at hA hval
  obtain ⟨v0, vs0, d0, ds0, p0, q0, hargs, rfl, rfl, h0, r0⟩ := trodAll_cons hA
  obtain ⟨v1, vs1, d1, ds1, p1, q1, rfl, rfl, rfl, h1, r1⟩ := trodAll_cons r0
  obtain ⟨rfl, rfl, rfl⟩ := trodAll_nil r1
  obtain rfl : args = #[v0, v1] := by cases args; simp_all
  obtain ⟨rfl, rfl⟩ := trodVars_none hV
  obtain ⟨a0, rfl, rfl, rfl, w0⟩ := open_int Try.underlying23 (hval 0 23 v0 rfl rfl) h0
  obtain ⟨a1, rfl, rfl, rfl, w1⟩ := open_int Try.underlying3 (hval 1 3 v1 rfl rfl) h1
  clear hA0 hval0
  simp only [List.append_nil] at hW'
  refine (walk a0 w0 a1 w1 W).mono fun e W' ⟨he, hg⟩ => ?_
  subst he
  exact ⟨_, rfl, post_of_same (pa := []) (pv := []) hW' (fun _ _ _ => (trodAll_cons_mk (shut_bool Try.underlying4 _) trodAll_mk0)) (fun sp _ => (trodAll_cons_mk (shut_int Try.underlying23 w0) (trodAll_cons_mk (shut_int Try.underlying3 w1) trodAll_mk0))) (fun _ _ => rfl) rfl
    (hg.frame _) hg.2.1 (ok_one (by kernel_rfl) rfl (okWide_bool_mk Try.underlying4 _))⟩

theorem over : Rows.wordShiftsMultiplyRow.holds Try.pinned (OpenSpec.ofChange Rows.wordShiftsMultiplySpec) :=
  OpenClaim.holds_of_wide 14 Try.f14 rfl rfl rfl rfl rfl rfl rfl ⟨rfl, rfl, rfl, rfl, rfl⟩ rfl rfl rfl rfl rfl (by kernel_rfl) Try.func14 (by kernel_rfl)
    (of_decide_eq_true (by kernel_rfl)) (by unfold Func.isWrapper; first | (rw [if_pos (by decide +kernel)]; kernel_rfl) | (rw [if_neg (by decide +kernel)]; exact ⟨rfl, rfl⟩))
    (fun os started H enc _ => lifted os started H enc)

theorem proved : Rows.WordShiftsMultiplySaid :=
  over
#print axioms proved
end Go.Proofs.Ytkbnciekhllcpaa.wordShiftsMultiply

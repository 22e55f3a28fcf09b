/- A shift by n and m places is a shift by n and one by m, for all shifts of words and double words: the statement WordShiftsInParts, with no condition. -/
import Derived.Test.YtkbnciekhllcpaaRows
import Derived.WalkKit
import Derived.ProofKit
import Derived.OpenShut
import Derived.Lib.Hide
import Derived.Lib.SmallJoins
import Derived.Deep.QuietTactic
import Derived.BigQuiet
import Derived.Test.YtkbnciekhllcpaaParts1
import Derived.Test.YtkbnciekhllcpaaParts2
import Derived.Test.YtkbnciekhllcpaaParts3
namespace Go.Proofs.Ytkbnciekhllcpaa.wordShiftsInParts
open Go.ChangeShapes Go.WideShapes Go.ChangeAt Go.RowKit Go.Joins W
set_option linter.unusedVariables false

theorem own : ownKnob Try.prog.godebug = none := by kernel_rfl


theorem pl_id {n : Int} (h0 : 0 ≤ n) (h1 : n < 64) : pl n = n.toNat := by unfold pl; rw [show n % 64 = n by omega]
theorem pl_sum {I K : Int} (i0 : 0 ≤ I) (k0 : 0 ≤ K) (h : I + K < 64) : pl (I + K) = pl I + pl K := by
  rw [pl_id i0 (by omega), pl_id k0 (by omega), pl_id (by omega) h]; omega
theorem split_back {v : Int} (h0 : 0 ≤ v) (h1 : v < 18446744073709551616) : v / 4294967296 * 4294967296 + v % 4294967296 = v := by omega
theorem slg_add (D : Int) (l : Bool) (i k : Nat) (v : Int) (hD : 0 < D) : slg D l (i + k) v = slg D l k (slg D l i v) := by
  cases l
  · simp only [slg, Bool.false_eq_true, if_false]
    rw [Int.pow_add, Int.ediv_ediv_of_nonneg (Int.le_of_lt (Int.pow_pos (by decide)))]
  · simp only [slg, if_true]
    rw [Int.pow_add, ← Int.mul_assoc, Int.mul_emod (v * 2 ^ i % D) (2 ^ k) D, Int.emod_emod, ← Int.mul_emod]

theorem walk (a0f0 : Int) (a0f1 : Int) (a0f2 : Int) (a0f3 : Bool) (w0f0 : (Lit.int .u32 a0f0).wf = true) (w0f1 : (Lit.int .u32 a0f1).wf = true) (w0f2 : (Lit.int .i64 a0f2).wf = true) (a1 : Int) (w1 : (Lit.int .u8 a1).wf = true) (w : World) :
    Calls Try.prog 13 #[.agg #[.int .u32 a0f0, .int .u32 a0f1, .int .i64 a0f2, .bool a0f3], .int .u8 a1] w fun e w' => e = .returned (.bool true) ∧ Grown w w' := by
  obtain ⟨h0, h1⟩ := u32_wf w0f0
  obtain ⟨l0, l1⟩ := u32_wf w0f1
  obtain ⟨m0, m1⟩ := u8_wf w1
  clear w0f0 w0f1 w0f2 w1
  obtain ⟨I, hI⟩ : ∃ I, wrap64 ((IntKind.u64.wrap a0f2).tmod 64) = I := ⟨_, rfl⟩
  have hIb : 0 ≤ I ∧ I < 64 := by
    rw [← hI, wrap_u64, Int.tmod_eq_emod_of_nonneg (Int.emod_nonneg _ (by decide)), wrap64_eq]; omega
  obtain ⟨i0, i1⟩ := hIb
  obtain ⟨K, hK⟩ : ∃ K, a1 % (64 - I) = K := ⟨_, rfl⟩
  have k0 : 0 ≤ K := by rw [← hK]; exact Int.emod_nonneg _ (by omega)
  have k1 : K < 64 - I := by rw [← hK]; exact Int.emod_lt_of_pos _ (by omega)
  have ik : I + K < 64 := by omega
  have hs := pl_sum i0 k0 ik
  have v0 : 0 ≤ a0f0 * 4294967296 + a0f1 := by omega
  have v1 : a0f0 * 4294967296 + a0f1 < 18446744073709551616 := by omega
  have eA := shv_add 2147483648 (pl I) (pl K) a0f1
  have eO := sho_add 2147483648 (pl I) (pl K) a0f1
  have bA := shv31_bd (pl I) l0 l1
  have eR := shr_add 2147483648 (pl I) (pl K) a0f1
  have bR := shr31_bd (pl I) l0 l1
  have eG := slg_add 4294967296 a0f3 (pl I) (pl K) a0f1 (by decide)
  have bG := slg_bd a0f3 (pl I) l0 l1
  have eA2 := shv_add 9223372036854775808 (pl I) (pl K) (a0f0 * 4294967296 + a0f1)
  have eO2 := sho_add 9223372036854775808 (pl I) (pl K) (a0f0 * 4294967296 + a0f1)
  have bA2 := shv63_bd (pl I) v0 v1
  have eR2 := shr_add 9223372036854775808 (pl I) (pl K) (a0f0 * 4294967296 + a0f1)
  have bR2 := shr63_bd (pl I) v0 v1
  have eG2 := slg_add 18446744073709551616 a0f3 (pl I) (pl K) (a0f0 * 4294967296 + a0f1) (by decide)
  have bG2 := slg_bd a0f3 (pl I) v0 v1
  rw [← hs] at eA eO eR eG eA2 eO2 eR2 eG2
  have iI : -9223372036854775808 ≤ I ∧ I < 9223372036854775808 := by omega
  have iK : -9223372036854775808 ≤ K ∧ K < 9223372036854775808 := by omega
  have iS : -9223372036854775808 ≤ I + K ∧ I + K < 9223372036854775808 := by omega
  have A := fun w => wShiftLeft_any a0f1 I l0 l1 iI.1 iI.2 w
  have B := fun w => wShiftLeft_any (shv 2147483648 (pl I) a0f1) K bA.1 bA.2.1 iK.1 iK.2 w
  have C := fun w => wShiftLeft_any a0f1 (I + K) l0 l1 iS.1 iS.2 w
  have D := fun w => wShiftRight_any a0f1 I l0 l1 iI.1 iI.2 w
  have E := fun w => wShiftRight_any (shr 2147483648 (pl I) a0f1) K bR.1 bR.2.1 iK.1 iK.2 w
  have F := fun w => wShiftRight_any a0f1 (I + K) l0 l1 iS.1 iS.2 w
  have G := fun w => wShiftLogical_any a0f1 I a0f3 l0 l1 iI.1 iI.2 w
  have H := fun w => wShiftLogical_any (slg 4294967296 a0f3 (pl I) a0f1) K a0f3 bG.1 bG.2 iK.1 iK.2 w
  have J := fun w => wShiftLogical_any a0f1 (I + K) a0f3 l0 l1 iS.1 iS.2 w
  have A2 := fun w => wShiftLeftDouble_any a0f0 a0f1 I h0 h1 l0 l1 iI.1 iI.2 w
  have B2 := fun w => wShiftLeftDouble_any (shv 9223372036854775808 (pl I) (a0f0 * 4294967296 + a0f1) / 4294967296) (shv 9223372036854775808 (pl I) (a0f0 * 4294967296 + a0f1) % 4294967296) K (by omega) (by omega) (by omega) (by omega) iK.1 iK.2 w
  have C2 := fun w => wShiftLeftDouble_any a0f0 a0f1 (I + K) h0 h1 l0 l1 iS.1 iS.2 w
  have D2 := fun w => wShiftRightDouble_any a0f0 a0f1 I h0 h1 l0 l1 iI.1 iI.2 w
  have E2 := fun w => wShiftRightDouble_any (shr 9223372036854775808 (pl I) (a0f0 * 4294967296 + a0f1) / 4294967296) (shr 9223372036854775808 (pl I) (a0f0 * 4294967296 + a0f1) % 4294967296) K (by omega) (by omega) (by omega) (by omega) iK.1 iK.2 w
  have F2 := fun w => wShiftRightDouble_any a0f0 a0f1 (I + K) h0 h1 l0 l1 iS.1 iS.2 w
  have G2 := fun w => wShiftLogicalDouble_any a0f0 a0f1 I a0f3 h0 h1 l0 l1 iI.1 iI.2 w
  have H2 := fun w => wShiftLogicalDouble_any (slg 18446744073709551616 a0f3 (pl I) (a0f0 * 4294967296 + a0f1) / 4294967296) (slg 18446744073709551616 a0f3 (pl I) (a0f0 * 4294967296 + a0f1) % 4294967296) K a0f3 (by omega) (by omega) (by omega) (by omega) iK.1 iK.2 w
  have J2 := fun w => wShiftLogicalDouble_any a0f0 a0f1 (I + K) a0f3 h0 h1 l0 l1 iS.1 iS.2 w
  rw [split_back bA2.1 bA2.2.1] at B2
  rw [split_back bR2.1 bR2.2.1] at E2
  rw [split_back bG2.1 bG2.2] at H2
  rw [eR] at F
  rw [eG] at J
  rw [eR2] at F2
  rw [eG2] at J2
  have sc : sl32cc (pl (I + K)) a0f1 = if (sho 2147483648 (pl I) a0f1 || sho 2147483648 (pl K) (shv 2147483648 (pl I) a0f1)) = true then 3 else ord (sg (shv 2147483648 (pl K) (shv 2147483648 (pl I) a0f1))) 0 := by unfold sl32cc; rw [eO, eA]
  have sc2 : sl64cc (pl (I + K)) (a0f0 * 4294967296 + a0f1) = if (sho 9223372036854775808 (pl I) (a0f0 * 4294967296 + a0f1) || sho 9223372036854775808 (pl K) (shv 9223372036854775808 (pl I) (a0f0 * 4294967296 + a0f1))) = true then 3 else ord (wrap64 (shv 9223372036854775808 (pl K) (shv 9223372036854775808 (pl I) (a0f0 * 4294967296 + a0f1)))) 0 := by unfold sl64cc; rw [eO2, eA2]
  rw [eA, eO, sc] at C
  rw [eA2, eO2, sc2] at C2
  have u1 : sl32cc (pl K) (shv 2147483648 (pl I) a0f1) = if sho 2147483648 (pl K) (shv 2147483648 (pl I) a0f1) = true then 3 else ord (sg (shv 2147483648 (pl K) (shv 2147483648 (pl I) a0f1))) 0 := rfl
  have u2 : sl64cc (pl K) (shv 9223372036854775808 (pl I) (a0f0 * 4294967296 + a0f1)) = if sho 9223372036854775808 (pl K) (shv 9223372036854775808 (pl I) (a0f0 * 4294967296 + a0f1)) = true then 3 else ord (wrap64 (shv 9223372036854775808 (pl K) (shv 9223372036854775808 (pl I) (a0f0 * 4294967296 + a0f1)))) 0 := rfl
  rw [u1] at B
  rw [u2] at B2
  clear eA eO eR eG eA2 eO2 eR2 eG2 sc sc2 u1 u2
  generalize sl32cc (pl I) a0f1 = x1 at *
  generalize sl64cc (pl I) (a0f0 * 4294967296 + a0f1) = x3 at *
  cases hb1 : sho 2147483648 (pl I) a0f1 <;> cases hb2 : sho 2147483648 (pl K) (shv 2147483648 (pl I) a0f1) <;>
    cases hb3 : sho 9223372036854775808 (pl I) (a0f0 * 4294967296 + a0f1) <;> cases hb4 : sho 9223372036854775808 (pl K) (shv 9223372036854775808 (pl I) (a0f0 * 4294967296 + a0f1)) <;>
    simp only [hb1, hb2, hb3, hb4, Bool.true_or, Bool.or_self, Bool.or_true, Bool.false_eq_true, if_true, if_false] at A B C A2 B2 C2
  · exact s00 a0f0 a0f1 a0f2 a1 I K a0f3 h0 h1 l0 l1 m0 m1 i0 i1 k0 ik hI hK _ _ _ _ (Lib.hid A) (Lib.hid B) (Lib.hid C) _ _ _ _ (Lib.hid D) (Lib.hid E) (Lib.hid F) _ _ (Lib.hid G) (Lib.hid H) (Lib.hid J) _ _ _ _ _ _ (Lib.hid A2) (Lib.hid B2) (Lib.hid C2) _ _ _ _ _ _ (Lib.hid D2) (Lib.hid E2) (Lib.hid F2) _ _ _ _ (Lib.hid G2) (Lib.hid H2) (Lib.hid J2) w
  · exact s01 a0f0 a0f1 a0f2 a1 I K a0f3 h0 h1 l0 l1 m0 m1 i0 i1 k0 ik hI hK _ _ _ _ (Lib.hid A) (Lib.hid B) (Lib.hid C) _ _ _ _ (Lib.hid D) (Lib.hid E) (Lib.hid F) _ _ (Lib.hid G) (Lib.hid H) (Lib.hid J) _ _ _ _ _ (Lib.hid A2) (Lib.hid B2) (Lib.hid C2) _ _ _ _ _ _ (Lib.hid D2) (Lib.hid E2) (Lib.hid F2) _ _ _ _ (Lib.hid G2) (Lib.hid H2) (Lib.hid J2) w
  · exact s0t a0f0 a0f1 a0f2 a1 I K a0f3 h0 h1 l0 l1 m0 m1 i0 i1 k0 ik hI hK _ _ _ _ (Lib.hid A) (Lib.hid B) (Lib.hid C) _ _ _ _ (Lib.hid D) (Lib.hid E) (Lib.hid F) _ _ (Lib.hid G) (Lib.hid H) (Lib.hid J) _ _ _ _ _ _ _ (Lib.hid A2) (Lib.hid B2) (Lib.hid C2) _ _ _ _ _ _ (Lib.hid D2) (Lib.hid E2) (Lib.hid F2) _ _ _ _ (Lib.hid G2) (Lib.hid H2) (Lib.hid J2) w
  · exact s0t a0f0 a0f1 a0f2 a1 I K a0f3 h0 h1 l0 l1 m0 m1 i0 i1 k0 ik hI hK _ _ _ _ (Lib.hid A) (Lib.hid B) (Lib.hid C) _ _ _ _ (Lib.hid D) (Lib.hid E) (Lib.hid F) _ _ (Lib.hid G) (Lib.hid H) (Lib.hid J) _ _ _ _ _ _ _ (Lib.hid A2) (Lib.hid B2) (Lib.hid C2) _ _ _ _ _ _ (Lib.hid D2) (Lib.hid E2) (Lib.hid F2) _ _ _ _ (Lib.hid G2) (Lib.hid H2) (Lib.hid J2) w
  · exact s10 a0f0 a0f1 a0f2 a1 I K a0f3 h0 h1 l0 l1 m0 m1 i0 i1 k0 ik hI hK _ _ _ (Lib.hid A) (Lib.hid B) (Lib.hid C) _ _ _ _ (Lib.hid D) (Lib.hid E) (Lib.hid F) _ _ (Lib.hid G) (Lib.hid H) (Lib.hid J) _ _ _ _ _ _ (Lib.hid A2) (Lib.hid B2) (Lib.hid C2) _ _ _ _ _ _ (Lib.hid D2) (Lib.hid E2) (Lib.hid F2) _ _ _ _ (Lib.hid G2) (Lib.hid H2) (Lib.hid J2) w
  · exact s11 a0f0 a0f1 a0f2 a1 I K a0f3 h0 h1 l0 l1 m0 m1 i0 i1 k0 ik hI hK _ _ _ (Lib.hid A) (Lib.hid B) (Lib.hid C) _ _ _ _ (Lib.hid D) (Lib.hid E) (Lib.hid F) _ _ (Lib.hid G) (Lib.hid H) (Lib.hid J) _ _ _ _ _ (Lib.hid A2) (Lib.hid B2) (Lib.hid C2) _ _ _ _ _ _ (Lib.hid D2) (Lib.hid E2) (Lib.hid F2) _ _ _ _ (Lib.hid G2) (Lib.hid H2) (Lib.hid J2) w
  · exact s1t a0f0 a0f1 a0f2 a1 I K a0f3 h0 h1 l0 l1 m0 m1 i0 i1 k0 ik hI hK _ _ _ (Lib.hid A) (Lib.hid B) (Lib.hid C) _ _ _ _ (Lib.hid D) (Lib.hid E) (Lib.hid F) _ _ (Lib.hid G) (Lib.hid H) (Lib.hid J) _ _ _ _ _ _ _ (Lib.hid A2) (Lib.hid B2) (Lib.hid C2) _ _ _ _ _ _ (Lib.hid D2) (Lib.hid E2) (Lib.hid F2) _ _ _ _ (Lib.hid G2) (Lib.hid H2) (Lib.hid J2) w
  · exact s1t a0f0 a0f1 a0f2 a1 I K a0f3 h0 h1 l0 l1 m0 m1 i0 i1 k0 ik hI hK _ _ _ (Lib.hid A) (Lib.hid B) (Lib.hid C) _ _ _ _ (Lib.hid D) (Lib.hid E) (Lib.hid F) _ _ (Lib.hid G) (Lib.hid H) (Lib.hid J) _ _ _ _ _ _ _ (Lib.hid A2) (Lib.hid B2) (Lib.hid C2) _ _ _ _ _ _ (Lib.hid D2) (Lib.hid E2) (Lib.hid F2) _ _ _ _ (Lib.hid G2) (Lib.hid H2) (Lib.hid J2) w
  · exact st0 a0f0 a0f1 a0f2 a1 I K a0f3 h0 h1 l0 l1 m0 m1 i0 i1 k0 ik hI hK _ _ _ _ _ (Lib.hid A) (Lib.hid B) (Lib.hid C) _ _ _ _ (Lib.hid D) (Lib.hid E) (Lib.hid F) _ _ (Lib.hid G) (Lib.hid H) (Lib.hid J) _ _ _ _ _ _ (Lib.hid A2) (Lib.hid B2) (Lib.hid C2) _ _ _ _ _ _ (Lib.hid D2) (Lib.hid E2) (Lib.hid F2) _ _ _ _ (Lib.hid G2) (Lib.hid H2) (Lib.hid J2) w
  · exact st1 a0f0 a0f1 a0f2 a1 I K a0f3 h0 h1 l0 l1 m0 m1 i0 i1 k0 ik hI hK _ _ _ _ _ (Lib.hid A) (Lib.hid B) (Lib.hid C) _ _ _ _ (Lib.hid D) (Lib.hid E) (Lib.hid F) _ _ (Lib.hid G) (Lib.hid H) (Lib.hid J) _ _ _ _ _ (Lib.hid A2) (Lib.hid B2) (Lib.hid C2) _ _ _ _ _ _ (Lib.hid D2) (Lib.hid E2) (Lib.hid F2) _ _ _ _ (Lib.hid G2) (Lib.hid H2) (Lib.hid J2) w
  · exact stt a0f0 a0f1 a0f2 a1 I K a0f3 h0 h1 l0 l1 m0 m1 i0 i1 k0 ik hI hK _ _ _ _ _ (Lib.hid A) (Lib.hid B) (Lib.hid C) _ _ _ _ (Lib.hid D) (Lib.hid E) (Lib.hid F) _ _ (Lib.hid G) (Lib.hid H) (Lib.hid J) _ _ _ _ _ _ _ (Lib.hid A2) (Lib.hid B2) (Lib.hid C2) _ _ _ _ _ _ (Lib.hid D2) (Lib.hid E2) (Lib.hid F2) _ _ _ _ (Lib.hid G2) (Lib.hid H2) (Lib.hid J2) w
  · exact stt a0f0 a0f1 a0f2 a1 I K a0f3 h0 h1 l0 l1 m0 m1 i0 i1 k0 ik hI hK _ _ _ _ _ (Lib.hid A) (Lib.hid B) (Lib.hid C) _ _ _ _ (Lib.hid D) (Lib.hid E) (Lib.hid F) _ _ (Lib.hid G) (Lib.hid H) (Lib.hid J) _ _ _ _ _ _ _ (Lib.hid A2) (Lib.hid B2) (Lib.hid C2) _ _ _ _ _ _ (Lib.hid D2) (Lib.hid E2) (Lib.hid F2) _ _ _ _ (Lib.hid G2) (Lib.hid H2) (Lib.hid J2) w
  · exact st0 a0f0 a0f1 a0f2 a1 I K a0f3 h0 h1 l0 l1 m0 m1 i0 i1 k0 ik hI hK _ _ _ _ _ (Lib.hid A) (Lib.hid B) (Lib.hid C) _ _ _ _ (Lib.hid D) (Lib.hid E) (Lib.hid F) _ _ (Lib.hid G) (Lib.hid H) (Lib.hid J) _ _ _ _ _ _ (Lib.hid A2) (Lib.hid B2) (Lib.hid C2) _ _ _ _ _ _ (Lib.hid D2) (Lib.hid E2) (Lib.hid F2) _ _ _ _ (Lib.hid G2) (Lib.hid H2) (Lib.hid J2) w
  · exact st1 a0f0 a0f1 a0f2 a1 I K a0f3 h0 h1 l0 l1 m0 m1 i0 i1 k0 ik hI hK _ _ _ _ _ (Lib.hid A) (Lib.hid B) (Lib.hid C) _ _ _ _ (Lib.hid D) (Lib.hid E) (Lib.hid F) _ _ (Lib.hid G) (Lib.hid H) (Lib.hid J) _ _ _ _ _ (Lib.hid A2) (Lib.hid B2) (Lib.hid C2) _ _ _ _ _ _ (Lib.hid D2) (Lib.hid E2) (Lib.hid F2) _ _ _ _ (Lib.hid G2) (Lib.hid H2) (Lib.hid J2) w
  · exact stt a0f0 a0f1 a0f2 a1 I K a0f3 h0 h1 l0 l1 m0 m1 i0 i1 k0 ik hI hK _ _ _ _ _ (Lib.hid A) (Lib.hid B) (Lib.hid C) _ _ _ _ (Lib.hid D) (Lib.hid E) (Lib.hid F) _ _ (Lib.hid G) (Lib.hid H) (Lib.hid J) _ _ _ _ _ _ _ (Lib.hid A2) (Lib.hid B2) (Lib.hid C2) _ _ _ _ _ _ (Lib.hid D2) (Lib.hid E2) (Lib.hid F2) _ _ _ _ (Lib.hid G2) (Lib.hid H2) (Lib.hid J2) w
  · exact stt a0f0 a0f1 a0f2 a1 I K a0f3 h0 h1 l0 l1 m0 m1 i0 i1 k0 ik hI hK _ _ _ _ _ (Lib.hid A) (Lib.hid B) (Lib.hid C) _ _ _ _ (Lib.hid D) (Lib.hid E) (Lib.hid F) _ _ (Lib.hid G) (Lib.hid H) (Lib.hid J) _ _ _ _ _ _ _ (Lib.hid A2) (Lib.hid B2) (Lib.hid C2) _ _ _ _ _ _ (Lib.hid D2) (Lib.hid E2) (Lib.hid F2) _ _ _ _ (Lib.hid G2) (Lib.hid H2) (Lib.hid J2) w

set_option maxRecDepth 100000 in
theorem lifted (os : Os) (started : os.Started) (H : Type) (enc : TypeId × Value → H) :
    ReturnsInHanded {} Try.checked os 13 .any (Rows.wordShiftsInPartsSpec.pre6 enc Try.prog Try.f13 Rows.wordShiftsInPartsRow.domain false) (Rows.wordShiftsInPartsSpec.post enc Try.prog Try.f13 false true false false) := by
  refine returnsInHanded_of_change (C := Try.checked) own started (by kernel_rfl) Try.func13
    (ChangeSpec.witness6 (enc := enc) (C := Try.checked) false ⟨#[], #[.agg #[.int .u32 0, .int .u32 0, .int .i64 0, .bool false], .int .u8 0], []⟩ 8 (by kernel_rfl) (by kernel_rfl) (by kernel_rfl) (by kernel_rfl)) ?_
  intro W base args ds gs before hval0 hW hcnd _
  have hval : ∀ (j : Nat) t v, Try.f13.params[j]? = some t → args[j]? = some v → Value.okWide Try.prog W .any base t v := hval0
  have hW' := hW
  obtain ⟨p, q, hA0, hV, rfl, hfz, hnd⟩ := hW
  have hA : DataW.TrodAll enc Try.prog W 0 (fun _ => true) true Try.f13.params.toList args.toList ds p := hA0
  rw [Try.params13] at hA hval
  obtain ⟨v0, vs0, d0, ds0, p0, q0, hargs, rfl, rfl, h0, r0⟩ := trodAll_cons hA
  obtain ⟨v1, vs1, d1, ds1, p1, q1, rfl, rfl, rfl, h1, r1⟩ := trodAll_cons r0
  obtain ⟨rfl, rfl, rfl⟩ := trodAll_nil r1
  obtain rfl : args = #[v0, v1] := by cases args; simp_all
  obtain ⟨rfl, rfl⟩ := trodVars_none hV
  obtain ⟨c0_0, c0_1, c0_2, c0_3, y0_0, y0_1, y0_2, y0_3, m0, rfl, rfl, rfl, hy0_0, hy0_1, hy0_2, hy0_3⟩ := open_agg4 Try.underlying50 (by kernel_rfl) (show Try.prog.cellsOf 50 = 4 by kernel_rfl) (hval 0 50 v0 rfl rfl) h0
  obtain ⟨a0f0, e0_0, rfl, w0f0⟩ := DataW.trod_int Try.underlying23 hy0_0
  obtain ⟨a0f1, e0_1, rfl, w0f1⟩ := DataW.trod_int Try.underlying23 hy0_1
  obtain ⟨a0f2, e0_2, rfl, w0f2⟩ := DataW.trod_int Try.underlying3 hy0_2
  obtain ⟨a0f3, e0_3, rfl⟩ := DataW.trod_bool Try.underlying4 hy0_3
  simp only [List.cons.injEq, and_true] at e0_0 e0_1 e0_2 e0_3
  subst e0_0 e0_1 e0_2 e0_3
  have reads0 : ∀ (W' : World) (sp : Nat → Bool), DataW.Trod enc Try.prog W' 0 sp true 50 (.agg #[.int .u32 a0f0, .int .u32 a0f1, .int .i64 a0f2, .bool a0f3]) (.agg [.lit (.int .u32 a0f0), .lit (.int .u32 a0f1), .lit (.int .i64 a0f2), .lit (.bool a0f3)]) [] := fun W' sp =>
    shut_agg4 (y0 := (.lit (.int .u32 a0f0), [])) (y1 := (.lit (.int .u32 a0f1), [])) (y2 := (.lit (.int .i64 a0f2), [])) (y3 := (.lit (.bool a0f3), [])) Try.underlying50 (by kernel_rfl) (show Try.prog.cellsOf 50 = 4 by kernel_rfl) ⟨1, by simp [DataW.trod, Try.underlying23, w0f0]⟩ ⟨1, by simp [DataW.trod, Try.underlying23, w0f1]⟩ ⟨1, by simp [DataW.trod, Try.underlying3, w0f2]⟩ ⟨1, by simp [DataW.trod, Try.underlying4]⟩
  obtain ⟨a1, rfl, rfl, rfl, w1⟩ := open_int Try.underlying5 (hval 1 5 v1 rfl rfl) h1
  clear hA0 hval0
  simp only [List.append_nil] at hW'
  refine (walk a0f0 a0f1 a0f2 a0f3 w0f0 w0f1 w0f2 a1 w1 W).mono fun e W' ⟨he, hg⟩ => ?_
  subst he
  exact ⟨_, rfl, post_of_same (pa := []) (pv := []) hW' (fun _ _ _ => (trodAll_cons_mk (shut_bool Try.underlying4 _) trodAll_mk0)) (fun sp _ => (trodAll_cons_mk (reads0 _ sp) (trodAll_cons_mk (shut_int Try.underlying5 w1) trodAll_mk0))) (fun _ _ => rfl) rfl
    (hg.frame _) hg.2.1 (ok_one (by kernel_rfl) rfl (okWide_bool_mk Try.underlying4 _))⟩

theorem over : Rows.wordShiftsInPartsRow.holds Try.pinned (OpenSpec.ofChange Rows.wordShiftsInPartsSpec) :=
  OpenClaim.holds_of_wide 13 Try.f13 rfl rfl rfl rfl rfl rfl rfl ⟨rfl, rfl, rfl, rfl, rfl⟩ rfl rfl rfl rfl rfl (by kernel_rfl) Try.func13 (by kernel_rfl)
    (of_decide_eq_true (by kernel_rfl)) (by unfold Func.isWrapper; first | (rw [if_pos (by decide +kernel)]; kernel_rfl) | (rw [if_neg (by decide +kernel)]; exact ⟨rfl, rfl⟩))
    (fun os started H enc _ => lifted os started H enc)

theorem proved : Rows.WordShiftsInPartsSaid :=
  over
#print axioms proved
end Go.Proofs.Ytkbnciekhllcpaa.wordShiftsInParts

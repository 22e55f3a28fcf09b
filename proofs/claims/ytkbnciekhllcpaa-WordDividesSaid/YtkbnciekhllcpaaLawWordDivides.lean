/- Dividend, divisor, quotient and remainder fit together, both ways, for any five words: the statement WordDivides, with no condition. -/
import Derived.Test.YtkbnciekhllcpaaRows
import Derived.WalkKit
import Derived.ProofKit
import Derived.OpenShut
import Derived.Lib.Hide
import Derived.Lib.SmallJoins
import Derived.Deep.QuietTactic
import Derived.BigQuiet
import Derived.Test.YtkbnciekhllcpaaDivides1
import Derived.Test.YtkbnciekhllcpaaDivides2
import Derived.Test.YtkbnciekhllcpaaDivides3
import Derived.Test.YtkbnciekhllcpaaFive
namespace Go.Proofs.Ytkbnciekhllcpaa.wordDivides
open Go.ChangeShapes Go.WideShapes Go.ChangeAt Go.RowKit Go.Joins W
set_option linter.unusedVariables false

theorem own : ownKnob Try.prog.godebug = none := by kernel_rfl


theorem siz_abs (n : Int) : siz n = (n.natAbs : Int) := by unfold siz; split <;> omega
theorem sg_mod (v : Int) (h0 : 0 ≤ v) (h1 : v < 4294967296) : sg v % 4294967296 = v := by have := sg_cases v; omega
theorem prod_back {P : Int} (p0 : -4611686018427387904 ≤ P) (p1 : P ≤ 4611686018427387904) : sgd (P % 18446744073709551616 / 4294967296) (P % 4294967296) = P := by
  unfold sgd; rw [wrap64_eq]; omega
theorem quo_large {n m : Int} (h0 : m ≠ 0) (h : inR (n.tdiv m) = false) : decide (siz n / siz m < 2147483648) = false := by
  have h2 : (n.tdiv m).natAbs = n.natAbs / m.natAbs := Int.natAbs_tdiv n m
  have h3 : siz n / siz m = ((n.tdiv m).natAbs : Int) := by rw [siz_abs, siz_abs, h2]; rfl
  rw [h3]
  unfold inR at h
  generalize n.tdiv m = t at *
  simp at h
  simp
  omega
theorem rem_in {n m : Int} (h0 : m ≠ 0) (hm : -2147483648 ≤ m ∧ m < 2147483648) : sg (n.tmod m % 4294967296) = n.tmod m := by
  have := tmod_bd (n := n) h0
  exact sg_low (by simp [inR]; omega)
theorem rem_small {n m : Int} (h0 : m ≠ 0) : decide (siz m ≤ siz (n.tmod m)) = false := by
  have := tmod_bd (n := n) h0
  rw [siz_abs, siz_abs, decide_eq_false_iff_not]; omega
theorem rem_sign {n m : Int} (h : n.tmod m ≠ 0) : decide (n.tmod m < 0) = decide (n < 0) := by
  rw [decide_eq_decide]
  by_cases hn : 0 ≤ n
  · have := Int.tmod_nonneg m hn; omega
  · have e : n.tmod m = -((-n).tmod m) := by rw [Int.neg_tmod]; omega
    have := Int.tmod_nonneg (a := -n) m (by omega); omega
theorem back {P L m q : Int} (h0 : m ≠ 0) (hP : P = q * m) (hL : L.natAbs < m.natAbs) (hs : L = 0 ∨ P = 0 ∨ (decide (L < 0) = decide (P < 0))) :
    (P + L).tdiv m = q ∧ (P + L).tmod m = L := by
  have e : L + m * q = P + L := by rw [hP, Int.mul_comm]; omega
  have hs' : (0 ≤ P + L ∧ 0 ≤ L) ∨ (P + L ≤ 0 ∧ L ≤ 0) := by
    rcases hs with h | h | h
    · omega
    · omega
    · have h := decide_eq_decide.1 h; omega
  rcases hs' with ⟨h1, h2⟩ | ⟨h1, h2⟩
  · exact (Int.tdiv_tmod_unique h1 h0).2 ⟨e, h2, by omega⟩
  · exact (Int.tdiv_tmod_unique' h1 h0).2 ⟨e, by omega, h2⟩
theorem sum_back {P L : Int} (p0 : -4611686018427387904 ≤ P) (p1 : P ≤ 4611686018427387904) (hL : -2147483648 ≤ L ∧ L < 2147483648) :
    sgd (IntKind.u64.wrap (P + L) / 4294967296) (IntKind.u64.wrap (P + L) % 4294967296) = P + L := by
  unfold sgd; rw [wrap_u64, wrap64_eq]; omega
theorem div_back {d q r : Int} (d0 : 0 ≤ d) (d1 : d < 4294967296) (q0 : 0 ≤ q) (q1 : q < 4294967296) (r0 : 0 ≤ r) (r1 : r < 4294967296) (h0 : sg d ≠ 0)
    (hL : decide (siz (sg d) ≤ siz (sg r)) = false) (hs : sg r = 0 ∨ sg q * sg d = 0 ∨ decide (sg r < 0) = decide (sg q * sg d < 0)) (w : World) :
    Calls Try.prog 48 #[.int .u32 (IntKind.u64.wrap (sg q * sg d + sg r) / 4294967296), .int .u32 (IntKind.u64.wrap (sg q * sg d + sg r) % 4294967296), .int .u32 d] w fun e w' => e = .returned (.tuple #[.int .u32 r, .int .u32 q, .bool true]) ∧ w = w' := by
  have sd := sg_bd d0 d1
  have sr := sg_bd r0 r1
  have sq := sg_bd q0 q1
  have hp := mul_bd sq sd
  have hl : (sg r).natAbs < (sg d).natAbs := by rw [siz_abs, siz_abs] at hL; simp at hL; omega
  have hb := back h0 rfl hl hs
  have hw : 0 ≤ IntKind.u64.wrap (sg q * sg d + sg r) ∧ IntKind.u64.wrap (sg q * sg d + sg r) < 18446744073709551616 := by rw [wrap_u64]; omega
  have h := wDiv_any (IntKind.u64.wrap (sg q * sg d + sg r) / 4294967296) (IntKind.u64.wrap (sg q * sg d + sg r) % 4294967296) d (by omega) (by omega) (by omega) (by omega) d0 d1 w
  rw [sum_back hp.1 hp.2 sr] at h
  have ho : dOk (sg q * sg d + sg r) (sg d) = true := by unfold dOk; rw [hb.1]; simp [h0, inR]; omega
  rw [(d_yes ho).1, (d_yes ho).2, ho, hb.1, hb.2, sg_mod r r0 r1, sg_mod q q0 q1] at h
  exact h

theorem walk (a0f0 : Int) (a0f1 : Int) (a0f2 : Int) (a0f3 : Int) (a0f4 : Int) (w0f0 : (Lit.int .u32 a0f0).wf = true) (w0f1 : (Lit.int .u32 a0f1).wf = true) (w0f2 : (Lit.int .u32 a0f2).wf = true) (w0f3 : (Lit.int .u32 a0f3).wf = true) (w0f4 : (Lit.int .u32 a0f4).wf = true) (w : World) :
    Calls Try.prog 12 #[.agg #[.int .u32 a0f0, .int .u32 a0f1, .int .u32 a0f2, .int .u32 a0f3, .int .u32 a0f4]] w fun e w' => e = .returned (.bool true) ∧ Grown w w' := by
  obtain ⟨h0, h1⟩ := u32_wf w0f0
  obtain ⟨l0, l1⟩ := u32_wf w0f1
  obtain ⟨d0, d1⟩ := u32_wf w0f2
  obtain ⟨q0, q1⟩ := u32_wf w0f3
  obtain ⟨r0, r1⟩ := u32_wf w0f4
  clear w0f0 w0f1 w0f2 w0f3 w0f4
  have sd := sg_bd d0 d1
  have sr := sg_bd r0 r1
  have sq := sg_bd q0 q1
  have sn := sgd_bd a0f0 a0f1
  obtain ⟨p0, p1⟩ := mul_bd sq sd
  have HM := Lib.hid (fun w => wMul_any a0f3 a0f2 q0 q1 d0 d1 w)
  have hm : (sgd (sg a0f3 * sg a0f2 % 18446744073709551616 / 4294967296) (sg a0f3 * sg a0f2 % 4294967296) != sg a0f3 * sg a0f2) = false := by rw [prod_back p0 p1]; simp
  have hD := fun w => wDiv_any a0f0 a0f1 a0f2 h0 h1 l0 l1 d0 d1 w
  have hsiz : ∀ n : Int, 0 ≤ siz n := fun n => by rw [siz_abs]; omega
  by_cases hz : sg a0f2 = 0
  · have e : dOk (sgd a0f0 a0f1) (sg a0f2) = false := by simp [dOk, hz]
    rw [(d_no e).1, (d_no e).2, e] at hD
    exact vz0 a0f0 a0f1 a0f2 a0f3 a0f4 _ _ h0 h1 l0 l1 d0 d1 q0 q1 r0 r1 (by omega) (by omega) (by omega) (by omega) sr sq sn (Lib.hid hD) HM (by rw [hz, Int.mul_zero] at hm; rw [hz, Int.mul_zero]; exact hm) hz w
  have f0 : (sg a0f2 == 0) = false := by simpa using hz
  have fa : (sg a0f2 != 0) = true := by simpa using hz
  rcases Bool.eq_false_or_eq_true (inR ((sgd a0f0 a0f1).tdiv (sg a0f2))) with hi | hi
  · have e : dOk (sgd a0f0 a0f1) (sg a0f2) = true := by simp [dOk, hz, hi]
    rw [(d_yes e).1, (d_yes e).2, e] at hD
    have HD := Lib.hid hD
    clear hD
    have eq := sg_low hi
    have er := rem_in (n := sgd a0f0 a0f1) hz sd
    have el := low_bd ((sgd a0f0 a0f1).tdiv (sg a0f2))
    have em := low_bd ((sgd a0f0 a0f1).tmod (sg a0f2))
    obtain ⟨z0, z1⟩ := mul_bd (sg_bd el.1 el.2) sd
    have f1 : (sg ((sgd a0f0 a0f1).tdiv (sg a0f2) % 4294967296) * sg a0f2 + sg ((sgd a0f0 a0f1).tmod (sg a0f2) % 4294967296) != sgd a0f0 a0f1) = false := by
      rw [eq, er, Int.tdiv_mul_add_tmod]; simp
    have f2 : decide (siz (sg a0f2) ≤ siz (sg ((sgd a0f0 a0f1).tmod (sg a0f2) % 4294967296))) = false := by rw [er]; exact rem_small hz
    have se := sg_bd em.1 em.2
    rcases Bool.eq_false_or_eq_true ((sgd a0f0 a0f1).tmod (sg a0f2) % 4294967296 != 0) with f3 | f3
    · have f4 : decide (sg ((sgd a0f0 a0f1).tmod (sg a0f2) % 4294967296) < 0) = decide (sgd a0f0 a0f1 < 0) := by
        rw [er]; refine rem_sign ?_
        simp only [bne_iff_ne, ne_eq] at f3
        intro h; rw [h] at f3; exact f3 rfl
      rcases Bool.eq_false_or_eq_true (decide (siz (sg a0f2) ≤ siz (sg a0f4))) with g1 | g1
      · exact vb1 a0f0 a0f1 a0f2 a0f3 a0f4 _ _ h0 h1 l0 l1 d0 d1 q0 q1 r0 r1 (by omega) (by omega) (by omega) (by omega) _ _ em.1 em.2 el.1 el.2 z0 z1 sd sr sq se sn p0 p1 HD HM hm f0 fa hz f1 f2 f3 f4 g1 w
      have DB := fun hs => div_back d0 d1 q0 q1 r0 r1 hz g1 hs
      rcases Bool.eq_false_or_eq_true (sg a0f4 != 0) with g2 | g2
      · rcases Bool.eq_false_or_eq_true (sg a0f3 * sg a0f2 != 0) with g3 | g3
        · by_cases g4 : decide (sg a0f4 < 0) = decide (sg a0f3 * sg a0f2 < 0)
          · exact vb4 a0f0 a0f1 a0f2 a0f3 a0f4 _ _ h0 h1 l0 l1 d0 d1 q0 q1 r0 r1 (by omega) (by omega) (by omega) (by omega) _ _ em.1 em.2 el.1 el.2 z0 z1 sd sr sq se sn p0 p1 HD HM hm f0 fa hz f1 f2 f3 f4 g1 g2 g3 g4 _ (by rw [wrap_u64]; omega) (by rw [wrap_u64]; omega) rfl (Lib.hid (DB (.inr (.inr g4)))) w
          · by_cases g5 : sg a0f4 < 0
            · exact vb5 a0f0 a0f1 a0f2 a0f3 a0f4 _ _ h0 h1 l0 l1 d0 d1 q0 q1 r0 r1 (by omega) (by omega) (by omega) (by omega) _ _ em.1 em.2 el.1 el.2 z0 z1 sd sr sq se sn p0 p1 HD HM hm f0 fa hz f1 f2 f3 f4 g1 g2 g3 g5 (by have g4 : ¬ (sg a0f4 < 0 ↔ sg a0f3 * sg a0f2 < 0) := fun h => g4 (decide_eq_decide.2 h); omega) (by rw [decide_eq_false_iff_not]; have g4 : ¬ (sg a0f4 < 0 ↔ sg a0f3 * sg a0f2 < 0) := fun h => g4 (decide_eq_decide.2 h); omega) w
            · exact vb6 a0f0 a0f1 a0f2 a0f3 a0f4 _ _ h0 h1 l0 l1 d0 d1 q0 q1 r0 r1 (by omega) (by omega) (by omega) (by omega) _ _ em.1 em.2 el.1 el.2 z0 z1 sd sr sq se sn p0 p1 HD HM hm f0 fa hz f1 f2 f3 f4 g1 g2 g3 (by omega) (by have g4 : ¬ (sg a0f4 < 0 ↔ sg a0f3 * sg a0f2 < 0) := fun h => g4 (decide_eq_decide.2 h); omega) (by rw [decide_eq_false_iff_not]; exact g5) w
        · exact vb3 a0f0 a0f1 a0f2 a0f3 a0f4 _ _ h0 h1 l0 l1 d0 d1 q0 q1 r0 r1 (by omega) (by omega) (by omega) (by omega) _ _ em.1 em.2 el.1 el.2 z0 z1 sd sr sq se sn p0 p1 HD HM hm f0 fa hz f1 f2 f3 f4 g1 g2 g3 _ (by rw [wrap_u64]; omega) (by rw [wrap_u64]; omega) rfl (Lib.hid (DB (.inr (.inl (by simpa using g3))))) w
      · exact vb2 a0f0 a0f1 a0f2 a0f3 a0f4 _ _ h0 h1 l0 l1 d0 d1 q0 q1 r0 r1 (by omega) (by omega) (by omega) (by omega) _ _ em.1 em.2 el.1 el.2 z0 z1 sd sr sq se sn p0 p1 HD HM hm f0 fa hz f1 f2 f3 f4 g1 g2 _ (by rw [wrap_u64]; omega) (by rw [wrap_u64]; omega) rfl (Lib.hid (DB (.inl (by simpa using g2)))) w
    ·
      rcases Bool.eq_false_or_eq_true (decide (siz (sg a0f2) ≤ siz (sg a0f4))) with g1 | g1
      · exact va1 a0f0 a0f1 a0f2 a0f3 a0f4 _ _ h0 h1 l0 l1 d0 d1 q0 q1 r0 r1 (by omega) (by omega) (by omega) (by omega) _ _ em.1 em.2 el.1 el.2 z0 z1 sd sr sq se sn p0 p1 HD HM hm f0 fa hz f1 f2 f3 g1 w
      have DB := fun hs => div_back d0 d1 q0 q1 r0 r1 hz g1 hs
      rcases Bool.eq_false_or_eq_true (sg a0f4 != 0) with g2 | g2
      · rcases Bool.eq_false_or_eq_true (sg a0f3 * sg a0f2 != 0) with g3 | g3
        · by_cases g4 : decide (sg a0f4 < 0) = decide (sg a0f3 * sg a0f2 < 0)
          · exact va4 a0f0 a0f1 a0f2 a0f3 a0f4 _ _ h0 h1 l0 l1 d0 d1 q0 q1 r0 r1 (by omega) (by omega) (by omega) (by omega) _ _ em.1 em.2 el.1 el.2 z0 z1 sd sr sq se sn p0 p1 HD HM hm f0 fa hz f1 f2 f3 g1 g2 g3 g4 _ (by rw [wrap_u64]; omega) (by rw [wrap_u64]; omega) rfl (Lib.hid (DB (.inr (.inr g4)))) w
          · by_cases g5 : sg a0f4 < 0
            · exact va5 a0f0 a0f1 a0f2 a0f3 a0f4 _ _ h0 h1 l0 l1 d0 d1 q0 q1 r0 r1 (by omega) (by omega) (by omega) (by omega) _ _ em.1 em.2 el.1 el.2 z0 z1 sd sr sq se sn p0 p1 HD HM hm f0 fa hz f1 f2 f3 g1 g2 g3 g5 (by have g4 : ¬ (sg a0f4 < 0 ↔ sg a0f3 * sg a0f2 < 0) := fun h => g4 (decide_eq_decide.2 h); omega) (by rw [decide_eq_false_iff_not]; have g4 : ¬ (sg a0f4 < 0 ↔ sg a0f3 * sg a0f2 < 0) := fun h => g4 (decide_eq_decide.2 h); omega) w
            · exact va6 a0f0 a0f1 a0f2 a0f3 a0f4 _ _ h0 h1 l0 l1 d0 d1 q0 q1 r0 r1 (by omega) (by omega) (by omega) (by omega) _ _ em.1 em.2 el.1 el.2 z0 z1 sd sr sq se sn p0 p1 HD HM hm f0 fa hz f1 f2 f3 g1 g2 g3 (by omega) (by have g4 : ¬ (sg a0f4 < 0 ↔ sg a0f3 * sg a0f2 < 0) := fun h => g4 (decide_eq_decide.2 h); omega) (by rw [decide_eq_false_iff_not]; exact g5) w
        · exact va3 a0f0 a0f1 a0f2 a0f3 a0f4 _ _ h0 h1 l0 l1 d0 d1 q0 q1 r0 r1 (by omega) (by omega) (by omega) (by omega) _ _ em.1 em.2 el.1 el.2 z0 z1 sd sr sq se sn p0 p1 HD HM hm f0 fa hz f1 f2 f3 g1 g2 g3 _ (by rw [wrap_u64]; omega) (by rw [wrap_u64]; omega) rfl (Lib.hid (DB (.inr (.inl (by simpa using g3))))) w
      · exact va2 a0f0 a0f1 a0f2 a0f3 a0f4 _ _ h0 h1 l0 l1 d0 d1 q0 q1 r0 r1 (by omega) (by omega) (by omega) (by omega) _ _ em.1 em.2 el.1 el.2 z0 z1 sd sr sq se sn p0 p1 HD HM hm f0 fa hz f1 f2 f3 g1 g2 _ (by rw [wrap_u64]; omega) (by rw [wrap_u64]; omega) rfl (Lib.hid (DB (.inl (by simpa using g2)))) w
  · have e : dOk (sgd a0f0 a0f1) (sg a0f2) = false := by simp [dOk, hi]
    rw [(d_no e).1, (d_no e).2, e] at hD
    have HD := Lib.hid hD
    clear hD
    have f1 := quo_large hz hi
    have f2 := hsiz (sgd a0f0 a0f1)
    have f3 : 1 ≤ siz (sg a0f2) := by rw [siz_abs]; omega
    have f4 : siz (sg a0f2) ≤ 2147483648 := by rw [siz_abs]; omega
    have f5 : siz (sgd a0f0 a0f1) ≤ 9223372036854775808 := by rw [siz_abs]; omega
    rcases Bool.eq_false_or_eq_true (decide (siz (sg a0f2) ≤ siz (sg a0f4))) with g1 | g1
    · exact vn1 a0f0 a0f1 a0f2 a0f3 a0f4 _ _ h0 h1 l0 l1 d0 d1 q0 q1 r0 r1 (by omega) (by omega) (by omega) (by omega) sd sr sq sn p0 p1 HD HM hm f0 fa hz f1 f2 f3 f4 f5 g1 w
    have DB := fun hs => div_back d0 d1 q0 q1 r0 r1 hz g1 hs
    rcases Bool.eq_false_or_eq_true (sg a0f4 != 0) with g2 | g2
    · rcases Bool.eq_false_or_eq_true (sg a0f3 * sg a0f2 != 0) with g3 | g3
      · by_cases g4 : decide (sg a0f4 < 0) = decide (sg a0f3 * sg a0f2 < 0)
        · exact vn4 a0f0 a0f1 a0f2 a0f3 a0f4 _ _ h0 h1 l0 l1 d0 d1 q0 q1 r0 r1 (by omega) (by omega) (by omega) (by omega) sd sr sq sn p0 p1 HD HM hm f0 fa hz f1 f2 f3 f4 f5 g1 g2 g3 g4 _ (by rw [wrap_u64]; omega) (by rw [wrap_u64]; omega) rfl (Lib.hid (DB (.inr (.inr g4)))) w
        · by_cases g5 : sg a0f4 < 0
          · exact vn5 a0f0 a0f1 a0f2 a0f3 a0f4 _ _ h0 h1 l0 l1 d0 d1 q0 q1 r0 r1 (by omega) (by omega) (by omega) (by omega) sd sr sq sn p0 p1 HD HM hm f0 fa hz f1 f2 f3 f4 f5 g1 g2 g3 g5 (by have g4 : ¬ (sg a0f4 < 0 ↔ sg a0f3 * sg a0f2 < 0) := fun h => g4 (decide_eq_decide.2 h); omega) (by rw [decide_eq_false_iff_not]; have g4 : ¬ (sg a0f4 < 0 ↔ sg a0f3 * sg a0f2 < 0) := fun h => g4 (decide_eq_decide.2 h); omega) w
          · exact vn6 a0f0 a0f1 a0f2 a0f3 a0f4 _ _ h0 h1 l0 l1 d0 d1 q0 q1 r0 r1 (by omega) (by omega) (by omega) (by omega) sd sr sq sn p0 p1 HD HM hm f0 fa hz f1 f2 f3 f4 f5 g1 g2 g3 (by omega) (by have g4 : ¬ (sg a0f4 < 0 ↔ sg a0f3 * sg a0f2 < 0) := fun h => g4 (decide_eq_decide.2 h); omega) (by rw [decide_eq_false_iff_not]; exact g5) w
      · exact vn3 a0f0 a0f1 a0f2 a0f3 a0f4 _ _ h0 h1 l0 l1 d0 d1 q0 q1 r0 r1 (by omega) (by omega) (by omega) (by omega) sd sr sq sn p0 p1 HD HM hm f0 fa hz f1 f2 f3 f4 f5 g1 g2 g3 _ (by rw [wrap_u64]; omega) (by rw [wrap_u64]; omega) rfl (Lib.hid (DB (.inr (.inl (by simpa using g3))))) w
    · exact vn2 a0f0 a0f1 a0f2 a0f3 a0f4 _ _ h0 h1 l0 l1 d0 d1 q0 q1 r0 r1 (by omega) (by omega) (by omega) (by omega) sd sr sq sn p0 p1 HD HM hm f0 fa hz f1 f2 f3 f4 f5 g1 g2 _ (by rw [wrap_u64]; omega) (by rw [wrap_u64]; omega) rfl (Lib.hid (DB (.inl (by simpa using g2)))) w

set_option maxRecDepth 100000 in
theorem lifted (os : Os) (started : os.Started) (H : Type) (enc : TypeId × Value → H) :
    ReturnsInHanded {} Try.checked os 12 .any (Rows.wordDividesSpec.pre6 enc Try.prog Try.f12 Rows.wordDividesRow.domain false) (Rows.wordDividesSpec.post enc Try.prog Try.f12 false true false false) := by
  refine returnsInHanded_of_change (C := Try.checked) own started (by kernel_rfl) Try.func12
    (ChangeSpec.witness6 (enc := enc) (C := Try.checked) false ⟨#[], #[.agg #[.int .u32 0, .int .u32 0, .int .u32 0, .int .u32 0, .int .u32 0]], []⟩ 8 (by kernel_rfl) (by kernel_rfl) (by kernel_rfl) (by kernel_rfl)) ?_
  intro W base args ds gs before hval0 hW hcnd _
  have hval : ∀ (j : Nat) t v, Try.f12.params[j]? = some t → args[j]? = some v → Value.okWide Try.prog W .any base t v := hval0
  have hW' := hW
  obtain ⟨p, q, hA0, hV, rfl, hfz, hnd⟩ := hW
  have hA : DataW.TrodAll enc Try.prog W 0 (fun _ => true) true Try.f12.params.toList args.toList ds p := hA0
  rw [Try.params12] at hA hval
  obtain ⟨v0, vs0, d0, ds0, p0, q0, hargs, rfl, rfl, h0, r0⟩ := trodAll_cons hA
  obtain ⟨rfl, rfl, rfl⟩ := trodAll_nil r0
  obtain rfl : args = #[v0] := by cases args; simp_all
  obtain ⟨rfl, rfl⟩ := trodVars_none hV
  obtain ⟨a0f0, a0f1, a0f2, a0f3, a0f4, rfl, rfl, rfl, w0f0, w0f1, w0f2, w0f3, w0f4⟩ := five_open Try.underlying64 (show Try.prog.cellsOf 64 = 5 by kernel_rfl) Try.underlying23 (show Try.prog.cellsOf 23 = 1 by kernel_rfl) rfl (fun i hi => by match i, hi with | 0, _ => exact ⟨_, rfl, rfl, rfl⟩ | 1, _ => exact ⟨_, rfl, rfl, rfl⟩ | 2, _ => exact ⟨_, rfl, rfl, rfl⟩ | 3, _ => exact ⟨_, rfl, rfl, rfl⟩ | 4, _ => exact ⟨_, rfl, rfl, rfl⟩) (hval 0 64 v0 rfl rfl) h0
  clear hA0 hval0
  simp only [List.append_nil] at hW'
  refine (walk a0f0 a0f1 a0f2 a0f3 a0f4 w0f0 w0f1 w0f2 w0f3 w0f4 W).mono fun e W' ⟨he, hg⟩ => ?_
  subst he
  exact ⟨_, rfl, post_of_same (pa := []) (pv := []) hW' (fun _ _ _ => (trodAll_cons_mk (shut_bool Try.underlying4 _) trodAll_mk0)) (fun sp _ => (trodAll_cons_mk (five_shut Try.underlying64 (show Try.prog.cellsOf 64 = 5 by kernel_rfl) Try.underlying23 (show Try.prog.cellsOf 23 = 1 by kernel_rfl) rfl w0f0 w0f1 w0f2 w0f3 w0f4) trodAll_mk0)) (fun _ _ => rfl) rfl
    (hg.frame _) hg.2.1 (ok_one (by kernel_rfl) rfl (okWide_bool_mk Try.underlying4 _))⟩

theorem over : Rows.wordDividesRow.holds Try.pinned (OpenSpec.ofChange Rows.wordDividesSpec) :=
  OpenClaim.holds_of_wide 12 Try.f12 rfl rfl rfl rfl rfl rfl rfl ⟨rfl, rfl, rfl, rfl, rfl⟩ rfl rfl rfl rfl rfl (by kernel_rfl) Try.func12 (by kernel_rfl)
    (of_decide_eq_true (by kernel_rfl)) (by unfold Func.isWrapper; first | (rw [if_pos (by decide +kernel)]; kernel_rfl) | (rw [if_neg (by decide +kernel)]; exact ⟨rfl, rfl⟩))
    (fun os started H enc _ => lifted os started H enc)

theorem proved : Rows.WordDividesSaid :=
  over
#print axioms proved
end Go.Proofs.Ytkbnciekhllcpaa.wordDivides

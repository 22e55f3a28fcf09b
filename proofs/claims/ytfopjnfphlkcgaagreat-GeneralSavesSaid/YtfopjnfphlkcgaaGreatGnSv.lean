/- STM and LM: what the two instructions of the law leave. -/
import Derived.Test.YtfopjnfphlkcgaaGreatRows
import Derived.Test.YtfopjnfphlkcgaaGreatGnMany
import Derived.Test.YtfopjnfphlkcgaaGreatGnSs
namespace Go.Proofs.YtfopjnfphlkcgaaGreat
open Go.RowKit Go.Shelf E
set_option linter.unusedVariables false
namespace M

/-- Does a register stand between two others, round the end? -/
def inS (a b n : Nat) : Bool := if b < a then (decide (a ≤ n) || decide (n ≤ b)) else (decide (a ≤ n) && decide (n ≤ b))
theorem inS_yes {a b n : Nat} (ha : a < 16) (hb : b < 16) (hn : n < 16) (h : inS a b n = true) : ∃ j, j < lsC a b ∧ (a + j) % 16 = n := by
  refine ⟨(n + 16 - a) % 16, ?_, by omega⟩
  unfold inS at h
  unfold lsC
  split at h <;> simp at h <;> split <;> omega
theorem inS_no {a b n : Nat} (ha : a < 16) (hb : b < 16) (hn : n < 16) (h : inS a b n = false) : ∀ j, j < lsC a b → (a + j) % 16 ≠ n := by
  intro j hj e
  unfold inS at h
  unfold lsC at hj
  split at h <;> simp at h <;> split at hj <;> omega
theorem subL_putL {l b : List UInt8} {a : Nat} (h : a + b.length ≤ l.length) : subL (E.putL l a b) a b.length = b := by
  unfold subL E.putL
  rw [List.drop_append, List.drop_eq_nil_of_le (by rw [List.length_take]; omega), List.nil_append, List.length_take, Nat.min_eq_left (by omega), Nat.sub_self, List.drop_zero, List.take_append_of_le_length (Nat.le_refl _), List.take_length]
theorem chk_stm (a b : Nat) (ha : a < 16) (hb : b < 16) : chkV (⟨144, 3, a, b, 0, 0, 0, 0, 512, 0, 0, 0⟩ : Qn).ins = 0 :=
  (by decide +kernel : ∀ a b : Fin 16, chkV (⟨144, 3, a.val, b.val, 0, 0, 0, 0, 512, 0, 0, 0⟩ : Qn).ins = 0) ⟨a, ha⟩ ⟨b, hb⟩
theorem chk_lm (a b : Nat) (ha : a < 16) (hb : b < 16) : chkV (⟨152, 3, a, b, 0, 0, 0, 0, 512, 0, 0, 0⟩ : Qn).ins = 0 :=
  (by decide +kernel : ∀ a b : Fin 16, chkV (⟨152, 3, a.val, b.val, 0, 0, 0, 0, 512, 0, 0, 0⟩ : Qn).ins = 0) ⟨a, ha⟩ ⟨b, hb⟩
theorem qok_rs (op a b : Nat) (h0 : op < 256) (h1 : a < 16) (h2 : b < 16) : QOk (⟨op, 3, a, b, 0, 0, 0, 0, 512, 0, 0, 0⟩ : Qn) := ⟨h0, h1, h2, by simp, by simp, by simp, by simp, by simp, by simp, by simp, by simp⟩
/-- What the two instructions leave. -/
theorem saves_exec (a b : Nat) (Ro Rn : Nat → Int) (bs ks : List UInt8) (ha : a < 16) (hb : b < 16) (hRo : RegOk Ro) (hRn : RegOk Rn) (hl : bs.length = 2048) : ∃ (bs' : List UInt8) (Q : Nat → Int), (∀ n, n < 16 → inS a b n = true → Q n = Ro n) ∧ (∀ n, n < 16 → inS a b n = false → Q n = Rn n) ∧
    (∀ A g h m w, Sto w A g h 2048 m bs ks → Calls Tryz.prog 17 #[.agg #[.int .i64 144, .int .i64 3, .int .i64 (a : Int), .int .i64 (b : Int), .int .i64 0, .int .i64 0, .int .i64 0, .int .i64 0, .int .i64 512, .int .i64 0, .int .i64 0, .int .i64 0], .agg #[.int .u32 (Ro 0), .int .u32 (Ro 1), .int .u32 (Ro 2), .int .u32 (Ro 3), .int .u32 (Ro 4), .int .u32 (Ro 5), .int .u32 (Ro 6), .int .u32 (Ro 7), .int .u32 (Ro 8), .int .u32 (Ro 9), .int .u32 (Ro 10), .int .u32 (Ro 11), .int .u32 (Ro 12), .int .u32 (Ro 13), .int .u32 (Ro 14), .int .u32 (Ro 15)], .agg #[.int .i64 0, .int .i64 0, .bool false, .bool false, .bool false, .int .i64 0, .int .i64 0, .int .i64 0, .int .i64 0, .int .i64 0], .pointer (some ⟨A, 0, none⟩)] w fun e w' => e = .returned (.tuple #[.agg #[.int .u32 (Ro 0), .int .u32 (Ro 1), .int .u32 (Ro 2), .int .u32 (Ro 3), .int .u32 (Ro 4), .int .u32 (Ro 5), .int .u32 (Ro 6), .int .u32 (Ro 7), .int .u32 (Ro 8), .int .u32 (Ro 9), .int .u32 (Ro 10), .int .u32 (Ro 11), .int .u32 (Ro 12), .int .u32 (Ro 13), .int .u32 (Ro 14), .int .u32 (Ro 15)], .agg #[.int .i64 0, .int .i64 0, .bool false, .bool false, .bool false, .int .i64 0, .int .i64 0, .int .i64 0, .int .i64 0, .int .i64 0], .int .i64 0]) ∧ Sto w' A g h 2048 m bs' ks ∧ Kp w w' [g]) ∧
    (∀ A g h m w, Sto w A g h 2048 m bs' ks → Calls Tryz.prog 17 #[.agg #[.int .i64 152, .int .i64 3, .int .i64 (a : Int), .int .i64 (b : Int), .int .i64 0, .int .i64 0, .int .i64 0, .int .i64 0, .int .i64 512, .int .i64 0, .int .i64 0, .int .i64 0], .agg #[.int .u32 (Rn 0), .int .u32 (Rn 1), .int .u32 (Rn 2), .int .u32 (Rn 3), .int .u32 (Rn 4), .int .u32 (Rn 5), .int .u32 (Rn 6), .int .u32 (Rn 7), .int .u32 (Rn 8), .int .u32 (Rn 9), .int .u32 (Rn 10), .int .u32 (Rn 11), .int .u32 (Rn 12), .int .u32 (Rn 13), .int .u32 (Rn 14), .int .u32 (Rn 15)], .agg #[.int .i64 0, .int .i64 0, .bool false, .bool false, .bool false, .int .i64 0, .int .i64 0, .int .i64 0, .int .i64 0, .int .i64 0], .pointer (some ⟨A, 0, none⟩)] w fun e w' => e = .returned (.tuple #[.agg #[.int .u32 (Q 0), .int .u32 (Q 1), .int .u32 (Q 2), .int .u32 (Q 3), .int .u32 (Q 4), .int .u32 (Q 5), .int .u32 (Q 6), .int .u32 (Q 7), .int .u32 (Q 8), .int .u32 (Q 9), .int .u32 (Q 10), .int .u32 (Q 11), .int .u32 (Q 12), .int .u32 (Q 13), .int .u32 (Q 14), .int .u32 (Q 15)], .agg #[.int .i64 0, .int .i64 0, .bool false, .bool false, .bool false, .int .i64 0, .int .i64 0, .int .i64 0, .int .i64 0, .int .i64 0], .int .i64 0]) ∧ Sto w' A g h 2048 m bs' ks ∧ Kp w w' [g]) := by
  have hc := lsC_bd ha hb
  have hlen : (mB (lsW Ro a (lsC a b))).length = 4 * lsC a b := by rw [mB_len, lsW_len]
  have had1 : adT (⟨144, 3, a, b, 0, 0, 0, 0, 512, 0, 0, 0⟩ : Qn) Ro = 512 := by kernel_rfl
  have had2 : adT (⟨152, 3, a, b, 0, 0, 0, 0, 512, 0, 0, 0⟩ : Qn) Rn = 512 := by kernel_rfl
  have hC1 : stmC (⟨144, 3, a, b, 0, 0, 0, 0, 512, 0, 0, 0⟩ : Qn) Ro (⟨0, 0, false, false, false, 0, 0, 0, 0, 0⟩ : Psw) 2048 ks = 0 := by
    unfold stmC
    rw [had1, if_pos (by decide)]
    exact code_zero stP_zero (by show 512 + 4 * lsC a b ≤ 2048; omega)
  have hB1 : stmB (⟨144, 3, a, b, 0, 0, 0, 0, 512, 0, 0, 0⟩ : Qn) Ro (⟨0, 0, false, false, false, 0, 0, 0, 0, 0⟩ : Psw) 2048 bs ks = E.putL bs 512 (mB (lsW Ro a (lsC a b))) := by
    unfold stmB
    rw [had1, if_pos (by decide)]
    unfold putB
    rw [if_pos]
    · rfl
    · rw [show (mB (lsW Ro ((⟨144, 3, a, b, 0, 0, 0, 0, 512, 0, 0, 0⟩ : Qn) : Qn).r1 (lsC ((⟨144, 3, a, b, 0, 0, 0, 0, 512, 0, 0, 0⟩ : Qn) : Qn).r1 ((⟨144, 3, a, b, 0, 0, 0, 0, 512, 0, 0, 0⟩ : Qn) : Qn).r2))).length = 4 * lsC a b from hlen]
      exact code_zero stP_zero (by omega)
  have hC2 : lmC (⟨152, 3, a, b, 0, 0, 0, 0, 512, 0, 0, 0⟩ : Qn) Rn (⟨0, 0, false, false, false, 0, 0, 0, 0, 0⟩ : Psw) 2048 ks = 0 := by
    unfold lmC
    rw [had2, if_pos (by decide)]
    exact code_zero ftP_zero (by show 512 + 4 * lsC a b ≤ 2048; omega)
  have hsub : subL (E.putL bs 512 (mB (lsW Ro a (lsC a b)))) 512 (4 * lsC a b) = mB (lsW Ro a (lsC a b)) := by
    have h1 := subL_putL (l := bs) (b := mB (lsW Ro a (lsC a b))) (a := 512) (by omega)
    rwa [hlen] at h1
  refine ⟨E.putL bs 512 (mB (lsW Ro a (lsC a b))), lmR Rn (mB (lsW Ro a (lsC a b))) a (lsC a b), ?_, ?_, ?_, ?_⟩
  · intro n hn hin
    obtain ⟨j, hj, rfl⟩ := inS_yes ha hb hn hin
    rw [lmR_at _ _ _ _ hc.2 j hj, fullN_mB _ (lsW_mem hRo _ _) j (by rw [lsW_len]; exact hj), lsW_get _ _ _ _ hj]
  · intro n hn hin
    exact lmR_no _ _ _ _ _ (inS_no ha hb hn hin)
  · intro A g h m w hst
    have hr := runs_144 (⟨144, 3, a, b, 0, 0, 0, 0, 512, 0, 0, 0⟩ : Qn) Ro (⟨0, 0, false, false, false, 0, 0, 0, 0, 0⟩ : Psw) 2048 bs ks hRo (qok_rs 144 a b (by decide) ha hb) rfl
    rw [hC1, hB1] at hr
    refine (exec_of hst (chk_stm a b ha hb) (by kernel_rfl) hr).mono ?_
    rintro e w' ⟨rfl, h1, h2⟩
    exact ⟨rfl, h1, h2⟩
  · intro A g h m w hst
    have hr := runs_152 (⟨152, 3, a, b, 0, 0, 0, 0, 512, 0, 0, 0⟩ : Qn) Rn (⟨0, 0, false, false, false, 0, 0, 0, 0, 0⟩ : Psw) 2048 (E.putL bs 512 (mB (lsW Ro a (lsC a b)))) ks hRn (qok_rs 152 a b (by decide) ha hb) rfl
    rw [hC2, had2] at hr
    rw [show subL (E.putL bs 512 (mB (lsW Ro a (lsC a b)))) 512 (4 * lsC ((⟨152, 3, a, b, 0, 0, 0, 0, 512, 0, 0, 0⟩ : Qn) : Qn).r1 ((⟨152, 3, a, b, 0, 0, 0, 0, 512, 0, 0, 0⟩ : Qn) : Qn).r2) = _ from hsub] at hr
    refine (exec_of hst (chk_lm a b ha hb) (by kernel_rfl) hr).mono ?_
    rintro e w' ⟨rfl, h1, h2⟩
    exact ⟨rfl, h1, h2⟩

end M
end Go.Proofs.YtfopjnfphlkcgaaGreat

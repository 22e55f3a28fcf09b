/- The status word: Valid, Branch, Admits. -/
import Derived.Test.YtbcncohjjnmdcaaGreatDoorRows
import Derived.Deep.CutRange
import Derived.Laws.ResultCell
import Derived.Test.YtbcncohjjnmdcaaGreatDoorPkA
namespace Go.Proofs.YtbcncohjjnmdcaaGreatDoor
open Go.RowKit
set_option linter.unusedVariables false
namespace E

/-- A program status word. -/
@[ext] structure Psw where
  m : Int
  k : Int
  ma : Bool
  wa : Bool
  pr : Bool
  co : Int
  il : Int
  cc : Int
  pg : Int
  ad : Int
  deriving DecidableEq

def okP (Q : Psw) : Prop := (0 ≤ Q.m ∧ Q.m ≤ 255) ∧ (0 ≤ Q.k ∧ Q.k ≤ 15) ∧ (0 ≤ Q.co ∧ Q.co ≤ 65535) ∧ (0 ≤ Q.il ∧ Q.il ≤ 3) ∧ (0 ≤ Q.cc ∧ Q.cc ≤ 3) ∧ (0 ≤ Q.pg ∧ Q.pg ≤ 15) ∧ (0 ≤ Q.ad ∧ Q.ad ≤ 16777215)
instance (Q : Psw) : Decidable (okP Q) := by unfold okP; infer_instance
def okB (Q : Psw) : Bool := decide (okP Q)
/-! ### Bits of signed numbers -/

theorem wrap_i64s {n : Int} (h0 : -9223372036854775808 ≤ n) (h1 : n < 9223372036854775808) : IntKind.i64.wrap n = n := by
  simp [IntKind.wrap, IntKind.bits, IntKind.signed]; omega
end E
end Go.Proofs.YtbcncohjjnmdcaaGreatDoor
namespace Go.Proofs.YtbcncohjjnmdcaaGreatDoor
open Go.RowKit
set_option linter.unusedVariables false
namespace E

def pinB (v x : Int) : Bool := decide (0 ≤ v) && decide (v ≤ x)
set_option maxRecDepth 100000 in
theorem inr_any (v x : Int) (w : World) : Calls Tryz.prog 62 #[.agg #[.int .i64 v, .int .i64 x]] w (New w (.bool (pinB v x))) := by
  have hb := below_new w (.cells #[.int .i64 v, .int .i64 x] 98)
  by_cases h : 0 ≤ v
  · go_enter Tryz.func62, Tryz.ntmps62
    go_wp2
    go_ret
    exact ⟨by simp [pinB, h], hb⟩
  · go_enter Tryz.func62, Tryz.ntmps62
    go_wp2
    go_ret
    exact ⟨by simp [pinB]; omega, hb⟩
set_option maxRecDepth 100000 in
theorem fields_any (Q : Psw) (w : World) : Calls Tryz.prog 61 #[.agg #[.int .i64 Q.m, .int .i64 Q.k, .bool Q.ma, .bool Q.wa, .bool Q.pr, .int .i64 Q.co, .int .i64 Q.il, .int .i64 Q.cc, .int .i64 Q.pg, .int .i64 Q.ad]] w (New w (.agg #[.int .i64 Q.m, .int .i64 255, .int .i64 Q.k, .int .i64 15, .int .i64 Q.co, .int .i64 65535, .int .i64 Q.il, .int .i64 3, .int .i64 Q.cc, .int .i64 3, .int .i64 Q.pg, .int .i64 15, .int .i64 Q.ad, .int .i64 16777215])) := by
  go_enter Tryz.func61, Tryz.ntmps61
  go_wp2
  refine bodyPost_ret (results_cell_row rfl _ _ (w.heap.size + 1) _ _ _ _ rfl (heap_alloc2_new w _ _) Tryz.underlying99 rfl (by kernel_rfl)) rfl ?_
  exact ⟨rfl, below2 w _ _⟩
theorem ix0 (Q : Psw) (w : World) : (Instr.index 99 (.agg #[.int .i64 Q.m, .int .i64 255, .int .i64 Q.k, .int .i64 15, .int .i64 Q.co, .int .i64 65535, .int .i64 Q.il, .int .i64 3, .int .i64 Q.cc, .int .i64 3, .int .i64 Q.pg, .int .i64 15, .int .i64 Q.ad, .int .i64 16777215]) (.int .i64 0)).run Tryz.prog w = .ok (.agg #[.int .i64 Q.m, .int .i64 255]) w := by kernel_rfl
theorem ix1 (Q : Psw) (w : World) : (Instr.index 99 (.agg #[.int .i64 Q.m, .int .i64 255, .int .i64 Q.k, .int .i64 15, .int .i64 Q.co, .int .i64 65535, .int .i64 Q.il, .int .i64 3, .int .i64 Q.cc, .int .i64 3, .int .i64 Q.pg, .int .i64 15, .int .i64 Q.ad, .int .i64 16777215]) (.int .i64 1)).run Tryz.prog w = .ok (.agg #[.int .i64 Q.k, .int .i64 15]) w := by kernel_rfl
theorem ix2 (Q : Psw) (w : World) : (Instr.index 99 (.agg #[.int .i64 Q.m, .int .i64 255, .int .i64 Q.k, .int .i64 15, .int .i64 Q.co, .int .i64 65535, .int .i64 Q.il, .int .i64 3, .int .i64 Q.cc, .int .i64 3, .int .i64 Q.pg, .int .i64 15, .int .i64 Q.ad, .int .i64 16777215]) (.int .i64 2)).run Tryz.prog w = .ok (.agg #[.int .i64 Q.co, .int .i64 65535]) w := by kernel_rfl
theorem ix3 (Q : Psw) (w : World) : (Instr.index 99 (.agg #[.int .i64 Q.m, .int .i64 255, .int .i64 Q.k, .int .i64 15, .int .i64 Q.co, .int .i64 65535, .int .i64 Q.il, .int .i64 3, .int .i64 Q.cc, .int .i64 3, .int .i64 Q.pg, .int .i64 15, .int .i64 Q.ad, .int .i64 16777215]) (.int .i64 3)).run Tryz.prog w = .ok (.agg #[.int .i64 Q.il, .int .i64 3]) w := by kernel_rfl
theorem ix4 (Q : Psw) (w : World) : (Instr.index 99 (.agg #[.int .i64 Q.m, .int .i64 255, .int .i64 Q.k, .int .i64 15, .int .i64 Q.co, .int .i64 65535, .int .i64 Q.il, .int .i64 3, .int .i64 Q.cc, .int .i64 3, .int .i64 Q.pg, .int .i64 15, .int .i64 Q.ad, .int .i64 16777215]) (.int .i64 4)).run Tryz.prog w = .ok (.agg #[.int .i64 Q.cc, .int .i64 3]) w := by kernel_rfl
theorem ix5 (Q : Psw) (w : World) : (Instr.index 99 (.agg #[.int .i64 Q.m, .int .i64 255, .int .i64 Q.k, .int .i64 15, .int .i64 Q.co, .int .i64 65535, .int .i64 Q.il, .int .i64 3, .int .i64 Q.cc, .int .i64 3, .int .i64 Q.pg, .int .i64 15, .int .i64 Q.ad, .int .i64 16777215]) (.int .i64 5)).run Tryz.prog w = .ok (.agg #[.int .i64 Q.pg, .int .i64 15]) w := by kernel_rfl
theorem ix6 (Q : Psw) (w : World) : (Instr.index 99 (.agg #[.int .i64 Q.m, .int .i64 255, .int .i64 Q.k, .int .i64 15, .int .i64 Q.co, .int .i64 65535, .int .i64 Q.il, .int .i64 3, .int .i64 Q.cc, .int .i64 3, .int .i64 Q.pg, .int .i64 15, .int .i64 Q.ad, .int .i64 16777215]) (.int .i64 6)).run Tryz.prog w = .ok (.agg #[.int .i64 Q.ad, .int .i64 16777215]) w := by kernel_rfl
/-- The fields with their greatest values. -/
def fldsP (Q : Psw) : List (Int × Int) := [(Q.m, 255), (Q.k, 15), (Q.co, 65535), (Q.il, 3), (Q.cc, 3), (Q.pg, 15), (Q.ad, 16777215)]
theorem okB_iff (Q : Psw) : okB Q = true ↔ ∀ x ∈ fldsP Q, pinB x.1 x.2 = true := by
  unfold okB; rw [decide_eq_true_iff]; simp [okP, fldsP, pinB]
theorem okB_false (Q : Psw) (v x : Int) (h : pinB v x = false) (hm : (v, x) ∈ fldsP Q) : okB Q = false := by
  cases hq : okB Q with
  | false => rfl
  | true => rw [(okB_iff Q).1 hq _ hm] at h; cases h
/-- The fields before a place are in their ranges. -/
def Upto (Q : Psw) (j : Nat) : Prop := ∀ x ∈ (fldsP Q).take j, pinB x.1 x.2 = true
theorem upto_next {Q : Psw} {j : Nat} {v x : Int} (h : Upto Q j) (hx : (fldsP Q)[j]? = some (v, x)) (hb : pinB v x = true) : Upto Q (j + 1) := by
  intro y hy
  rw [List.take_add_one, hx] at hy
  rcases List.mem_append.1 hy with hy | hy
  · exact h y hy
  · simp at hy; subst hy; exact hb
theorem upto_all {Q : Psw} (h : Upto Q 7) : okB Q = true := (okB_iff Q).2 h
set_option maxRecDepth 100000 in
theorem valid_any (Q : Psw) (w : World) : Calls Tryz.prog 35 #[.agg #[.int .i64 Q.m, .int .i64 Q.k, .bool Q.ma, .bool Q.wa, .bool Q.pr, .int .i64 Q.co, .int .i64 Q.il, .int .i64 Q.cc, .int .i64 Q.pg, .int .i64 Q.ad]] w (New w (.bool (okB Q))) := by
  have HF := Lib.hid (fields_any Q)
  go_enter Tryz.func35, Tryz.ntmps35
  go_wp2_with fail
  refine (HF.out _).mono ?_
  rintro e w1 ⟨rfl, hb1⟩
  have H1 := Lib.hid (bel0 (below_new _ _) hb1)
  clear hb1 HF
  go_wp2
  go_loopw [7] (fun i wr => Below w.heap.size w wr ∧ ∃ j : Nat, j ≤ 7 ∧ i = .int .i64 j ∧ Upto Q j) (fun i _ => 7 - (intOf i).toNat)
  case atStart => exact ⟨H1.out, 0, by omega, rfl, fun x hx => by simp at hx⟩
  case round =>
    obtain ⟨hr, j, hj, rfl, hu⟩ := hrel
    have HR := Lib.hid hr
    have HU := Lib.hid hu
    clear hr hu H1
    by_cases hlt : j < 7
    · rcases (by omega : j = 0 ∨ j = 1 ∨ j = 2 ∨ j = 3 ∨ j = 4 ∨ j = 5 ∨ j = 6) with rfl | rfl | rfl | rfl | rfl | rfl | rfl
      all_goals clear hj hlt
      · cases hB : pinB Q.m 255 with
        | false =>
          have HC := Lib.hid (inr_any Q.m 255)
          have hix := ix0 Q
          rw [hB] at HC
          go_wp2_with fail
          refine (HC.out _).mono ?_
          rintro e w2 ⟨rfl, hb2⟩
          have HX := Lib.hid hb2
          clear hb2 HC hix
          go_wp2
          go_ret
          exact ⟨by rw [okB_false Q _ _ hB (by simp [fldsP])]; rfl, bel0 (bel0 HR.out (below_new _ _)) HX.out⟩
        | true =>
          have HC := Lib.hid (inr_any Q.m 255)
          have hix := ix0 Q
          rw [hB] at HC
          go_wp2_with fail
          refine (HC.out _).mono ?_
          rintro e w2 ⟨rfl, hb2⟩
          have HX := Lib.hid hb2
          clear hb2 HC hix
          go_wp2
          go_roundw
          case rel => exact ⟨bel0 (bel0 HR.out (below_new _ _)) HX.out, 1, by omega, rfl, upto_next HU.out rfl hB⟩
          case measure => simp [intOf]
      · cases hB : pinB Q.k 15 with
        | false =>
          have HC := Lib.hid (inr_any Q.k 15)
          have hix := ix1 Q
          rw [hB] at HC
          go_wp2_with fail
          refine (HC.out _).mono ?_
          rintro e w2 ⟨rfl, hb2⟩
          have HX := Lib.hid hb2
          clear hb2 HC hix
          go_wp2
          go_ret
          exact ⟨by rw [okB_false Q _ _ hB (by simp [fldsP])]; rfl, bel0 (bel0 HR.out (below_new _ _)) HX.out⟩
        | true =>
          have HC := Lib.hid (inr_any Q.k 15)
          have hix := ix1 Q
          rw [hB] at HC
          go_wp2_with fail
          refine (HC.out _).mono ?_
          rintro e w2 ⟨rfl, hb2⟩
          have HX := Lib.hid hb2
          clear hb2 HC hix
          go_wp2
          go_roundw
          case rel => exact ⟨bel0 (bel0 HR.out (below_new _ _)) HX.out, 2, by omega, rfl, upto_next HU.out rfl hB⟩
          case measure => simp [intOf]
      · cases hB : pinB Q.co 65535 with
        | false =>
          have HC := Lib.hid (inr_any Q.co 65535)
          have hix := ix2 Q
          rw [hB] at HC
          go_wp2_with fail
          refine (HC.out _).mono ?_
          rintro e w2 ⟨rfl, hb2⟩
          have HX := Lib.hid hb2
          clear hb2 HC hix
          go_wp2
          go_ret
          exact ⟨by rw [okB_false Q _ _ hB (by simp [fldsP])]; rfl, bel0 (bel0 HR.out (below_new _ _)) HX.out⟩
        | true =>
          have HC := Lib.hid (inr_any Q.co 65535)
          have hix := ix2 Q
          rw [hB] at HC
          go_wp2_with fail
          refine (HC.out _).mono ?_
          rintro e w2 ⟨rfl, hb2⟩
          have HX := Lib.hid hb2
          clear hb2 HC hix
          go_wp2
          go_roundw
          case rel => exact ⟨bel0 (bel0 HR.out (below_new _ _)) HX.out, 3, by omega, rfl, upto_next HU.out rfl hB⟩
          case measure => simp [intOf]
      · cases hB : pinB Q.il 3 with
        | false =>
          have HC := Lib.hid (inr_any Q.il 3)
          have hix := ix3 Q
          rw [hB] at HC
          go_wp2_with fail
          refine (HC.out _).mono ?_
          rintro e w2 ⟨rfl, hb2⟩
          have HX := Lib.hid hb2
          clear hb2 HC hix
          go_wp2
          go_ret
          exact ⟨by rw [okB_false Q _ _ hB (by simp [fldsP])]; rfl, bel0 (bel0 HR.out (below_new _ _)) HX.out⟩
        | true =>
          have HC := Lib.hid (inr_any Q.il 3)
          have hix := ix3 Q
          rw [hB] at HC
          go_wp2_with fail
          refine (HC.out _).mono ?_
          rintro e w2 ⟨rfl, hb2⟩
          have HX := Lib.hid hb2
          clear hb2 HC hix
          go_wp2
          go_roundw
          case rel => exact ⟨bel0 (bel0 HR.out (below_new _ _)) HX.out, 4, by omega, rfl, upto_next HU.out rfl hB⟩
          case measure => simp [intOf]
      · cases hB : pinB Q.cc 3 with
        | false =>
          have HC := Lib.hid (inr_any Q.cc 3)
          have hix := ix4 Q
          rw [hB] at HC
          go_wp2_with fail
          refine (HC.out _).mono ?_
          rintro e w2 ⟨rfl, hb2⟩
          have HX := Lib.hid hb2
          clear hb2 HC hix
          go_wp2
          go_ret
          exact ⟨by rw [okB_false Q _ _ hB (by simp [fldsP])]; rfl, bel0 (bel0 HR.out (below_new _ _)) HX.out⟩
        | true =>
          have HC := Lib.hid (inr_any Q.cc 3)
          have hix := ix4 Q
          rw [hB] at HC
          go_wp2_with fail
          refine (HC.out _).mono ?_
          rintro e w2 ⟨rfl, hb2⟩
          have HX := Lib.hid hb2
          clear hb2 HC hix
          go_wp2
          go_roundw
          case rel => exact ⟨bel0 (bel0 HR.out (below_new _ _)) HX.out, 5, by omega, rfl, upto_next HU.out rfl hB⟩
          case measure => simp [intOf]
      · cases hB : pinB Q.pg 15 with
        | false =>
          have HC := Lib.hid (inr_any Q.pg 15)
          have hix := ix5 Q
          rw [hB] at HC
          go_wp2_with fail
          refine (HC.out _).mono ?_
          rintro e w2 ⟨rfl, hb2⟩
          have HX := Lib.hid hb2
          clear hb2 HC hix
          go_wp2
          go_ret
          exact ⟨by rw [okB_false Q _ _ hB (by simp [fldsP])]; rfl, bel0 (bel0 HR.out (below_new _ _)) HX.out⟩
        | true =>
          have HC := Lib.hid (inr_any Q.pg 15)
          have hix := ix5 Q
          rw [hB] at HC
          go_wp2_with fail
          refine (HC.out _).mono ?_
          rintro e w2 ⟨rfl, hb2⟩
          have HX := Lib.hid hb2
          clear hb2 HC hix
          go_wp2
          go_roundw
          case rel => exact ⟨bel0 (bel0 HR.out (below_new _ _)) HX.out, 6, by omega, rfl, upto_next HU.out rfl hB⟩
          case measure => simp [intOf]
      · cases hB : pinB Q.ad 16777215 with
        | false =>
          have HC := Lib.hid (inr_any Q.ad 16777215)
          have hix := ix6 Q
          rw [hB] at HC
          go_wp2_with fail
          refine (HC.out _).mono ?_
          rintro e w2 ⟨rfl, hb2⟩
          have HX := Lib.hid hb2
          clear hb2 HC hix
          go_wp2
          go_ret
          exact ⟨by rw [okB_false Q _ _ hB (by simp [fldsP])]; rfl, bel0 (bel0 HR.out (below_new _ _)) HX.out⟩
        | true =>
          have HC := Lib.hid (inr_any Q.ad 16777215)
          have hix := ix6 Q
          rw [hB] at HC
          go_wp2_with fail
          refine (HC.out _).mono ?_
          rintro e w2 ⟨rfl, hb2⟩
          have HX := Lib.hid hb2
          clear hb2 HC hix
          go_wp2
          go_roundw
          case rel => exact ⟨bel0 (bel0 HR.out (below_new _ _)) HX.out, 7, by omega, rfl, upto_next HU.out rfl hB⟩
          case measure => simp [intOf]
    · obtain rfl : j = 7 := by omega
      clear hj hlt
      go_wp2
      go_ret
      exact ⟨by rw [upto_all HU.out]; rfl, HR.out⟩

end E
end Go.Proofs.YtbcncohjjnmdcaaGreatDoor
namespace Go.Proofs.YtbcncohjjnmdcaaGreatDoor
open Go.RowKit
set_option linter.unusedVariables false
namespace E

theorem fin_of' {n : Nat} {z : Int} (h0 : 0 ≤ z) (h1 : z < n) : ∃ i : Fin n, z = (i.val : Int) := ⟨⟨z.toNat, by omega⟩, by simp; omega⟩
/-! ### Admits -/

def prB (g c : Int) : Bool := bif c == 8 then (g / 8 == 1) else bif c == 10 then (g / 4 % 2 == 1) else decide (1 ≤ c) && decide (c ≤ 11)
def chB (m n : Int) : Bool := pinB n 6 && (m / 2 ^ (7 - n.toNat) % 2 == 1)
def adC (Q : Psw) (cl co ch : Int) : Bool := bif cl == 1 then (Q.m % 2 == 1) else bif cl == 2 then true else bif cl == 3 then prB Q.pg co else bif cl == 4 then Q.ma else bif cl == 5 then chB Q.m ch else false
/-- Whether an interruption is admitted. -/
def adB (Q : Psw) (cl co ch : Int) : Bool := okB Q && adC Q cl co ch
theorem pr_bits {g : Int} (h0 : 0 ≤ g) (h1 : g ≤ 15) : (bits .and .i64 g 8 != 0) = (g / 8 == 1) ∧ (bits .and .i64 g 4 != 0) = (g / 4 % 2 == 1) := by
  obtain ⟨i, rfl⟩ := fin_of' (n := 16) h0 (by omega)
  revert i
  decide +kernel
theorem ch_bits {m : Int} (h0 : 0 ≤ m) (h1 : m ≤ 255) : ((bits .and .i64 m 128 != 0) = chB m 0 ∧ (bits .and .i64 m 64 != 0) = chB m 1 ∧ (bits .and .i64 m 32 != 0) = chB m 2 ∧ (bits .and .i64 m 16 != 0) = chB m 3) ∧ ((bits .and .i64 m 8 != 0) = chB m 4 ∧ (bits .and .i64 m 4 != 0) = chB m 5 ∧ (bits .and .i64 m 2 != 0) = chB m 6) ∧ (bits .and .i64 m 1 != 0) = (m % 2 == 1) := by
  obtain ⟨i, rfl⟩ := fin_of' (n := 256) h0 (by omega)
  revert i
  decide +kernel
theorem prog_any (g c : Int) (w : World) (h0 : 0 ≤ g) (h1 : g ≤ 15) : Calls Tryz.prog 192 #[.int .i64 g, .int .i64 c] w (New w (.bool (prB g c))) := by
  obtain ⟨b8, b4⟩ := pr_bits h0 h1
  clear h0 h1
  rcases (by omega : c = 8 ∨ c = 10 ∨ (¬ c = 8 ∧ ¬ c = 10 ∧ 1 ≤ c) ∨ (¬ c = 8 ∧ ¬ c = 10 ∧ ¬ (1 ≤ c))) with rfl | rfl | ⟨i0, i1, i2⟩ | ⟨i0, i1, i2⟩
  · have e : prB g 8 = (bits .and .i64 g 8 != 0) := b8.symm
    rw [e]
    clear e b8 b4
    go_enter Tryz.func192, Tryz.ntmps192
    go_wp2
    go_ret
    exact ⟨rfl, Below.refl _ _⟩
  · have e : prB g 10 = (bits .and .i64 g 4 != 0) := b4.symm
    rw [e]
    clear e b8 b4
    go_enter Tryz.func192, Tryz.ntmps192
    go_wp2
    go_ret
    exact ⟨rfl, Below.refl _ _⟩
  · have e : prB g c = decide (c ≤ 11) := by
      unfold prB
      rw [show (c == 8) = false from beq_false_of_ne i0, show (c == 10) = false from beq_false_of_ne i1]
      simp [i2]
    rw [e]
    clear e b8 b4
    go_enter Tryz.func192, Tryz.ntmps192
    go_wp2
    go_ret
    exact ⟨rfl, Below.refl _ _⟩
  · have e : prB g c = false := by
      unfold prB
      rw [show (c == 8) = false from beq_false_of_ne i0, show (c == 10) = false from beq_false_of_ne i1]
      simp [i2]
    rw [e]
    clear e b8 b4
    go_enter Tryz.func192, Tryz.ntmps192
    go_wp2
    go_ret
    exact ⟨rfl, Below.refl _ _⟩
theorem chan_any (m n : Int) (w : World) (h0 : 0 ≤ m) (h1 : m ≤ 255) : Calls Tryz.prog 193 #[.int .i64 m, .int .i64 n] w (New w (.bool (chB m n))) := by
  obtain ⟨⟨b0, b1, b2, b3⟩, ⟨b4, b5, b6⟩, -⟩ := ch_bits h0 h1
  clear h0 h1
  rcases (by omega : ¬ (0 ≤ n) ∨ (0 ≤ n ∧ ¬ (n ≤ 6)) ∨ n = 0 ∨ n = 1 ∨ n = 2 ∨ n = 3 ∨ n = 4 ∨ n = 5 ∨ n = 6) with i | ⟨i, j⟩ | rfl | rfl | rfl | rfl | rfl | rfl | rfl
  · have e : chB m n = false := by simp [chB, pinB, i]
    rw [e]
    clear e b0 b1 b2 b3 b4 b5 b6
    go_enter Tryz.func193, Tryz.ntmps193
    go_wp2
    go_ret
    exact ⟨rfl, Below.refl _ _⟩
  · have e : chB m n = false := by simp [chB, pinB, j]
    rw [e]
    clear e b0 b1 b2 b3 b4 b5 b6
    go_enter Tryz.func193, Tryz.ntmps193
    go_wp2
    go_ret
    exact ⟨rfl, Below.refl _ _⟩
  · rw [← b0]
    clear b0 b1 b2 b3 b4 b5 b6
    go_enter Tryz.func193, Tryz.ntmps193
    go_wp2
    go_ret
    exact ⟨rfl, Below.refl _ _⟩
  · rw [← b1]
    clear b0 b1 b2 b3 b4 b5 b6
    go_enter Tryz.func193, Tryz.ntmps193
    go_wp2
    go_ret
    exact ⟨rfl, Below.refl _ _⟩
  · rw [← b2]
    clear b0 b1 b2 b3 b4 b5 b6
    go_enter Tryz.func193, Tryz.ntmps193
    go_wp2
    go_ret
    exact ⟨rfl, Below.refl _ _⟩
  · rw [← b3]
    clear b0 b1 b2 b3 b4 b5 b6
    go_enter Tryz.func193, Tryz.ntmps193
    go_wp2
    go_ret
    exact ⟨rfl, Below.refl _ _⟩
  · rw [← b4]
    clear b0 b1 b2 b3 b4 b5 b6
    go_enter Tryz.func193, Tryz.ntmps193
    go_wp2
    go_ret
    exact ⟨rfl, Below.refl _ _⟩
  · rw [← b5]
    clear b0 b1 b2 b3 b4 b5 b6
    go_enter Tryz.func193, Tryz.ntmps193
    go_wp2
    go_ret
    exact ⟨rfl, Below.refl _ _⟩
  · rw [← b6]
    clear b0 b1 b2 b3 b4 b5 b6
    go_enter Tryz.func193, Tryz.ntmps193
    go_wp2
    go_ret
    exact ⟨rfl, Below.refl _ _⟩

/-! ### Advance -/

/-- The cells of a word's block. -/
def Cells (W : World) (n : Nat) (Q : Psw) : Prop := W.cell? ⟨n, 0, none⟩ = some (.int .i64 Q.m) ∧ W.cell? ⟨n, 1, none⟩ = some (.int .i64 Q.k) ∧ W.cell? ⟨n, 2, none⟩ = some (.bool Q.ma) ∧ W.cell? ⟨n, 3, none⟩ = some (.bool Q.wa) ∧ W.cell? ⟨n, 4, none⟩ = some (.bool Q.pr) ∧ W.cell? ⟨n, 5, none⟩ = some (.int .i64 Q.co) ∧ W.cell? ⟨n, 6, none⟩ = some (.int .i64 Q.il) ∧ W.cell? ⟨n, 7, none⟩ = some (.int .i64 Q.cc) ∧ W.cell? ⟨n, 8, none⟩ = some (.int .i64 Q.pg) ∧ W.cell? ⟨n, 9, none⟩ = some (.int .i64 Q.ad)
theorem cells_of {w : World} {n : Nat} {t : TypeId} {Q : Psw} (h : Bx w n t #[.int .i64 Q.m, .int .i64 Q.k, .bool Q.ma, .bool Q.wa, .bool Q.pr, .int .i64 Q.co, .int .i64 Q.il, .int .i64 Q.cc, .int .i64 Q.pg, .int .i64 Q.ad]) : Cells w n Q := ⟨h.cell 0, h.cell 1, h.cell 2, h.cell 3, h.cell 4, h.cell 5, h.cell 6, h.cell 7, h.cell 8, h.cell 9⟩
set_option maxRecDepth 100000 in
theorem adm_no (Q : Psw) (cl co ch : Int) (w : World) (h : okB Q = false) : Calls Tryz.prog 160 #[.agg #[.int .i64 Q.m, .int .i64 Q.k, .bool Q.ma, .bool Q.wa, .bool Q.pr, .int .i64 Q.co, .int .i64 Q.il, .int .i64 Q.cc, .int .i64 Q.pg, .int .i64 Q.ad], .int .i64 cl, .int .i64 co, .int .i64 ch] w (New w (.bool false)) := by
  have HV := Lib.hid (fun W => (by have h1 := valid_any Q W; rw [h] at h1; exact h1 : Calls Tryz.prog 35 #[.agg #[.int .i64 Q.m, .int .i64 Q.k, .bool Q.ma, .bool Q.wa, .bool Q.pr, .int .i64 Q.co, .int .i64 Q.il, .int .i64 Q.cc, .int .i64 Q.pg, .int .i64 Q.ad]] W (New W (.bool false))))
  clear h
  go_enter Tryz.func160, Tryz.ntmps160
  go_wp2_with fail
  refine (HV.out _).mono ?_
  rintro e w1 ⟨rfl, hb⟩
  have HX := Lib.hid hb
  clear hb HV
  go_wp2
  go_ret
  exact ⟨rfl, bel0 (below_new _ _) HX.out⟩
set_option maxRecDepth 100000 in
theorem adm_yes (Q : Psw) (cl co ch : Int) (w : World) (h : okB Q = true) : Calls Tryz.prog 160 #[.agg #[.int .i64 Q.m, .int .i64 Q.k, .bool Q.ma, .bool Q.wa, .bool Q.pr, .int .i64 Q.co, .int .i64 Q.il, .int .i64 Q.cc, .int .i64 Q.pg, .int .i64 Q.ad], .int .i64 cl, .int .i64 co, .int .i64 ch] w (New w (.bool (adC Q cl co ch))) := by
  have HV := Lib.hid (fun W => (by have h1 := valid_any Q W; rw [h] at h1; exact h1 : Calls Tryz.prog 35 #[.agg #[.int .i64 Q.m, .int .i64 Q.k, .bool Q.ma, .bool Q.wa, .bool Q.pr, .int .i64 Q.co, .int .i64 Q.il, .int .i64 Q.cc, .int .i64 Q.pg, .int .i64 Q.ad]] W (New W (.bool true))))
  have hok : okP Q := of_decide_eq_true h
  obtain ⟨⟨m0, m1⟩, -, -, -, -, ⟨p0, p1⟩, -⟩ := hok
  have HP := Lib.hid (fun c W => prog_any Q.pg c W p0 p1)
  have HC := Lib.hid (fun c W => chan_any Q.m c W m0 m1)
  obtain ⟨-, -, hm1⟩ := ch_bits m0 m1
  clear h m0 m1 p0 p1
  have HA : Hid (∀ c : Int, c = 1 ∨ c = 2 ∨ c = 3 ∨ c = 4 ∨ c = 5 ∨ (¬ c = 1 ∧ ¬ c = 2 ∧ ¬ c = 3 ∧ ¬ c = 4 ∧ ¬ c = 5)) := Lib.hid (fun c : Int => by omega)
  have HB := Lib.hid (Bx.new w 30 #[.int .i64 Q.m, .int .i64 Q.k, .bool Q.ma, .bool Q.wa, .bool Q.pr, .int .i64 Q.co, .int .i64 Q.il, .int .i64 Q.cc, .int .i64 Q.pg, .int .i64 Q.ad])
  rcases HA.out cl with rfl | rfl | rfl | rfl | rfl | ⟨i1, i2, i3, i4, i5⟩
  · have e : adC Q 1 co ch = (bits .and .i64 Q.m 1 != 0) := hm1.symm
    rw [e]
    clear e hm1 HA HP HC
    go_enter Tryz.func160, Tryz.ntmps160
    go_wp2_with fail
    refine (HV.out _).mono ?_
    rintro e w1 ⟨rfl, hb⟩
    have HX := Lib.hid hb
    obtain ⟨c0, -⟩ := cells_of (HB.out.below hb)
    clear hb HV HB
    go_wp2
    go_ret
    exact ⟨rfl, bel0 (below_new _ _) HX.out⟩
  · clear hm1 HA HP HC
    go_enter Tryz.func160, Tryz.ntmps160
    go_wp2_with fail
    refine (HV.out _).mono ?_
    rintro e w1 ⟨rfl, hb⟩
    have HX := Lib.hid hb
    clear hb HV HB
    go_wp2
    go_ret
    exact ⟨rfl, bel0 (below_new _ _) HX.out⟩
  · clear hm1 HA HC
    go_enter Tryz.func160, Tryz.ntmps160
    go_wp2_with fail
    refine (HV.out _).mono ?_
    rintro e w1 ⟨rfl, hb⟩
    have HX := Lib.hid hb
    obtain ⟨-, -, -, -, -, -, -, -, c8, -⟩ := cells_of (HB.out.below hb)
    clear hb HV HB
    go_wp2_with fail
    refine (HP.out _ _).mono ?_
    rintro e w2 ⟨rfl, hb⟩
    have HY := Lib.hid (bel0 (bel0 (below_new _ _) HX.out) hb)
    clear hb c8
    go_wp2
    go_ret
    exact ⟨rfl, HY.out⟩
  · clear hm1 HA HP HC
    go_enter Tryz.func160, Tryz.ntmps160
    go_wp2_with fail
    refine (HV.out _).mono ?_
    rintro e w1 ⟨rfl, hb⟩
    have HX := Lib.hid hb
    obtain ⟨-, -, c2, -⟩ := cells_of (HB.out.below hb)
    clear hb HV HB
    go_wp2
    go_ret
    exact ⟨rfl, bel0 (below_new _ _) HX.out⟩
  · clear hm1 HA HP
    go_enter Tryz.func160, Tryz.ntmps160
    go_wp2_with fail
    refine (HV.out _).mono ?_
    rintro e w1 ⟨rfl, hb⟩
    have HX := Lib.hid hb
    obtain ⟨c0, -⟩ := cells_of (HB.out.below hb)
    clear hb HV HB
    go_wp2_with fail
    refine (HC.out _ _).mono ?_
    rintro e w2 ⟨rfl, hb⟩
    have HY := Lib.hid (bel0 (bel0 (below_new _ _) HX.out) hb)
    clear hb c0
    go_wp2
    go_ret
    exact ⟨rfl, HY.out⟩
  · have e : adC Q cl co ch = false := by
      unfold adC
      rw [show (cl == 1) = false from beq_false_of_ne i1, show (cl == 2) = false from beq_false_of_ne i2, show (cl == 3) = false from beq_false_of_ne i3, show (cl == 4) = false from beq_false_of_ne i4, show (cl == 5) = false from beq_false_of_ne i5]
      rfl
    rw [e]
    clear e hm1 HA HP HC
    go_enter Tryz.func160, Tryz.ntmps160
    go_wp2_with fail
    refine (HV.out _).mono ?_
    rintro e w1 ⟨rfl, hb⟩
    have HX := Lib.hid hb
    clear hb HV HB
    go_wp2
    go_ret
    exact ⟨rfl, bel0 (below_new _ _) HX.out⟩
theorem adm_any (Q : Psw) (cl co ch : Int) (w : World) : Calls Tryz.prog 160 #[.agg #[.int .i64 Q.m, .int .i64 Q.k, .bool Q.ma, .bool Q.wa, .bool Q.pr, .int .i64 Q.co, .int .i64 Q.il, .int .i64 Q.cc, .int .i64 Q.pg, .int .i64 Q.ad], .int .i64 cl, .int .i64 co, .int .i64 ch] w (New w (.bool (adB Q cl co ch))) := by
  cases h : okB Q with
  | false =>
    rw [show adB Q cl co ch = false by unfold adB; rw [h]; rfl]
    exact adm_no Q cl co ch w h
  | true =>
    rw [show adB Q cl co ch = adC Q cl co ch by unfold adB; rw [h]; rfl]
    exact adm_yes Q cl co ch w h

end E
end Go.Proofs.YtbcncohjjnmdcaaGreatDoor

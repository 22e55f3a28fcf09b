/- Valid: the program's and the given one's. -/
import Derived.Test.YtfobmgoehamnnaaPsMath
import Derived.Deep.CutRange
namespace Go.Proofs.Ytfobmgoehamnnaa
open Go.RowKit
set_option linter.unusedVariables false
namespace E

def inB (v x : Int) : Bool := decide (0 ≤ v) && decide (v ≤ x)
set_option maxRecDepth 100000 in
theorem inr_any (v x : Int) (w : World) : Calls Try.prog 29 #[.agg #[.int .i64 v, .int .i64 x]] w (New w (.bool (inB v x))) := by
  have hb := below_new w (.cells #[.int .i64 v, .int .i64 x] 48)
  by_cases h : 0 ≤ v
  · go_enter Try.func29, Try.ntmps29
    go_wp2
    go_ret
    exact ⟨by simp [inB, h], hb⟩
  · go_enter Try.func29, Try.ntmps29
    go_wp2
    go_ret
    exact ⟨by simp [inB]; omega, hb⟩
theorem in_any (v x : Int) (w : World) : Calls Try.prog 30 #[.int .i64 v, .int .i64 x] w (New w (.bool (inB v x))) := by
  by_cases h : 0 ≤ v
  · go_enter Try.func30, Try.ntmps30
    go_wp2
    go_ret
    exact ⟨by simp [inB, h], Below.refl _ _⟩
  · go_enter Try.func30, Try.ntmps30
    go_wp2
    go_ret
    exact ⟨by simp [inB]; omega, Below.refl _ _⟩
set_option maxRecDepth 100000 in
theorem fields_any (Q : Psw) (w : World) : Calls Try.prog 28 #[.agg #[.int .i64 Q.m, .int .i64 Q.k, .bool Q.ma, .bool Q.wa, .bool Q.pr, .int .i64 Q.co, .int .i64 Q.il, .int .i64 Q.cc, .int .i64 Q.pg, .int .i64 Q.ad]] w (New w (.agg #[.int .i64 Q.m, .int .i64 255, .int .i64 Q.k, .int .i64 15, .int .i64 Q.co, .int .i64 65535, .int .i64 Q.il, .int .i64 3, .int .i64 Q.cc, .int .i64 3, .int .i64 Q.pg, .int .i64 15, .int .i64 Q.ad, .int .i64 16777215])) := by
  go_enter Try.func28, Try.ntmps28
  go_wp2
  refine bodyPost_ret (results_cell_row rfl _ _ (w.heap.size + 1) _ _ _ _ rfl (heap_alloc2_new w _ _) Try.underlying49 rfl (by kernel_rfl)) rfl ?_
  exact ⟨rfl, below2 w _ _⟩
theorem ix0 (Q : Psw) (w : World) : (Instr.index 49 (.agg #[.int .i64 Q.m, .int .i64 255, .int .i64 Q.k, .int .i64 15, .int .i64 Q.co, .int .i64 65535, .int .i64 Q.il, .int .i64 3, .int .i64 Q.cc, .int .i64 3, .int .i64 Q.pg, .int .i64 15, .int .i64 Q.ad, .int .i64 16777215]) (.int .i64 0)).run Try.prog w = .ok (.agg #[.int .i64 Q.m, .int .i64 255]) w := by kernel_rfl
theorem ix1 (Q : Psw) (w : World) : (Instr.index 49 (.agg #[.int .i64 Q.m, .int .i64 255, .int .i64 Q.k, .int .i64 15, .int .i64 Q.co, .int .i64 65535, .int .i64 Q.il, .int .i64 3, .int .i64 Q.cc, .int .i64 3, .int .i64 Q.pg, .int .i64 15, .int .i64 Q.ad, .int .i64 16777215]) (.int .i64 1)).run Try.prog w = .ok (.agg #[.int .i64 Q.k, .int .i64 15]) w := by kernel_rfl
theorem ix2 (Q : Psw) (w : World) : (Instr.index 49 (.agg #[.int .i64 Q.m, .int .i64 255, .int .i64 Q.k, .int .i64 15, .int .i64 Q.co, .int .i64 65535, .int .i64 Q.il, .int .i64 3, .int .i64 Q.cc, .int .i64 3, .int .i64 Q.pg, .int .i64 15, .int .i64 Q.ad, .int .i64 16777215]) (.int .i64 2)).run Try.prog w = .ok (.agg #[.int .i64 Q.co, .int .i64 65535]) w := by kernel_rfl
theorem ix3 (Q : Psw) (w : World) : (Instr.index 49 (.agg #[.int .i64 Q.m, .int .i64 255, .int .i64 Q.k, .int .i64 15, .int .i64 Q.co, .int .i64 65535, .int .i64 Q.il, .int .i64 3, .int .i64 Q.cc, .int .i64 3, .int .i64 Q.pg, .int .i64 15, .int .i64 Q.ad, .int .i64 16777215]) (.int .i64 3)).run Try.prog w = .ok (.agg #[.int .i64 Q.il, .int .i64 3]) w := by kernel_rfl
theorem ix4 (Q : Psw) (w : World) : (Instr.index 49 (.agg #[.int .i64 Q.m, .int .i64 255, .int .i64 Q.k, .int .i64 15, .int .i64 Q.co, .int .i64 65535, .int .i64 Q.il, .int .i64 3, .int .i64 Q.cc, .int .i64 3, .int .i64 Q.pg, .int .i64 15, .int .i64 Q.ad, .int .i64 16777215]) (.int .i64 4)).run Try.prog w = .ok (.agg #[.int .i64 Q.cc, .int .i64 3]) w := by kernel_rfl
theorem ix5 (Q : Psw) (w : World) : (Instr.index 49 (.agg #[.int .i64 Q.m, .int .i64 255, .int .i64 Q.k, .int .i64 15, .int .i64 Q.co, .int .i64 65535, .int .i64 Q.il, .int .i64 3, .int .i64 Q.cc, .int .i64 3, .int .i64 Q.pg, .int .i64 15, .int .i64 Q.ad, .int .i64 16777215]) (.int .i64 5)).run Try.prog w = .ok (.agg #[.int .i64 Q.pg, .int .i64 15]) w := by kernel_rfl
theorem ix6 (Q : Psw) (w : World) : (Instr.index 49 (.agg #[.int .i64 Q.m, .int .i64 255, .int .i64 Q.k, .int .i64 15, .int .i64 Q.co, .int .i64 65535, .int .i64 Q.il, .int .i64 3, .int .i64 Q.cc, .int .i64 3, .int .i64 Q.pg, .int .i64 15, .int .i64 Q.ad, .int .i64 16777215]) (.int .i64 6)).run Try.prog w = .ok (.agg #[.int .i64 Q.ad, .int .i64 16777215]) w := by kernel_rfl
/-- The fields with their greatest values. -/
def fldsP (Q : Psw) : List (Int × Int) := [(Q.m, 255), (Q.k, 15), (Q.co, 65535), (Q.il, 3), (Q.cc, 3), (Q.pg, 15), (Q.ad, 16777215)]
theorem okB_iff (Q : Psw) : okB Q = true ↔ ∀ x ∈ fldsP Q, inB x.1 x.2 = true := by
  unfold okB; rw [decide_eq_true_iff]; simp [okP, fldsP, inB]
theorem okB_false (Q : Psw) (v x : Int) (h : inB v x = false) (hm : (v, x) ∈ fldsP Q) : okB Q = false := by
  cases hq : okB Q with
  | false => rfl
  | true => rw [(okB_iff Q).1 hq _ hm] at h; cases h
/-- The fields before a place are in their ranges. -/
def Upto (Q : Psw) (j : Nat) : Prop := ∀ x ∈ (fldsP Q).take j, inB x.1 x.2 = true
theorem upto_next {Q : Psw} {j : Nat} {v x : Int} (h : Upto Q j) (hx : (fldsP Q)[j]? = some (v, x)) (hb : inB v x = true) : Upto Q (j + 1) := by
  intro y hy
  rw [List.take_add_one, hx] at hy
  rcases List.mem_append.1 hy with hy | hy
  · exact h y hy
  · simp at hy; subst hy; exact hb
theorem upto_all {Q : Psw} (h : Upto Q 7) : okB Q = true := (okB_iff Q).2 h
set_option maxRecDepth 100000 in
theorem valid_any (Q : Psw) (w : World) : Calls Try.prog 14 #[.agg #[.int .i64 Q.m, .int .i64 Q.k, .bool Q.ma, .bool Q.wa, .bool Q.pr, .int .i64 Q.co, .int .i64 Q.il, .int .i64 Q.cc, .int .i64 Q.pg, .int .i64 Q.ad]] w (New w (.bool (okB Q))) := by
  have HF := Lib.hid (fields_any Q)
  go_enter Try.func14, Try.ntmps14
  go_wp2_with fail
  refine (HF.out _).mono ?_
  rintro e w1 ⟨rfl, hb1⟩
  have H1 := Lib.hid (bel0 (below_new _ _) hb1)
  clear hb1 HF
  go_wp2
  go_loopw [7] (fun i wr => Below w.heap.size w wr ∧ ∃ j : Nat, j ≤ 7 ∧ i = .int .i64 j ∧ Upto Q j) (fun i _ => 7 - (intOf i).toNat)
  case atStart => exact ⟨H1.out, 0, by omega, rfl, fun x hx => by simp at hx⟩
  case round =>
    obtain ⟨hr, j, hj, rfl, hu⟩ := hrel
    have HR := Lib.hid hr
    have HU := Lib.hid hu
    clear hr hu H1
    by_cases hlt : j < 7
    · rcases (by omega : j = 0 ∨ j = 1 ∨ j = 2 ∨ j = 3 ∨ j = 4 ∨ j = 5 ∨ j = 6) with rfl | rfl | rfl | rfl | rfl | rfl | rfl
      all_goals clear hj hlt
      · cases hB : inB Q.m 255 with
        | false =>
          have HC := Lib.hid (inr_any Q.m 255)
          have hix := ix0 Q
          rw [hB] at HC
          go_wp2_with fail
          refine (HC.out _).mono ?_
          rintro e w2 ⟨rfl, hb2⟩
          have HX := Lib.hid hb2
          clear hb2 HC hix
          go_wp2
          go_ret
          exact ⟨by rw [okB_false Q _ _ hB (by simp [fldsP])]; rfl, bel0 (bel0 HR.out (below_new _ _)) HX.out⟩
        | true =>
          have HC := Lib.hid (inr_any Q.m 255)
          have hix := ix0 Q
          rw [hB] at HC
          go_wp2_with fail
          refine (HC.out _).mono ?_
          rintro e w2 ⟨rfl, hb2⟩
          have HX := Lib.hid hb2
          clear hb2 HC hix
          go_wp2
          go_roundw
          case rel => exact ⟨bel0 (bel0 HR.out (below_new _ _)) HX.out, 1, by omega, rfl, upto_next HU.out rfl hB⟩
          case measure => simp [intOf]
      · cases hB : inB Q.k 15 with
        | false =>
          have HC := Lib.hid (inr_any Q.k 15)
          have hix := ix1 Q
          rw [hB] at HC
          go_wp2_with fail
          refine (HC.out _).mono ?_
          rintro e w2 ⟨rfl, hb2⟩
          have HX := Lib.hid hb2
          clear hb2 HC hix
          go_wp2
          go_ret
          exact ⟨by rw [okB_false Q _ _ hB (by simp [fldsP])]; rfl, bel0 (bel0 HR.out (below_new _ _)) HX.out⟩
        | true =>
          have HC := Lib.hid (inr_any Q.k 15)
          have hix := ix1 Q
          rw [hB] at HC
          go_wp2_with fail
          refine (HC.out _).mono ?_
          rintro e w2 ⟨rfl, hb2⟩
          have HX := Lib.hid hb2
          clear hb2 HC hix
          go_wp2
          go_roundw
          case rel => exact ⟨bel0 (bel0 HR.out (below_new _ _)) HX.out, 2, by omega, rfl, upto_next HU.out rfl hB⟩
          case measure => simp [intOf]
      · cases hB : inB Q.co 65535 with
        | false =>
          have HC := Lib.hid (inr_any Q.co 65535)
          have hix := ix2 Q
          rw [hB] at HC
          go_wp2_with fail
          refine (HC.out _).mono ?_
          rintro e w2 ⟨rfl, hb2⟩
          have HX := Lib.hid hb2
          clear hb2 HC hix
          go_wp2
          go_ret
          exact ⟨by rw [okB_false Q _ _ hB (by simp [fldsP])]; rfl, bel0 (bel0 HR.out (below_new _ _)) HX.out⟩
        | true =>
          have HC := Lib.hid (inr_any Q.co 65535)
          have hix := ix2 Q
          rw [hB] at HC
          go_wp2_with fail
          refine (HC.out _).mono ?_
          rintro e w2 ⟨rfl, hb2⟩
          have HX := Lib.hid hb2
          clear hb2 HC hix
          go_wp2
          go_roundw
          case rel => exact ⟨bel0 (bel0 HR.out (below_new _ _)) HX.out, 3, by omega, rfl, upto_next HU.out rfl hB⟩
          case measure => simp [intOf]
      · cases hB : inB Q.il 3 with
        | false =>
          have HC := Lib.hid (inr_any Q.il 3)
          have hix := ix3 Q
          rw [hB] at HC
          go_wp2_with fail
          refine (HC.out _).mono ?_
          rintro e w2 ⟨rfl, hb2⟩
          have HX := Lib.hid hb2
          clear hb2 HC hix
          go_wp2
          go_ret
          exact ⟨by rw [okB_false Q _ _ hB (by simp [fldsP])]; rfl, bel0 (bel0 HR.out (below_new _ _)) HX.out⟩
        | true =>
          have HC := Lib.hid (inr_any Q.il 3)
          have hix := ix3 Q
          rw [hB] at HC
          go_wp2_with fail
          refine (HC.out _).mono ?_
          rintro e w2 ⟨rfl, hb2⟩
          have HX := Lib.hid hb2
          clear hb2 HC hix
          go_wp2
          go_roundw
          case rel => exact ⟨bel0 (bel0 HR.out (below_new _ _)) HX.out, 4, by omega, rfl, upto_next HU.out rfl hB⟩
          case measure => simp [intOf]
      · cases hB : inB Q.cc 3 with
        | false =>
          have HC := Lib.hid (inr_any Q.cc 3)
          have hix := ix4 Q
          rw [hB] at HC
          go_wp2_with fail
          refine (HC.out _).mono ?_
          rintro e w2 ⟨rfl, hb2⟩
          have HX := Lib.hid hb2
          clear hb2 HC hix
          go_wp2
          go_ret
          exact ⟨by rw [okB_false Q _ _ hB (by simp [fldsP])]; rfl, bel0 (bel0 HR.out (below_new _ _)) HX.out⟩
        | true =>
          have HC := Lib.hid (inr_any Q.cc 3)
          have hix := ix4 Q
          rw [hB] at HC
          go_wp2_with fail
          refine (HC.out _).mono ?_
          rintro e w2 ⟨rfl, hb2⟩
          have HX := Lib.hid hb2
          clear hb2 HC hix
          go_wp2
          go_roundw
          case rel => exact ⟨bel0 (bel0 HR.out (below_new _ _)) HX.out, 5, by omega, rfl, upto_next HU.out rfl hB⟩
          case measure => simp [intOf]
      · cases hB : inB Q.pg 15 with
        | false =>
          have HC := Lib.hid (inr_any Q.pg 15)
          have hix := ix5 Q
          rw [hB] at HC
          go_wp2_with fail
          refine (HC.out _).mono ?_
          rintro e w2 ⟨rfl, hb2⟩
          have HX := Lib.hid hb2
          clear hb2 HC hix
          go_wp2
          go_ret
          exact ⟨by rw [okB_false Q _ _ hB (by simp [fldsP])]; rfl, bel0 (bel0 HR.out (below_new _ _)) HX.out⟩
        | true =>
          have HC := Lib.hid (inr_any Q.pg 15)
          have hix := ix5 Q
          rw [hB] at HC
          go_wp2_with fail
          refine (HC.out _).mono ?_
          rintro e w2 ⟨rfl, hb2⟩
          have HX := Lib.hid hb2
          clear hb2 HC hix
          go_wp2
          go_roundw
          case rel => exact ⟨bel0 (bel0 HR.out (below_new _ _)) HX.out, 6, by omega, rfl, upto_next HU.out rfl hB⟩
          case measure => simp [intOf]
      · cases hB : inB Q.ad 16777215 with
        | false =>
          have HC := Lib.hid (inr_any Q.ad 16777215)
          have hix := ix6 Q
          rw [hB] at HC
          go_wp2_with fail
          refine (HC.out _).mono ?_
          rintro e w2 ⟨rfl, hb2⟩
          have HX := Lib.hid hb2
          clear hb2 HC hix
          go_wp2
          go_ret
          exact ⟨by rw [okB_false Q _ _ hB (by simp [fldsP])]; rfl, bel0 (bel0 HR.out (below_new _ _)) HX.out⟩
        | true =>
          have HC := Lib.hid (inr_any Q.ad 16777215)
          have hix := ix6 Q
          rw [hB] at HC
          go_wp2_with fail
          refine (HC.out _).mono ?_
          rintro e w2 ⟨rfl, hb2⟩
          have HX := Lib.hid hb2
          clear hb2 HC hix
          go_wp2
          go_roundw
          case rel => exact ⟨bel0 (bel0 HR.out (below_new _ _)) HX.out, 7, by omega, rfl, upto_next HU.out rfl hB⟩
          case measure => simp [intOf]
    · obtain rfl : j = 7 := by omega
      clear hj hlt
      go_wp2
      go_ret
      exact ⟨by rw [upto_all HU.out]; rfl, HR.out⟩

end E
end Go.Proofs.Ytfobmgoehamnnaa

/- What the moves of the chapter's laws come to, as lists. -/
import Derived.Test.YtfopjnfphlkcgaaGreatRows
import Derived.Deep.WholeRow
import Derived.Laws.Rows
import Derived.Laws.Tables
import Derived.Test.YtfopjnfphlkcgaaGreatGnRepl
namespace Go.Proofs.YtfopjnfphlkcgaaGreat
open Go.RowKit Go.Shelf E
set_option linter.unusedVariables false
namespace M

theorem rpL_apart (op a1 a2 : Nat) (U T : List UInt8) (h : a2 + T.length ≤ a1 ∨ a1 + T.length ≤ a2) : ∀ k, k ≤ T.length → ∀ j, gt (rpL op a1 a2 U k T) j = if j < k then rpB op (gt T j) (gt U j) else gt T j
  | 0, _, j => by rw [if_neg (Nat.not_lt_zero _)]; rfl
  | k + 1, hk, j => by
    have ih := rpL_apart op a1 a2 U T h k (by omega)
    have hl := rpL_len op a1 a2 U k T
    rw [rpL, gt_set _ _ _ _ (by omega)]
    have e1 : atB (rpL op a1 a2 U k T) (a1 : Int) ((a2 + k : Nat) : Int) (gt U k) = gt U k := if_neg (by
      rw [hl]
      intro hh
      omega)
    rw [e1, ih k, if_neg (Nat.lt_irrefl k), ih j]
    by_cases hj : k = j
    · subst hj
      rw [if_pos rfl, if_pos (Nat.lt_succ_self _)]
    · rw [if_neg hj]
      by_cases hlt : j < k
      · rw [if_pos hlt, if_pos (by omega)]
      · rw [if_neg hlt, if_neg (by omega)]
theorem rpL_spread (a2 : Nat) (U T : List UInt8) : ∀ k, k ≤ T.length → ∀ j, gt (rpL 210 (a2 + 1) a2 U k T) j = if j < k then gt U 0 else gt T j
  | 0, _, j => by rw [if_neg (Nat.not_lt_zero _)]; rfl
  | k + 1, hk, j => by
    have ih := rpL_spread a2 U T k (by omega)
    have hl := rpL_len 210 (a2 + 1) a2 U k T
    rw [rpL, gt_set _ _ _ _ (by omega)]
    have e1 : atB (rpL 210 (a2 + 1) a2 U k T) ((a2 + 1 : Nat) : Int) ((a2 + k : Nat) : Int) (gt U k) = gt U 0 := by
      unfold atB
      by_cases h0 : k = 0
      · subst h0
        rw [if_neg (by omega)]
      · rw [if_pos (by rw [hl]; omega), show (((a2 + k : Nat) : Int) - ((a2 + 1 : Nat) : Int)).toNat = k - 1 by omega, ih (k - 1), if_pos (by omega)]
    have e2 : ∀ x y : UInt8, rpB 210 x y = y := fun _ _ => rfl
    rw [e1, e2, ih j]
    by_cases hj : k = j
    · subst hj
      rw [if_pos rfl, if_pos (Nat.lt_succ_self _)]
    · rw [if_neg hj]
      by_cases hlt : j < k
      · rw [if_pos hlt, if_pos (by omega)]
      · rw [if_neg hlt, if_neg (by omega)]
theorem rpL_self (a1 : Nat) (U T : List UInt8) : ∀ k, k ≤ T.length → ∀ j, gt (rpL 215 a1 a1 U k T) j = if j < k then 0 else gt T j
  | 0, _, j => by rw [if_neg (Nat.not_lt_zero _)]; rfl
  | k + 1, hk, j => by
    have ih := rpL_self a1 U T k (by omega)
    have hl := rpL_len 215 a1 a1 U k T
    rw [rpL, gt_set _ _ _ _ (by omega)]
    have e1 : atB (rpL 215 a1 a1 U k T) (a1 : Int) ((a1 + k : Nat) : Int) (gt U k) = gt T k := by
      unfold atB
      rw [if_pos (by rw [hl]; omega), show (((a1 + k : Nat) : Int) - (a1 : Int)).toNat = k by omega, ih k, if_neg (Nat.lt_irrefl k)]
    have e2 : ∀ x : UInt8, rpB 215 x x = 0 := fun x => UInt8.xor_self
    rw [e1, ih k, if_neg (Nat.lt_irrefl k), e2, ih j]
    by_cases hj : k = j
    · subst hj
      rw [if_pos rfl, if_pos (Nat.lt_succ_self _)]
    · rw [if_neg hj]
      by_cases hlt : j < k
      · rw [if_pos hlt, if_pos (by omega)]
      · rw [if_neg hlt, if_neg (by omega)]
/-- With the key 0 every access within the storage is allowed. -/
theorem stP_zero (l : UInt8) : stP 0 l = true := rfl
theorem ftP_zero (l : UInt8) : ftP 0 l = true := rfl
theorem code_zero {P : UInt8 → Bool} {n : Nat} {ks : List UInt8} {a k : Nat} (hP : ∀ l, P l = true) (h : a + k ≤ n) : codeV P n ks (a : Int) (k : Int) = 0 := by
  unfold codeV
  rw [if_pos (inB_iff.2 ⟨by omega, by omega, by omega⟩), if_pos]
  unfold allB
  rw [List.all_eq_true]
  exact fun i _ => hP _

end M
end Go.Proofs.YtfopjnfphlkcgaaGreat
namespace Go.Proofs.YtfopjnfphlkcgaaGreat
open Go.RowKit Go.Shelf E
set_option linter.unusedVariables false
namespace M

theorem results_c9 {P : Program} {fn : Func} {p : Tmp} {t : TypeId} {w : World} {a : Addr} {v : Value} {tmps : Array Value} (h : fn.results = #[.cell p t]) (hp : tmps.getD p undef = .pointer (some a)) (la : (loadVar t a).run P w = .ok v w) : (results fn tmps).run P w = .ok v w := by
  have hp' : tmps[p]?.getD undef = .pointer (some a) := by simpa using hp
  simp [results, h, hp', asAddr, la]
def ssQ (op n : Nat) : Qn := ⟨op, 5, 0, 0, 0, 14, 0, 15, 0, n - 1, 0, 0⟩
set_option maxRecDepth 100000 in
set_option maxHeartbeats 1000000 in
theorem ss_any (op n : Nat) (w : World) (hn : 1 ≤ n) (hn2 : n ≤ 256) : Calls Tryz.prog 27 #[.int .i64 (op : Int), .int .i64 (n : Int)] w (New w (.agg #[.int .i64 (op : Int), .int .i64 5, .int .i64 0, .int .i64 0, .int .i64 0, .int .i64 14, .int .i64 0, .int .i64 15, .int .i64 0, .int .i64 ((n : Int) - 1), .int .i64 0, .int .i64 0])) := by
  go_enter Tryz.func27, Tryz.ntmps27
  go_wp2
  refine bodyPost_ret (results_c9 rfl rfl (run_loadVar_row (P := Tryz.prog) _ w.heap.size _ 25 _ _ _ (Bx.new w 25 _) Tryz.underlying25 rfl (by kernel_rfl))) rfl ?_
  exact ⟨rfl, below_new _ _⟩

end M
end Go.Proofs.YtfopjnfphlkcgaaGreat

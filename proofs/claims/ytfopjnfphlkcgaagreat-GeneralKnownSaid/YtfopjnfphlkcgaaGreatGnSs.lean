/- What the moves of the chapter's laws come to, as lists. -/
import Derived.Test.YtfopjnfphlkcgaaGreatRows
import Derived.Deep.WholeRow
import Derived.Laws.Rows
import Derived.Laws.Tables
import Derived.Test.YtfopjnfphlkcgaaGreatGnMem
namespace Go.Proofs.YtfopjnfphlkcgaaGreat
namespace E
end E
open Go.RowKit Go.Shelf E
set_option linter.unusedVariables false
namespace M

/-- With the key 0 every access within the storage is allowed. -/
theorem stP_zero (l : UInt8) : stP 0 l = true := rfl
theorem code_zero {P : UInt8 → Bool} {n : Nat} {ks : List UInt8} {a k : Nat} (hP : ∀ l, P l = true) (h : a + k ≤ n) : codeV P n ks (a : Int) (k : Int) = 0 := by
  unfold codeV
  rw [if_pos (inB_iff.2 ⟨by omega, by omega, by omega⟩), if_pos]
  unfold allB
  rw [List.all_eq_true]
  exact fun i _ => hP _

end M
end Go.Proofs.YtfopjnfphlkcgaaGreat
namespace Go.Proofs.YtfopjnfphlkcgaaGreat
namespace E
end E
open Go.RowKit Go.Shelf E
set_option linter.unusedVariables false
namespace M

theorem results_c9 {P : Program} {fn : Func} {p : Tmp} {t : TypeId} {w : World} {a : Addr} {v : Value} {tmps : Array Value} (h : fn.results = #[.cell p t]) (hp : tmps.getD p undef = .pointer (some a)) (la : (loadVar t a).run P w = .ok v w) : (results fn tmps).run P w = .ok v w := by
  have hp' : tmps[p]?.getD undef = .pointer (some a) := by simpa using hp
  simp [results, h, hp', asAddr, la]
set_option maxRecDepth 100000 in
set_option maxHeartbeats 1000000 in
theorem ss_any (op n : Nat) (w : World) (hn : 1 ≤ n) (hn2 : n ≤ 256) : Calls Tryz.prog 27 #[.int .i64 (op : Int), .int .i64 (n : Int)] w (New w (.agg #[.int .i64 (op : Int), .int .i64 5, .int .i64 0, .int .i64 0, .int .i64 0, .int .i64 14, .int .i64 0, .int .i64 15, .int .i64 0, .int .i64 ((n : Int) - 1), .int .i64 0, .int .i64 0])) := by
  go_enter Tryz.func27, Tryz.ntmps27
  go_wp2
  refine bodyPost_ret (results_c9 rfl rfl (run_loadVar_row (P := Tryz.prog) _ w.heap.size _ 25 _ _ _ (Bx.new w 25 _) Tryz.underlying25 rfl (by kernel_rfl))) rfl ?_
  exact ⟨rfl, below_new _ _⟩

end M
end Go.Proofs.YtfopjnfphlkcgaaGreat

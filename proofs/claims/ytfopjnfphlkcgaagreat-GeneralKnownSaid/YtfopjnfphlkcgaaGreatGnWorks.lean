/- The example of the chapter that each statement checks. -/
import Derived.Test.YtfopjnfphlkcgaaGreatRows
import Derived.Test.YtfopjnfphlkcgaaGreatGnRuns
namespace Go.Proofs.YtfopjnfphlkcgaaGreat
namespace E
end E
open Go.RowKit Go.Shelf E
set_option linter.unusedVariables false
namespace M

theorem eql_regs (w : World) : (binOp .eql 28 (.agg #[.int .u32 0, .int .u32 2147483648, .int .u32 1, .int .u32 0, .int .u32 0, .int .u32 0, .int .u32 0, .int .u32 0, .int .u32 0, .int .u32 0, .int .u32 0, .int .u32 0, .int .u32 0, .int .u32 0, .int .u32 0, .int .u32 0]) (.agg #[.int .u32 0, .int .u32 2147483648, .int .u32 1, .int .u32 0, .int .u32 0, .int .u32 0, .int .u32 0, .int .u32 0, .int .u32 0, .int .u32 0, .int .u32 0, .int .u32 0, .int .u32 0, .int .u32 0, .int .u32 0, .int .u32 0])).run Tryz.prog w = .ok (.bool true) w := by kernel_rfl
theorem eql_psw (w : World) : (binOp .eql 30 (.agg #[.int .i64 0, .int .i64 0, .bool false, .bool false, .bool false, .int .i64 0, .int .i64 0, .int .i64 3, .int .i64 8, .int .i64 0]) (.agg #[.int .i64 0, .int .i64 0, .bool false, .bool false, .bool false, .int .i64 0, .int .i64 0, .int .i64 3, .int .i64 8, .int .i64 0])).run Tryz.prog w = .ok (.bool true) w := by kernel_rfl
attribute [local go_sem 5000] eql_regs eql_psw
set_option maxRecDepth 100000 in
set_option maxHeartbeats 2000000 in
theorem works_any (w : World) : Calls Tryz.prog 15 #[] w (New w (.bool true)) := by
  have HN := Lib.hid (new_any 2048 w (by decide))
  go_enter Tryz.func15, Tryz.ntmps15
  go_wp2_with fail
  refine HN.out.mono ?_
  rintro e w1 ⟨a, g, h, rfl, hst, ha, hg, hh, hb⟩
  have HE := Lib.hid (work_exec hst)
  have HB := Lib.hid hb
  have HG := Lib.hid hg
  clear hst ha hg hh hb HN
  go_wp2_with fail
  refine HE.out.mono ?_
  rintro e w2 ⟨rfl, hs2, hk2⟩
  have HB2 := Lib.hid (Kp.below HB.out hk2 (by simpa using HG.out))
  clear hs2 hk2 HE HB HG
  go_wp2
  go_ret
  exact ⟨rfl, bel0 (bel0 HB2.out (below_new _ _)) (below_new _ _)⟩

end M
end Go.Proofs.YtfopjnfphlkcgaaGreat

/- The walk of the statement DecopsNone. -/
import Derived.Test.YtbcncohjjnmdcaaGreatDoorRows
import Derived.ArgAppend
import Derived.ChangeMaps5
import Derived.Deep.CutBlock
import Derived.Deep.DeepCutAuto
import Derived.Deep.MidRow
import Derived.Deep.Slices
import Derived.Deep.WholeRow
import Derived.LaidMore
import Derived.Laws.Bits64b
import Derived.Laws.Externs
import Derived.Laws.Rows
import Derived.Laws.Tables
import Derived.Lay
import Derived.Lib.BitFns
import Derived.Lib.ItoaNum
import Derived.Lib.Mul64
import Derived.Lib.Slices
import Derived.Lib.Small
import Derived.Lib.SmallJoins
import Derived.Lib.Walk
import Derived.OpenShut
import Derived.Recover
import Derived.SevenTiedAt
import Derived.StillTailTactics
import Derived.Stop.Joined
import Derived.WalkLawsBesides
import Derived.WalkSpells
import Derived.Test.YtbcncohjjnmdcaaGreatDoorIsIns
import Derived.Test.YtbcncohjjnmdcaaGreatDoorPkC
import Derived.Test.YtbcncohjjnmdcaaGreatDoorPsA
namespace Go.Proofs.YtbcncohjjnmdcaaGreatDoor
namespace E
end E
open Go.RowKit Go.Shelf E
set_option linter.unusedVariables false
namespace M

theorem wpList_valW {P : Program} {ops : Array Oper} {Q : Exit → Act → World → Prop} {a : Act} {w w' : World} {rest : List Oper} {o : Oper} {v : Value} (hw : Region.wanted o (yielded ops a.tmps) = true) (hx : (execOp a.eval o).run P w = .ok (.value v) w') (h : wpList P ops Q rest (a.put o.dst v) w') : wpList P ops Q (o :: rest) a w := by
  simp only [wpList, hw]
  exact .inl (by unfold Oper.wp; rw [hx]; exact h)
theorem load_part {w : World} {B : Nat} {t ty : TypeId} {all : Array Value} (h : Bx w B t all) (o : Nat) (cs : Array Value) {d : TypeDesc} (hu : Tryz.prog.underlying ty = some d) (hd : d.isRow = true) (hi : (Tryz.prog.info? ty).map (·.size) = some cs.size) (hc : ∀ j, j < cs.size → all[o + j]? = cs[j]?) : (loadVar ty ⟨B, o, none⟩).run Tryz.prog w = .ok (.agg cs) w := by
  have hr : w.rangeAt B o cs.toList := fun j v hv => by
    have hj : j < cs.size := by
      rw [Array.getElem?_toList] at hv
      exact (Array.getElem?_eq_some_iff.1 hv).1
    rw [Bx.cell h, hc j hj, ← Array.getElem?_toList]
    exact hv
  have := run_loadVar_mid (P := Tryz.prog) w B o ty cs.toList d hr hu hd (by rw [hi]; simp)
  simpa using this
set_option maxRecDepth 100000 in
theorem equal_regs (R : Nat → Int) (w : World) : (Op.equalIn 10000 28 (.agg #[.int .u32 (R 0), .int .u32 (R 1), .int .u32 (R 2), .int .u32 (R 3), .int .u32 (R 4), .int .u32 (R 5), .int .u32 (R 6), .int .u32 (R 7), .int .u32 (R 8), .int .u32 (R 9), .int .u32 (R 10), .int .u32 (R 11), .int .u32 (R 12), .int .u32 (R 13), .int .u32 (R 14), .int .u32 (R 15)]) (.agg #[.int .u32 (R 0), .int .u32 (R 1), .int .u32 (R 2), .int .u32 (R 3), .int .u32 (R 4), .int .u32 (R 5), .int .u32 (R 6), .int .u32 (R 7), .int .u32 (R 8), .int .u32 (R 9), .int .u32 (R 10), .int .u32 (R 11), .int .u32 (R 12), .int .u32 (R 13), .int .u32 (R 14), .int .u32 (R 15)])).run Tryz.prog w = .ok true w := by
  have u3 := Tryz.underlying26
  have a3 := Tryz.isAgg26
  have z3 := Tryz.sizeOf26
  rw [show (10000 : Nat) = 9999 + 1 from rfl, Op.equalIn]
  simp only [Sem.run_bind, run_underlying Tryz.underlying28, Result.andThen_ok]
  simp only [Std.Legacy.Range.forIn_eq_forIn_range', Std.Legacy.Range.size, Nat.sub_zero, Nat.add_sub_cancel, Nat.div_one, List.range'_succ, List.range'_zero, List.forIn_cons, List.forIn_nil]
  go_simp
theorem regs_self (R : Nat → Int) (w : World) : (binOp .eql 28 (.agg #[.int .u32 (R 0), .int .u32 (R 1), .int .u32 (R 2), .int .u32 (R 3), .int .u32 (R 4), .int .u32 (R 5), .int .u32 (R 6), .int .u32 (R 7), .int .u32 (R 8), .int .u32 (R 9), .int .u32 (R 10), .int .u32 (R 11), .int .u32 (R 12), .int .u32 (R 13), .int .u32 (R 14), .int .u32 (R 15)]) (.agg #[.int .u32 (R 0), .int .u32 (R 1), .int .u32 (R 2), .int .u32 (R 3), .int .u32 (R 4), .int .u32 (R 5), .int .u32 (R 6), .int .u32 (R 7), .int .u32 (R 8), .int .u32 (R 9), .int .u32 (R 10), .int .u32 (R 11), .int .u32 (R 12), .int .u32 (R 13), .int .u32 (R 14), .int .u32 (R 15)])).run Tryz.prog w = .ok (.bool true) w := by
  have h := equal_regs R w
  rw [run_eql_struct, h]
  rfl
set_option maxRecDepth 100000 in
theorem psw_self (p : Psw) (w : World) : (binOp .eql 30 (.agg #[.int .i64 p.m, .int .i64 p.k, .bool p.ma, .bool p.wa, .bool p.pr, .int .i64 p.co, .int .i64 p.il, .int .i64 p.cc, .int .i64 p.pg, .int .i64 p.ad]) (.agg #[.int .i64 p.m, .int .i64 p.k, .bool p.ma, .bool p.wa, .bool p.pr, .int .i64 p.co, .int .i64 p.il, .int .i64 p.cc, .int .i64 p.pg, .int .i64 p.ad])).run Tryz.prog w = .ok (.bool true) w := by
  go_simp
attribute [local go_sem 5000] regs_self psw_self
end M
end Go.Proofs.YtbcncohjjnmdcaaGreatDoor

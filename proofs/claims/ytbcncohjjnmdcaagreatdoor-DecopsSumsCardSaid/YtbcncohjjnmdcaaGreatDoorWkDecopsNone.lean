/- The walk of the statement DecopsNone. -/
import Derived.Test.YtbcncohjjnmdcaaGreatDoorRows
import Derived.Deep.MidRow
import Derived.Test.YtbcncohjjnmdcaaGreatDoorDpWorks
import Derived.Test.YtbcncohjjnmdcaaGreatDoorGnOpen
namespace Go.Proofs.YtbcncohjjnmdcaaGreatDoor
namespace E
end E
open Go.RowKit Go.Shelf E
set_option linter.unusedVariables false
namespace M

theorem wpList_valW {P : Program} {ops : Array Oper} {Q : Exit → Act → World → Prop} {a : Act} {w w' : World} {rest : List Oper} {o : Oper} {v : Value} (hw : Region.wanted o (yielded ops a.tmps) = true) (hx : (execOp a.eval o).run P w = .ok (.value v) w') (h : wpList P ops Q rest (a.put o.dst v) w') : wpList P ops Q (o :: rest) a w := by
  simp only [wpList, hw]
  exact .inl (by unfold Oper.wp; rw [hx]; exact h)
theorem load_part {w : World} {B : Nat} {t ty : TypeId} {all : Array Value} (h : Bx w B t all) (o : Nat) (cs : Array Value) {d : TypeDesc} (hu : Tryz.prog.underlying ty = some d) (hd : d.isRow = true) (hi : (Tryz.prog.info? ty).map (·.size) = some cs.size) (hc : ∀ j, j < cs.size → all[o + j]? = cs[j]?) : (loadVar ty ⟨B, o, none⟩).run Tryz.prog w = .ok (.agg cs) w := by
  have hr : w.rangeAt B o cs.toList := fun j v hv => by
    have hj : j < cs.size := by
      rw [Array.getElem?_toList] at hv
      exact (Array.getElem?_eq_some_iff.1 hv).1
    rw [Bx.cell h, hc j hj, ← Array.getElem?_toList]
    exact hv
  have := run_loadVar_mid (P := Tryz.prog) w B o ty cs.toList d hr hu hd (by rw [hi]; simp)
  simpa using this
set_option maxRecDepth 100000 in
theorem equal_regs (R : Nat → Int) (w : World) : (Op.equalIn 10000 28 (.agg #[.int .u32 (R 0), .int .u32 (R 1), .int .u32 (R 2), .int .u32 (R 3), .int .u32 (R 4), .int .u32 (R 5), .int .u32 (R 6), .int .u32 (R 7), .int .u32 (R 8), .int .u32 (R 9), .int .u32 (R 10), .int .u32 (R 11), .int .u32 (R 12), .int .u32 (R 13), .int .u32 (R 14), .int .u32 (R 15)]) (.agg #[.int .u32 (R 0), .int .u32 (R 1), .int .u32 (R 2), .int .u32 (R 3), .int .u32 (R 4), .int .u32 (R 5), .int .u32 (R 6), .int .u32 (R 7), .int .u32 (R 8), .int .u32 (R 9), .int .u32 (R 10), .int .u32 (R 11), .int .u32 (R 12), .int .u32 (R 13), .int .u32 (R 14), .int .u32 (R 15)])).run Tryz.prog w = .ok true w := by
  have u3 := Tryz.underlying26
  have a3 := Tryz.isAgg26
  have z3 := Tryz.sizeOf26
  rw [show (10000 : Nat) = 9999 + 1 from rfl, Op.equalIn]
  simp only [Sem.run_bind, run_underlying Tryz.underlying28, Result.andThen_ok]
  simp only [Std.Legacy.Range.forIn_eq_forIn_range', Std.Legacy.Range.size, Nat.sub_zero, Nat.add_sub_cancel, Nat.div_one, List.range'_succ, List.range'_zero, List.forIn_cons, List.forIn_nil]
  go_simp
theorem regs_self (R : Nat → Int) (w : World) : (binOp .eql 28 (.agg #[.int .u32 (R 0), .int .u32 (R 1), .int .u32 (R 2), .int .u32 (R 3), .int .u32 (R 4), .int .u32 (R 5), .int .u32 (R 6), .int .u32 (R 7), .int .u32 (R 8), .int .u32 (R 9), .int .u32 (R 10), .int .u32 (R 11), .int .u32 (R 12), .int .u32 (R 13), .int .u32 (R 14), .int .u32 (R 15)]) (.agg #[.int .u32 (R 0), .int .u32 (R 1), .int .u32 (R 2), .int .u32 (R 3), .int .u32 (R 4), .int .u32 (R 5), .int .u32 (R 6), .int .u32 (R 7), .int .u32 (R 8), .int .u32 (R 9), .int .u32 (R 10), .int .u32 (R 11), .int .u32 (R 12), .int .u32 (R 13), .int .u32 (R 14), .int .u32 (R 15)])).run Tryz.prog w = .ok (.bool true) w := by
  have h := equal_regs R w
  rw [run_eql_struct, h]
  rfl
set_option maxRecDepth 100000 in
theorem psw_self (p : Psw) (w : World) : (binOp .eql 30 (.agg #[.int .i64 p.m, .int .i64 p.k, .bool p.ma, .bool p.wa, .bool p.pr, .int .i64 p.co, .int .i64 p.il, .int .i64 p.cc, .int .i64 p.pg, .int .i64 p.ad]) (.agg #[.int .i64 p.m, .int .i64 p.k, .bool p.ma, .bool p.wa, .bool p.pr, .int .i64 p.co, .int .i64 p.il, .int .i64 p.cc, .int .i64 p.pg, .int .i64 p.ad])).run Tryz.prog w = .ok (.bool true) w := by
  go_simp
attribute [local go_sem 5000] regs_self psw_self
set_option maxRecDepth 100000 in
set_option maxHeartbeats 2000000 in
theorem wk_none (Q : Ins) (R : Nat → Int) (p : Psw) (x y z : Value) (w : World) (hg : RegOk R ∧ MemAt w x y z) (hsg : Sg w) : Calls Tryz.prog 6 #[Q.val, .agg ((regA R).toList ++ (pswA p).toList ++ [x, y, z]).toArray] w (New w (.bool true)) := by
  have HE := Lib.hid (fun W => exec_nil Q R p W)
  have HSG := Lib.hid hsg
  clear hsg
  have HST : Hid (∀ X, Below ((w.alloc (.cells #[.int .i64 Q.op, .int .i64 Q.fo, .int .i64 Q.r1, .int .i64 Q.r2, .int .i64 Q.x2, .int .i64 Q.b1, .int .i64 Q.d1, .int .i64 Q.b2, .int .i64 Q.d2, .int .i64 Q.l1, .int .i64 Q.l2, .int .i64 Q.i2] 25)).alloc (.cells #[.int .u32 (R 0), .int .u32 (R 1), .int .u32 (R 2), .int .u32 (R 3), .int .u32 (R 4), .int .u32 (R 5), .int .u32 (R 6), .int .u32 (R 7), .int .u32 (R 8), .int .u32 (R 9), .int .u32 (R 10), .int .u32 (R 11), .int .u32 (R 12), .int .u32 (R 13), .int .u32 (R 14), .int .u32 (R 15), .int .i64 p.m, .int .i64 p.k, .bool p.ma, .bool p.wa, .bool p.pr, .int .i64 p.co, .int .i64 p.il, .int .i64 p.cc, .int .i64 p.pg, .int .i64 p.ad, x, y, z] 36)).heap.size ((w.alloc (.cells #[.int .i64 Q.op, .int .i64 Q.fo, .int .i64 Q.r1, .int .i64 Q.r2, .int .i64 Q.x2, .int .i64 Q.b1, .int .i64 Q.d1, .int .i64 Q.b2, .int .i64 Q.d2, .int .i64 Q.l1, .int .i64 Q.l2, .int .i64 Q.i2] 25)).alloc (.cells #[.int .u32 (R 0), .int .u32 (R 1), .int .u32 (R 2), .int .u32 (R 3), .int .u32 (R 4), .int .u32 (R 5), .int .u32 (R 6), .int .u32 (R 7), .int .u32 (R 8), .int .u32 (R 9), .int .u32 (R 10), .int .u32 (R 11), .int .u32 (R 12), .int .u32 (R 13), .int .u32 (R 14), .int .u32 (R 15), .int .i64 p.m, .int .i64 p.k, .bool p.ma, .bool p.wa, .bool p.pr, .int .i64 p.co, .int .i64 p.il, .int .i64 p.cc, .int .i64 p.pg, .int .i64 p.ad, x, y, z] 36)) X → (loadVar 28 ⟨w.heap.size + 1, 0, none⟩).run Tryz.prog X = .ok (.agg #[.int .u32 (R 0), .int .u32 (R 1), .int .u32 (R 2), .int .u32 (R 3), .int .u32 (R 4), .int .u32 (R 5), .int .u32 (R 6), .int .u32 (R 7), .int .u32 (R 8), .int .u32 (R 9), .int .u32 (R 10), .int .u32 (R 11), .int .u32 (R 12), .int .u32 (R 13), .int .u32 (R 14), .int .u32 (R 15)]) X ∧ (loadVar 30 ⟨w.heap.size + 1, 16, none⟩).run Tryz.prog X = .ok (.agg #[.int .i64 p.m, .int .i64 p.k, .bool p.ma, .bool p.wa, .bool p.pr, .int .i64 p.co, .int .i64 p.il, .int .i64 p.cc, .int .i64 p.pg, .int .i64 p.ad]) X) := Lib.hid (fun X hX => by
    have h1 : Bx ((w.alloc (.cells #[.int .i64 Q.op, .int .i64 Q.fo, .int .i64 Q.r1, .int .i64 Q.r2, .int .i64 Q.x2, .int .i64 Q.b1, .int .i64 Q.d1, .int .i64 Q.b2, .int .i64 Q.d2, .int .i64 Q.l1, .int .i64 Q.l2, .int .i64 Q.i2] 25)).alloc (.cells #[.int .u32 (R 0), .int .u32 (R 1), .int .u32 (R 2), .int .u32 (R 3), .int .u32 (R 4), .int .u32 (R 5), .int .u32 (R 6), .int .u32 (R 7), .int .u32 (R 8), .int .u32 (R 9), .int .u32 (R 10), .int .u32 (R 11), .int .u32 (R 12), .int .u32 (R 13), .int .u32 (R 14), .int .u32 (R 15), .int .i64 p.m, .int .i64 p.k, .bool p.ma, .bool p.wa, .bool p.pr, .int .i64 p.co, .int .i64 p.il, .int .i64 p.cc, .int .i64 p.pg, .int .i64 p.ad, x, y, z] 36)) (w.heap.size + 1) 36 #[.int .u32 (R 0), .int .u32 (R 1), .int .u32 (R 2), .int .u32 (R 3), .int .u32 (R 4), .int .u32 (R 5), .int .u32 (R 6), .int .u32 (R 7), .int .u32 (R 8), .int .u32 (R 9), .int .u32 (R 10), .int .u32 (R 11), .int .u32 (R 12), .int .u32 (R 13), .int .u32 (R 14), .int .u32 (R 15), .int .i64 p.m, .int .i64 p.k, .bool p.ma, .bool p.wa, .bool p.pr, .int .i64 p.co, .int .i64 p.il, .int .i64 p.cc, .int .i64 p.pg, .int .i64 p.ad, x, y, z] := by
      have h2 := Bx.new (w.alloc (.cells #[.int .i64 Q.op, .int .i64 Q.fo, .int .i64 Q.r1, .int .i64 Q.r2, .int .i64 Q.x2, .int .i64 Q.b1, .int .i64 Q.d1, .int .i64 Q.b2, .int .i64 Q.d2, .int .i64 Q.l1, .int .i64 Q.l2, .int .i64 Q.i2] 25)) 36 #[.int .u32 (R 0), .int .u32 (R 1), .int .u32 (R 2), .int .u32 (R 3), .int .u32 (R 4), .int .u32 (R 5), .int .u32 (R 6), .int .u32 (R 7), .int .u32 (R 8), .int .u32 (R 9), .int .u32 (R 10), .int .u32 (R 11), .int .u32 (R 12), .int .u32 (R 13), .int .u32 (R 14), .int .u32 (R 15), .int .i64 p.m, .int .i64 p.k, .bool p.ma, .bool p.wa, .bool p.pr, .int .i64 p.co, .int .i64 p.il, .int .i64 p.cc, .int .i64 p.pg, .int .i64 p.ad, x, y, z]
      simpa using h2
    have h3 := h1.below hX
    exact ⟨load_part h3 0 #[.int .u32 (R 0), .int .u32 (R 1), .int .u32 (R 2), .int .u32 (R 3), .int .u32 (R 4), .int .u32 (R 5), .int .u32 (R 6), .int .u32 (R 7), .int .u32 (R 8), .int .u32 (R 9), .int .u32 (R 10), .int .u32 (R 11), .int .u32 (R 12), .int .u32 (R 13), .int .u32 (R 14), .int .u32 (R 15)] Tryz.underlying28 rfl (by kernel_rfl) (fun j hj => by
      have h16 : j < 16 := hj
      rcases lt16 h16 with rfl | rfl | rfl | rfl | rfl | rfl | rfl | rfl | rfl | rfl | rfl | rfl | rfl | rfl | rfl | rfl <;> rfl), load_part h3 16 #[.int .i64 p.m, .int .i64 p.k, .bool p.ma, .bool p.wa, .bool p.pr, .int .i64 p.co, .int .i64 p.il, .int .i64 p.cc, .int .i64 p.pg, .int .i64 p.ad] Tryz.underlying30 rfl (by kernel_rfl) (fun j hj => by
      have h10 : j < 10 := hj
      rcases (by omega : j = 0 ∨ j = 1 ∨ j = 2 ∨ j = 3 ∨ j = 4 ∨ j = 5 ∨ j = 6 ∨ j = 7 ∨ j = 8 ∨ j = 9) with rfl | rfl | rfl | rfl | rfl | rfl | rfl | rfl | rfl | rfl <;> rfl)⟩)
  clear hg
  unfold Ins.val at HE ⊢
  unfold regA pswA at HE ⊢
  unfold refA regA pswA at HE
  simp only [List.cons_append, List.nil_append] at HE ⊢
  go_enter Tryz.func6, Tryz.ntmps6
  go_wp2_with fail
  refine (HE.out _).mono ?_
  rintro e w1 ⟨rfl, hb⟩
  have HL := Lib.hid (fun X (hX : Below w1.heap.size w1 X) => HST.out X (bel0 hb hX))
  have HB := Lib.hid (bel0 (bel0 (below_new _ _) (below_new _ _)) hb)
  clear hb HE HST
  go_wp2_with (first | (refine wpList_valW (by rfl) (exec_load 28 _ rfl ⟨w.heap.size + 1, 0, none⟩ rfl (HL.out _ (bel0 (below_new _ _) (below_new _ _))).1) ?_) | (refine wpList_valW (by rfl) (exec_load 30 _ rfl ⟨w.heap.size + 1, 16, none⟩ rfl (HL.out _ (bel0 (below_new _ _) (below_new _ _))).2) ?_))
  refine (works_any _ (HSG.out.below (bel0 (bel0 HB.out (below_new _ _)) (below_new _ _)))).mono ?_
  rintro e w2 ⟨rfl, hb⟩
  have HB2 := Lib.hid (bel0 (bel0 (bel0 HB.out (below_new _ _)) (below_new _ _)) hb)
  clear hb HSG HB HL
  go_wp2
  go_ret
  exact ⟨rfl, HB2.out⟩

end M
end Go.Proofs.YtbcncohjjnmdcaaGreatDoor

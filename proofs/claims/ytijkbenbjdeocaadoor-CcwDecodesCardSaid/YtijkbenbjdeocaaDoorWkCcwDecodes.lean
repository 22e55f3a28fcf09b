/- Chapter 12: bytes are decoded as the given answers do. -/
import Derived.Test.YtijkbenbjdeocaaDoorCcRDc
namespace Go.Proofs.YtijkbenbjdeocaaDoor
open Go.RowKit E
set_option linter.unusedVariables false
namespace ccwDecodes

/-- What the walk keeps. -/
structure Wk (w : World) (sv : Value) (l : List UInt8) (W : World) : Prop where
  bel : Below w.heap.size w W
  sv' : SvB W sv l
  fb : Fb W
theorem Wk.next {w W W' : World} {sv : Value} {l : List UInt8} (h : Wk w sv l W) (hb : Below W.heap.size W W') : Wk w sv l W' := ⟨bel0 h.bel hb, h.sv'.below hb, h.fb.below hb⟩
set_option maxRecDepth 100000 in
set_option maxHeartbeats 2000000 in
theorem walk (sv : Value) (l : List UInt8) (w : World) (h : SvB w sv l) (hf : Fb w) : Calls Tryd.prog 5 #[sv] w (New w (.bool true)) := by
  have K0 : Hid (Wk w sv l w) := Lib.hid ⟨Below.refl _ _, h, hf⟩
  have H1 := Lib.hid (fun W (h : SvB W sv l) (hf : Fb W) => decode_any h hf)
  have H2 := Lib.hid (fun W (h : SvB W sv l) => rdecode_any h)
  have H3 := Lib.hid (fun W (h : SvB W sv l) => decodeCsw_any h)
  have H4 := Lib.hid (fun W (h : SvB W sv l) => rdecodeCsw_any h)
  have H5 := Lib.hid (fun W (h : SvB W sv l) => caw_any h)
  have H6 := Lib.hid (fun W (h : SvB W sv l) => rcaw_any h)
  obtain ⟨p, c, rfl, -⟩ := h
  clear hf
  unfold Cw.v Cs.v at *
  generalize (decR l).2 = ok1 at *
  generalize (decR l).1 = Q at *
  generalize (decS l).2 = ok2 at *
  generalize (decS l).1 = S at *
  generalize (cawR l).2 = ok3 at *
  generalize (cawR l).1.1 = k at *
  generalize (cawR l).1.2 = a at *
  go_enter Tryd.func5, Tryd.ntmps5
  go_wp2_with fail
  refine (H1.out _ K0.out.sv' K0.out.fb).mono ?_
  rintro e V1 ⟨rfl, hb⟩
  have K1 := Lib.hid ((K0.out.next hb).next (below_new _ (.cells #[.int .i64 Q.o, .int .i64 Q.a, .bool Q.cd, .bool Q.cc, .bool Q.sl, .bool Q.sk, .bool Q.pc, .int .i64 Q.n] 26)))
  have X1 := Lib.hid (Bx.new V1 26 #[.int .i64 Q.o, .int .i64 Q.a, .bool Q.cd, .bool Q.cc, .bool Q.sl, .bool Q.sk, .bool Q.pc, .int .i64 Q.n])
  clear hb K0 H1
  go_wp2_with fail
  generalize V1.alloc (.cells #[.int .i64 Q.o, .int .i64 Q.a, .bool Q.cd, .bool Q.cc, .bool Q.sl, .bool Q.sk, .bool Q.pc, .int .i64 Q.n] 26) = W1 at K1 X1 ⊢
  generalize V1.heap.size = G1 at X1 ⊢
  refine (H2.out _ K1.out.sv').mono ?_
  rintro e V2 ⟨rfl, hb⟩
  have hbb := bel0 hb (below_new _ (.cells #[.int .i64 Q.o, .int .i64 Q.a, .bool Q.cd, .bool Q.cc, .bool Q.sl, .bool Q.sk, .bool Q.pc, .int .i64 Q.n] 26))
  have K2 := Lib.hid (K1.out.next hbb)
  have X1b := Lib.hid (X1.out.below hbb)
  have X2 := Lib.hid (Bx.new V2 26 #[.int .i64 Q.o, .int .i64 Q.a, .bool Q.cd, .bool Q.cc, .bool Q.sl, .bool Q.sk, .bool Q.pc, .int .i64 Q.n])
  clear hb hbb K1 H2 X1
  go_wp2_with fail
  generalize V2.alloc (.cells #[.int .i64 Q.o, .int .i64 Q.a, .bool Q.cd, .bool Q.cc, .bool Q.sl, .bool Q.sk, .bool Q.pc, .int .i64 Q.n] 26) = W2 at K2 X1b X2 ⊢
  generalize V2.heap.size = G2 at X2 ⊢
  refine (H3.out _ K2.out.sv').mono ?_
  rintro e V3 ⟨rfl, hb⟩
  have hbb := bel0 hb (below_new _ (.cells #[.int .i64 S.k, .int .i64 S.a, .int .i64 S.u, .int .i64 S.c, .int .i64 S.n] 36))
  have K3 := Lib.hid (K2.out.next hbb)
  have X1c := Lib.hid (X1b.out.below hbb)
  have X2c := Lib.hid (X2.out.below hbb)
  have X3 := Lib.hid (Bx.new V3 36 #[.int .i64 S.k, .int .i64 S.a, .int .i64 S.u, .int .i64 S.c, .int .i64 S.n])
  clear hb hbb K2 H3 X1b X2
  go_wp2_with fail
  generalize V3.alloc (.cells #[.int .i64 S.k, .int .i64 S.a, .int .i64 S.u, .int .i64 S.c, .int .i64 S.n] 36) = W3 at K3 X1c X2c X3 ⊢
  generalize V3.heap.size = G3 at X3 ⊢
  refine (H4.out _ K3.out.sv').mono ?_
  rintro e V4 ⟨rfl, hb⟩
  have hbb := bel0 hb (below_new _ (.cells #[.int .i64 S.k, .int .i64 S.a, .int .i64 S.u, .int .i64 S.c, .int .i64 S.n] 36))
  have K4 := Lib.hid (K3.out.next hbb)
  have X1d := Lib.hid (X1c.out.below hbb)
  have X2d := Lib.hid (X2c.out.below hbb)
  have X3d := Lib.hid (X3.out.below hbb)
  have X4 := Lib.hid (Bx.new V4 36 #[.int .i64 S.k, .int .i64 S.a, .int .i64 S.u, .int .i64 S.c, .int .i64 S.n])
  clear hb hbb K3 H4 X1c X2c X3
  go_wp2_with fail
  generalize V4.alloc (.cells #[.int .i64 S.k, .int .i64 S.a, .int .i64 S.u, .int .i64 S.c, .int .i64 S.n] 36) = W4 at K4 X1d X2d X3d X4 ⊢
  generalize V4.heap.size = G4 at X4 ⊢
  refine (H5.out _ K4.out.sv').mono ?_
  rintro e V5 ⟨rfl, rfl⟩
  go_wp2_with fail
  refine (H6.out _ K4.out.sv').mono ?_
  rintro e W6 ⟨rfl, hb⟩
  have K6 := Lib.hid (K4.out.next hb)
  have Y1 := Lib.hid (X1d.out.below hb)
  have Y2 := Lib.hid (X2d.out.below hb)
  have Y3 := Lib.hid (X3d.out.below hb)
  have Y4 := Lib.hid (X4.out.below hb)
  clear hb K4 H5 H6 X1d X2d X3d X4
  have q0 := Y1.out.cell 0
  change _ = some (Value.int .i64 Q.o) at q0
  have q1 := Y1.out.cell 1
  change _ = some (Value.int .i64 Q.a) at q1
  have q2 := Y1.out.cell 2
  change _ = some (Value.bool Q.cd) at q2
  have q3 := Y1.out.cell 3
  change _ = some (Value.bool Q.cc) at q3
  have q4 := Y1.out.cell 4
  change _ = some (Value.bool Q.sl) at q4
  have q5 := Y1.out.cell 5
  change _ = some (Value.bool Q.sk) at q5
  have q6 := Y1.out.cell 6
  change _ = some (Value.bool Q.pc) at q6
  have q7 := Y1.out.cell 7
  change _ = some (Value.int .i64 Q.n) at q7
  have r0 := Y2.out.cell 0
  change _ = some (Value.int .i64 Q.o) at r0
  have r1 := Y2.out.cell 1
  change _ = some (Value.int .i64 Q.a) at r1
  have r2 := Y2.out.cell 2
  change _ = some (Value.bool Q.cd) at r2
  have r3 := Y2.out.cell 3
  change _ = some (Value.bool Q.cc) at r3
  have r4 := Y2.out.cell 4
  change _ = some (Value.bool Q.sl) at r4
  have r5 := Y2.out.cell 5
  change _ = some (Value.bool Q.sk) at r5
  have r6 := Y2.out.cell 6
  change _ = some (Value.bool Q.pc) at r6
  have r7 := Y2.out.cell 7
  change _ = some (Value.int .i64 Q.n) at r7
  have s0 := Y3.out.cell 0
  change _ = some (Value.int .i64 S.k) at s0
  have s1 := Y3.out.cell 1
  change _ = some (Value.int .i64 S.a) at s1
  have s2 := Y3.out.cell 2
  change _ = some (Value.int .i64 S.u) at s2
  have s3 := Y3.out.cell 3
  change _ = some (Value.int .i64 S.c) at s3
  have s4 := Y3.out.cell 4
  change _ = some (Value.int .i64 S.n) at s4
  have t0 := Y4.out.cell 0
  change _ = some (Value.int .i64 S.k) at t0
  have t1 := Y4.out.cell 1
  change _ = some (Value.int .i64 S.a) at t1
  have t2 := Y4.out.cell 2
  change _ = some (Value.int .i64 S.u) at t2
  have t3 := Y4.out.cell 3
  change _ = some (Value.int .i64 S.c) at t3
  have t4 := Y4.out.cell 4
  change _ = some (Value.int .i64 S.n) at t4
  go_wp2_with fail
  refine (works_any _ K6.out.fb).mono ?_
  rintro e W7 ⟨rfl, hb⟩
  have HB := Lib.hid (bel0 K6.out.bel hb)
  clear hb
  go_wp2
  go_ret
  exact ⟨rfl, HB.out⟩
end ccwDecodes
end Go.Proofs.YtijkbenbjdeocaaDoor

/- Chapter 12: command words are encoded as the given answers do. -/
import Derived.Test.YtijkbenbjdeocaaDoorCcREn
namespace Go.Proofs.YtijkbenbjdeocaaDoor
open Go.RowKit E
set_option linter.unusedVariables false
namespace ccwEncodes

set_option maxRecDepth 100000 in
set_option maxHeartbeats 1000000 in
theorem walk (Q : Cw) (w : World) (hf : Fb w) : Calls Tryd.prog 4 #[Q.v] w (New w (.bool true)) := by
  have HE := Lib.hid (fun W (h : Fb W) => encode_any Q W h)
  have HR := Lib.hid (fun W (h : Fb W) => rencode_any Q W h)
  have K0 : Hid (Ck w w.heap.size Q (w.alloc (.cells #[.int .i64 Q.o, .int .i64 Q.a, .bool Q.cd, .bool Q.cc, .bool Q.sl, .bool Q.sk, .bool Q.pc, .int .i64 Q.n] 26))) := Lib.hid (Ck.mk (below_new _ _) (Bx.new _ _ _) (hf.below (below_new _ _)))
  clear hf
  unfold Cw.v at *
  generalize encC Q = c at *
  generalize encS Q = l at *
  go_enter Tryd.func4, Tryd.ntmps4
  go_wp2_with fail
  refine (HE.out _ K0.out.fb).mono ?_
  rintro e W1 ⟨s1, rfl, h1, hb⟩
  have K1 := Lib.hid (K0.out.next hb)
  have S1 := Lib.hid h1
  clear h1 hb K0 HE
  generalize w.heap.size = E at K1 ⊢
  have c0 := K1.out.c0
  have c1 := K1.out.c1
  have c2 := K1.out.c2
  have c3 := K1.out.c3
  have c4 := K1.out.c4
  have c5 := K1.out.c5
  have c6 := K1.out.c6
  have c7 := K1.out.c7
  go_wp2_with fail
  refine (HR.out _ K1.out.fb).mono ?_
  rintro e W2 ⟨s2, rfl, h2, hb⟩
  have K2 := Lib.hid (K1.out.next hb)
  have S1' := Lib.hid (S1.out.below hb)
  have S2 := Lib.hid h2
  clear h2 hb K1 S1 HR c0 c1 c2 c3 c4 c5 c6 c7
  go_wp2_with fail
  refine (same_svb S1'.out S2.out).mono ?_
  rintro e W3 ⟨rfl, hb⟩
  have K3 := Lib.hid (K2.out.next hb)
  clear hb K2
  go_wp2_with fail
  refine (works_any _ K3.out.fb).mono ?_
  rintro e W4 ⟨rfl, hb⟩
  have HB := Lib.hid (bel0 K3.out.bel hb)
  clear hb
  go_wp2
  go_ret
  exact ⟨rfl, HB.out⟩
end ccwEncodes
end Go.Proofs.YtijkbenbjdeocaaDoor

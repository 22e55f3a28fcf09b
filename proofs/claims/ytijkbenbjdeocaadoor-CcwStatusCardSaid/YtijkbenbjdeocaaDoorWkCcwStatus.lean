/- Chapter 12: status words and address words are encoded as the given answers do. -/
import Derived.Test.YtijkbenbjdeocaaDoorCcREn
namespace Go.Proofs.YtijkbenbjdeocaaDoor
open Go.RowKit E
set_option linter.unusedVariables false
namespace ccwStatus

set_option maxRecDepth 100000 in
set_option maxHeartbeats 1000000 in
theorem walk (S : Cs) (k a : Int) (w : World) (hf : Fb w) : Calls Tryd.prog 6 #[S.v, .int .i64 k, .int .i64 a] w (New w (.bool true)) := by
  have HE := Lib.hid (fun W => encodeCsw_any S W)
  have HR := Lib.hid (fun W => rencodeCsw_any S W)
  have HC := Lib.hid (fun W => encodeCaw_any k a W)
  have HD := Lib.hid (fun W => rencodeCaw_any k a W)
  have HF := Lib.hid hf
  have K0 : Hid (Cx w w.heap.size S (w.alloc (.cells #[.int .i64 S.k, .int .i64 S.a, .int .i64 S.u, .int .i64 S.c, .int .i64 S.n] 36))) := Lib.hid ⟨below_new _ _, Bx.new _ _ _⟩
  clear hf
  unfold Cs.v at *
  generalize encSC S = c at *
  generalize encSS S = l at *
  generalize cawC k a = c' at *
  generalize cawL k a = l' at *
  go_enter Tryd.func6, Tryd.ntmps6
  go_wp2_with fail
  refine (HE.out _).mono ?_
  rintro e W1 ⟨s1, rfl, h1, hb⟩
  have K1 := Lib.hid (K0.out.next hb)
  have S1 := Lib.hid h1
  clear h1 hb K0 HE
  generalize w.heap.size = E at K1 ⊢
  have c0 := K1.out.c0
  have c1 := K1.out.c1
  have c2 := K1.out.c2
  have c3 := K1.out.c3
  have c4 := K1.out.c4
  go_wp2_with fail
  refine (HR.out _).mono ?_
  rintro e W2 ⟨s2, rfl, h2, hb⟩
  have B2 := Lib.hid (bel0 K1.out.bel hb)
  have S1b := Lib.hid (S1.out.below hb)
  have S2 := Lib.hid h2
  clear h2 hb K1 S1 HR c0 c1 c2 c3 c4
  go_wp2_with fail
  refine (HC.out _).mono ?_
  rintro e W3 ⟨s3, rfl, h3, hb⟩
  have B3 := Lib.hid (bel0 B2.out hb)
  have S1c := Lib.hid (S1b.out.below hb)
  have S2c := Lib.hid (S2.out.below hb)
  have S3 := Lib.hid h3
  clear h3 hb B2 S1b S2 HC
  go_wp2_with fail
  refine (HD.out _).mono ?_
  rintro e W4 ⟨s4, rfl, h4, hb⟩
  have B4 := Lib.hid (bel0 B3.out hb)
  have S1d := Lib.hid (S1c.out.below hb)
  have S2d := Lib.hid (S2c.out.below hb)
  have S3d := Lib.hid (S3.out.below hb)
  have S4 := Lib.hid h4
  clear h4 hb B3 S1c S2c S3 HD
  go_wp2_with fail
  refine (same_svb S1d.out S2d.out).mono ?_
  rintro e W5 ⟨rfl, hb⟩
  have B5 := Lib.hid (bel0 B4.out hb)
  have S3e := Lib.hid (S3d.out.below hb)
  have S4e := Lib.hid (S4.out.below hb)
  clear hb B4 S3d S4 S1d S2d
  go_wp2_with fail
  refine (same_svb S3e.out S4e.out).mono ?_
  rintro e W6 ⟨rfl, hb⟩
  have B6 := Lib.hid (bel0 B5.out hb)
  clear hb B5
  go_wp2_with fail
  refine (works_any _ (HF.out.below B6.out)).mono ?_
  rintro e W7 ⟨rfl, hb⟩
  have HB := Lib.hid (bel0 B6.out hb)
  clear hb
  go_wp2
  go_ret
  exact ⟨rfl, HB.out⟩
end ccwStatus
end Go.Proofs.YtijkbenbjdeocaaDoor

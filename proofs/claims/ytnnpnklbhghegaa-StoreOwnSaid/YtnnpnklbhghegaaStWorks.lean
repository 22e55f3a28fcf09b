/- The chapter's examples hold: the contract of works. -/
import Derived.Test.YtnnpnklbhghegaaStHelp
namespace Go.Proofs.Ytnnpnklbhghegaa
open Go.RowKit Go.Shelf
set_option linter.unusedVariables false
namespace E

/-- The storage of the examples, as it changes. -/
def zB : List UInt8 := List.replicate 4096 0
def k1 : List UInt8 := [0, 7]
def b1 : List UInt8 := putL zB 2046 [1, 2, 3, 4]
def b2 : List UInt8 := putL b1 2048 [9]
def b3 : List UInt8 := putL b2 2047 [0, 0]
theorem w_s {W : World} {a g h : Nat} (hs : Sto W a g h 4096 2 zB [0, 0]) : Calls Try.prog 19 #[.pointer (some ⟨a, 0, none⟩), .int .i64 2048, .int .i64 7] W (SetPost W a g h 4096 2 zB k1 (.bool true)) := by
  have h1 := setKey_any a g h 4096 2 2048 7 zB [0, 0] W (by decide) hs
  have e : setOk 4096 2048 7 = true := by decide +kernel
  have e2 : setK 4096 [0, 0] 2048 7 = k1 := by
    unfold setK
    rw [e]
    rfl
  rw [e, e2] at h1
  exact h1
theorem svb_two {w : World} {p : Option Addr} {x y : UInt8} {l : List UInt8} {k c : Nat} (h : SvB w (.slice p k c) (x :: y :: l)) : SvB w (.slice p 2 c) [x, y] := by
  obtain ⟨q, d, h1, h2, h3, h4, h5⟩ := h
  injection h1 with e1 e2 e3
  subst e1 e3
  have h6 := h2.take 2
  exact ⟨p, c, rfl, by simpa using h6, by simp at h3; simp; omega, h4, h5⟩
theorem w_k1 {W : World} {a g h : Nat} (hs : Sto W a g h 4096 2 zB k1) : Calls Try.prog 26 #[.pointer (some ⟨a, 0, none⟩), .int .i64 4095, .int .i64 7, .bool true] W (New W (.bool true)) :=
  key_yes a g h 4096 2 4095 7 true zB k1 W (by decide) hs (by decide +kernel) (by decide +kernel)
theorem w_k2 {W : World} {a g h : Nat} (hs : Sto W a g h 4096 2 zB k1) : Calls Try.prog 26 #[.pointer (some ⟨a, 0, none⟩), .int .i64 0, .int .i64 0, .bool true] W (New W (.bool true)) :=
  key_yes a g h 4096 2 0 0 true zB k1 W (by decide) hs (by decide +kernel) (by decide +kernel)
theorem w_k3 {W : World} {a g h : Nat} (hs : Sto W a g h 4096 2 zB k1) : Calls Try.prog 26 #[.pointer (some ⟨a, 0, none⟩), .int .i64 4096, .int .i64 0, .bool false] W (New W (.bool true)) :=
  key_yes a g h 4096 2 4096 0 false zB k1 W (by decide) hs (by decide +kernel) (by decide +kernel)
theorem w_p1 {W : World} {a g h : Nat} {v : Value} (hs : Sto W a g h 4096 2 zB k1) (hv : SvB W v [1, 2, 3, 4]) : Calls Try.prog 22 #[.pointer (some ⟨a, 0, none⟩), .int .i64 2046, v, .int .i64 0] W (PutPost W a g h 4096 2 b1 k1 (.int .i64 0)) := by
  have e : codeV (stP 0) 4096 k1 2046 ((([1, 2, 3, 4] : List UInt8).length : Nat) : Int) = 0 := by decide +kernel
  have h1 := put_any a g h 4096 2 2046 0 v [1, 2, 3, 4] zB k1 W (by decide) hs hv
  have e2 : putB (stP 0) 4096 zB k1 2046 [1, 2, 3, 4] = b1 := by
    unfold putB
    rw [e]
    rfl
  rw [e, e2] at h1
  exact h1
theorem w_b1 {W : World} {a g h : Nat} (hs : Sto W a g h 4096 2 b1 k1) : Calls Try.prog 20 #[.pointer (some ⟨a, 0, none⟩), .int .i64 2046, .int .i64 4] W (BytPost W [1, 2, 3, 4]) := by
  have h1 := bytes_any a g h 4096 2 2046 4 b1 k1 W (by decide) hs
  have e : bytL 4096 b1 2046 4 = [1, 2, 3, 4] := by decide +kernel
  rw [e] at h1
  exact h1
theorem w_p2 {W : World} {a g h : Nat} {v : Value} (hs : Sto W a g h 4096 2 b1 k1) (hv : SvB W v [9, 9, 9]) : Calls Try.prog 22 #[.pointer (some ⟨a, 0, none⟩), .int .i64 2046, v, .int .i64 3] W (PutPost W a g h 4096 2 b1 k1 (.int .i64 4)) := by
  have e : codeV (stP 3) 4096 k1 2046 ((([9, 9, 9] : List UInt8).length : Nat) : Int) = 4 := by decide +kernel
  have h1 := put_any a g h 4096 2 2046 3 v [9, 9, 9] b1 k1 W (by decide) hs hv
  have e2 : putB (stP 3) 4096 b1 k1 2046 [9, 9, 9] = b1 := by
    unfold putB
    rw [e]
    rfl
  rw [e, e2] at h1
  exact h1
theorem w_p3 {W : World} {a g h : Nat} {v : Value} (hs : Sto W a g h 4096 2 b1 k1) (hv : SvB W v [9]) : Calls Try.prog 22 #[.pointer (some ⟨a, 0, none⟩), .int .i64 2048, v, .int .i64 3] W (PutPost W a g h 4096 2 b2 k1 (.int .i64 0)) := by
  have e : codeV (stP 3) 4096 k1 2048 ((([9] : List UInt8).length : Nat) : Int) = 0 := by decide +kernel
  have h1 := put_any a g h 4096 2 2048 3 v [9] b1 k1 W (by decide) hs hv
  have e2 : putB (stP 3) 4096 b1 k1 2048 [9] = b2 := by
    unfold putB
    rw [e]
    rfl
  rw [e, e2] at h1
  exact h1
theorem w_h1 {W : World} {a g h : Nat} {v : Value} (hs : Sto W a g h 4096 2 b2 k1) (hv : SvB W v [1, 2, 9, 4]) : Calls Try.prog 27 #[.pointer (some ⟨a, 0, none⟩), .int .i64 2046, .int .i64 4, .int .i64 0, v, .int .i64 0] W (New W (.bool true)) :=
  has_yes a g h 4096 2 2046 4 0 0 v [1, 2, 9, 4] b2 k1 W (by decide) hs hv (by decide +kernel) (by decide +kernel)
theorem w_h2 {W : World} {a g h : Nat} {v : Value} (hs : Sto W a g h 4096 2 b2 k1) (hv : SvB W v [1, 2, 9, 4]) : Calls Try.prog 27 #[.pointer (some ⟨a, 0, none⟩), .int .i64 2046, .int .i64 4, .int .i64 3, v, .int .i64 0] W (New W (.bool true)) :=
  has_yes a g h 4096 2 2046 4 3 0 v [1, 2, 9, 4] b2 k1 W (by decide) hs hv (by decide +kernel) (by decide +kernel)
theorem w_h3 {W : World} {a g h : Nat} {v : Value} (hs : Sto W a g h 4096 2 b2 k1) (hv : SvB W v []) : Calls Try.prog 27 #[.pointer (some ⟨a, 0, none⟩), .int .i64 2046, .int .i64 4, .int .i64 5, v, .int .i64 4] W (New W (.bool true)) :=
  has_yes a g h 4096 2 2046 4 5 4 v [] b2 k1 W (by decide) hs hv (by decide +kernel) (by decide +kernel)
theorem w_h4 {W : World} {a g h : Nat} {v : Value} (hs : Sto W a g h 4096 2 b2 k1) (hv : SvB W v [1, 2]) : Calls Try.prog 27 #[.pointer (some ⟨a, 0, none⟩), .int .i64 2046, .int .i64 2, .int .i64 5, v, .int .i64 0] W (New W (.bool true)) :=
  has_yes a g h 4096 2 2046 2 5 0 v [1, 2] b2 k1 W (by decide) hs hv (by decide +kernel) (by decide +kernel)
theorem w_h5 {W : World} {a g h : Nat} {v : Value} (hs : Sto W a g h 4096 2 b2 k1) (hv : SvB W v []) : Calls Try.prog 27 #[.pointer (some ⟨a, 0, none⟩), .int .i64 4096, .int .i64 0, .int .i64 5, v, .int .i64 0] W (New W (.bool true)) :=
  has_yes a g h 4096 2 4096 0 5 0 v [] b2 k1 W (by decide) hs hv (by decide +kernel) (by decide +kernel)
theorem w_h6 {W : World} {a g h : Nat} {v : Value} (hs : Sto W a g h 4096 2 b2 k1) (hv : SvB W v []) : Calls Try.prog 27 #[.pointer (some ⟨a, 0, none⟩), .int .i64 4095, .int .i64 2, .int .i64 5, v, .int .i64 5] W (New W (.bool true)) :=
  has_yes a g h 4096 2 4095 2 5 5 v [] b2 k1 W (by decide) hs hv (by decide +kernel) (by decide +kernel)
theorem w_p4 {W : World} {a g h : Nat} {v : Value} (hs : Sto W a g h 4096 2 b2 k1) (hv : SvB W v []) : Calls Try.prog 22 #[.pointer (some ⟨a, 0, none⟩), .int .i64 (-1), v, .int .i64 0] W (PutPost W a g h 4096 2 b2 k1 (.int .i64 5)) := by
  have e : codeV (stP 0) 4096 k1 (-1) ((([] : List UInt8).length : Nat) : Int) = 5 := by decide +kernel
  have h1 := put_any a g h 4096 2 (-1) 0 v [] b2 k1 W (by decide) hs hv
  have e2 : putB (stP 0) 4096 b2 k1 (-1) [] = b2 := by
    unfold putB
    rw [e]
    rfl
  rw [e, e2] at h1
  exact h1
theorem w_c1 {W : World} {a g h : Nat} (hs : Sto W a g h 4096 2 b2 k1) : Calls Try.prog 25 #[.pointer (some ⟨a, 0, none⟩), .int .i64 2047, .int .i64 2] W (PutPost W a g h 4096 2 b3 k1 (.bool true)) := by
  have h1 := clear_any a g h 4096 2 2047 2 b2 k1 W (by decide) hs
  have e : inB 4096 2047 2 = true := by decide +kernel
  have e2 : clrB 4096 b2 2047 2 = b3 := by
    unfold clrB
    rw [e]
    rfl
  rw [e, e2] at h1
  exact h1
theorem w_b2 {W : World} {a g h : Nat} (hs : Sto W a g h 4096 2 b3 k1) : Calls Try.prog 20 #[.pointer (some ⟨a, 0, none⟩), .int .i64 2046, .int .i64 4] W (BytPost W [1, 0, 0, 4]) := by
  have h1 := bytes_any a g h 4096 2 2046 4 b3 k1 W (by decide) hs
  have e : bytL 4096 b3 2046 4 = [1, 0, 0, 4] := by decide +kernel
  rw [e] at h1
  exact h1
theorem w_c2 {W : World} {a g h : Nat} (hs : Sto W a g h 4096 2 b3 k1) : Calls Try.prog 25 #[.pointer (some ⟨a, 0, none⟩), .int .i64 4090, .int .i64 7] W (PutPost W a g h 4096 2 b3 k1 (.bool false)) := by
  have h1 := clear_any a g h 4096 2 4090 7 b3 k1 W (by decide) hs
  have e : inB 4096 4090 7 = false := by decide +kernel
  have e2 : clrB 4096 b3 4090 7 = b3 := by
    unfold clrB
    rw [e]
    rfl
  rw [e, e2] at h1
  exact h1
set_option maxRecDepth 100000 in
set_option maxHeartbeats 4000000 in
theorem works_any (w : World) : Calls Try.prog 15 #[] w (New w (.bool true)) := by
  go_enter Try.func15, Try.ntmps15
  go_wp2_with fail
  refine (new_any 4096 w (by decide)).mono ?_
  rintro e w1 ⟨a, g, h, rfl, hs, hg1, hg2, hg3, hb⟩
  have HS : Hid (Sto w1 a g h 4096 2 zB [0, 0]) := Lib.hid hs
  have HG := Lib.hid (And.intro hg1 (And.intro hg2 hg3))
  have HW := Lib.hid hb
  clear hs hg1 hg2 hg3 hb
  go_wp2_with fail
  refine (size_any a g 4096 _ HS.out.c0).mono ?_
  rintro e wx ⟨rfl, rfl⟩
  go_wp2_with fail
  refine (w_s HS.out).mono ?_
  rintro e w2 ⟨rfl, hg, hs⟩
  replace HS := Lib.hid hs
  replace HW := Lib.hid (below_grown HW.out hg HG.out.2.2)
  clear hs hg
  go_wp2_with fail
  refine (w_k1 HS.out).mono ?_
  rintro e w3 ⟨rfl, hb⟩
  replace HS := Lib.hid (HS.out.below hb)
  replace HW := Lib.hid (bel0 HW.out hb)
  clear hb
  go_wp2_with fail
  refine (w_k2 HS.out).mono ?_
  rintro e w4 ⟨rfl, hb⟩
  replace HS := Lib.hid (HS.out.below hb)
  replace HW := Lib.hid (bel0 HW.out hb)
  clear hb
  go_wp2_with fail
  refine (w_k3 HS.out).mono ?_
  rintro e w5 ⟨rfl, hb⟩
  replace HS := Lib.hid (HS.out.below hb)
  replace HW := Lib.hid (bel0 HW.out hb)
  clear hb
  have HV := Lib.hid (svb_new w5 [1, 2, 3, 4] (by decide))
  replace HS := Lib.hid (HS.out.below (below_new _ (.cells #[.int .u8 1, .int .u8 2, .int .u8 3, .int .u8 4] 5)))
  replace HW := Lib.hid (bel0 HW.out (below_new _ (.cells #[.int .u8 1, .int .u8 2, .int .u8 3, .int .u8 4] 5)))
  go_wp2_with fail
  refine (w_p1 HS.out HV.out).mono ?_
  rintro e w6 ⟨rfl, hg, hs⟩
  clear HV
  replace HS := Lib.hid hs
  replace HW := Lib.hid (below_grown HW.out hg HG.out.2.1)
  clear hs hg
  go_wp2_with fail
  refine (w_b1 HS.out).mono ?_
  rintro e w7 ⟨sv, rfl, hh, hb⟩
  have cv := conv_sv hh.svb
  replace HS := Lib.hid (HS.out.below hb)
  replace HW := Lib.hid (bel0 HW.out hb)
  clear hb
  clear hh
  have HV := Lib.hid (svb_new w7 [9, 9, 9] (by decide))
  replace HS := Lib.hid (HS.out.below (below_new _ (.cells #[.int .u8 9, .int .u8 9, .int .u8 9] 5)))
  replace HW := Lib.hid (bel0 HW.out (below_new _ (.cells #[.int .u8 9, .int .u8 9, .int .u8 9] 5)))
  go_wp2_with fail
  refine (w_p2 HS.out HV.out).mono ?_
  rintro e w8 ⟨rfl, hg, hs⟩
  clear HV
  replace HS := Lib.hid hs
  replace HW := Lib.hid (below_grown HW.out hg HG.out.2.1)
  clear hs hg
  have HV := Lib.hid (svb_new w8 [9] (by decide))
  replace HS := Lib.hid (HS.out.below (below_new _ (.cells #[.int .u8 9] 5)))
  replace HW := Lib.hid (bel0 HW.out (below_new _ (.cells #[.int .u8 9] 5)))
  go_wp2_with fail
  refine (w_p3 HS.out HV.out).mono ?_
  rintro e w9 ⟨rfl, hg, hs⟩
  clear HV
  replace HS := Lib.hid hs
  replace HW := Lib.hid (below_grown HW.out hg HG.out.2.1)
  clear hs hg
  go_wp2_with fail
  have HV := Lib.hid (svb_new w9 [1, 2, 9, 4] (by decide))
  have HV2 : Hid (SvB (w9.alloc (.cells #[.int .u8 1, .int .u8 2, .int .u8 9, .int .u8 4] 5)) (.slice (some ⟨w9.heap.size, 0, none⟩) 2 4) [1, 2]) := Lib.hid (svb_two (svb_new w9 [1, 2, 9, 4] (by decide)))
  replace HS := Lib.hid (HS.out.below (below_new _ (.cells #[.int .u8 1, .int .u8 2, .int .u8 9, .int .u8 4] 5)))
  replace HW := Lib.hid (bel0 HW.out (below_new _ (.cells #[.int .u8 1, .int .u8 2, .int .u8 9, .int .u8 4] 5)))
  go_wp2_with fail
  refine (w_h1 HS.out HV.out).mono ?_
  rintro e w10 ⟨rfl, hb⟩
  replace HV := Lib.hid (HV.out.below hb)
  replace HV2 := Lib.hid (HV2.out.below hb)
  replace HS := Lib.hid (HS.out.below hb)
  replace HW := Lib.hid (bel0 HW.out hb)
  clear hb
  go_wp2_with fail
  refine (w_h2 HS.out HV.out).mono ?_
  rintro e w11 ⟨rfl, hb⟩
  replace HV := Lib.hid (HV.out.below hb)
  replace HV2 := Lib.hid (HV2.out.below hb)
  replace HS := Lib.hid (HS.out.below hb)
  replace HW := Lib.hid (bel0 HW.out hb)
  clear hb
  go_wp2_with fail
  refine (w_h3 HS.out (SvB.nil _)).mono ?_
  rintro e w12 ⟨rfl, hb⟩
  replace HV := Lib.hid (HV.out.below hb)
  replace HV2 := Lib.hid (HV2.out.below hb)
  replace HS := Lib.hid (HS.out.below hb)
  replace HW := Lib.hid (bel0 HW.out hb)
  clear hb
  go_wp2_with fail
  refine (w_h4 HS.out HV2.out).mono ?_
  rintro e w13 ⟨rfl, hb⟩
  replace HV := Lib.hid (HV.out.below hb)
  replace HV2 := Lib.hid (HV2.out.below hb)
  replace HS := Lib.hid (HS.out.below hb)
  replace HW := Lib.hid (bel0 HW.out hb)
  clear hb
  clear HV HV2
  go_wp2_with fail
  refine (w_h5 HS.out (SvB.nil _)).mono ?_
  rintro e w14 ⟨rfl, hb⟩
  replace HS := Lib.hid (HS.out.below hb)
  replace HW := Lib.hid (bel0 HW.out hb)
  clear hb
  go_wp2_with fail
  refine (w_h6 HS.out (SvB.nil _)).mono ?_
  rintro e w15 ⟨rfl, hb⟩
  replace HS := Lib.hid (HS.out.below hb)
  replace HW := Lib.hid (bel0 HW.out hb)
  clear hb
  go_wp2_with fail
  refine (w_p4 HS.out (SvB.nil _)).mono ?_
  rintro e w16 ⟨rfl, hg, hs⟩
  replace HS := Lib.hid hs
  replace HW := Lib.hid (below_grown HW.out hg HG.out.2.1)
  clear hs hg
  go_wp2_with fail
  refine (w_c1 HS.out).mono ?_
  rintro e w17 ⟨rfl, hg, hs⟩
  replace HS := Lib.hid hs
  replace HW := Lib.hid (below_grown HW.out hg HG.out.2.1)
  clear hs hg
  go_wp2_with fail
  refine (w_b2 HS.out).mono ?_
  rintro e w18 ⟨sv2, rfl, hh, hb⟩
  have cv2 := conv_sv hh.svb
  replace HS := Lib.hid (HS.out.below hb)
  replace HW := Lib.hid (bel0 HW.out hb)
  clear hb
  clear hh
  go_wp2_with fail
  refine (w_c2 HS.out).mono ?_
  rintro e w19 ⟨rfl, hg, hs⟩
  replace HS := Lib.hid hs
  replace HW := Lib.hid (below_grown HW.out hg HG.out.2.1)
  clear hs hg
  clear HS
  go_wp2
  go_ret
  exact ⟨rfl, HW.out⟩

end E
end Go.Proofs.Ytnnpnklbhghegaa

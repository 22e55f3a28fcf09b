/- The walk of the statement StoreKnown: it answers true, and below its own memory nothing turns. -/
import Derived.Test.YtnnpnklbhghegaaStWorks
namespace Go.Proofs.Ytnnpnklbhghegaa.storeKnown
open Go.RowKit Go.Shelf E
set_option linter.unusedVariables false

/-- The greatest storage. -/
def zK : List UInt8 := List.replicate 65536 0
def q0 : List UInt8 := List.replicate 32 0
def q1 : List UInt8 := q0.set 31 31
theorem n_s1 {W : World} {a g h : Nat} (hs : Sto W a g h 65536 32 zK q0) : Calls Try.prog 19 #[.pointer (some ⟨a, 0, none⟩), .int .i64 65535, .int .i64 31] W (SetPost W a g h 65536 32 zK q1 (.bool true)) := by
  have h1 := setKey_any a g h 65536 32 65535 31 zK q0 W (by decide) hs
  have e : setOk 65536 65535 31 = true := by decide +kernel
  have e2 : setK 65536 q0 65535 31 = q1 := by
    unfold setK
    rw [e]
    rfl
  rw [e, e2] at h1
  exact h1
theorem n_s2 {W : World} {a g h : Nat} (hs : Sto W a g h 65536 32 zK q1) : Calls Try.prog 19 #[.pointer (some ⟨a, 0, none⟩), .int .i64 65536, .int .i64 0] W (SetPost W a g h 65536 32 zK q1 (.bool false)) := by
  have h1 := setKey_any a g h 65536 32 65536 0 zK q1 W (by decide) hs
  have e : setOk 65536 65536 0 = false := by decide +kernel
  have e2 : setK 65536 q1 65536 0 = q1 := by
    unfold setK
    rw [e]
    rfl
  rw [e, e2] at h1
  exact h1
theorem n_s3 {W : World} {a g h : Nat} (hs : Sto W a g h 65536 32 zK q1) : Calls Try.prog 19 #[.pointer (some ⟨a, 0, none⟩), .int .i64 (-1), .int .i64 0] W (SetPost W a g h 65536 32 zK q1 (.bool false)) := by
  have h1 := setKey_any a g h 65536 32 (-1) 0 zK q1 W (by decide) hs
  have e : setOk 65536 (-1) 0 = false := by decide +kernel
  have e2 : setK 65536 q1 (-1) 0 = q1 := by
    unfold setK
    rw [e]
    rfl
  rw [e, e2] at h1
  exact h1
theorem n_s4 {W : World} {a g h : Nat} (hs : Sto W a g h 65536 32 zK q1) : Calls Try.prog 19 #[.pointer (some ⟨a, 0, none⟩), .int .i64 0, .int .i64 32] W (SetPost W a g h 65536 32 zK q1 (.bool false)) := by
  have h1 := setKey_any a g h 65536 32 0 32 zK q1 W (by decide) hs
  have e : setOk 65536 0 32 = false := by decide +kernel
  have e2 : setK 65536 q1 0 32 = q1 := by
    unfold setK
    rw [e]
    rfl
  rw [e, e2] at h1
  exact h1
theorem n_s5 {W : World} {a g h : Nat} (hs : Sto W a g h 65536 32 zK q1) : Calls Try.prog 19 #[.pointer (some ⟨a, 0, none⟩), .int .i64 0, .int .i64 (-1)] W (SetPost W a g h 65536 32 zK q1 (.bool false)) := by
  have h1 := setKey_any a g h 65536 32 0 (-1) zK q1 W (by decide) hs
  have e : setOk 65536 0 (-1) = false := by decide +kernel
  have e2 : setK 65536 q1 0 (-1) = q1 := by
    unfold setK
    rw [e]
    rfl
  rw [e, e2] at h1
  exact h1
theorem n_k1 {W : World} {a g h : Nat} (hs : Sto W a g h 65536 32 zK q1) : Calls Try.prog 26 #[.pointer (some ⟨a, 0, none⟩), .int .i64 65535, .int .i64 31, .bool true] W (New W (.bool true)) :=
  key_yes a g h 65536 32 65535 31 true zK q1 W (by decide) hs (by decide +kernel) (by decide +kernel)
theorem n_k2 {W : World} {a g h : Nat} (hs : Sto W a g h 65536 32 zK q1) : Calls Try.prog 26 #[.pointer (some ⟨a, 0, none⟩), .int .i64 63487, .int .i64 0, .bool true] W (New W (.bool true)) :=
  key_yes a g h 65536 32 63487 0 true zK q1 W (by decide) hs (by decide +kernel) (by decide +kernel)
theorem n_p1 {W : World} {a g h : Nat} {v : Value} (hs : Sto W a g h 65536 32 zK q1) (hv : SvB W v [1]) : Calls Try.prog 22 #[.pointer (some ⟨a, 0, none⟩), .int .i64 9223372036854775807, v, .int .i64 0] W (PutPost W a g h 65536 32 zK q1 (.int .i64 5)) := by
  have e : codeV (stP 0) 65536 q1 9223372036854775807 ((([1] : List UInt8).length : Nat) : Int) = 5 := by decide +kernel
  have h1 := put_any a g h 65536 32 9223372036854775807 0 v [1] zK q1 W (by decide) hs hv
  have e2 : putB (stP 0) 65536 zK q1 9223372036854775807 [1] = zK := by
    unfold putB
    rw [e]
    rfl
  rw [e, e2] at h1
  exact h1
theorem n_h1 {W : World} {a g h : Nat} {v : Value} (hs : Sto W a g h 65536 32 zK q1) (hv : SvB W v []) : Calls Try.prog 27 #[.pointer (some ⟨a, 0, none⟩), .int .i64 1, .int .i64 9223372036854775807, .int .i64 0, v, .int .i64 5] W (New W (.bool true)) :=
  has_yes a g h 65536 32 1 9223372036854775807 0 5 v [] zK q1 W (by decide) hs hv (by decide +kernel) (by decide +kernel)
theorem n_h2 {W : World} {a g h : Nat} {v : Value} (hs : Sto W a g h 65536 32 zK q1) (hv : SvB W v []) : Calls Try.prog 27 #[.pointer (some ⟨a, 0, none⟩), .int .i64 0, .int .i64 (-1), .int .i64 0, v, .int .i64 5] W (New W (.bool true)) :=
  has_yes a g h 65536 32 0 (-1) 0 5 v [] zK q1 W (by decide) hs hv (by decide +kernel) (by decide +kernel)
theorem n_c1 {W : World} {a g h : Nat} (hs : Sto W a g h 65536 32 zK q1) : Calls Try.prog 25 #[.pointer (some ⟨a, 0, none⟩), .int .i64 1, .int .i64 9223372036854775807] W (PutPost W a g h 65536 32 zK q1 (.bool false)) := by
  have h1 := clear_any a g h 65536 32 1 9223372036854775807 zK q1 W (by decide) hs
  have e : inB 65536 1 9223372036854775807 = false := by decide +kernel
  have e2 : clrB 65536 zK 1 9223372036854775807 = zK := by
    unfold clrB
    rw [e]
    rfl
  rw [e, e2] at h1
  exact h1
theorem n_b1 {W : World} {a g h : Nat} (hs : Sto W a g h 65536 32 zK q1) : Calls Try.prog 20 #[.pointer (some ⟨a, 0, none⟩), .int .i64 9223372036854775807, .int .i64 9223372036854775807] W (BytPost W []) := by
  have h1 := bytes_any a g h 65536 32 9223372036854775807 9223372036854775807 zK q1 W (by decide) hs
  have e : bytL 65536 zK 9223372036854775807 9223372036854775807 = [] := by decide +kernel
  rw [e] at h1
  exact h1
theorem n_p2 {W : World} {a g h : Nat} {v : Value} (hs : Sto W a g h 65536 32 zK q1) (hv : SvB W v [1]) : Calls Try.prog 22 #[.pointer (some ⟨a, 0, none⟩), .int .i64 65535, v, .int .i64 16] W (PutPost W a g h 65536 32 zK q1 (.int .i64 4)) := by
  have e : codeV (stP 16) 65536 q1 65535 ((([1] : List UInt8).length : Nat) : Int) = 4 := by decide +kernel
  have h1 := put_any a g h 65536 32 65535 16 v [1] zK q1 W (by decide) hs hv
  have e2 : putB (stP 16) 65536 zK q1 65535 [1] = zK := by
    unfold putB
    rw [e]
    rfl
  rw [e, e2] at h1
  exact h1
theorem n_h3 {W : World} {a g h : Nat} {v : Value} (hs : Sto W a g h 65536 32 zK q1) (hv : SvB W v []) : Calls Try.prog 27 #[.pointer (some ⟨a, 0, none⟩), .int .i64 65535, .int .i64 1, .int .i64 (-1), v, .int .i64 4] W (New W (.bool true)) :=
  has_yes a g h 65536 32 65535 1 (-1) 4 v [] zK q1 W (by decide) hs hv (by decide +kernel) (by decide +kernel)
theorem n_h4 {W : World} {a g h : Nat} {v : Value} (hs : Sto W a g h 65536 32 zK q1) (hv : SvB W v [0]) : Calls Try.prog 27 #[.pointer (some ⟨a, 0, none⟩), .int .i64 0, .int .i64 1, .int .i64 99, v, .int .i64 0] W (New W (.bool true)) :=
  has_yes a g h 65536 32 0 1 99 0 v [0] zK q1 W (by decide) hs hv (by decide +kernel) (by decide +kernel)
theorem n_p3 {W : World} {a g h : Nat} {v : Value} (hs : Sto W a g h 65536 32 zK q1) (hv : SvB W v [1]) : Calls Try.prog 22 #[.pointer (some ⟨a, 0, none⟩), .int .i64 0, v, .int .i64 99] W (PutPost W a g h 65536 32 zK q1 (.int .i64 4)) := by
  have e : codeV (stP 99) 65536 q1 0 ((([1] : List UInt8).length : Nat) : Int) = 4 := by decide +kernel
  have h1 := put_any a g h 65536 32 0 99 v [1] zK q1 W (by decide) hs hv
  have e2 : putB (stP 99) 65536 zK q1 0 [1] = zK := by
    unfold putB
    rw [e]
    rfl
  rw [e, e2] at h1
  exact h1
theorem kx0 (w : World) : (Instr.index 58 (.agg #[.int .i64 0, .int .i64 1, .int .i64 2047, .int .i64 2049, .int .i64 67584, .int .i64 (-2048)]) (.int .i64 0)).run Try.prog w = .ok (.int .i64 0) w := by kernel_rfl
theorem kx1 (w : World) : (Instr.index 58 (.agg #[.int .i64 0, .int .i64 1, .int .i64 2047, .int .i64 2049, .int .i64 67584, .int .i64 (-2048)]) (.int .i64 1)).run Try.prog w = .ok (.int .i64 1) w := by kernel_rfl
theorem kx2 (w : World) : (Instr.index 58 (.agg #[.int .i64 0, .int .i64 1, .int .i64 2047, .int .i64 2049, .int .i64 67584, .int .i64 (-2048)]) (.int .i64 2)).run Try.prog w = .ok (.int .i64 2047) w := by kernel_rfl
theorem kx3 (w : World) : (Instr.index 58 (.agg #[.int .i64 0, .int .i64 1, .int .i64 2047, .int .i64 2049, .int .i64 67584, .int .i64 (-2048)]) (.int .i64 3)).run Try.prog w = .ok (.int .i64 2049) w := by kernel_rfl
theorem kx4 (w : World) : (Instr.index 58 (.agg #[.int .i64 0, .int .i64 1, .int .i64 2047, .int .i64 2049, .int .i64 67584, .int .i64 (-2048)]) (.int .i64 4)).run Try.prog w = .ok (.int .i64 67584) w := by kernel_rfl
theorem kx5 (w : World) : (Instr.index 58 (.agg #[.int .i64 0, .int .i64 1, .int .i64 2047, .int .i64 2049, .int .i64 67584, .int .i64 (-2048)]) (.int .i64 5)).run Try.prog w = .ok (.int .i64 (-2048)) w := by kernel_rfl
set_option maxRecDepth 100000 in
set_option maxHeartbeats 4000000 in
theorem walk (w : World) : Calls Try.prog 9 #[] w (New w (.bool true)) := by
  go_enter Try.func9, Try.ntmps9
  go_wp2_with fail
  refine (fetch_nil 0 0 0 _).mono ?_
  rintro e wx ⟨rfl, rfl⟩
  go_wp2_with fail
  refine (keyOf_nil 0 _).mono ?_
  rintro e wx ⟨rfl, rfl⟩
  go_wp2_with fail
  refine (size_nil _).mono ?_
  rintro e wx ⟨rfl, rfl⟩
  go_wp2_with fail
  refine (put_nil 0 0 _ _).mono ?_
  rintro e wx ⟨rfl, rfl⟩
  go_wp2_with fail
  refine (setKey_nil 0 0 _).mono ?_
  rintro e wx ⟨rfl, rfl⟩
  go_wp2_with fail
  refine (bytes_nil 0 0 _).mono ?_
  rintro e wx ⟨rfl, rfl⟩
  go_wp2_with fail
  refine (clear_nil 0 0 _).mono ?_
  rintro e wx ⟨rfl, rfl⟩
  go_wp2_with fail
  refine (copy_nil _).mono ?_
  rintro e wx ⟨rfl, rfl⟩
  go_wp2
  go_loopw [8, 9, 10, 74] (fun _ _ _ i wr => wr = w ∧ ∃ j : Nat, j ≤ 6 ∧ i = .int .i64 (j : Int)) (fun _ _ _ i _ => 6 - (intOf i).toNat)
  case atStart => exact ⟨rfl, 0, Nat.zero_le _, rfl⟩
  case round =>
    obtain ⟨rfl, j, hj, rfl⟩ := hrel
    rcases (show j = 0 ∨ j = 1 ∨ j = 2 ∨ j = 3 ∨ j = 4 ∨ j = 5 ∨ j = 6 by omega) with rfl | rfl | rfl | rfl | rfl | rfl | rfl
    · have hix := kx0
      have HN := Lib.hid (new_no 0 wr (by decide))
      go_wp2_with fail
      refine HN.out.mono ?_
      rintro e wx ⟨rfl, rfl⟩
      go_wp2
      go_roundw
      case rel => exact ⟨trivial, 1, by omega, by go_num⟩
      case measure => simp [intOf]
    · have hix := kx1
      have HN := Lib.hid (new_no 1 wr (by decide))
      go_wp2_with fail
      refine HN.out.mono ?_
      rintro e wx ⟨rfl, rfl⟩
      go_wp2
      go_roundw
      case rel => exact ⟨trivial, 2, by omega, by go_num⟩
      case measure => simp [intOf]
    · have hix := kx2
      have HN := Lib.hid (new_no 2047 wr (by decide))
      go_wp2_with fail
      refine HN.out.mono ?_
      rintro e wx ⟨rfl, rfl⟩
      go_wp2
      go_roundw
      case rel => exact ⟨trivial, 3, by omega, by go_num⟩
      case measure => simp [intOf]
    · have hix := kx3
      have HN := Lib.hid (new_no 2049 wr (by decide))
      go_wp2_with fail
      refine HN.out.mono ?_
      rintro e wx ⟨rfl, rfl⟩
      go_wp2
      go_roundw
      case rel => exact ⟨trivial, 4, by omega, by go_num⟩
      case measure => simp [intOf]
    · have hix := kx4
      have HN := Lib.hid (new_no 67584 wr (by decide))
      go_wp2_with fail
      refine HN.out.mono ?_
      rintro e wx ⟨rfl, rfl⟩
      go_wp2
      go_roundw
      case rel => exact ⟨trivial, 5, by omega, by go_num⟩
      case measure => simp [intOf]
    · have hix := kx5
      have HN := Lib.hid (new_no (-2048) wr (by decide))
      go_wp2_with fail
      refine HN.out.mono ?_
      rintro e wx ⟨rfl, rfl⟩
      go_wp2
      go_roundw
      case rel => exact ⟨trivial, 6, by omega, by go_num⟩
      case measure => simp [intOf]
    · skip
      go_wp2_with fail
      refine (new_any 65536 _ (by decide)).mono ?_
      rintro e w1 ⟨a, g, h, rfl, hs, hg1, hg2, hg3, hb⟩
      have HS : Hid (Sto w1 a g h 65536 32 zK q0) := Lib.hid hs
      have HG := Lib.hid (And.intro hg1 (And.intro hg2 hg3))
      have HW := Lib.hid hb
      clear hs hg1 hg2 hg3 hb
      go_wp2_with fail
      refine (n_s1 HS.out).mono ?_
      rintro e w2 ⟨rfl, hg, hs⟩
      replace HS := Lib.hid hs
      replace HW := Lib.hid (below_grown HW.out hg HG.out.2.2)
      clear hs hg
      go_wp2_with fail
      refine (n_s2 HS.out).mono ?_
      rintro e w3 ⟨rfl, hg, hs⟩
      replace HS := Lib.hid hs
      replace HW := Lib.hid (below_grown HW.out hg HG.out.2.2)
      clear hs hg
      go_wp2_with fail
      refine (n_s3 HS.out).mono ?_
      rintro e w4 ⟨rfl, hg, hs⟩
      replace HS := Lib.hid hs
      replace HW := Lib.hid (below_grown HW.out hg HG.out.2.2)
      clear hs hg
      go_wp2_with fail
      refine (n_s4 HS.out).mono ?_
      rintro e w5 ⟨rfl, hg, hs⟩
      replace HS := Lib.hid hs
      replace HW := Lib.hid (below_grown HW.out hg HG.out.2.2)
      clear hs hg
      go_wp2_with fail
      refine (n_s5 HS.out).mono ?_
      rintro e w6 ⟨rfl, hg, hs⟩
      replace HS := Lib.hid hs
      replace HW := Lib.hid (below_grown HW.out hg HG.out.2.2)
      clear hs hg
      go_wp2_with fail
      refine (n_k1 HS.out).mono ?_
      rintro e w7 ⟨rfl, hb⟩
      replace HS := Lib.hid (HS.out.below hb)
      replace HW := Lib.hid (bel0 HW.out hb)
      clear hb
      go_wp2_with fail
      refine (n_k2 HS.out).mono ?_
      rintro e w8 ⟨rfl, hb⟩
      replace HS := Lib.hid (HS.out.below hb)
      replace HW := Lib.hid (bel0 HW.out hb)
      clear hb
      have HV := Lib.hid (svb_new w8 [1] (by decide))
      replace HS := Lib.hid (HS.out.below (below_new _ (.cells #[.int .u8 1] 5)))
      replace HW := Lib.hid (bel0 HW.out (below_new _ (.cells #[.int .u8 1] 5)))
      go_wp2_with fail
      refine (n_p1 HS.out HV.out).mono ?_
      rintro e w9 ⟨rfl, hg, hs⟩
      clear HV
      replace HS := Lib.hid hs
      replace HW := Lib.hid (below_grown HW.out hg HG.out.2.1)
      clear hs hg
      go_wp2_with fail
      refine (n_h1 HS.out (SvB.nil _)).mono ?_
      rintro e w10 ⟨rfl, hb⟩
      replace HS := Lib.hid (HS.out.below hb)
      replace HW := Lib.hid (bel0 HW.out hb)
      clear hb
      go_wp2_with fail
      refine (n_h2 HS.out (SvB.nil _)).mono ?_
      rintro e w11 ⟨rfl, hb⟩
      replace HS := Lib.hid (HS.out.below hb)
      replace HW := Lib.hid (bel0 HW.out hb)
      clear hb
      go_wp2_with fail
      refine (n_c1 HS.out).mono ?_
      rintro e w12 ⟨rfl, hg, hs⟩
      replace HS := Lib.hid hs
      replace HW := Lib.hid (below_grown HW.out hg HG.out.2.1)
      clear hs hg
      go_wp2_with fail
      refine (n_b1 HS.out).mono ?_
      rintro e w13 ⟨sv, rfl, hh, hb⟩
      obtain ⟨pb, cb, rfl, -⟩ := hh.full
      replace HS := Lib.hid (HS.out.below hb)
      replace HW := Lib.hid (bel0 HW.out hb)
      clear hb
      clear hh
      have HV := Lib.hid (svb_new w13 [1] (by decide))
      replace HS := Lib.hid (HS.out.below (below_new _ (.cells #[.int .u8 1] 5)))
      replace HW := Lib.hid (bel0 HW.out (below_new _ (.cells #[.int .u8 1] 5)))
      go_wp2_with fail
      refine (n_p2 HS.out HV.out).mono ?_
      rintro e w14 ⟨rfl, hg, hs⟩
      clear HV
      replace HS := Lib.hid hs
      replace HW := Lib.hid (below_grown HW.out hg HG.out.2.1)
      clear hs hg
      go_wp2_with fail
      refine (n_h3 HS.out (SvB.nil _)).mono ?_
      rintro e w15 ⟨rfl, hb⟩
      replace HS := Lib.hid (HS.out.below hb)
      replace HW := Lib.hid (bel0 HW.out hb)
      clear hb
      have HV := Lib.hid (svb_new w15 [0] (by decide))
      replace HS := Lib.hid (HS.out.below (below_new _ (.cells #[.int .u8 0] 5)))
      replace HW := Lib.hid (bel0 HW.out (below_new _ (.cells #[.int .u8 0] 5)))
      go_wp2_with fail
      refine (n_h4 HS.out HV.out).mono ?_
      rintro e w16 ⟨rfl, hb⟩
      clear HV
      replace HS := Lib.hid (HS.out.below hb)
      replace HW := Lib.hid (bel0 HW.out hb)
      clear hb
      have HV := Lib.hid (svb_new w16 [1] (by decide))
      replace HS := Lib.hid (HS.out.below (below_new _ (.cells #[.int .u8 1] 5)))
      replace HW := Lib.hid (bel0 HW.out (below_new _ (.cells #[.int .u8 1] 5)))
      go_wp2_with fail
      refine (n_p3 HS.out HV.out).mono ?_
      rintro e w17 ⟨rfl, hg, hs⟩
      clear HV
      replace HS := Lib.hid hs
      replace HW := Lib.hid (below_grown HW.out hg HG.out.2.1)
      clear hs hg
      go_wp2_with fail
      refine (works_any _).mono ?_
      rintro e w18 ⟨rfl, hb⟩
      replace HS := Lib.hid (HS.out.below hb)
      replace HW := Lib.hid (bel0 HW.out hb)
      clear hb
      clear HS
      go_wp2
      go_ret
      exact ⟨rfl, HW.out⟩

end Go.Proofs.Ytnnpnklbhghegaa.storeKnown

/- The walk of the statement StoreNew: it answers true, and below its own memory nothing turns. -/
import Derived.Test.YtnnpnklbhghegaaStAlike
namespace Go.Proofs.Ytnnpnklbhghegaa.storeNew
open Go.RowKit Go.Shelf E
set_option linter.unusedVariables false

theorem ix0 (x0 x1 x2 : Int) (w : World) : (Instr.index 39 (.agg #[.int .i64 x0, .int .i64 x1, .int .i64 x2]) (.int .i64 0)).run Try.prog w = .ok (.int .i64 x0) w := by kernel_rfl
theorem ix1 (x0 x1 x2 : Int) (w : World) : (Instr.index 39 (.agg #[.int .i64 x0, .int .i64 x1, .int .i64 x2]) (.int .i64 1)).run Try.prog w = .ok (.int .i64 x1) w := by kernel_rfl
theorem ix2 (x0 x1 x2 : Int) (w : World) : (Instr.index 39 (.agg #[.int .i64 x0, .int .i64 x1, .int .i64 x2]) (.int .i64 2)).run Try.prog w = .ok (.int .i64 x2) w := by kernel_rfl
set_option maxRecDepth 100000 in
set_option maxHeartbeats 4000000 in
theorem walk (z : Int) (b : UInt8) (w : World) (hz : -9223372036854775808 ≤ z ∧ z < 9223372036854775808) : Calls Try.prog 5 #[.int .i64 z, .int .u8 (b.toNat : Int)] w (New w (.bool true)) := by
  have hb8 := b.toNat_lt
  clear hz
  go_enter Try.func5, Try.ntmps5
  go_wp2
  generalize wrap64 (wrap64 (Int.tdiv (wrap64 (Int.tmod (IntKind.u64.wrap z) 100000)) 2048) * 2048) = x2
  generalize (b.toNat : Int) * 1024 = x1
  generalize z = x0
  clear hb8
  go_loopw [6, 7, 8, 9, 21] (fun _ _ _ _ i wr => Below w.heap.size w wr ∧ ∃ j : Nat, j ≤ 3 ∧ i = .int .i64 (j : Int)) (fun _ _ _ _ i _ => 3 - (intOf i).toNat)
  case atStart => exact ⟨Below.refl _ _, 0, Nat.zero_le _, rfl⟩
  case round =>
    obtain ⟨hb, j, hj, rfl⟩ := hrel
    have HB := Lib.hid hb
    clear hb
    rcases (show j = 0 ∨ j = 1 ∨ j = 2 ∨ j = 3 by omega) with rfl | rfl | rfl | rfl
    · have hix := ix0 x0 x1 x2
      by_cases hok : sizeOk x0 = true
      · skip
        obtain ⟨M, hM⟩ : ∃ M, M = x0.toNat / 2048 := ⟨_, rfl⟩
        have HN := Lib.hid (fun W => new_any x0 W hok)
        have HRN := Lib.hid (fun W => rnew_any x0 W hok)
        rw [← hM] at HN HRN
        generalize x0.toNat = N at *
        clear hM hok
        go_wp2_with fail
        refine (HN.out _).mono ?_
        rintro e w1 ⟨a, g, h, rfl, hs, -, -, -, hb1⟩
        have HS := Lib.hid hs
        have HB1 := Lib.hid (bel0 HB.out hb1)
        clear hs hb1
        go_wp2_with fail
        refine (HRN.out _).mono ?_
        rintro e w2 ⟨ra, g2, h2, rfl, hr, -, -, -, hb2⟩
        have HR := Lib.hid hr
        have HS2 := Lib.hid (HS.out.below hb2)
        have HB2 := Lib.hid (bel0 HB1.out hb2)
        clear hr hb2
        go_wp2_with fail
        refine (alike_any a g h N M ra g2 h2 N M _ _ _ HS2.out HR.out).mono ?_
        rintro e w3 ⟨rfl, hb3⟩
        have HB3 := Lib.hid (bel0 HB2.out hb3)
        clear hb3
        go_wp2
        go_roundw
        case rel => exact ⟨HB3.out, 1, by omega, by go_num⟩
        case measure => simp [intOf]
      · skip
        have hno : sizeOk x0 = false := by simpa using hok
        have HN := Lib.hid (fun W => new_no x0 W hno)
        have HRN := Lib.hid (fun W => rnew_no x0 W hno)
        clear hno hok
        go_wp2_with fail
        refine (HN.out _).mono ?_
        rintro e w1 ⟨rfl, rfl⟩
        go_wp2_with fail
        refine (HRN.out _).mono ?_
        rintro e w1 ⟨rfl, rfl⟩
        go_wp2
        go_roundw
        case rel => exact ⟨HB.out, 1, by omega, by go_num⟩
        case measure => simp [intOf]
    · have hix := ix1 x0 x1 x2
      by_cases hok : sizeOk x1 = true
      · skip
        obtain ⟨M, hM⟩ : ∃ M, M = x1.toNat / 2048 := ⟨_, rfl⟩
        have HN := Lib.hid (fun W => new_any x1 W hok)
        have HRN := Lib.hid (fun W => rnew_any x1 W hok)
        rw [← hM] at HN HRN
        generalize x1.toNat = N at *
        clear hM hok
        go_wp2_with fail
        refine (HN.out _).mono ?_
        rintro e w1 ⟨a, g, h, rfl, hs, -, -, -, hb1⟩
        have HS := Lib.hid hs
        have HB1 := Lib.hid (bel0 HB.out hb1)
        clear hs hb1
        go_wp2_with fail
        refine (HRN.out _).mono ?_
        rintro e w2 ⟨ra, g2, h2, rfl, hr, -, -, -, hb2⟩
        have HR := Lib.hid hr
        have HS2 := Lib.hid (HS.out.below hb2)
        have HB2 := Lib.hid (bel0 HB1.out hb2)
        clear hr hb2
        go_wp2_with fail
        refine (alike_any a g h N M ra g2 h2 N M _ _ _ HS2.out HR.out).mono ?_
        rintro e w3 ⟨rfl, hb3⟩
        have HB3 := Lib.hid (bel0 HB2.out hb3)
        clear hb3
        go_wp2
        go_roundw
        case rel => exact ⟨HB3.out, 2, by omega, by go_num⟩
        case measure => simp [intOf]
      · skip
        have hno : sizeOk x1 = false := by simpa using hok
        have HN := Lib.hid (fun W => new_no x1 W hno)
        have HRN := Lib.hid (fun W => rnew_no x1 W hno)
        clear hno hok
        go_wp2_with fail
        refine (HN.out _).mono ?_
        rintro e w1 ⟨rfl, rfl⟩
        go_wp2_with fail
        refine (HRN.out _).mono ?_
        rintro e w1 ⟨rfl, rfl⟩
        go_wp2
        go_roundw
        case rel => exact ⟨HB.out, 2, by omega, by go_num⟩
        case measure => simp [intOf]
    · have hix := ix2 x0 x1 x2
      by_cases hok : sizeOk x2 = true
      · skip
        obtain ⟨M, hM⟩ : ∃ M, M = x2.toNat / 2048 := ⟨_, rfl⟩
        have HN := Lib.hid (fun W => new_any x2 W hok)
        have HRN := Lib.hid (fun W => rnew_any x2 W hok)
        rw [← hM] at HN HRN
        generalize x2.toNat = N at *
        clear hM hok
        go_wp2_with fail
        refine (HN.out _).mono ?_
        rintro e w1 ⟨a, g, h, rfl, hs, -, -, -, hb1⟩
        have HS := Lib.hid hs
        have HB1 := Lib.hid (bel0 HB.out hb1)
        clear hs hb1
        go_wp2_with fail
        refine (HRN.out _).mono ?_
        rintro e w2 ⟨ra, g2, h2, rfl, hr, -, -, -, hb2⟩
        have HR := Lib.hid hr
        have HS2 := Lib.hid (HS.out.below hb2)
        have HB2 := Lib.hid (bel0 HB1.out hb2)
        clear hr hb2
        go_wp2_with fail
        refine (alike_any a g h N M ra g2 h2 N M _ _ _ HS2.out HR.out).mono ?_
        rintro e w3 ⟨rfl, hb3⟩
        have HB3 := Lib.hid (bel0 HB2.out hb3)
        clear hb3
        go_wp2
        go_roundw
        case rel => exact ⟨HB3.out, 3, by omega, by go_num⟩
        case measure => simp [intOf]
      · skip
        have hno : sizeOk x2 = false := by simpa using hok
        have HN := Lib.hid (fun W => new_no x2 W hno)
        have HRN := Lib.hid (fun W => rnew_no x2 W hno)
        clear hno hok
        go_wp2_with fail
        refine (HN.out _).mono ?_
        rintro e w1 ⟨rfl, rfl⟩
        go_wp2_with fail
        refine (HRN.out _).mono ?_
        rintro e w1 ⟨rfl, rfl⟩
        go_wp2
        go_roundw
        case rel => exact ⟨HB.out, 3, by omega, by go_num⟩
        case measure => simp [intOf]
    · go_wp2_with fail
      refine (works_any _).mono ?_
      rintro e w1 ⟨rfl, hb1⟩
      have HB1 := Lib.hid (bel0 HB.out hb1)
      clear hb1
      go_wp2
      go_ret
      exact ⟨rfl, HB1.out⟩

end Go.Proofs.Ytnnpnklbhghegaa.storeNew

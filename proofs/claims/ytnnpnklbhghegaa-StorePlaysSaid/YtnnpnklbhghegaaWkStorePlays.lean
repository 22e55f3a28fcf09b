/- The walk of the statement StorePlays: it answers true, and below its own memory nothing turns. -/
import Derived.Test.YtnnpnklbhghegaaStBoth
namespace Go.Proofs.Ytnnpnklbhghegaa.storePlays
open Go.RowKit Go.Shelf E
set_option linter.unusedVariables false

set_option maxRecDepth 100000 in
set_option maxHeartbeats 4000000 in
theorem walk (z : UInt8) (p : Option Addr) (n c : Nat) (w : World) (ho : OpsR w p n) : Calls Try.prog 3 #[.int .u8 (z.toNat : Int), .slice p n c] w (New w (.bool true)) := by
  obtain ⟨M, hM⟩ : ∃ M, M = 1 + z.toNat % 4 := ⟨_, rfl⟩
  have HM := Lib.hid hM
  have HSZ := Lib.hid (lsize_any z)
  rw [← hM] at HSZ
  have HRN : Hid (∀ W, Calls Try.prog 11 #[.int .i64 ((M * 2048 : Nat) : Int)] W (RNewPost W (M * 2048) M)) := Lib.hid (fun W => by
    have h1 := rnew_any ((M * 2048 : Nat) : Int) W (by unfold sizeOk; exact decide_eq_true ⟨by omega, by omega, by omega⟩)
    rw [show (((M * 2048 : Nat) : Int)).toNat = M * 2048 from rfl, show M * 2048 / 2048 = M by omega] at h1
    exact h1)
  generalize ((M * 2048 : Nat) : Int) = S at HSZ HRN
  clear hM
  have HO := Lib.hid ho
  clear ho
  go_enter Try.func3, Try.ntmps3
  go_wp2_with fail
  refine (make_any z w).mono ?_
  rintro e w1 ⟨a, g, h, rfl, hs, hg1, hg2, hg3, hb1⟩
  have HS := Lib.hid hs
  have HG := Lib.hid (And.intro hg2 hg3)
  have HB1 := Lib.hid hb1
  clear hs hg1 hg2 hg3 hb1
  go_wp2_with fail
  refine (HSZ.out _).mono ?_
  rintro e wx ⟨rfl, rfl⟩
  go_wp2_with fail
  refine (HRN.out _).mono ?_
  rintro e w2 ⟨ra, g2, h2, rfl, hr, -, hg2, hh2, hb2⟩
  have HF : Hid (Fresh w g h g2 h2) := Lib.hid ⟨by have := HG.out.1; omega, by have := HG.out.2; omega, Nat.le_trans HB1.out.size hg2, Nat.le_trans HB1.out.size hh2, Nat.ne_of_lt (Nat.lt_of_lt_of_le HS.out.2.1.lt hg2)⟩
  have HBO : Hid (Both w w2 a g h (M * 2048) M ra g2 h2 (M * 2048) M) := Lib.hid ⟨bel0 HB1.out hb2, _, _, by have h9 := HS.out.below hb2; rw [← HM.out] at h9; exact h9, hr⟩
  clear hr hg2 hh2 hb2 HS HG HB1
  go_wp2
  go_loopw [7] (fun i wr => Both w wr a g h (M * 2048) M ra g2 h2 (M * 2048) M ∧ ∃ j : Nat, j ≤ 60 ∧ i = .int .i64 (j : Int)) (fun i _ => 60 - (intOf i).toNat)
  case atStart => exact ⟨HBO.out, 0, Nat.zero_le _, rfl⟩
  case round =>
    obtain ⟨hb, j, hj, rfl⟩ := hrel
    have HB := Lib.hid hb
    clear hb HBO
    by_cases hlt : j < n ∧ j < 60
    · obtain ⟨B, off, rfl, kd, x, k, key, bv, b, c0, c1, c2, c3, c4, hx, hs⟩ : ∃ B off, p = some ⟨B, off, none⟩ ∧ OpAt w B (off + j * 5) := by
        rcases HO.out with h0 | ⟨B, off, h1, h2⟩
        · omega
        · exact ⟨B, off, h1, h2 j hlt.1⟩
      have HC := Lib.hid (one_of kd x k key bv b HB.out HF.out hx hs)
      have d0 := cell_bel c0 HB.out.1
      have d1 := cell_bel c1 HB.out.1
      have d2 := cell_bel c2 HB.out.1
      have d3 := cell_bel c3 HB.out.1
      have d4 := cell_bel c4 HB.out.1
      have hj1 : (j : Int) < (n : Int) := by omega
      have hj2 : (j : Int) < 60 := by omega
      have hlt2 := hlt.2
      clear c0 c1 c2 c3 c4 hs hlt
      go_wp2_with fail
      refine HC.out.mono ?_
      rintro e w3 ⟨rfl, hb3, -⟩
      have HB3 := Lib.hid hb3
      clear hb3 d0 d1 d2 d3 d4
      go_wp2
      go_roundw
      case rel => exact ⟨HB3.out, j + 1, by omega, by go_num⟩
      case measure => simp [intOf]; omega
    · by_cases hjn : j < n
      · have hj1 : (j : Int) < (n : Int) := by omega
        have hj2 : ¬ (j : Int) < 60 := by omega
        clear hlt
        go_wp2_with fail
        refine (alike_of HB.out).mono ?_
        rintro e w4 ⟨rfl, hb4⟩
        have HB4 := Lib.hid (bel0 HB.out.1 hb4)
        clear hb4
        go_wp2_with fail
        refine (works_any _).mono ?_
        rintro e w5 ⟨rfl, hb5⟩
        have HB5 := Lib.hid (bel0 HB4.out hb5)
        clear hb5
        go_wp2
        go_ret
        exact ⟨rfl, HB5.out⟩
      · have hj1 : ¬ (j : Int) < (n : Int) := by omega
        clear hlt
        go_wp2_with fail
        refine (alike_of HB.out).mono ?_
        rintro e w4 ⟨rfl, hb4⟩
        have HB4 := Lib.hid (bel0 HB.out.1 hb4)
        clear hb4
        go_wp2_with fail
        refine (works_any _).mono ?_
        rintro e w5 ⟨rfl, hb5⟩
        have HB5 := Lib.hid (bel0 HB4.out hb5)
        clear hb5
        go_wp2
        go_ret
        exact ⟨rfl, HB5.out⟩

end Go.Proofs.Ytnnpnklbhghegaa.storePlays

/- The walk of the statement StoreCopies: it answers true, and below its own memory nothing turns. -/
import Derived.Test.YtnnpnklbhghegaaStBoth
namespace Go.Proofs.Ytnnpnklbhghegaa.storeCopies
open Go.RowKit Go.Shelf E
set_option linter.unusedVariables false

/-- Blocks that lie apart from those that a call writes. -/
def Far (w0 : World) (a g h ra g2 h2 : Nat) (l : List Nat) : Prop := (a ∉ l ∧ g ∉ l ∧ h ∉ l ∧ ra ∉ l ∧ g2 ∉ l ∧ h2 ∉ l) ∧ ∀ b, b ∈ l → w0.heap.size ≤ b
theorem Both.kp {w0 wr w' : World} {a g h n m ra g2 h2 c d : Nat} {l : List Nat} (hb : Both w0 wr a g h n m ra g2 h2 c d) (hk : Kp wr w' l) (hf : Far w0 a g h ra g2 h2 l) : Both w0 w' a g h n m ra g2 h2 c d := by
  obtain ⟨h1, bs, ks, h3, h4⟩ := hb
  obtain ⟨⟨f1, f2, f3, f4, f5, f6⟩, f7⟩ := hf
  exact ⟨Kp.below h1 hk f7, bs, ks, h3.kp hk f1 f2 f3, h4.kp hk f4 f5 f6⟩
theorem Both.lt {w0 wr : World} {a g h n m ra g2 h2 c d : Nat} (hb : Both w0 wr a g h n m ra g2 h2 c d) : a < wr.heap.size ∧ g < wr.heap.size ∧ h < wr.heap.size ∧ ra < wr.heap.size ∧ g2 < wr.heap.size ∧ h2 < wr.heap.size := by
  obtain ⟨_, bs, ks, h3, h4⟩ := hb
  exact ⟨h3.1.lt, h3.2.1.lt, h3.2.2.1.lt, h4.1.lt, h4.2.1.lt, h4.2.2.1.lt⟩
theorem copies {w0 w : World} {a g h n m ra g2 h2 c d : Nat} (hb : Both w0 w a g h n m ra g2 h2 c d) : Calls Try.prog 16 #[.pointer (some ⟨a, 0, none⟩)] w fun e w3 => ∃ a3 g3 h3, e = .returned (.pointer (some ⟨a3, 0, none⟩)) ∧ (∃ bs ks, Sto w a g h n m bs ks ∧ Rfs w ra g2 h2 n m c d bs ks ∧ Sto w3 a3 g3 h3 n m bs ks) ∧ (w.heap.size ≤ a3 ∧ w.heap.size ≤ g3 ∧ w.heap.size ≤ h3) ∧ Below w.heap.size w w3 := by
  obtain ⟨h1, bs, ks, h3, h4⟩ := hb
  refine (copy_any a g h n m bs ks w h3).mono ?_
  rintro e w3 ⟨a3, g3, h5, rfl, hs, e1, e2, e3, hb⟩
  exact ⟨a3, g3, h5, rfl, ⟨bs, ks, h3, h4, hs⟩, ⟨e1, e2, e3⟩, hb⟩
/-- Both storages are copied: what is known behind the two copies. -/
def Twice (w0 w w4 : World) (a g h n m ra g2 h2 c d a3 g3 h3 ra4 g4 h4 c4 d4 : Nat) : Prop := Both w0 w4 a g h n m ra g2 h2 c d ∧ Both w0 w4 a3 g3 h3 n m ra4 g4 h4 c4 d4 ∧ Far w0 a g h ra g2 h2 [g3, h3, g4, h4] ∧ Far w0 a3 g3 h3 ra4 g4 h4 [g, h, g2, h2] ∧ Fresh w0 g3 h3 g4 h4
theorem rcopies {w0 w w3 : World} {a g h n m ra g2 h2 c d a3 g3 h3 : Nat} (hB : Below w0.heap.size w0 w) (hf : Fresh w0 g h g2 h2) (hs : ∃ bs ks, Sto w a g h n m bs ks ∧ Rfs w ra g2 h2 n m c d bs ks ∧ Sto w3 a3 g3 h3 n m bs ks) (hn : w.heap.size ≤ a3 ∧ w.heap.size ≤ g3 ∧ w.heap.size ≤ h3) (hb : Below w.heap.size w w3) :
    Calls Try.prog 17 #[.pointer (some ⟨ra, 0, none⟩)] w3 fun e w4 => ∃ ra4 g4 h4 c4 d4, e = .returned (.pointer (some ⟨ra4, 0, none⟩)) ∧ Twice w0 w w4 a g h n m ra g2 h2 c d a3 g3 h3 ra4 g4 h4 c4 d4 := by
  obtain ⟨bs, ks, s1, r1, s3⟩ := hs
  refine (rcopy_any ra g2 h2 n m c d bs ks w3 (r1.below hb)).mono ?_
  rintro e w4 ⟨ra4, g4, h4, c4, d4, rfl, r4, e1, e2, e3, hb4⟩
  have k1 := s1.1.lt
  have k2 := s1.2.1.lt
  have k3 := s1.2.2.1.lt
  have k4 := r1.1.lt
  have k5 := r1.2.1.lt
  have k6 := r1.2.2.1.lt
  have z := hb.size
  have z0 := hB.size
  have q1 := s3.1.lt
  have q2 := s3.2.1.lt
  have q3 := s3.2.2.1.lt
  obtain ⟨n1, n2, n3⟩ := hn
  obtain ⟨f1, f2, f3, f4, f5⟩ := hf
  refine ⟨ra4, g4, h4, c4, d4, rfl, ⟨bel0 (bel0 hB hb) hb4, bs, ks, (s1.below hb).below hb4, (r1.below hb).below hb4⟩, ⟨bel0 (bel0 hB hb) hb4, bs, ks, s3.below hb4, r4⟩, ⟨⟨?_, ?_, ?_, ?_, ?_, ?_⟩, ?_⟩, ⟨⟨?_, ?_, ?_, ?_, ?_, ?_⟩, ?_⟩, ⟨?_, ?_, ?_, ?_, ?_⟩⟩
  all_goals first
    | omega
    | (intro hm; simp at hm; omega)
    | (intro b hm; simp at hm; omega)
set_option maxRecDepth 100000 in
set_option maxHeartbeats 8000000 in
theorem walk (z : UInt8) (p1 : Option Addr) (n1 k1 : Nat) (p2 : Option Addr) (n2 k2 : Nat) (p3 : Option Addr) (n3 k3 : Nat) (w : World) (ho1 : OpsR w p1 n1) (ho2 : OpsR w p2 n2) (ho3 : OpsR w p3 n3) : Calls Try.prog 4 #[.int .u8 (z.toNat : Int), .slice p1 n1 k1, .slice p2 n2 k2, .slice p3 n3 k3] w (New w (.bool true)) := by
  obtain ⟨M, hM⟩ : ∃ M, M = 1 + z.toNat % 4 := ⟨_, rfl⟩
  have HM := Lib.hid hM
  have HSZ := Lib.hid (lsize_any z)
  rw [← hM] at HSZ
  have HRN : Hid (∀ W, Calls Try.prog 11 #[.int .i64 ((M * 2048 : Nat) : Int)] W (RNewPost W (M * 2048) M)) := Lib.hid (fun W => by
    have h1 := rnew_any ((M * 2048 : Nat) : Int) W (by unfold sizeOk; exact decide_eq_true ⟨by omega, by omega, by omega⟩)
    rw [show (((M * 2048 : Nat) : Int)).toNat = M * 2048 from rfl, show M * 2048 / 2048 = M by omega] at h1
    exact h1)
  generalize ((M * 2048 : Nat) : Int) = S at HSZ HRN
  clear hM
  have HO := Lib.hid ho1
  have HO2 := Lib.hid ho2
  have HO3 := Lib.hid ho3
  clear ho1 ho2 ho3
  go_enter Try.func4, Try.ntmps4
  go_wp2_with fail
  refine (make_any z w).mono ?_
  rintro e w1 ⟨a, g, h, rfl, hs, hg1, hg2, hg3, hb1⟩
  have HS := Lib.hid hs
  have HG := Lib.hid (And.intro hg2 hg3)
  have HB1 := Lib.hid hb1
  clear hs hg1 hg2 hg3 hb1
  go_wp2_with fail
  refine (HSZ.out _).mono ?_
  rintro e wx ⟨rfl, rfl⟩
  go_wp2_with fail
  refine (HRN.out _).mono ?_
  rintro e w2 ⟨ra, g2, h2, rfl, hr, -, hg2, hh2, hb2⟩
  have HF : Hid (Fresh w g h g2 h2) := Lib.hid ⟨by have := HG.out.1; omega, by have := HG.out.2; omega, Nat.le_trans HB1.out.size hg2, Nat.le_trans HB1.out.size hh2, Nat.ne_of_lt (Nat.lt_of_lt_of_le HS.out.2.1.lt hg2)⟩
  have HBO : Hid (Both w w2 a g h (M * 2048) M ra g2 h2 (M * 2048) M) := Lib.hid ⟨bel0 HB1.out hb2, _, _, by have h9 := HS.out.below hb2; rw [← HM.out] at h9; exact h9, hr⟩
  clear hr hg2 hh2 hb2 HS HG HB1
  go_wp2
  go_loopw [11] (fun i wr => Both w wr a g h (M * 2048) M ra g2 h2 (M * 2048) M ∧ ∃ j : Nat, j ≤ 30 ∧ i = .int .i64 (j : Int)) (fun i _ => 30 - (intOf i).toNat)
  case atStart => exact ⟨HBO.out, 0, Nat.zero_le _, rfl⟩
  case round =>
    obtain ⟨hb, j, hj, rfl⟩ := hrel
    have HB := Lib.hid hb
    clear hb HBO
    by_cases hlt : j < n1 ∧ j < 30
    · obtain ⟨B, off, rfl, kd, x, k, key, bv, b, c0, c1, c2, c3, c4, hx, hs⟩ : ∃ B off, p1 = some ⟨B, off, none⟩ ∧ OpAt w B (off + j * 5) := by
        rcases HO.out with h0 | ⟨B, off, h1, h2⟩
        · omega
        · exact ⟨B, off, h1, h2 j hlt.1⟩
      have HC := Lib.hid (one_of kd x k key bv b HB.out HF.out hx hs)
      have d0 := cell_bel c0 HB.out.1
      have d1 := cell_bel c1 HB.out.1
      have d2 := cell_bel c2 HB.out.1
      have d3 := cell_bel c3 HB.out.1
      have d4 := cell_bel c4 HB.out.1
      have hj1 : (j : Int) < (n1 : Int) := by omega
      have hj2 : (j : Int) < 30 := by omega
      have hlt2 := hlt.2
      clear c0 c1 c2 c3 c4 hs hlt
      go_wp2_with fail
      refine HC.out.mono ?_
      rintro e w3 ⟨rfl, hb3, -⟩
      have HB3 := Lib.hid hb3
      clear hb3 d0 d1 d2 d3 d4
      go_wp2
      go_roundw
      case rel => exact ⟨HB3.out, j + 1, by omega, by go_num⟩
      case measure => simp [intOf]; omega
    · by_cases hjn : j < n1
      · have hj1 : (j : Int) < (n1 : Int) := by omega
        have hj2 : ¬ (j : Int) < 30 := by omega
        clear hlt
        go_wp2_with fail
        refine (copies HB.out).mono ?_
        rintro e w3 ⟨a3, g3, h3, rfl, hs3, hn3, hb3⟩
        have HRC := Lib.hid (rcopies HB.out.1 HF.out hs3 hn3 hb3)
        clear hs3 hn3 hb3
        go_wp2_with fail
        refine HRC.out.mono ?_
        rintro e w4 ⟨ra4, g4, h4, c4, d4, rfl, ht⟩
        have HT4 := Lib.hid ht
        clear ht HRC HB
        go_wp2_with fail
        refine (alike_of HT4.out.2.1).mono ?_
        rintro e w5 ⟨rfl, hb5⟩
        have HB5 := Lib.hid (HT4.out.1.below hb5)
        have HT5 := Lib.hid (HT4.out.2.1.below hb5)
        have HFAR := Lib.hid (And.intro HT4.out.2.2.1 HT4.out.2.2.2.1)
        have HF2 := Lib.hid HT4.out.2.2.2.2
        clear hb5 HT4
        go_wp2
        go_loopw [14] (fun i wr => Both w wr a g h (M * 2048) M ra g2 h2 (M * 2048) M ∧ Both w wr a3 g3 h3 (M * 2048) M ra4 g4 h4 c4 d4 ∧ ∃ j : Nat, j ≤ 30 ∧ i = .int .i64 (j : Int)) (fun i _ => 30 - (intOf i).toNat)
        case atStart => exact ⟨HB5.out, HT5.out, 0, Nat.zero_le _, rfl⟩
        case round =>
          obtain ⟨hb, ht, j, hj, rfl⟩ := hrel
          clear HB5 HT5
          have HB := Lib.hid hb
          have HT := Lib.hid ht
          clear hb ht
          by_cases hlt : j < 30
          · have hj30 : (j : Int) < 30 := by omega
            by_cases hlt1 : j < n2
            · by_cases hlt2 : j < n3
              · skip
                obtain ⟨uB, uoff, rfl, ukd, ux, uk, ukey, ubv, ub, u0, u1, u2, u3, u4, uhx, uhs⟩ : ∃ B off, p2 = some ⟨B, off, none⟩ ∧ OpAt w B (off + j * 5) := by
                  rcases HO2.out with h0 | ⟨B, off, h1, h2⟩
                  · omega
                  · exact ⟨B, off, h1, h2 j hlt1⟩
                have HC1 := Lib.hid (one_of ukd ux uk ukey ubv ub HB.out HF.out uhx uhs)
                have e0 := cell_bel u0 HB.out.1
                have e1 := cell_bel u1 HB.out.1
                have e2 := cell_bel u2 HB.out.1
                have e3 := cell_bel u3 HB.out.1
                have e4 := cell_bel u4 HB.out.1
                have hj1 : (j : Int) < (n2 : Int) := by omega
                clear u0 u1 u2 u3 u4
                obtain ⟨vB, voff, rfl, vkd, vx, vk, vkey, vbv, vb, v0, v1, v2, v3, v4, vhx, vhs⟩ : ∃ B off, p3 = some ⟨B, off, none⟩ ∧ OpAt w B (off + j * 5) := by
                  rcases HO3.out with h0 | ⟨B, off, h1, h2⟩
                  · omega
                  · exact ⟨B, off, h1, h2 j hlt2⟩
                have f0 := cell_bel v0 HB.out.1
                have f1 := cell_bel v1 HB.out.1
                have f2 := cell_bel v2 HB.out.1
                have f3 := cell_bel v3 HB.out.1
                have f4 := cell_bel v4 HB.out.1
                have hj2 : (j : Int) < (n3 : Int) := by omega
                clear hlt1 hlt2
                go_wp2_with fail
                refine HC1.out.mono ?_
                rintro e w5 ⟨rfl, hb5, hk5⟩
                have HB5 := Lib.hid hb5
                have HT5 := Lib.hid (Both.kp HT.out hk5 HFAR.out.2)
                clear f0 f1 f2 f3 f4
                have HW5 := Lib.hid hb5.1
                clear hb5 hk5 e0 e1 e2 e3 e4 HC1
                have f0 := cell_bel v0 HB5.out.1
                have f1 := cell_bel v1 HB5.out.1
                have f2 := cell_bel v2 HB5.out.1
                have f3 := cell_bel v3 HB5.out.1
                have f4 := cell_bel v4 HB5.out.1
                clear v0 v1 v2 v3 v4
                have HC2 := Lib.hid (one_of vkd vx vk vkey vbv vb HT5.out HF2.out vhx vhs)
                go_wp2_with fail
                refine HC2.out.mono ?_
                rintro e w6 ⟨rfl, hb6, hk6⟩
                have HT6 := Lib.hid hb6
                have HB6 := Lib.hid (Both.kp HB5.out hk6 HFAR.out.1)
                clear hb6 hk6 f0 f1 f2 f3 f4 HC2
                go_wp2
                go_roundw
                case rel => exact ⟨HB6.out, HT6.out, j + 1, by omega, by go_num⟩
                case measure => simp [intOf]; omega
              · skip
                obtain ⟨uB, uoff, rfl, ukd, ux, uk, ukey, ubv, ub, u0, u1, u2, u3, u4, uhx, uhs⟩ : ∃ B off, p2 = some ⟨B, off, none⟩ ∧ OpAt w B (off + j * 5) := by
                  rcases HO2.out with h0 | ⟨B, off, h1, h2⟩
                  · omega
                  · exact ⟨B, off, h1, h2 j hlt1⟩
                have HC1 := Lib.hid (one_of ukd ux uk ukey ubv ub HB.out HF.out uhx uhs)
                have e0 := cell_bel u0 HB.out.1
                have e1 := cell_bel u1 HB.out.1
                have e2 := cell_bel u2 HB.out.1
                have e3 := cell_bel u3 HB.out.1
                have e4 := cell_bel u4 HB.out.1
                have hj1 : (j : Int) < (n2 : Int) := by omega
                clear u0 u1 u2 u3 u4
                have hj2 : ¬ (j : Int) < (n3 : Int) := by omega
                clear hlt1 hlt2
                go_wp2_with fail
                refine HC1.out.mono ?_
                rintro e w5 ⟨rfl, hb5, hk5⟩
                have HB5 := Lib.hid hb5
                have HT5 := Lib.hid (Both.kp HT.out hk5 HFAR.out.2)
                clear hb5 hk5 e0 e1 e2 e3 e4 HC1
                go_wp2
                go_roundw
                case rel => exact ⟨HB5.out, HT5.out, j + 1, by omega, by go_num⟩
                case measure => simp [intOf]; omega
            · by_cases hlt2 : j < n3
              · skip
                have hj1 : ¬ (j : Int) < (n2 : Int) := by omega
                obtain ⟨vB, voff, rfl, vkd, vx, vk, vkey, vbv, vb, v0, v1, v2, v3, v4, vhx, vhs⟩ : ∃ B off, p3 = some ⟨B, off, none⟩ ∧ OpAt w B (off + j * 5) := by
                  rcases HO3.out with h0 | ⟨B, off, h1, h2⟩
                  · omega
                  · exact ⟨B, off, h1, h2 j hlt2⟩
                have f0 := cell_bel v0 HB.out.1
                have f1 := cell_bel v1 HB.out.1
                have f2 := cell_bel v2 HB.out.1
                have f3 := cell_bel v3 HB.out.1
                have f4 := cell_bel v4 HB.out.1
                have hj2 : (j : Int) < (n3 : Int) := by omega
                clear v0 v1 v2 v3 v4
                clear hlt1 hlt2
                have HC2 := Lib.hid (one_of vkd vx vk vkey vbv vb HT.out HF2.out vhx vhs)
                go_wp2_with fail
                refine HC2.out.mono ?_
                rintro e w6 ⟨rfl, hb6, hk6⟩
                have HT6 := Lib.hid hb6
                have HB6 := Lib.hid (Both.kp HB.out hk6 HFAR.out.1)
                clear hb6 hk6 f0 f1 f2 f3 f4 HC2
                go_wp2
                go_roundw
                case rel => exact ⟨HB6.out, HT6.out, j + 1, by omega, by go_num⟩
                case measure => simp [intOf]; omega
              · skip
                have hj1 : ¬ (j : Int) < (n2 : Int) := by omega
                have hj2 : ¬ (j : Int) < (n3 : Int) := by omega
                clear hlt1 hlt2
                go_wp2
                go_roundw
                case rel => exact ⟨HB.out, HT.out, j + 1, by omega, by go_num⟩
                case measure => simp [intOf]; omega
          · have hj30 : ¬ (j : Int) < 30 := by omega
            clear hlt
            go_wp2_with fail
            refine (alike_of HB.out).mono ?_
            rintro e w6 ⟨rfl, hb6⟩
            have HT6 := Lib.hid (HT.out.below hb6)
            clear hb6
            go_wp2_with fail
            refine (alike_of HT6.out).mono ?_
            rintro e w7 ⟨rfl, hb7⟩
            have HW7 := Lib.hid (bel0 HT6.out.1 hb7)
            clear hb7
            go_wp2_with fail
            refine (works_any _).mono ?_
            rintro e w8 ⟨rfl, hb8⟩
            have HW8 := Lib.hid (bel0 HW7.out hb8)
            clear hb8
            go_wp2
            go_ret
            exact ⟨rfl, HW8.out⟩
      · have hj1 : ¬ (j : Int) < (n1 : Int) := by omega
        clear hlt
        go_wp2_with fail
        refine (copies HB.out).mono ?_
        rintro e w3 ⟨a3, g3, h3, rfl, hs3, hn3, hb3⟩
        have HRC := Lib.hid (rcopies HB.out.1 HF.out hs3 hn3 hb3)
        clear hs3 hn3 hb3
        go_wp2_with fail
        refine HRC.out.mono ?_
        rintro e w4 ⟨ra4, g4, h4, c4, d4, rfl, ht⟩
        have HT4 := Lib.hid ht
        clear ht HRC HB
        go_wp2_with fail
        refine (alike_of HT4.out.2.1).mono ?_
        rintro e w5 ⟨rfl, hb5⟩
        have HB5 := Lib.hid (HT4.out.1.below hb5)
        have HT5 := Lib.hid (HT4.out.2.1.below hb5)
        have HFAR := Lib.hid (And.intro HT4.out.2.2.1 HT4.out.2.2.2.1)
        have HF2 := Lib.hid HT4.out.2.2.2.2
        clear hb5 HT4
        go_wp2
        go_loopw [14] (fun i wr => Both w wr a g h (M * 2048) M ra g2 h2 (M * 2048) M ∧ Both w wr a3 g3 h3 (M * 2048) M ra4 g4 h4 c4 d4 ∧ ∃ j : Nat, j ≤ 30 ∧ i = .int .i64 (j : Int)) (fun i _ => 30 - (intOf i).toNat)
        case atStart => exact ⟨HB5.out, HT5.out, 0, Nat.zero_le _, rfl⟩
        case round =>
          obtain ⟨hb, ht, j, hj, rfl⟩ := hrel
          clear HB5 HT5
          have HB := Lib.hid hb
          have HT := Lib.hid ht
          clear hb ht
          by_cases hlt : j < 30
          · have hj30 : (j : Int) < 30 := by omega
            by_cases hlt1 : j < n2
            · by_cases hlt2 : j < n3
              · skip
                obtain ⟨uB, uoff, rfl, ukd, ux, uk, ukey, ubv, ub, u0, u1, u2, u3, u4, uhx, uhs⟩ : ∃ B off, p2 = some ⟨B, off, none⟩ ∧ OpAt w B (off + j * 5) := by
                  rcases HO2.out with h0 | ⟨B, off, h1, h2⟩
                  · omega
                  · exact ⟨B, off, h1, h2 j hlt1⟩
                have HC1 := Lib.hid (one_of ukd ux uk ukey ubv ub HB.out HF.out uhx uhs)
                have e0 := cell_bel u0 HB.out.1
                have e1 := cell_bel u1 HB.out.1
                have e2 := cell_bel u2 HB.out.1
                have e3 := cell_bel u3 HB.out.1
                have e4 := cell_bel u4 HB.out.1
                have hj1 : (j : Int) < (n2 : Int) := by omega
                clear u0 u1 u2 u3 u4
                obtain ⟨vB, voff, rfl, vkd, vx, vk, vkey, vbv, vb, v0, v1, v2, v3, v4, vhx, vhs⟩ : ∃ B off, p3 = some ⟨B, off, none⟩ ∧ OpAt w B (off + j * 5) := by
                  rcases HO3.out with h0 | ⟨B, off, h1, h2⟩
                  · omega
                  · exact ⟨B, off, h1, h2 j hlt2⟩
                have f0 := cell_bel v0 HB.out.1
                have f1 := cell_bel v1 HB.out.1
                have f2 := cell_bel v2 HB.out.1
                have f3 := cell_bel v3 HB.out.1
                have f4 := cell_bel v4 HB.out.1
                have hj2 : (j : Int) < (n3 : Int) := by omega
                clear hlt1 hlt2
                go_wp2_with fail
                refine HC1.out.mono ?_
                rintro e w5 ⟨rfl, hb5, hk5⟩
                have HB5 := Lib.hid hb5
                have HT5 := Lib.hid (Both.kp HT.out hk5 HFAR.out.2)
                clear f0 f1 f2 f3 f4
                have HW5 := Lib.hid hb5.1
                clear hb5 hk5 e0 e1 e2 e3 e4 HC1
                have f0 := cell_bel v0 HB5.out.1
                have f1 := cell_bel v1 HB5.out.1
                have f2 := cell_bel v2 HB5.out.1
                have f3 := cell_bel v3 HB5.out.1
                have f4 := cell_bel v4 HB5.out.1
                clear v0 v1 v2 v3 v4
                have HC2 := Lib.hid (one_of vkd vx vk vkey vbv vb HT5.out HF2.out vhx vhs)
                go_wp2_with fail
                refine HC2.out.mono ?_
                rintro e w6 ⟨rfl, hb6, hk6⟩
                have HT6 := Lib.hid hb6
                have HB6 := Lib.hid (Both.kp HB5.out hk6 HFAR.out.1)
                clear hb6 hk6 f0 f1 f2 f3 f4 HC2
                go_wp2
                go_roundw
                case rel => exact ⟨HB6.out, HT6.out, j + 1, by omega, by go_num⟩
                case measure => simp [intOf]; omega
              · skip
                obtain ⟨uB, uoff, rfl, ukd, ux, uk, ukey, ubv, ub, u0, u1, u2, u3, u4, uhx, uhs⟩ : ∃ B off, p2 = some ⟨B, off, none⟩ ∧ OpAt w B (off + j * 5) := by
                  rcases HO2.out with h0 | ⟨B, off, h1, h2⟩
                  · omega
                  · exact ⟨B, off, h1, h2 j hlt1⟩
                have HC1 := Lib.hid (one_of ukd ux uk ukey ubv ub HB.out HF.out uhx uhs)
                have e0 := cell_bel u0 HB.out.1
                have e1 := cell_bel u1 HB.out.1
                have e2 := cell_bel u2 HB.out.1
                have e3 := cell_bel u3 HB.out.1
                have e4 := cell_bel u4 HB.out.1
                have hj1 : (j : Int) < (n2 : Int) := by omega
                clear u0 u1 u2 u3 u4
                have hj2 : ¬ (j : Int) < (n3 : Int) := by omega
                clear hlt1 hlt2
                go_wp2_with fail
                refine HC1.out.mono ?_
                rintro e w5 ⟨rfl, hb5, hk5⟩
                have HB5 := Lib.hid hb5
                have HT5 := Lib.hid (Both.kp HT.out hk5 HFAR.out.2)
                clear hb5 hk5 e0 e1 e2 e3 e4 HC1
                go_wp2
                go_roundw
                case rel => exact ⟨HB5.out, HT5.out, j + 1, by omega, by go_num⟩
                case measure => simp [intOf]; omega
            · by_cases hlt2 : j < n3
              · skip
                have hj1 : ¬ (j : Int) < (n2 : Int) := by omega
                obtain ⟨vB, voff, rfl, vkd, vx, vk, vkey, vbv, vb, v0, v1, v2, v3, v4, vhx, vhs⟩ : ∃ B off, p3 = some ⟨B, off, none⟩ ∧ OpAt w B (off + j * 5) := by
                  rcases HO3.out with h0 | ⟨B, off, h1, h2⟩
                  · omega
                  · exact ⟨B, off, h1, h2 j hlt2⟩
                have f0 := cell_bel v0 HB.out.1
                have f1 := cell_bel v1 HB.out.1
                have f2 := cell_bel v2 HB.out.1
                have f3 := cell_bel v3 HB.out.1
                have f4 := cell_bel v4 HB.out.1
                have hj2 : (j : Int) < (n3 : Int) := by omega
                clear v0 v1 v2 v3 v4
                clear hlt1 hlt2
                have HC2 := Lib.hid (one_of vkd vx vk vkey vbv vb HT.out HF2.out vhx vhs)
                go_wp2_with fail
                refine HC2.out.mono ?_
                rintro e w6 ⟨rfl, hb6, hk6⟩
                have HT6 := Lib.hid hb6
                have HB6 := Lib.hid (Both.kp HB.out hk6 HFAR.out.1)
                clear hb6 hk6 f0 f1 f2 f3 f4 HC2
                go_wp2
                go_roundw
                case rel => exact ⟨HB6.out, HT6.out, j + 1, by omega, by go_num⟩
                case measure => simp [intOf]; omega
              · skip
                have hj1 : ¬ (j : Int) < (n2 : Int) := by omega
                have hj2 : ¬ (j : Int) < (n3 : Int) := by omega
                clear hlt1 hlt2
                go_wp2
                go_roundw
                case rel => exact ⟨HB.out, HT.out, j + 1, by omega, by go_num⟩
                case measure => simp [intOf]; omega
          · have hj30 : ¬ (j : Int) < 30 := by omega
            clear hlt
            go_wp2_with fail
            refine (alike_of HB.out).mono ?_
            rintro e w6 ⟨rfl, hb6⟩
            have HT6 := Lib.hid (HT.out.below hb6)
            clear hb6
            go_wp2_with fail
            refine (alike_of HT6.out).mono ?_
            rintro e w7 ⟨rfl, hb7⟩
            have HW7 := Lib.hid (bel0 HT6.out.1 hb7)
            clear hb7
            go_wp2_with fail
            refine (works_any _).mono ?_
            rintro e w8 ⟨rfl, hb8⟩
            have HW8 := Lib.hid (bel0 HW7.out hb8)
            clear hb8
            go_wp2
            go_ret
            exact ⟨rfl, HW8.out⟩

end Go.Proofs.Ytnnpnklbhghegaa.storeCopies

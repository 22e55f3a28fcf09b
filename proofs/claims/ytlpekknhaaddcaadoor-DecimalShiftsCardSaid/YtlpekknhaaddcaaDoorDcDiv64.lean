/- The contract of math/bits.Div64: the school's division of a double word by a word. -/
import Derived.Test.YtlpekknhaaddcaaDoorDcBits
import Derived.Test.YtlpekknhaaddcaaDoorDcDiv
import Derived.Deep.CutBlock
import Derived.Deep.CutRange
import Derived.Deep.DeepCutAuto
namespace Go.Proofs.YtlpekknhaaddcaaDoor
open Go.RowKit
set_option linter.unusedVariables false
namespace E

/-- Quotient and remainder of the double word. -/
def DivPost (w : World) (n y : Nat) (e : Ending) (w' : World) : Prop := ∃ m, e = .returned (.tuple #[.int .u64 ((n / y : Nat) : Int), .int .u64 ((n % y : Nat) : Int)]) ∧ w' = w.drewN m
theorem div64_zero (lo y : Nat) (w : World) (h0 : 0 < y) (h1 : y < 18446744073709551616) (h2 : lo < 18446744073709551616) :
    Calls Tryd.prog 75 #[.int .u64 0, .int .u64 (lo : Int), .int .u64 (y : Int)] w (DivPost w lo y) := by
  have e1 : ((y : Int) == 0) = false := by simp; omega
  have i0 : (0 : Int) < (y : Int) := by omega
  go_enter Tryd.func75, Tryd.ntmps75
  go_wp2
  go_quiet (fail)
  go_wp2
  have hq : lo / y < 18446744073709551616 := Nat.lt_of_le_of_lt (Nat.div_le_self _ _) h2
  have e2 : IntKind.u64.wrap ((lo : Int) / (y : Int)) = ((lo / y : Nat) : Int) := by
    rw [← Int.natCast_ediv]
    exact wrapN _ hq
  have e3 : (lo : Int) % (y : Int) = ((lo % y : Nat) : Int) := by rw [Int.natCast_emod]
  rw [e2, e3]
  go_ret2
  exact ⟨_, rfl, rfl⟩
set_option maxRecDepth 100000 in
set_option maxHeartbeats 4000000 in
theorem div64_yes (hi lo y : Nat) (w : World) (h0 : 0 < hi) (h1 : y < 18446744073709551616) (h2 : lo < 18446744073709551616) (h3 : hi < y) :
    Calls Tryd.prog 75 #[.int .u64 (hi : Int), .int .u64 (lo : Int), .int .u64 (y : Int)] w (DivPost w (hi * 18446744073709551616 + lo) y) := by
  have e1 : ((y : Int) == 0) = false := by simp; omega
  have e2 : ((hi : Int) == 0) = false := by simp; omega
  have e3 : decide ((y : Int) ≤ (hi : Int)) = false := by simp; omega
  obtain ⟨f1, f2, f3⟩ := lz_fit (y := y) (by omega) h1
  have HL := Lib.hid (fun W => lead_any y W (by omega) h1)
  have f0 := lz_le y
  generalize lz y = s at *
  obtain ⟨Y, hY⟩ : ∃ Y, Y = y * 2 ^ s := ⟨_, rfl⟩
  rw [← hY] at f2 f3
  have g1 : IntKind.u64.wrap ((y : Int) * 2 ^ s) = (Y : Int) := by
    rw [show (y : Int) * 2 ^ s = (Y : Int) by rw [hY]; push_cast; rfl]
    exact wrapN _ f2
  obtain ⟨v1, hv1⟩ : ∃ v1, v1 = Y / 4294967296 := ⟨_, rfl⟩
  obtain ⟨v0, hv0⟩ : ∃ v0, v0 = Y % 4294967296 := ⟨_, rfl⟩
  have g2 : (Y : Int) / 4294967296 = (v1 : Int) := by omega
  have g3 : bits .and .u64 (Y : Int) 4294967295 = (v0 : Int) := by rw [maskN Y f2, hv0]
  have k1 : 2147483648 ≤ v1 := by omega
  have k2 : v1 < 4294967296 := by omega
  have k3 : v0 < 4294967296 := by omega
  obtain ⟨b1, b2, b3, b4⟩ := shift_parts hi lo y s f1 h2 h3 (by rw [← hY]; exact f2)
  rw [← hY] at b3
  have hor := or_parts hi s (lo / 2 ^ (64 - s)) b2
  obtain ⟨H, hH⟩ : ∃ H, H = hi * 2 ^ s := ⟨_, rfl⟩
  obtain ⟨l1, hl1⟩ : ∃ l1, l1 = lo / 2 ^ (64 - s) := ⟨_, rfl⟩
  obtain ⟨L, hL⟩ : ∃ L, L = lo * 2 ^ s % 18446744073709551616 := ⟨_, rfl⟩
  have g4 : IntKind.u64.wrap ((hi : Int) * 2 ^ s) = (H : Int) := by
    rw [show (hi : Int) * 2 ^ s = (H : Int) by rw [hH]; push_cast; rfl]
    exact wrapN _ (by rw [hH]; exact b1)
  have g5 : (lo : Int) / 2 ^ (64 - s) = (l1 : Int) := by rw [hl1]; push_cast; rfl
  have g6 : IntKind.u64.wrap ((lo : Int) * 2 ^ s) = (L : Int) := by
    rw [show (lo : Int) * 2 ^ s = ((lo * 2 ^ s : Nat) : Int) by push_cast; rfl, wrapM, hL]
  rw [← hH, ← hl1] at hor b3 b4
  rw [← hL] at b4
  rw [← hH] at b1
  obtain ⟨u, hu⟩ : ∃ u, u = H + l1 := ⟨_, rfl⟩
  rw [← hu] at hor b3 b4
  have hLlt : L < 18446744073709551616 := by omega
  have g7 : bits .or .u64 (H : Int) (l1 : Int) = (u : Int) := by
    rw [bits_or_u64_nat H l1 b1 (by omega), hor]
  obtain ⟨d1, hd1⟩ : ∃ d1, d1 = L / 4294967296 := ⟨_, rfl⟩
  obtain ⟨d0, hd0⟩ : ∃ d0, d0 = L % 4294967296 := ⟨_, rfl⟩
  have g8 : (L : Int) / 4294967296 = (d1 : Int) := by omega
  have g9 : bits .and .u64 (L : Int) 4294967295 = (d0 : Int) := by rw [maskN L hLlt, hd0]
  have d1lt : d1 < 4294967296 := by omega
  have d0lt : d0 < 4294967296 := by omega
  have hv : Y = v1 * 4294967296 + v0 := by omega
  have vpos : 0 < Y := by omega
  have ult : u < Y := b3
  have u64 : u < 18446744073709551616 := by omega
  obtain ⟨q1, hq1⟩ : ∃ q1, q1 = (u * 4294967296 + d1) / Y := ⟨_, rfl⟩
  obtain ⟨R1, hR1⟩ : ∃ R1, R1 = (u * 4294967296 + d1) % Y := ⟨_, rfl⟩
  have R1lt : R1 < Y := by rw [hR1]; exact Nat.mod_lt _ vpos
  have R64 : R1 < 18446744073709551616 := by omega
  obtain ⟨q0, hq0⟩ : ∃ q0, q0 = (R1 * 4294967296 + d0) / Y := ⟨_, rfl⟩
  obtain ⟨R0, hR0⟩ : ∃ R0, R0 = (R1 * 4294967296 + d0) % Y := ⟨_, rfl⟩
  have q1lt : q1 < 4294967296 := by rw [hq1]; exact k_lt ult d1lt
  have q0lt : q0 < 4294967296 := by rw [hq0]; exact k_lt R1lt d0lt
  have R0lt : R0 < 18446744073709551616 := by
    have : R0 < Y := by rw [hR0]; exact Nat.mod_lt _ vpos
    omega
  -- the quotients' first guesses
  obtain ⟨G1, hG1⟩ : ∃ G1, G1 = u / v1 := ⟨_, rfl⟩
  obtain ⟨T1, hT1⟩ : ∃ T1, T1 = u % v1 := ⟨_, rfl⟩
  obtain ⟨P1, hP1⟩ : ∃ P1, P1 = G1 * v1 := ⟨_, rfl⟩
  have m1 : (u : Int) / (v1 : Int) = (G1 : Int) := by rw [hG1]; push_cast; rfl
  have m2 : (G1 : Int) * (v1 : Int) = (P1 : Int) := by rw [hP1]; push_cast; rfl
  have dm1 : P1 + T1 = u := by rw [hP1, hG1, hT1, Nat.mul_comm]; exact Nat.div_add_mod u v1
  have T1lt : T1 < v1 := by rw [hT1]; exact Nat.mod_lt _ (by omega)
  have m3 : (u : Int) - (P1 : Int) = (T1 : Int) := by omega
  have G1le : G1 ≤ u := by rw [hG1]; exact Nat.div_le_self _ _
  have st1 : q1 ≤ G1 := by rw [hq1, hG1]; exact k_start hv (by omega) d1lt
  have id1 : G1 * v1 + T1 = u := by rw [← hP1]; exact dm1
  obtain ⟨G0, hG0⟩ : ∃ G0, G0 = R1 / v1 := ⟨_, rfl⟩
  obtain ⟨T0, hT0⟩ : ∃ T0, T0 = R1 % v1 := ⟨_, rfl⟩
  obtain ⟨P0, hP0⟩ : ∃ P0, P0 = G0 * v1 := ⟨_, rfl⟩
  have n1 : (R1 : Int) / (v1 : Int) = (G0 : Int) := by rw [hG0]; push_cast; rfl
  have n2 : (G0 : Int) * (v1 : Int) = (P0 : Int) := by rw [hP0]; push_cast; rfl
  have dm0 : P0 + T0 = R1 := by rw [hP0, hG0, hT0, Nat.mul_comm]; exact Nat.div_add_mod R1 v1
  have T0lt : T0 < v1 := by rw [hT0]; exact Nat.mod_lt _ (by omega)
  have n3 : (R1 : Int) - (P0 : Int) = (T0 : Int) := by omega
  have G0le : G0 ≤ R1 := by rw [hG0]; exact Nat.div_le_self _ _
  have st0 : q0 ≤ G0 := by rw [hq0, hG0]; exact k_start hv (by omega) d0lt
  have id0 : G0 * v1 + T0 = R1 := by rw [← hP0]; exact dm0
  -- what is left of each step
  have w1 : IntKind.u64.wrap (IntKind.u64.wrap (IntKind.u64.wrap ((u : Int) * 4294967296) + (d1 : Int)) - IntKind.u64.wrap ((q1 : Int) * (Y : Int))) = (R1 : Int) := by
    have h := Nat.div_add_mod (u * 4294967296 + d1) Y
    rw [← hq1, ← hR1, Nat.mul_comm] at h
    have h' : (q1 : Int) * (Y : Int) + (R1 : Int) = (u : Int) * 4294967296 + (d1 : Int) := by
      rw [← Int.natCast_mul]; omega
    simp only [IntKind.wrap_u64]
    generalize (q1 : Int) * (Y : Int) = P at *
    omega
  have w0 : IntKind.u64.wrap (IntKind.u64.wrap (IntKind.u64.wrap ((R1 : Int) * 4294967296) + (d0 : Int)) - IntKind.u64.wrap ((q0 : Int) * (Y : Int))) = (R0 : Int) := by
    have h := Nat.div_add_mod (R1 * 4294967296 + d0) Y
    rw [← hq0, ← hR0, Nat.mul_comm] at h
    have h' : (q0 : Int) * (Y : Int) + (R0 : Int) = (R1 : Int) * 4294967296 + (d0 : Int) := by
      rw [← Int.natCast_mul]; omega
    simp only [IntKind.wrap_u64]
    generalize (q0 : Int) * (Y : Int) = P at *
    omega
  -- the answer
  have fin : (hi * 18446744073709551616 + lo) / y = q1 * 4294967296 + q0 ∧ (hi * 18446744073709551616 + lo) % y = R0 / 2 ^ s := by
    have ht := two_steps u d1 d0 Y vpos
    have hn : (u * 4294967296 + d1) * 4294967296 + d0 = (hi * 18446744073709551616 + lo) * 2 ^ s := by
      rw [← b4]
      exact two_digits rfl (by omega)
    rw [hn, ← hq1, ← hR1, ← hq0, ← hR0] at ht
    obtain ⟨s1, s2⟩ := shifted (hi * 18446744073709551616 + lo) y s
    rw [← hY] at s1 s2
    rw [ht.1] at s1
    rw [ht.2] at s2
    exact ⟨s1.symm, s2.symm⟩
  have m4 : (R0 : Int) / 2 ^ s = ((R0 / 2 ^ s : Nat) : Int) := by push_cast; rfl
  have HF := Lib.hid fin
  have HV := Lib.hid hv
  have Hq1 := Lib.hid hq1
  have Hq0 := Lib.hid hq0
  have ID1 := Lib.hid id1
  have ID0 := Lib.hid id0
  have M4 := Lib.hid m4
  clear fin hv hq1 hq0 id1 id0 hR1 hR0 hG1 hT1 hP1 hG0 hT0 hP0 hd1 hd0 hu hL hl1 hH hor b4 hv1 hv0 hY dm1 dm0 m4
  have R1lt' := R1lt
  go_enter Tryd.func75, Tryd.ntmps75
  go_wp2_with fail
  refine (HL.out _).mono ?_
  rintro e w' ⟨rfl, rfl⟩
  go_upto_block 0 with fail
  go_cut [15, 16] from 67 to 85 (fun qv rv wx => wx = w ∧ qv = .int .u64 (q1 : Int) ∧ ∃ R : Nat, rv = .int .u64 (R : Int))
  case first =>
    go_wp2_with fail
    go_loop [15, 16] (fun qv rv => ∃ Q R : Nat, qv = .int .u64 (Q : Int) ∧ rv = .int .u64 (R : Int) ∧ Q * v1 + R = u ∧ q1 ≤ Q ∧ R < 4294967296 ∧ Q < 18446744073709551616) (fun qv _ => (intOf qv).toNat)
    case atStart => exact ⟨_, _, rfl, rfl, ID1.out, st1, by omega, by omega⟩
    case round =>
      obtain ⟨Q, R, rfl, rfl, hid, hqq, hR, hQ⟩ := hrel
      have HI := Lib.hid hid
      clear hid
      have hexit : ∀ Q' R' : Nat, Q' * v1 + R' = u → q1 ≤ Q' → 4294967296 ≤ R' → Q' = q1 := fun Q' R' h1 h2 h3 => by
        have h4 := (k_break (d := d1) HV.out k3 h1 ult h3).2
        rw [← Hq1.out] at h4
        omega
      have HX := Lib.hid hexit
      clear hexit
      by_cases hbig : 4294967296 ≤ Q
      · have hb1 : decide ((4294967296 : Int) ≤ (Q : Int)) = true := by simp; omega
        have hb2 : decide (4294967296 ≤ Q) = true := by simp; omega
        have hQ1 : 1 ≤ Q := by omega
        have hqm : q1 ≤ Q - 1 := by omega
        clear hbig
        have hd := k_down (show 1 ≤ Q by omega) HI.out
        have HD := Lib.hid hd
        clear hd
        by_cases hbr : (4294967296 : Int) ≤ (R : Int) + (v1 : Int)
        · have hq' := HX.out _ _ HD.out (by omega) (by omega)
          have HQ' := Lib.hid hq'
          clear hq'
          go_wp2
          go_meet
          exact ⟨rfl, by rw [← HQ'.out]; congr 1; omega, R + v1, by congr 1⟩
        · go_wp2
          go_round
          case rel => exact ⟨Q - 1, R + v1, by congr 1; omega, by congr 1, HD.out, by omega, by omega, by omega⟩
          case measure => simp [intOf]; omega
      · have hb1 : decide ((4294967296 : Int) ≤ (Q : Int)) = false := by simp; omega
        have hb2 : decide (4294967296 ≤ Q) = false := by simp; omega
        have hQs : Q ≤ 4294967295 := by omega
        clear hbig
        obtain ⟨P, hP⟩ : ∃ P, P = Q * v0 := ⟨_, rfl⟩
        have hPb : P ≤ 4294967295 * 4294967295 := by rw [hP]; exact Nat.mul_le_mul (by omega) (by omega)
        have hPe : (Q : Int) * (v0 : Int) = (P : Int) := by rw [hP]; exact (Int.natCast_mul _ _).symm
        have HP := Lib.hid hP
        clear hP
        by_cases hgt : (R : Int) * 4294967296 + (d1 : Int) < (P : Int)
        · have hg1 : decide ((4294967296 : Int) * (R : Int) + (d1 : Int) < (P : Int)) = true := by simp; omega
          have hQ1 : 1 ≤ Q := by
            rcases Nat.eq_zero_or_pos Q with h | h
            · rw [h, Nat.zero_mul] at HP
              have := HP.out
              omega
            · exact h
          have hlt := k_dec (d := d1) HV.out HI.out (by rw [← HP.out]; omega) vpos
          rw [← Hq1.out] at hlt
          have hd := k_down (show 1 ≤ Q by omega) HI.out
          have HD := Lib.hid hd
          clear hd
          by_cases hbr : (4294967296 : Int) ≤ (R : Int) + (v1 : Int)
          · have hq' := HX.out _ _ HD.out (by omega) (by omega)
            have HQ' := Lib.hid hq'
            clear hq'
            go_wp2
            go_meet
            exact ⟨rfl, by rw [← HQ'.out]; congr 1; omega, R + v1, by congr 1⟩
          · go_wp2
            go_round
            case rel => exact ⟨Q - 1, R + v1, by congr 1; omega, by congr 1, HD.out, by omega, by omega, by omega⟩
            case measure => simp [intOf]; omega
        · have hg1 : decide ((4294967296 : Int) * (R : Int) + (d1 : Int) < (P : Int)) = false := by simp; omega
          have hle := k_le (d := d1) HV.out HI.out (by rw [← HP.out]; omega) vpos
          rw [← Hq1.out] at hle
          have hqe : Q = q1 := by omega
          have HQE := Lib.hid hqe
          clear hqe hle
          go_wp2
          go_meet
          exact ⟨rfl, by rw [HQE.out], R, rfl⟩
  case rest =>
  obtain ⟨hwc, rfl, Rc1, rfl⟩ := hcut
  obtain rfl : w = wc := hwc.symm
  clear hwc
  go_upto_block 2 with fail
  go_cut [18, 16] from 102 to 120 (fun qv rv wx => wx = w ∧ qv = .int .u64 (q0 : Int) ∧ ∃ R : Nat, rv = .int .u64 (R : Int))
  case first =>
    go_wp2_with fail
    go_loop [18, 16] (fun qv rv => ∃ Q R : Nat, qv = .int .u64 (Q : Int) ∧ rv = .int .u64 (R : Int) ∧ Q * v1 + R = R1 ∧ q0 ≤ Q ∧ R < 4294967296 ∧ Q < 18446744073709551616) (fun qv _ => (intOf qv).toNat)
    case atStart => exact ⟨_, _, rfl, rfl, ID0.out, st0, by omega, by omega⟩
    case round =>
      obtain ⟨Q, R, rfl, rfl, hid, hqq, hR, hQ⟩ := hrel
      have HI := Lib.hid hid
      clear hid
      have hexit : ∀ Q' R' : Nat, Q' * v1 + R' = R1 → q0 ≤ Q' → 4294967296 ≤ R' → Q' = q0 := fun Q' R' h1 h2 h3 => by
        have h4 := (k_break (d := d0) HV.out k3 h1 R1lt h3).2
        rw [← Hq0.out] at h4
        omega
      have HX := Lib.hid hexit
      clear hexit
      by_cases hbig : 4294967296 ≤ Q
      · have hb1 : decide ((4294967296 : Int) ≤ (Q : Int)) = true := by simp; omega
        have hb2 : decide (4294967296 ≤ Q) = true := by simp; omega
        have hQ1 : 1 ≤ Q := by omega
        have hqm : q0 ≤ Q - 1 := by omega
        clear hbig
        have hd := k_down (show 1 ≤ Q by omega) HI.out
        have HD := Lib.hid hd
        clear hd
        by_cases hbr : (4294967296 : Int) ≤ (R : Int) + (v1 : Int)
        · have hq' := HX.out _ _ HD.out (by omega) (by omega)
          have HQ' := Lib.hid hq'
          clear hq'
          go_wp2
          go_meet
          exact ⟨rfl, by rw [← HQ'.out]; congr 1; omega, R + v1, by congr 1⟩
        · go_wp2
          go_round
          case rel => exact ⟨Q - 1, R + v1, by congr 1; omega, by congr 1, HD.out, by omega, by omega, by omega⟩
          case measure => simp [intOf]; omega
      · have hb1 : decide ((4294967296 : Int) ≤ (Q : Int)) = false := by simp; omega
        have hb2 : decide (4294967296 ≤ Q) = false := by simp; omega
        have hQs : Q ≤ 4294967295 := by omega
        clear hbig
        obtain ⟨P, hP⟩ : ∃ P, P = Q * v0 := ⟨_, rfl⟩
        have hPb : P ≤ 4294967295 * 4294967295 := by rw [hP]; exact Nat.mul_le_mul (by omega) (by omega)
        have hPe : (Q : Int) * (v0 : Int) = (P : Int) := by rw [hP]; exact (Int.natCast_mul _ _).symm
        have HP := Lib.hid hP
        clear hP
        by_cases hgt : (R : Int) * 4294967296 + (d0 : Int) < (P : Int)
        · have hg1 : decide ((4294967296 : Int) * (R : Int) + (d0 : Int) < (P : Int)) = true := by simp; omega
          have hQ1 : 1 ≤ Q := by
            rcases Nat.eq_zero_or_pos Q with h | h
            · rw [h, Nat.zero_mul] at HP
              have := HP.out
              omega
            · exact h
          have hlt := k_dec (d := d0) HV.out HI.out (by rw [← HP.out]; omega) vpos
          rw [← Hq0.out] at hlt
          have hd := k_down (show 1 ≤ Q by omega) HI.out
          have HD := Lib.hid hd
          clear hd
          by_cases hbr : (4294967296 : Int) ≤ (R : Int) + (v1 : Int)
          · have hq' := HX.out _ _ HD.out (by omega) (by omega)
            have HQ' := Lib.hid hq'
            clear hq'
            go_wp2
            go_meet
            exact ⟨rfl, by rw [← HQ'.out]; congr 1; omega, R + v1, by congr 1⟩
          · go_wp2
            go_round
            case rel => exact ⟨Q - 1, R + v1, by congr 1; omega, by congr 1, HD.out, by omega, by omega, by omega⟩
            case measure => simp [intOf]; omega
        · have hg1 : decide ((4294967296 : Int) * (R : Int) + (d0 : Int) < (P : Int)) = false := by simp; omega
          have hle := k_le (d := d0) HV.out HI.out (by rw [← HP.out]; omega) vpos
          rw [← Hq0.out] at hle
          have hqe : Q = q0 := by omega
          have HQE := Lib.hid hqe
          clear hqe hle
          go_wp2
          go_meet
          exact ⟨rfl, by rw [HQE.out], R, rfl⟩
  case rest =>
  obtain ⟨hwc, rfl, Rc2, rfl⟩ := hcut
  obtain rfl : w = wc := hwc.symm
  clear hwc
  go_wp2
  rw [M4.out]
  go_ret2
  refine ⟨0, ?_, rfl⟩
  rw [HF.out.1, HF.out.2, show ((q1 * 4294967296 + q0 : Nat) : Int) = (q1 : Int) * 4294967296 + (q0 : Int) by omega]
  rfl
/-- The library's division of a double word by a word that is greater than its high part. -/
theorem div64_any (hi lo y : Nat) (w : World) (h1 : y < 18446744073709551616) (h2 : lo < 18446744073709551616) (h3 : hi < y) :
    Calls Tryd.prog 75 #[.int .u64 (hi : Int), .int .u64 (lo : Int), .int .u64 (y : Int)] w (DivPost w (hi * 18446744073709551616 + lo) y) := by
  rcases Nat.eq_zero_or_pos hi with h | h
  · subst h
    rw [Nat.zero_mul, Nat.zero_add]
    exact div64_zero lo y w h3 h1 h2
  · exact div64_yes hi lo y w h h1 h2 h3

end E
end Go.Proofs.YtlpekknhaaddcaaDoor

/- The contracts of math/bits: Add64, Sub64, Mul64, Len64, LeadingZeros64. -/
import Derived.Test.YtbcncohjjnmdcaaGreatDoorRows
import Derived.Deep.CutBlock
import Derived.Deep.CutRange
import Derived.Deep.DeepCutAuto
import Derived.Laws.Bits64b
import Derived.Laws.Externs
import Derived.Lib.ItoaNum
import Derived.Lib.Mul64
import Derived.Test.YtbcncohjjnmdcaaGreatDoorDcDiv
import Derived.Test.YtbcncohjjnmdcaaGreatDoorDcLen
import Derived.Test.YtbcncohjjnmdcaaGreatDoorDcM
import Derived.Test.YtbcncohjjnmdcaaGreatDoorStC
namespace Go.Proofs.YtbcncohjjnmdcaaGreatDoor
open Go.RowKit
set_option linter.unusedVariables false
namespace E

/-- The library's sum with a carry: an equation on the call. -/
theorem add64_run (x y c : Nat) (hc : c ≤ 1) (w : World) :
    (callFunc 212 #[.int .u64 x, .int .u64 y, .int .u64 c]).run Tryz.prog w =
      .ok (.value (.tuple #[.int .u64 (((x + y + c) % 18446744073709551616 : Nat) : Int), .int .u64 (((x + y + c) / 18446744073709551616 : Nat) : Int)])) w := by
  rw [run_callFunc_extern Tryz.func212 (by kernel_rfl) (by kernel_rfl) (by kernel_rfl) (e := add64Entry) (by kernel_rfl), run_add64 x y c (by omega) (by omega) (by omega) (by omega)]
  simp only [Result.andThen]
  congr 5 <;> omega
theorem sub64_run (x y b : Nat) (hb : b ≤ 1) (w : World) :
    (callFunc 215 #[.int .u64 x, .int .u64 y, .int .u64 b]).run Tryz.prog w =
      .ok (.value (.tuple #[.int .u64 (((x + 18446744073709551616 - y - b) % 18446744073709551616 : Nat) : Int), .int .u64 ((if x < y + b then 1 else 0 : Nat) : Int)])) w := by
  rw [run_callFunc_extern Tryz.func215 (by kernel_rfl) (by kernel_rfl) (by kernel_rfl) (e := (Extern.MathBitsCarry.rows[1]).2) (by kernel_rfl)]
  have : b = 0 ∨ b = 1 := by omega
  rcases this with rfl | rfl <;> rfl

theorem maskN (a : Nat) (ha : a < 18446744073709551616) : bits .and .u64 (a : Int) 4294967295 = ((a % 4294967296 : Nat) : Int) := by
  have h := bits_and_u64_nat a 4294967295 ha (by omega)
  have e : a &&& 4294967295 = a % 4294967296 := Nat.and_two_pow_sub_one_eq_mod a 32
  rw [e] at h
  exact h
theorem divN (a : Nat) : (a : Int) / 4294967296 = ((a / 4294967296 : Nat) : Int) := by omega
theorem mulN (a b : Nat) : (a : Int) * (b : Int) = ((a * b : Nat) : Int) := (Int.natCast_mul a b).symm
theorem addN (a b : Nat) : (a : Int) + (b : Int) = ((a + b : Nat) : Int) := (Int.natCast_add a b).symm
theorem wrapN (a : Nat) (ha : a < 18446744073709551616) : IntKind.u64.wrap (a : Int) = (a : Int) := by rw [IntKind.wrap_u64]; omega
theorem wrapM (a : Nat) : IntKind.u64.wrap (a : Int) = ((a % 18446744073709551616 : Nat) : Int) := by rw [IntKind.wrap_u64]; omega
set_option maxHeartbeats 1000000 in
theorem mul64_any (x y : Nat) (hx : x < 18446744073709551616) (hy : y < 18446744073709551616) (w : World) :
    Calls Tryz.prog 197 #[.int .u64 x, .int .u64 y] w fun e w' => e = .returned (.tuple #[.int .u64 ((x * y / 18446744073709551616 : Nat) : Int), .int .u64 ((x * y % 18446744073709551616 : Nat) : Int)]) ∧ w = w' := by
  obtain ⟨bd, bt, bw, hhi⟩ := Lib.mul64_hi x y hx hy
  have ba := Lib.half_mul_le (a := x / 4294967296) (b := y / 4294967296) (by omega) (by omega)
  have bb := Lib.half_mul_le (a := x / 4294967296) (b := y % 4294967296) (by omega) (by omega)
  have bc := Lib.half_mul_le (a := x % 4294967296) (b := y / 4294967296) (by omega) (by omega)
  have ba' : x / 4294967296 * (y / 4294967296) < 18446744073709551616 := by omega
  have bb' : x / 4294967296 * (y % 4294967296) < 18446744073709551616 := by omega
  have bc' : x % 4294967296 * (y / 4294967296) < 18446744073709551616 := by omega
  have bh1 : x / 4294967296 * (y / 4294967296) + (x / 4294967296 * (y % 4294967296) + x % 4294967296 * (y % 4294967296) / 4294967296) / 4294967296 < 18446744073709551616 := by omega
  have bh : x / 4294967296 * (y / 4294967296) + (x / 4294967296 * (y % 4294967296) + x % 4294967296 * (y % 4294967296) / 4294967296) / 4294967296 + ((x / 4294967296 * (y % 4294967296) + x % 4294967296 * (y % 4294967296) / 4294967296) % 4294967296 + x % 4294967296 * (y / 4294967296)) / 4294967296 < 18446744073709551616 := by omega
  go_enter Tryz.func197, Tryz.ntmps197
  go_wp2
  simp only [maskN x hx, maskN y hy, divN, mulN, addN, wrapN _ bd, wrapN _ bb', wrapN _ bt, maskN _ bt, wrapN _ bc', wrapN _ bw, wrapN _ ba', wrapN _ bh1, wrapN _ bh, wrapM (x * y)]
  rw [hhi]
  go_ret2
  exact ⟨rfl, rfl⟩

/-- How far a number must be shifted to fill 64 bits. -/
def lz (y : Nat) : Nat := 64 - Lib.bitLen y
theorem lz_le (y : Nat) : lz y ≤ 64 := by unfold lz; omega
theorem lz_fit {y : Nat} (h0 : 0 < y) (h : y < 18446744073709551616) : lz y ≤ 63 ∧ y * 2 ^ lz y < 18446744073709551616 ∧ 9223372036854775808 ≤ y * 2 ^ lz y := by
  obtain ⟨h1, h2, h3⟩ := Lib.bitLenAux_bounds 64 y h (by omega)
  have h4 : Lib.bitLen y ≤ 64 := Lib.bitLen_le y 64 (by omega) h
  have e : Lib.bitLen y = Lib.bitLenAux 64 y := rfl
  unfold lz
  rw [e] at h4 ⊢
  generalize Lib.bitLenAux 64 y = L at *
  refine ⟨by omega, ?_, ?_⟩
  · have h5 : y * 2 ^ (64 - L) < 2 ^ L * 2 ^ (64 - L) := Nat.mul_lt_mul_of_pos_right h3 (Nat.two_pow_pos _)
    rw [← Nat.pow_add, show L + (64 - L) = 64 by omega] at h5
    exact h5
  · have h5 : 2 ^ (L - 1) * 2 ^ (64 - L) ≤ y * 2 ^ (64 - L) := Nat.mul_le_mul_right _ h2
    rw [← Nat.pow_add, show L - 1 + (64 - L) = 63 by omega] at h5
    exact h5
theorem lead_any (y : Nat) (w : World) (h0 : 0 < y) (h1 : y < 18446744073709551616) :
    Calls Tryz.prog 216 #[.int .u64 (y : Int)] w fun e w' => e = .returned (.int .i64 (lz y : Int)) ∧ w = w' := by
  have hl := len64_any (y : Int) w (by omega) (by omega)
  rw [Int.toNat_natCast] at hl
  have h4 : Lib.bitLen y ≤ 64 := Lib.bitLen_le y 64 (by omega) h1
  have e : (64 : Int) - (Lib.bitLen y : Int) = (lz y : Int) := by unfold lz; omega
  have HE := Lib.hid e
  have HL := Lib.hid hl
  clear e hl
  generalize Lib.bitLen y = L at *
  go_enter Tryz.func216, Tryz.ntmps216
  go_wp2_with fail
  refine (HL.out).mono ?_
  rintro e w' ⟨rfl, rfl⟩
  go_wp2
  go_ret
  exact ⟨by rw [← HE.out]; rfl, rfl⟩

end E
end Go.Proofs.YtbcncohjjnmdcaaGreatDoor
namespace Go.Proofs.YtbcncohjjnmdcaaGreatDoor
open Go.RowKit
set_option linter.unusedVariables false
namespace E

/-- Quotient and remainder of the double word. -/
def DivPost (w : World) (n y : Nat) (e : Ending) (w' : World) : Prop := ∃ m, e = .returned (.tuple #[.int .u64 ((n / y : Nat) : Int), .int .u64 ((n % y : Nat) : Int)]) ∧ w' = w.drewN m
theorem div64_zero (lo y : Nat) (w : World) (h0 : 0 < y) (h1 : y < 18446744073709551616) (h2 : lo < 18446744073709551616) :
    Calls Tryz.prog 198 #[.int .u64 0, .int .u64 (lo : Int), .int .u64 (y : Int)] w (DivPost w lo y) := by
  have e1 : ((y : Int) == 0) = false := by simp; omega
  have i0 : (0 : Int) < (y : Int) := by omega
  go_enter Tryz.func198, Tryz.ntmps198
  go_wp2
  go_quiet (fail)
  go_wp2
  have hq : lo / y < 18446744073709551616 := Nat.lt_of_le_of_lt (Nat.div_le_self _ _) h2
  have e2 : IntKind.u64.wrap ((lo : Int) / (y : Int)) = ((lo / y : Nat) : Int) := by
    rw [← Int.natCast_ediv]
    exact wrapN _ hq
  have e3 : (lo : Int) % (y : Int) = ((lo % y : Nat) : Int) := by rw [Int.natCast_emod]
  rw [e2, e3]
  go_ret2
  exact ⟨_, rfl, rfl⟩
set_option maxRecDepth 100000 in
set_option maxHeartbeats 4000000 in
theorem div64_yes (hi lo y : Nat) (w : World) (h0 : 0 < hi) (h1 : y < 18446744073709551616) (h2 : lo < 18446744073709551616) (h3 : hi < y) :
    Calls Tryz.prog 198 #[.int .u64 (hi : Int), .int .u64 (lo : Int), .int .u64 (y : Int)] w (DivPost w (hi * 18446744073709551616 + lo) y) := by
  have e1 : ((y : Int) == 0) = false := by simp; omega
  have e2 : ((hi : Int) == 0) = false := by simp; omega
  have e3 : decide ((y : Int) ≤ (hi : Int)) = false := by simp; omega
  obtain ⟨f1, f2, f3⟩ := lz_fit (y := y) (by omega) h1
  have HL := Lib.hid (fun W => lead_any y W (by omega) h1)
  have f0 := lz_le y
  generalize lz y = s at *
  obtain ⟨Y, hY⟩ : ∃ Y, Y = y * 2 ^ s := ⟨_, rfl⟩
  rw [← hY] at f2 f3
  have g1 : IntKind.u64.wrap ((y : Int) * 2 ^ s) = (Y : Int) := by
    rw [show (y : Int) * 2 ^ s = (Y : Int) by rw [hY]; push_cast; rfl]
    exact wrapN _ f2
  obtain ⟨v1, hv1⟩ : ∃ v1, v1 = Y / 4294967296 := ⟨_, rfl⟩
  obtain ⟨v0, hv0⟩ : ∃ v0, v0 = Y % 4294967296 := ⟨_, rfl⟩
  have g2 : (Y : Int) / 4294967296 = (v1 : Int) := by omega
  have g3 : bits .and .u64 (Y : Int) 4294967295 = (v0 : Int) := by rw [maskN Y f2, hv0]
  have k1 : 2147483648 ≤ v1 := by omega
  have k2 : v1 < 4294967296 := by omega
  have k3 : v0 < 4294967296 := by omega
  obtain ⟨b1, b2, b3, b4⟩ := shift_parts hi lo y s f1 h2 h3 (by rw [← hY]; exact f2)
  rw [← hY] at b3
  have hor := or_parts hi s (lo / 2 ^ (64 - s)) b2
  obtain ⟨H, hH⟩ : ∃ H, H = hi * 2 ^ s := ⟨_, rfl⟩
  obtain ⟨l1, hl1⟩ : ∃ l1, l1 = lo / 2 ^ (64 - s) := ⟨_, rfl⟩
  obtain ⟨L, hL⟩ : ∃ L, L = lo * 2 ^ s % 18446744073709551616 := ⟨_, rfl⟩
  have g4 : IntKind.u64.wrap ((hi : Int) * 2 ^ s) = (H : Int) := by
    rw [show (hi : Int) * 2 ^ s = (H : Int) by rw [hH]; push_cast; rfl]
    exact wrapN _ (by rw [hH]; exact b1)
  have g5 : (lo : Int) / 2 ^ (64 - s) = (l1 : Int) := by rw [hl1]; push_cast; rfl
  have g6 : IntKind.u64.wrap ((lo : Int) * 2 ^ s) = (L : Int) := by
    rw [show (lo : Int) * 2 ^ s = ((lo * 2 ^ s : Nat) : Int) by push_cast; rfl, wrapM, hL]
  rw [← hH, ← hl1] at hor b3 b4
  rw [← hL] at b4
  rw [← hH] at b1
  obtain ⟨u, hu⟩ : ∃ u, u = H + l1 := ⟨_, rfl⟩
  rw [← hu] at hor b3 b4
  have hLlt : L < 18446744073709551616 := by omega
  have g7 : bits .or .u64 (H : Int) (l1 : Int) = (u : Int) := by
    rw [bits_or_u64_nat H l1 b1 (by omega), hor]
  obtain ⟨d1, hd1⟩ : ∃ d1, d1 = L / 4294967296 := ⟨_, rfl⟩
  obtain ⟨d0, hd0⟩ : ∃ d0, d0 = L % 4294967296 := ⟨_, rfl⟩
  have g8 : (L : Int) / 4294967296 = (d1 : Int) := by omega
  have g9 : bits .and .u64 (L : Int) 4294967295 = (d0 : Int) := by rw [maskN L hLlt, hd0]
  have d1lt : d1 < 4294967296 := by omega
  have d0lt : d0 < 4294967296 := by omega
  have hv : Y = v1 * 4294967296 + v0 := by omega
  have vpos : 0 < Y := by omega
  have ult : u < Y := b3
  have u64 : u < 18446744073709551616 := by omega
  obtain ⟨q1, hq1⟩ : ∃ q1, q1 = (u * 4294967296 + d1) / Y := ⟨_, rfl⟩
  obtain ⟨R1, hR1⟩ : ∃ R1, R1 = (u * 4294967296 + d1) % Y := ⟨_, rfl⟩
  have R1lt : R1 < Y := by rw [hR1]; exact Nat.mod_lt _ vpos
  have R64 : R1 < 18446744073709551616 := by omega
  obtain ⟨q0, hq0⟩ : ∃ q0, q0 = (R1 * 4294967296 + d0) / Y := ⟨_, rfl⟩
  obtain ⟨R0, hR0⟩ : ∃ R0, R0 = (R1 * 4294967296 + d0) % Y := ⟨_, rfl⟩
  have q1lt : q1 < 4294967296 := by rw [hq1]; exact k_lt ult d1lt
  have q0lt : q0 < 4294967296 := by rw [hq0]; exact k_lt R1lt d0lt
  have R0lt : R0 < 18446744073709551616 := by
    have : R0 < Y := by rw [hR0]; exact Nat.mod_lt _ vpos
    omega
  -- the quotients' first guesses
  obtain ⟨G1, hG1⟩ : ∃ G1, G1 = u / v1 := ⟨_, rfl⟩
  obtain ⟨T1, hT1⟩ : ∃ T1, T1 = u % v1 := ⟨_, rfl⟩
  obtain ⟨P1, hP1⟩ : ∃ P1, P1 = G1 * v1 := ⟨_, rfl⟩
  have m1 : (u : Int) / (v1 : Int) = (G1 : Int) := by rw [hG1]; push_cast; rfl
  have m2 : (G1 : Int) * (v1 : Int) = (P1 : Int) := by rw [hP1]; push_cast; rfl
  have dm1 : P1 + T1 = u := by rw [hP1, hG1, hT1, Nat.mul_comm]; exact Nat.div_add_mod u v1
  have T1lt : T1 < v1 := by rw [hT1]; exact Nat.mod_lt _ (by omega)
  have m3 : (u : Int) - (P1 : Int) = (T1 : Int) := by omega
  have G1le : G1 ≤ u := by rw [hG1]; exact Nat.div_le_self _ _
  have st1 : q1 ≤ G1 := by rw [hq1, hG1]; exact k_start hv (by omega) d1lt
  have id1 : G1 * v1 + T1 = u := by rw [← hP1]; exact dm1
  obtain ⟨G0, hG0⟩ : ∃ G0, G0 = R1 / v1 := ⟨_, rfl⟩
  obtain ⟨T0, hT0⟩ : ∃ T0, T0 = R1 % v1 := ⟨_, rfl⟩
  obtain ⟨P0, hP0⟩ : ∃ P0, P0 = G0 * v1 := ⟨_, rfl⟩
  have n1 : (R1 : Int) / (v1 : Int) = (G0 : Int) := by rw [hG0]; push_cast; rfl
  have n2 : (G0 : Int) * (v1 : Int) = (P0 : Int) := by rw [hP0]; push_cast; rfl
  have dm0 : P0 + T0 = R1 := by rw [hP0, hG0, hT0, Nat.mul_comm]; exact Nat.div_add_mod R1 v1
  have T0lt : T0 < v1 := by rw [hT0]; exact Nat.mod_lt _ (by omega)
  have n3 : (R1 : Int) - (P0 : Int) = (T0 : Int) := by omega
  have G0le : G0 ≤ R1 := by rw [hG0]; exact Nat.div_le_self _ _
  have st0 : q0 ≤ G0 := by rw [hq0, hG0]; exact k_start hv (by omega) d0lt
  have id0 : G0 * v1 + T0 = R1 := by rw [← hP0]; exact dm0
  -- what is left of each step
  have w1 : IntKind.u64.wrap (IntKind.u64.wrap (IntKind.u64.wrap ((u : Int) * 4294967296) + (d1 : Int)) - IntKind.u64.wrap ((q1 : Int) * (Y : Int))) = (R1 : Int) := by
    have h := Nat.div_add_mod (u * 4294967296 + d1) Y
    rw [← hq1, ← hR1, Nat.mul_comm] at h
    have h' : (q1 : Int) * (Y : Int) + (R1 : Int) = (u : Int) * 4294967296 + (d1 : Int) := by
      rw [← Int.natCast_mul]; omega
    simp only [IntKind.wrap_u64]
    generalize (q1 : Int) * (Y : Int) = P at *
    omega
  have w0 : IntKind.u64.wrap (IntKind.u64.wrap (IntKind.u64.wrap ((R1 : Int) * 4294967296) + (d0 : Int)) - IntKind.u64.wrap ((q0 : Int) * (Y : Int))) = (R0 : Int) := by
    have h := Nat.div_add_mod (R1 * 4294967296 + d0) Y
    rw [← hq0, ← hR0, Nat.mul_comm] at h
    have h' : (q0 : Int) * (Y : Int) + (R0 : Int) = (R1 : Int) * 4294967296 + (d0 : Int) := by
      rw [← Int.natCast_mul]; omega
    simp only [IntKind.wrap_u64]
    generalize (q0 : Int) * (Y : Int) = P at *
    omega
  -- the answer
  have fin : (hi * 18446744073709551616 + lo) / y = q1 * 4294967296 + q0 ∧ (hi * 18446744073709551616 + lo) % y = R0 / 2 ^ s := by
    have ht := two_steps u d1 d0 Y vpos
    have hn : (u * 4294967296 + d1) * 4294967296 + d0 = (hi * 18446744073709551616 + lo) * 2 ^ s := by
      rw [← b4]
      exact two_digits rfl (by omega)
    rw [hn, ← hq1, ← hR1, ← hq0, ← hR0] at ht
    obtain ⟨s1, s2⟩ := shifted (hi * 18446744073709551616 + lo) y s
    rw [← hY] at s1 s2
    rw [ht.1] at s1
    rw [ht.2] at s2
    exact ⟨s1.symm, s2.symm⟩
  have m4 : (R0 : Int) / 2 ^ s = ((R0 / 2 ^ s : Nat) : Int) := by push_cast; rfl
  have HF := Lib.hid fin
  have HV := Lib.hid hv
  have Hq1 := Lib.hid hq1
  have Hq0 := Lib.hid hq0
  have ID1 := Lib.hid id1
  have ID0 := Lib.hid id0
  have M4 := Lib.hid m4
  clear fin hv hq1 hq0 id1 id0 hR1 hR0 hG1 hT1 hP1 hG0 hT0 hP0 hd1 hd0 hu hL hl1 hH hor b4 hv1 hv0 hY dm1 dm0 m4
  have R1lt' := R1lt
  go_enter Tryz.func198, Tryz.ntmps198
  go_wp2_with fail
  refine (HL.out _).mono ?_
  rintro e w' ⟨rfl, rfl⟩
  go_upto_block 0 with fail
  go_cut [15, 16] from 67 to 85 (fun qv rv wx => wx = w ∧ qv = .int .u64 (q1 : Int) ∧ ∃ R : Nat, rv = .int .u64 (R : Int))
  case first =>
    go_wp2_with fail
    go_loop [15, 16] (fun qv rv => ∃ Q R : Nat, qv = .int .u64 (Q : Int) ∧ rv = .int .u64 (R : Int) ∧ Q * v1 + R = u ∧ q1 ≤ Q ∧ R < 4294967296 ∧ Q < 18446744073709551616) (fun qv _ => (intOf qv).toNat)
    case atStart => exact ⟨_, _, rfl, rfl, ID1.out, st1, by omega, by omega⟩
    case round =>
      obtain ⟨Q, R, rfl, rfl, hid, hqq, hR, hQ⟩ := hrel
      have HI := Lib.hid hid
      clear hid
      have hexit : ∀ Q' R' : Nat, Q' * v1 + R' = u → q1 ≤ Q' → 4294967296 ≤ R' → Q' = q1 := fun Q' R' h1 h2 h3 => by
        have h4 := (k_break (d := d1) HV.out k3 h1 ult h3).2
        rw [← Hq1.out] at h4
        omega
      have HX := Lib.hid hexit
      clear hexit
      by_cases hbig : 4294967296 ≤ Q
      · have hb1 : decide ((4294967296 : Int) ≤ (Q : Int)) = true := by simp; omega
        have hb2 : decide (4294967296 ≤ Q) = true := by simp; omega
        have hQ1 : 1 ≤ Q := by omega
        have hqm : q1 ≤ Q - 1 := by omega
        clear hbig
        have hd := k_down (show 1 ≤ Q by omega) HI.out
        have HD := Lib.hid hd
        clear hd
        by_cases hbr : (4294967296 : Int) ≤ (R : Int) + (v1 : Int)
        · have hq' := HX.out _ _ HD.out (by omega) (by omega)
          have HQ' := Lib.hid hq'
          clear hq'
          go_wp2
          go_meet
          exact ⟨rfl, by rw [← HQ'.out]; congr 1; omega, R + v1, by congr 1⟩
        · go_wp2
          go_round
          case rel => exact ⟨Q - 1, R + v1, by congr 1; omega, by congr 1, HD.out, by omega, by omega, by omega⟩
          case measure => simp [intOf]; omega
      · have hb1 : decide ((4294967296 : Int) ≤ (Q : Int)) = false := by simp; omega
        have hb2 : decide (4294967296 ≤ Q) = false := by simp; omega
        have hQs : Q ≤ 4294967295 := by omega
        clear hbig
        obtain ⟨P, hP⟩ : ∃ P, P = Q * v0 := ⟨_, rfl⟩
        have hPb : P ≤ 4294967295 * 4294967295 := by rw [hP]; exact Nat.mul_le_mul (by omega) (by omega)
        have hPe : (Q : Int) * (v0 : Int) = (P : Int) := by rw [hP]; exact (Int.natCast_mul _ _).symm
        have HP := Lib.hid hP
        clear hP
        by_cases hgt : (R : Int) * 4294967296 + (d1 : Int) < (P : Int)
        · have hg1 : decide ((4294967296 : Int) * (R : Int) + (d1 : Int) < (P : Int)) = true := by simp; omega
          have hQ1 : 1 ≤ Q := by
            rcases Nat.eq_zero_or_pos Q with h | h
            · rw [h, Nat.zero_mul] at HP
              have := HP.out
              omega
            · exact h
          have hlt := k_dec (d := d1) HV.out HI.out (by rw [← HP.out]; omega) vpos
          rw [← Hq1.out] at hlt
          have hd := k_down (show 1 ≤ Q by omega) HI.out
          have HD := Lib.hid hd
          clear hd
          by_cases hbr : (4294967296 : Int) ≤ (R : Int) + (v1 : Int)
          · have hq' := HX.out _ _ HD.out (by omega) (by omega)
            have HQ' := Lib.hid hq'
            clear hq'
            go_wp2
            go_meet
            exact ⟨rfl, by rw [← HQ'.out]; congr 1; omega, R + v1, by congr 1⟩
          · go_wp2
            go_round
            case rel => exact ⟨Q - 1, R + v1, by congr 1; omega, by congr 1, HD.out, by omega, by omega, by omega⟩
            case measure => simp [intOf]; omega
        · have hg1 : decide ((4294967296 : Int) * (R : Int) + (d1 : Int) < (P : Int)) = false := by simp; omega
          have hle := k_le (d := d1) HV.out HI.out (by rw [← HP.out]; omega) vpos
          rw [← Hq1.out] at hle
          have hqe : Q = q1 := by omega
          have HQE := Lib.hid hqe
          clear hqe hle
          go_wp2
          go_meet
          exact ⟨rfl, by rw [HQE.out], R, rfl⟩
  case rest =>
  obtain ⟨hwc, rfl, Rc1, rfl⟩ := hcut
  obtain rfl : w = wc := hwc.symm
  clear hwc
  go_upto_block 2 with fail
  go_cut [18, 16] from 102 to 120 (fun qv rv wx => wx = w ∧ qv = .int .u64 (q0 : Int) ∧ ∃ R : Nat, rv = .int .u64 (R : Int))
  case first =>
    go_wp2_with fail
    go_loop [18, 16] (fun qv rv => ∃ Q R : Nat, qv = .int .u64 (Q : Int) ∧ rv = .int .u64 (R : Int) ∧ Q * v1 + R = R1 ∧ q0 ≤ Q ∧ R < 4294967296 ∧ Q < 18446744073709551616) (fun qv _ => (intOf qv).toNat)
    case atStart => exact ⟨_, _, rfl, rfl, ID0.out, st0, by omega, by omega⟩
    case round =>
      obtain ⟨Q, R, rfl, rfl, hid, hqq, hR, hQ⟩ := hrel
      have HI := Lib.hid hid
      clear hid
      have hexit : ∀ Q' R' : Nat, Q' * v1 + R' = R1 → q0 ≤ Q' → 4294967296 ≤ R' → Q' = q0 := fun Q' R' h1 h2 h3 => by
        have h4 := (k_break (d := d0) HV.out k3 h1 R1lt h3).2
        rw [← Hq0.out] at h4
        omega
      have HX := Lib.hid hexit
      clear hexit
      by_cases hbig : 4294967296 ≤ Q
      · have hb1 : decide ((4294967296 : Int) ≤ (Q : Int)) = true := by simp; omega
        have hb2 : decide (4294967296 ≤ Q) = true := by simp; omega
        have hQ1 : 1 ≤ Q := by omega
        have hqm : q0 ≤ Q - 1 := by omega
        clear hbig
        have hd := k_down (show 1 ≤ Q by omega) HI.out
        have HD := Lib.hid hd
        clear hd
        by_cases hbr : (4294967296 : Int) ≤ (R : Int) + (v1 : Int)
        · have hq' := HX.out _ _ HD.out (by omega) (by omega)
          have HQ' := Lib.hid hq'
          clear hq'
          go_wp2
          go_meet
          exact ⟨rfl, by rw [← HQ'.out]; congr 1; omega, R + v1, by congr 1⟩
        · go_wp2
          go_round
          case rel => exact ⟨Q - 1, R + v1, by congr 1; omega, by congr 1, HD.out, by omega, by omega, by omega⟩
          case measure => simp [intOf]; omega
      · have hb1 : decide ((4294967296 : Int) ≤ (Q : Int)) = false := by simp; omega
        have hb2 : decide (4294967296 ≤ Q) = false := by simp; omega
        have hQs : Q ≤ 4294967295 := by omega
        clear hbig
        obtain ⟨P, hP⟩ : ∃ P, P = Q * v0 := ⟨_, rfl⟩
        have hPb : P ≤ 4294967295 * 4294967295 := by rw [hP]; exact Nat.mul_le_mul (by omega) (by omega)
        have hPe : (Q : Int) * (v0 : Int) = (P : Int) := by rw [hP]; exact (Int.natCast_mul _ _).symm
        have HP := Lib.hid hP
        clear hP
        by_cases hgt : (R : Int) * 4294967296 + (d0 : Int) < (P : Int)
        · have hg1 : decide ((4294967296 : Int) * (R : Int) + (d0 : Int) < (P : Int)) = true := by simp; omega
          have hQ1 : 1 ≤ Q := by
            rcases Nat.eq_zero_or_pos Q with h | h
            · rw [h, Nat.zero_mul] at HP
              have := HP.out
              omega
            · exact h
          have hlt := k_dec (d := d0) HV.out HI.out (by rw [← HP.out]; omega) vpos
          rw [← Hq0.out] at hlt
          have hd := k_down (show 1 ≤ Q by omega) HI.out
          have HD := Lib.hid hd
          clear hd
          by_cases hbr : (4294967296 : Int) ≤ (R : Int) + (v1 : Int)
          · have hq' := HX.out _ _ HD.out (by omega) (by omega)
            have HQ' := Lib.hid hq'
            clear hq'
            go_wp2
            go_meet
            exact ⟨rfl, by rw [← HQ'.out]; congr 1; omega, R + v1, by congr 1⟩
          · go_wp2
            go_round
            case rel => exact ⟨Q - 1, R + v1, by congr 1; omega, by congr 1, HD.out, by omega, by omega, by omega⟩
            case measure => simp [intOf]; omega
        · have hg1 : decide ((4294967296 : Int) * (R : Int) + (d0 : Int) < (P : Int)) = false := by simp; omega
          have hle := k_le (d := d0) HV.out HI.out (by rw [← HP.out]; omega) vpos
          rw [← Hq0.out] at hle
          have hqe : Q = q0 := by omega
          have HQE := Lib.hid hqe
          clear hqe hle
          go_wp2
          go_meet
          exact ⟨rfl, by rw [HQE.out], R, rfl⟩
  case rest =>
  obtain ⟨hwc, rfl, Rc2, rfl⟩ := hcut
  obtain rfl : w = wc := hwc.symm
  clear hwc
  go_wp2
  rw [M4.out]
  go_ret2
  refine ⟨0, ?_, rfl⟩
  rw [HF.out.1, HF.out.2, show ((q1 * 4294967296 + q0 : Nat) : Int) = (q1 : Int) * 4294967296 + (q0 : Int) by omega]
  rfl
/-- The library's division of a double word by a word that is greater than its high part. -/
theorem div64_any (hi lo y : Nat) (w : World) (h1 : y < 18446744073709551616) (h2 : lo < 18446744073709551616) (h3 : hi < y) :
    Calls Tryz.prog 198 #[.int .u64 (hi : Int), .int .u64 (lo : Int), .int .u64 (y : Int)] w (DivPost w (hi * 18446744073709551616 + lo) y) := by
  rcases Nat.eq_zero_or_pos hi with h | h
  · subst h
    rw [Nat.zero_mul, Nat.zero_add]
    exact div64_zero lo y w h3 h1 h2
  · exact div64_yes hi lo y w h h1 h2 h3

end E
end Go.Proofs.YtbcncohjjnmdcaaGreatDoor
namespace Go.Proofs.YtbcncohjjnmdcaaGreatDoor
open Go.RowKit Go.Shelf
set_option linter.unusedVariables false
namespace E

/-- A number as a pair of words. -/
def pv (n : Nat) : Value := .agg #[.int .u64 ((n / 18446744073709551616 : Nat) : Int), .int .u64 ((n % 18446744073709551616 : Nat) : Int)]
theorem pv_mk {n a b : Nat} (h : n = a * 18446744073709551616 + b) (hb : b < 18446744073709551616) : pv n = .agg #[.int .u64 (a : Int), .int .u64 (b : Int)] := by
  have h1 : n / 18446744073709551616 = a := by omega
  have h2 : n % 18446744073709551616 = b := by omega
  unfold pv
  rw [h1, h2]
theorem pv_of (n : Nat) (h : n < 340282366920938463463374607431768211456) : ∃ a b : Nat, n = a * 18446744073709551616 + b ∧ a < 18446744073709551616 ∧ b < 18446744073709551616 ∧ pv n = .agg #[.int .u64 (a : Int), .int .u64 (b : Int)] :=
  ⟨n / 18446744073709551616, n % 18446744073709551616, by omega, by omega, by omega, rfl⟩
theorem below3 (w : World) (a b c : Obj) : Below w.heap.size w (((w.alloc a).alloc b).alloc c) := bel0 (below2 w a b) (below_new _ c)
theorem belowD {w W : World} (h : Below w.heap.size w W) (m : Nat) : Below w.heap.size w (W.drewN m) := bel0 h (belowDraw W m)
set_option maxRecDepth 100000 in
theorem pplus_any (x y : Nat) (w : World) (h : x + y < 340282366920938463463374607431768211456) :
    Calls Tryz.prog 194 #[pv x, pv y] w (New w (pv (x + y))) := by
  obtain ⟨a, b, hx, ha, hb, ex⟩ := pv_of x (by omega)
  obtain ⟨c, d, hy, hc, hd, ey⟩ := pv_of y (by omega)
  rw [ex, ey]
  have A1 : ∀ W, (callFunc 212 #[.int .u64 b, .int .u64 d, .int .u64 0]).run Tryz.prog W = .ok (.value (.tuple #[.int .u64 (((b + d + 0) % 18446744073709551616 : Nat) : Int), .int .u64 (((b + d + 0) / 18446744073709551616 : Nat) : Int)])) W := fun W => add64_run b d 0 (by omega) W
  obtain ⟨l, hl⟩ : ∃ l, l = (b + d + 0) % 18446744073709551616 := ⟨_, rfl⟩
  obtain ⟨k, hk⟩ : ∃ k, k = (b + d + 0) / 18446744073709551616 := ⟨_, rfl⟩
  rw [← hl, ← hk] at A1
  have A2 := fun W => add64_run a c k (by omega) W
  obtain ⟨m, hm⟩ : ∃ m, m = (a + c + k) % 18446744073709551616 := ⟨_, rfl⟩
  obtain ⟨r, hr⟩ : ∃ r, r = (a + c + k) / 18446744073709551616 := ⟨_, rfl⟩
  rw [← hm, ← hr] at A2
  have hv := Lib.hid (pv_mk (n := x + y) (a := m) (b := l) (by omega) (by omega))
  clear ex ey hl hk hm hr hx hy h
  go_enter Tryz.func194, Tryz.ntmps194
  go_wp2
  refine bodyPost_ret (v := pv (x + y)) ?_ rfl ⟨rfl, below3 _ _ _ _⟩
  rw [results_cell14 rfl, hv.out]
  go_simp
set_option maxRecDepth 100000 in
theorem pminus_any (x y : Nat) (w : World) (hx : x < 340282366920938463463374607431768211456) (h : y ≤ x) :
    Calls Tryz.prog 196 #[pv x, pv y] w (New w (pv (x - y))) := by
  obtain ⟨a, b, hx, ha, hb, ex⟩ := pv_of x (by omega)
  obtain ⟨c, d, hy, hc, hd, ey⟩ := pv_of y (by omega)
  rw [ex, ey]
  have A1 : ∀ W, (callFunc 215 #[.int .u64 b, .int .u64 d, .int .u64 0]).run Tryz.prog W = .ok (.value (.tuple #[.int .u64 (((b + 18446744073709551616 - d - 0) % 18446744073709551616 : Nat) : Int), .int .u64 ((if b < d + 0 then 1 else 0 : Nat) : Int)])) W := fun W => sub64_run b d 0 (by omega) W
  obtain ⟨l, hl⟩ : ∃ l, l = (b + 18446744073709551616 - d - 0) % 18446744073709551616 := ⟨_, rfl⟩
  obtain ⟨k, hk⟩ : ∃ k : Nat, k = (if b < d + 0 then 1 else 0) := ⟨_, rfl⟩
  have hk1 : k ≤ 1 := by rw [hk]; split <;> omega
  have hlk : b + k * 18446744073709551616 = l + d := by
    rw [hl, hk]
    split <;> omega
  rw [← hl, ← hk] at A1
  have A2 := fun W => sub64_run a c k hk1 W
  obtain ⟨m, hm⟩ : ∃ m, m = (a + 18446744073709551616 - c - k) % 18446744073709551616 := ⟨_, rfl⟩
  obtain ⟨r, hr⟩ : ∃ r : Nat, r = (if a < c + k then 1 else 0) := ⟨_, rfl⟩
  rw [← hm, ← hr] at A2
  have hlb : l < 18446744073709551616 := by omega
  have hv := Lib.hid (pv_mk (n := x - y) (a := m) (b := l) (by omega) hlb)
  clear ex ey hl hk hm hr hx hy h hk1 hlk
  go_enter Tryz.func196, Tryz.ntmps196
  go_wp2
  refine bodyPost_ret (v := pv (x - y)) ?_ rfl ⟨rfl, below3 _ _ _ _⟩
  rw [results_cell14 rfl, hv.out]
  go_simp
theorem mul_split {a b K y : Nat} : (a * K + b) * y = a * y * K + b * y := by
  rw [Nat.add_mul, Nat.mul_right_comm]
set_option maxRecDepth 100000 in
theorem ptimes_any (x y : Nat) (w : World) (hx : x < 340282366920938463463374607431768211456) (hy : y < 18446744073709551616) (h : x * y < 340282366920938463463374607431768211456) :
    Calls Tryz.prog 169 #[pv x, .int .u64 (y : Int)] w (New w (pv (x * y))) := by
  obtain ⟨a, b, hx, ha, hb, ex⟩ := pv_of x (by omega)
  rw [ex]
  have A1 := fun W => mul64_any b y hb hy W
  obtain ⟨l, hl⟩ : ∃ l, l = b * y % 18446744073709551616 := ⟨_, rfl⟩
  obtain ⟨k, hk⟩ : ∃ k, k = b * y / 18446744073709551616 := ⟨_, rfl⟩
  rw [← hl, ← hk] at A1
  have HA := Lib.hid A1
  have hm := mul_split (a := a) (b := b) (K := 18446744073709551616) (y := y)
  rw [← hx] at hm
  obtain ⟨p, hp⟩ : ∃ p, p = a * y := ⟨_, rfl⟩
  rw [← hp] at hm
  have hpe : (a : Int) * (y : Int) = (p : Int) := by rw [hp]; exact (Int.natCast_mul _ _).symm
  have hlk : b * y = k * 18446744073709551616 + l := by omega
  rw [hlk] at hm
  have hpk : k + p < 18446744073709551616 := Nat.lt_of_not_le fun h' => by omega
  have hv := Lib.hid (pv_mk (n := x * y) (a := k + p) (b := l) (by rw [hm, Nat.add_mul, Nat.add_comm (k * 18446744073709551616) (p * 18446744073709551616), Nat.add_assoc]) (by omega))
  have hc : ((k + p : Nat) : Int) = (k : Int) + (p : Int) := by omega
  have HC := Lib.hid hc
  clear ex hl hk hx hm hlk A1 hp h hc
  go_enter Tryz.func169, Tryz.ntmps169
  go_wp2_with fail
  refine (HA.out _).mono ?_
  rintro e w' ⟨rfl, rfl⟩
  go_wp2
  refine bodyPost_ret (v := pv (x * y)) ?_ rfl ⟨rfl, below2 _ _ _⟩
  rw [results_cell14 rfl, hv.out, HC.out]
  go_simp
theorem one_step (a b K y : Nat) (hy : 0 < y) : (a * K + b) / y = a / y * K + (a % y * K + b) / y ∧ (a * K + b) % y = (a % y * K + b) % y := by
  have h := Nat.div_add_mod a y
  have e : a * K + b = y * (a / y * K) + (a % y * K + b) := by
    rw [← Nat.add_assoc, ← Nat.mul_assoc, ← Nat.add_mul, h]
  have h2 : ∀ q r, (y * (q * K) + r) / y = q * K + r / y ∧ (y * (q * K) + r) % y = r % y := fun q r => ⟨Nat.mul_add_div hy _ _, Nat.mul_add_mod _ _ _⟩
  have h3 := h2 (a / y) (a % y * K + b)
  rw [← e] at h3
  exact h3
/-- A quotient as a pair, and a remainder. -/
def QPost (w : World) (q r : Nat) (e : Ending) (w' : World) : Prop := New w (.tuple #[pv q, .int .u64 (r : Int)]) e w'
set_option maxRecDepth 100000 in
theorem pdiv_any (x y : Nat) (w : World) (hx : x < 340282366920938463463374607431768211456) (h0 : 0 < y) (hy : y < 18446744073709551616) :
    Calls Tryz.prog 170 #[pv x, .int .u64 (y : Int)] w (QPost w (x / y) (x % y)) := by
  obtain ⟨a, b, hx, ha, hb, ex⟩ := pv_of x (by omega)
  rw [ex]
  have A1 := fun W => div64_any 0 a y W hy ha h0
  simp only [Nat.zero_mul, Nat.zero_add] at A1
  have hr := Nat.mod_lt a h0
  obtain ⟨e1, e2⟩ := one_step a b 18446744073709551616 y h0
  rw [← hx] at e1 e2
  have A2 := fun W => div64_any (a % y) b y W hy hb hr
  have hlt : (a % y * 18446744073709551616 + b) / y < 18446744073709551616 := k_lt' hr hb
  have hv := Lib.hid (pv_mk (n := x / y) (a := a / y) (b := (a % y * 18446744073709551616 + b) / y) e1 hlt)
  have HA1 := Lib.hid A1
  have HA2 := Lib.hid A2
  have hr2 := Nat.mod_lt (a % y * 18446744073709551616 + b) h0
  have HE2 := Lib.hid e2
  have h00 : (((0 : Nat)) : Int) = 0 := rfl
  unfold DivPost at HA1 HA2
  rw [h00] at HA1
  generalize (a % y * 18446744073709551616 + b) / y = q2 at *
  generalize (a % y * 18446744073709551616 + b) % y = r2 at *
  generalize a % y = r1 at *
  generalize a / y = q1 at *
  clear ex hx A1 A2 e1 e2 h00
  go_enter Tryz.func170, Tryz.ntmps170
  go_wp2_with fail
  refine (HA1.out _).mono ?_
  rintro e w' ⟨m1, rfl, rfl⟩
  go_wp2_with fail
  refine (HA2.out _).mono ?_
  rintro e w' ⟨m2, rfl, rfl⟩
  go_wp2
  refine bodyPost_ret (v := .tuple #[pv (x / y), .int .u64 ((x % y : Nat) : Int)]) ?_ rfl ⟨rfl, ?_⟩
  · rw [results_cell_tmp rfl, hv.out, HE2.out]
    go_simp
  · exact ((belowD (below2 w _ _) _).setCell (p := ⟨w.heap.size + 1, 0, none⟩) (Nat.le_succ _) _).setCell (p := ⟨w.heap.size + 1, 1, none⟩) (Nat.le_succ _) _

/-! ### The order -/

/-- What the comparison of two words answers. -/
def cmpN (x y : Nat) : Int := if x < y then -1 else if y < x then 1 else 0
theorem isnan_any (x : Nat) (w : World) : Calls Tryz.prog 229 #[.int .u64 (x : Int)] w fun e w' => e = .returned (.bool false) ∧ w = w' := by
  go_enter Tryz.func229, Tryz.ntmps229
  go_wp2
  go_ret
  exact ⟨rfl, rfl⟩
theorem cmp_any (x y : Nat) (w : World) : Calls Tryz.prog 214 #[.int .u64 (x : Int), .int .u64 (y : Int)] w fun e w' => e = .returned (.int .i64 (cmpN x y)) ∧ w = w' := by
  have HN := Lib.hid (fun x W => isnan_any x W)
  unfold cmpN
  by_cases h1 : x < y
  · rw [if_pos h1]
    go_enter Tryz.func214, Tryz.ntmps214
    go_wp2_with fail
    refine (HN.out _ _).mono ?_
    rintro e w' ⟨rfl, rfl⟩
    go_wp2_with fail
    refine (HN.out _ _).mono ?_
    rintro e w' ⟨rfl, rfl⟩
    go_wp2
    go_ret
    exact ⟨rfl, rfl⟩
  · rw [if_neg h1]
    by_cases h2 : y < x
    · rw [if_pos h2]
      go_enter Tryz.func214, Tryz.ntmps214
      go_wp2_with fail
      refine (HN.out _ _).mono ?_
      rintro e w' ⟨rfl, rfl⟩
      go_wp2_with fail
      refine (HN.out _ _).mono ?_
      rintro e w' ⟨rfl, rfl⟩
      go_wp2
      go_ret
      exact ⟨rfl, rfl⟩
    · rw [if_neg h2]
      go_enter Tryz.func214, Tryz.ntmps214
      go_wp2_with fail
      refine (HN.out _ _).mono ?_
      rintro e w' ⟨rfl, rfl⟩
      go_wp2_with fail
      refine (HN.out _ _).mono ?_
      rintro e w' ⟨rfl, rfl⟩
      go_wp2
      go_ret
      exact ⟨rfl, rfl⟩
/-- The first of two numbers that is not zero. -/
def orN (a b : Int) : Int := if a = 0 then b else a
theorem or_any (a b : Int) (g : Nat) (w : World) (h0 : w.cell? ⟨g, 0, none⟩ = some (.int .i64 a)) (h1 : w.cell? ⟨g, 1, none⟩ = some (.int .i64 b)) :
    Calls Tryz.prog 213 #[.slice (some ⟨g, 0, none⟩) 2 2] w fun e w' => e = .returned (.int .i64 (orN a b)) ∧ w = w' := by
  go_enter Tryz.func213, Tryz.ntmps213
  go_wp2
  go_loop [5, 8] (fun v i => ∃ k : Nat, k ≤ 2 ∧ i = .int .i64 k ∧ (1 ≤ k → a = 0) ∧ (2 ≤ k → b = 0)) (fun _ i => 2 - (intOf i).toNat)
  case atStart => exact ⟨0, by omega, rfl, by omega, by omega⟩
  case round =>
    obtain ⟨k, hk, rfl, ha, hb⟩ := hrel
    match k, hk with
    | 0, _ =>
      by_cases hz : a = 0
      · subst hz
        go_wp2
        go_round
        case rel => exact ⟨1, by omega, rfl, fun _ => trivial, by omega⟩
        case measure => simp [intOf]
      · have hzb : (a == 0) = false := by simpa using hz
        have hv : orN a b = a := by unfold orN; rw [if_neg hz]
        have HV := Lib.hid hv
        clear hv hz
        go_wp2
        go_ret
        exact ⟨by rw [HV.out]; rfl, rfl⟩
    | 1, _ =>
      obtain rfl := ha (by omega)
      by_cases hz : b = 0
      · subst hz
        go_wp2
        go_round
        case rel => exact ⟨2, by omega, rfl, fun _ => trivial, fun _ => trivial⟩
        case measure => simp [intOf]
      · have hzb : (b == 0) = false := by simpa using hz
        have hv : orN 0 b = b := by unfold orN; rw [if_pos rfl]
        have HV := Lib.hid hv
        clear hv hz
        go_wp2
        go_ret
        exact ⟨by rw [HV.out]; rfl, rfl⟩
    | 2, _ =>
      obtain rfl := ha (by omega)
      obtain rfl := hb (by omega)
      go_wp2
      go_ret
      exact ⟨rfl, rfl⟩
/-- Does the pair's order say less? -/
theorem cmp_lt {a b c d x y : Nat} (hx : x = a * 18446744073709551616 + b) (hy : y = c * 18446744073709551616 + d) (hb : b < 18446744073709551616) (hd : d < 18446744073709551616) :
    decide (orN (cmpN a c) (cmpN b d) < 0) = decide (x < y) := by
  have e : (orN (cmpN a c) (cmpN b d) < 0) ↔ x < y := by
    unfold orN cmpN
    rcases Nat.lt_trichotomy a c with h | h | h
    · rw [if_pos h, if_neg (by omega)]
      exact ⟨fun _ => Nat.lt_of_not_le fun h' => by omega, fun _ => by omega⟩
    · subst h
      rw [if_neg (Nat.lt_irrefl a), if_neg (Nat.lt_irrefl a), if_pos rfl]
      rcases Nat.lt_trichotomy b d with h | h | h
      · rw [if_pos h]
        exact ⟨fun _ => Nat.lt_of_not_le fun h' => by omega, fun _ => by omega⟩
      · rw [if_neg (by omega), if_neg (by omega)]
        exact ⟨fun h' => by omega, fun h' => by omega⟩
      · rw [if_neg (by omega), if_pos h]
        exact ⟨fun h' => by omega, fun h' => by omega⟩
    · rw [if_neg (by omega), if_pos h, if_neg (by omega)]
      exact ⟨fun h' => by omega, fun h' => by omega⟩
  simp only [e]

end E
end Go.Proofs.YtbcncohjjnmdcaaGreatDoor
namespace Go.Proofs.YtbcncohjjnmdcaaGreatDoor
open Go.RowKit Go.Shelf
set_option linter.unusedVariables false
namespace E

/-- What the comparison leaves: a number that is negative just where x is less. -/
def CpPost (w : World) (x y : Nat) (e : Ending) (w' : World) : Prop := ∃ c : Int, e = .returned (.int .i64 c) ∧ decide (c < 0) = decide (x < y) ∧ Below w.heap.size w w'
/-- Two blocks of two cells are kept, and all that lay. -/
def Ap4 (w : World) (D E : Nat) (a b c d : Value) (W : World) : Prop := W.cell? ⟨D, 0, none⟩ = some a ∧ W.cell? ⟨D, 1, none⟩ = some b ∧ W.cell? ⟨E, 0, none⟩ = some c ∧ W.cell? ⟨E, 1, none⟩ = some d ∧ ApS w W
theorem Ap4.next {w W W' : World} {D E : Nat} {a b c d : Value} (h : Ap4 w D E a b c d W) (hb : Below W.heap.size W W') : Ap4 w D E a b c d W' :=
  ⟨keepC h.1 hb, keepC h.2.1 hb, keepC h.2.2.1 hb, keepC h.2.2.2.1 hb, bel_app h.2.2.2.2 hb⟩
theorem Ap4.new {w W : World} {D E : Nat} {a b c d : Value} (o : Obj) (h : Ap4 w D E a b c d W) : Ap4 w D E a b c d (W.alloc o) := h.next (below_new W o)
set_option maxRecDepth 100000 in
set_option maxHeartbeats 2000000 in
theorem pcompare_any (x y : Nat) (w : World) (hx : x < 340282366920938463463374607431768211456) (hy : y < 340282366920938463463374607431768211456) :
    Calls Tryz.prog 195 #[pv x, pv y] w (CpPost w x y) := by
  obtain ⟨a, b, hx, ha, hb, ex⟩ := pv_of x hx
  obtain ⟨c, d, hy, hc, hd, ey⟩ := pv_of y hy
  have hcl := cmp_lt hx hy hb hd
  rw [ex, ey]
  have HCL := Lib.hid hcl
  have HOR := Lib.hid (fun g W => or_any (cmpN a c) (cmpN b d) g W)
  clear hcl ex ey hx hy
  obtain ⟨W0, hW0⟩ : ∃ W0, W0 = (w.alloc (.cells #[.int .u64 (a : Int), .int .u64 (b : Int)] 165)).alloc (.cells #[.int .u64 (c : Int), .int .u64 (d : Int)] 165) := ⟨_, rfl⟩
  have hb0 : Below w.heap.size w W0 := by rw [hW0]; exact below2 _ _ _
  have c1 : W0.cell? ⟨w.heap.size, 0, none⟩ = some (.int .u64 (a : Int)) := by rw [hW0]; simp [go_sem]
  have c2 : W0.cell? ⟨w.heap.size, 1, none⟩ = some (.int .u64 (b : Int)) := by rw [hW0]; simp [go_sem]
  have c3 : W0.cell? ⟨w.heap.size + 1, 0, none⟩ = some (.int .u64 (c : Int)) := by rw [hW0]; simp [go_sem]
  have c4 : W0.cell? ⟨w.heap.size + 1, 1, none⟩ = some (.int .u64 (d : Int)) := by rw [hW0]; simp [go_sem]
  have H0 : Hid (Ap4 W0 w.heap.size (w.heap.size + 1) (.int .u64 (a : Int)) (.int .u64 (b : Int)) (.int .u64 (c : Int)) (.int .u64 (d : Int)) W0.drew) := Lib.hid ⟨keepC c1 (Below.refl _ _).drew, keepC c2 (Below.refl _ _).drew, keepC c3 (Below.refl _ _).drew, keepC c4 (Below.refl _ _).drew, (Below.refl _ _).drew⟩
  have HB0 := Lib.hid hb0
  clear hb0 c1 c2 c3 c4
  go_enter Tryz.func195, Tryz.ntmps195
  go_wp2_with fail
  rw [← hW0]
  clear hW0
  go_region_held3 (fun W => W.cell? ⟨w.heap.size, 0, none⟩ = some (.int .u64 (a : Int)) ∧ W.cell? ⟨w.heap.size, 1, none⟩ = some (.int .u64 (b : Int)) ∧ W.cell? ⟨w.heap.size + 1, 0, none⟩ = some (.int .u64 (c : Int)) ∧ W.cell? ⟨w.heap.size + 1, 1, none⟩ = some (.int .u64 (d : Int)) ∧ ApS W0 W)
    (first | assumption | exact H0.out | exact Ap4.new _ (by assumption))
    (first
      | (go_at_call 214; refine (cmp_any _ _ _).mono ?_; rintro e w5 ⟨rfl, rfl⟩)
      | (go_at_call 213; refine (HOR.out _ _ (by simp [go_sem]) (by simp [go_sem])).mono ?_; rintro e w5 ⟨rfl, rfl⟩))
  all_goals go_wp2
  all_goals go_ret
  all_goals exact ⟨_, rfl, HCL.out, bel0 HB0.out ((below_new _ _).drew)⟩

/-! ### Blocks that are known whole -/

/-- A pair's two cells. -/
theorem Bx.two {w : World} {g : Nat} {t : TypeId} {a b : Value} (h : Bx w g t #[a, b]) : (w.cell? ⟨g, 0, none⟩ = some a ∧ w.cell? ⟨g, 1, none⟩ = some b) ∧ w.frozen? ⟨g, 0, none⟩ = false ∧ w.frozen? ⟨g, 1, none⟩ = false := ⟨⟨h.cell 0, h.cell 1⟩, h.frozen 0, h.frozen 1⟩
theorem Bx.three {w : World} {g : Nat} {t : TypeId} {a b c : Value} (h : Bx w g t #[a, b, c]) : (w.cell? ⟨g, 0, none⟩ = some a ∧ w.cell? ⟨g, 1, none⟩ = some b ∧ w.cell? ⟨g, 2, none⟩ = some c) ∧ w.frozen? ⟨g, 0, none⟩ = false ∧ w.frozen? ⟨g, 1, none⟩ = false ∧ w.frozen? ⟨g, 2, none⟩ = false := ⟨⟨h.cell 0, h.cell 1, h.cell 2⟩, h.frozen 0, h.frozen 1, h.frozen 2⟩
theorem Bx.set2 {w : World} {g : Nat} {t : TypeId} {a b : Value} (h : Bx w g t #[a, b]) (x y : Value) : Bx ((w.setCell ⟨g, 0, none⟩ x).setCell ⟨g, 1, none⟩ y) g t #[x, y] := (h.set 0 x).set 1 y

end E
end Go.Proofs.YtbcncohjjnmdcaaGreatDoor

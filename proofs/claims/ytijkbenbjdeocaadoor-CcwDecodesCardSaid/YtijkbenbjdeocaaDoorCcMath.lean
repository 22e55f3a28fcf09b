/- Channel words as plain structures: directions, flags, encodings and decodings; facts on bits. -/
import Derived.Test.YtijkbenbjdeocaaDoorPsBase
import Derived.Test.YtijkbenbjdeocaaDoorWordB
namespace Go.Proofs.YtijkbenbjdeocaaDoor
open Go.RowKit
set_option linter.unusedVariables false
namespace E

/-- The byte of a number. -/
def by8 (z : Int) : UInt8 := UInt8.ofNat z.toNat
theorem by8_nat {z : Int} (h0 : 0 ≤ z) (h1 : z < 256) : ((by8 z).toNat : Int) = z := by
  unfold by8
  rw [UInt8.toNat_ofNat', Nat.mod_eq_of_lt (by show z.toNat < 256; omega)]
  omega
theorem by8_self (x : UInt8) : by8 (x.toNat : Int) = x := by
  unfold by8
  rw [Int.toNat_natCast, UInt8.ofNat_toNat]
/-- A flag's bit. -/
def fl (b : Bool) (v : Int) : Int := bif b then v else 0
theorem lt256 (x : UInt8) : (x.toNat : Int) < 256 := by have := x.toNat_lt; omega
/-! ### Bits of signed numbers -/

theorem wrap_i64s {n : Int} (h0 : -9223372036854775808 ≤ n) (h1 : n < 9223372036854775808) : IntKind.i64.wrap n = n := by
  simp [IntKind.wrap, IntKind.bits, IntKind.signed]; omega
theorem bv64 {z : Int} (h0 : 0 ≤ z) (h1 : z < 18446744073709551616) : (BitVec.ofInt 64 z).toNat = z.toNat := by
  rw [BitVec.toNat_ofInt]; omega
/-- And of two natural numbers below 2^62. -/
theorem and_nat (a b : Nat) (ha : a < 4611686018427387904) (hb : b < 4611686018427387904) : bits .and .i64 (a : Int) (b : Int) = ((a &&& b : Nat) : Int) := by
  have hx : a &&& b < 2 ^ 62 := Nat.and_lt_two_pow _ (by omega)
  show IntKind.i64.wrap ((BitVec.ofInt 64 (a : Int) &&& BitVec.ofInt 64 (b : Int)).toNat : Int) = _
  rw [BitVec.toNat_and, bv64 (by omega) (by omega), bv64 (by omega) (by omega), Int.toNat_natCast, Int.toNat_natCast]
  exact wrap_i64s (by omega) (by omega)
theorem or_nat (a b : Nat) (ha : a < 4611686018427387904) (hb : b < 4611686018427387904) : bits .or .i64 (a : Int) (b : Int) = ((a ||| b : Nat) : Int) := by
  have hx : a ||| b < 2 ^ 62 := Nat.or_lt_two_pow (by omega) (by omega)
  show IntKind.i64.wrap ((BitVec.ofInt 64 (a : Int) ||| BitVec.ofInt 64 (b : Int)).toNat : Int) = _
  rw [BitVec.toNat_or, bv64 (by omega) (by omega), bv64 (by omega) (by omega), Int.toNat_natCast, Int.toNat_natCast]
  exact wrap_i64s (by omega) (by omega)
/-- The low bits of any number. -/
theorem and_low (n : Int) (k : Nat) (hk : k ≤ 62) : bits .and .i64 n ((2 ^ k - 1 : Nat) : Int) = n % (2 ^ k : Nat) := by
  have hp : 2 ^ k ≤ 2 ^ 62 := Nat.pow_le_pow_right (by decide) hk
  have hp0 : 0 < 2 ^ k := Nat.pow_pos (by decide)
  show IntKind.i64.wrap ((BitVec.ofInt 64 n &&& BitVec.ofInt 64 ((2 ^ k - 1 : Nat) : Int)).toNat : Int) = _
  rw [BitVec.toNat_and, bv64 (z := ((2 ^ k - 1 : Nat) : Int)) (by omega) (by omega), Int.toNat_natCast, Nat.and_two_pow_sub_one_eq_mod, BitVec.toNat_ofInt]
  have h1 : (((n % ((2 ^ 64 : Nat) : Int)).toNat % 2 ^ k : Nat) : Int) = n % ((2 ^ k : Nat) : Int) := by
    rw [Int.natCast_emod, Int.toNat_of_nonneg (Int.emod_nonneg _ (by decide))]
    exact Int.emod_emod_of_dvd n (by exact_mod_cast Nat.pow_dvd_pow 2 (by omega : k ≤ 64))
  rw [h1]
  have h2 := Int.emod_nonneg n (show ((2 ^ k : Nat) : Int) ≠ 0 by omega)
  have h3 := Int.emod_lt_of_pos n (show (0 : Int) < ((2 ^ k : Nat) : Int) by omega)
  exact wrap_i64s (by omega) (by omega)
theorem or_sum (i a b : Nat) (hb : b < 2 ^ i) (hs : 2 ^ i * a < 4611686018427387904) (hi : i ≤ 61) : bits .or .i64 ((2 ^ i * a : Nat) : Int) (b : Int) = ((2 ^ i * a + b : Nat) : Int) := by
  have hp : 2 ^ i ≤ 2 ^ 61 := Nat.pow_le_pow_right (by decide) hi
  rw [or_nat _ _ hs (by omega), ← Nat.two_pow_add_eq_or_of_lt hb a]

theorem and_lowU (n : Nat) (k : Nat) (hk : k ≤ 31) : bits .and .u32 (n : Int) ((2 ^ k - 1 : Nat) : Int) = ((n % 2 ^ k : Nat) : Int) := by
  have hp : 2 ^ k ≤ 2 ^ 31 := Nat.pow_le_pow_right (by decide) hk
  have hp0 : 0 < 2 ^ k := Nat.pow_pos (by decide)
  show IntKind.u32.wrap ((BitVec.ofInt 32 (n : Int) &&& BitVec.ofInt 32 ((2 ^ k - 1 : Nat) : Int)).toNat : Int) = _
  have h1 : (BitVec.ofInt 32 ((2 ^ k - 1 : Nat) : Int)).toNat = 2 ^ k - 1 := by rw [BitVec.toNat_ofInt]; omega
  rw [BitVec.toNat_and, h1, Nat.and_two_pow_sub_one_eq_mod, BitVec.toNat_ofInt]
  have h2 : ((n : Int) % ((2 ^ 32 : Nat) : Int)).toNat % 2 ^ k = n % 2 ^ k := by
    rw [← Int.natCast_emod, Int.toNat_natCast]
    exact Nat.mod_mod_of_dvd n (Nat.pow_dvd_pow 2 (by omega))
  rw [h2, W.wrap_u32]
  have h3 : n % 2 ^ k < 2 ^ k := Nat.mod_lt _ hp0
  omega
theorem andF (n : Int) : bits .and .i64 n 15 = n % 16 := and_low n 4 (by decide)
theorem and7 (n : Int) : bits .and .i64 n 7 = n % 8 := and_low n 3 (by decide)
theorem and3 (n : Int) : bits .and .i64 n 3 = n % 4 := and_low n 2 (by decide)
theorem and16b (n : Int) : bits .and .i64 n 65535 = n % 65536 := and_low n 16 (by decide)
theorem and24u {v : Int} (h0 : 0 ≤ v) : bits .and .u32 v 16777215 = v % 16777216 := by
  obtain ⟨n, rfl⟩ : ∃ n : Nat, v = n := ⟨v.toNat, by omega⟩
  exact and_lowU n 24 (by decide)
theorem or24 {b r : Int} (h0 : 0 ≤ b) (h1 : b ≤ 255) (h2 : 0 ≤ r) (h3 : r ≤ 16777215) : bits .or .i64 (b * 16777216) r = b * 16777216 + r := by
  have h := or_sum 24 b.toNat r.toNat (by omega) (by omega) (by decide)
  rw [show ((2 ^ 24 * b.toNat : Nat) : Int) = b * 16777216 by omega, show ((r.toNat : Nat) : Int) = r by omega, show ((2 ^ 24 * b.toNat + r.toNat : Nat) : Int) = b * 16777216 + r by omega] at h
  exact h
theorem or16 {b r : Int} (h0 : 0 ≤ b) (h1 : b ≤ 255) (h2 : 0 ≤ r) (h3 : r ≤ 65535) : bits .or .i64 (b * 65536) r = b * 65536 + r := by
  have h := or_sum 16 b.toNat r.toNat (by omega) (by omega) (by decide)
  rw [show ((2 ^ 16 * b.toNat : Nat) : Int) = b * 65536 by omega, show ((r.toNat : Nat) : Int) = r by omega, show ((2 ^ 16 * b.toNat + r.toNat : Nat) : Int) = b * 65536 + r by omega] at h
  exact h

/-- A channel command word. -/
@[ext] structure Cw where
  o : Int
  a : Int
  cd : Bool
  cc : Bool
  sl : Bool
  sk : Bool
  pc : Bool
  n : Int
  deriving DecidableEq
def Cw.v (Q : Cw) : Value := .agg #[.int .i64 Q.o, .int .i64 Q.a, .bool Q.cd, .bool Q.cc, .bool Q.sl, .bool Q.sk, .bool Q.pc, .int .i64 Q.n]
/-- A channel status word. -/
@[ext] structure Cs where
  k : Int
  a : Int
  u : Int
  c : Int
  n : Int
  deriving DecidableEq
def Cs.v (S : Cs) : Value := .agg #[.int .i64 S.k, .int .i64 S.a, .int .i64 S.u, .int .i64 S.c, .int .i64 S.n]
/-- x is from 0 to m. -/
def inr (x m : Int) : Bool := decide (0 ≤ x) && decide (x ≤ m)
theorem inr_iff {x m : Int} : inr x m = true ↔ 0 ≤ x ∧ x ≤ m := by simp [inr]
theorem inr_no {x m : Int} : inr x m = false ↔ ¬ (0 ≤ x ∧ x ≤ m) := by
  rw [← inr_iff]
  cases inr x m <;> simp
/-- The direction of a code from 0 to 255. -/
def dirM (x y : Int) : Int := if x = 0 then 0 else if x = 4 then 5 else if x = 8 then 6 else if x = 12 then 3 else if y = 1 then 1 else if y = 2 then 2 else 4
def dirI (o : Int) : Int := if inr o 255 = true then dirM (o % 16) (o % 4) else 0
/-- The flags' bits. -/
def flI (Q : Cw) : Int := fl Q.cd 128 + fl Q.cc 64 + fl Q.sl 32 + fl Q.sk 16 + fl Q.pc 8
theorem fl_or (a b c d e : Bool) : 0 ≤ fl a 128 + fl b 64 + fl c 32 + fl d 16 + fl e 8 ∧ fl a 128 + fl b 64 + fl c 32 + fl d 16 + fl e 8 ≤ 248 ∧ (fl a 128 + fl b 64 + fl c 32 + fl d 16 + fl e 8) % 8 = 0 := by
  cases a <;> cases b <;> cases c <;> cases d <;> cases e <;> decide
theorem flI_bd (Q : Cw) : 0 ≤ flI Q ∧ flI Q ≤ 248 ∧ flI Q % 8 = 0 := fl_or _ _ _ _ _
/-- The command may have its flags and its count. -/
def alwB (d f n : Int) : Bool := if d = 0 then false else if d = 6 then (f == 0) && (n == 0) else decide (0 < n)
def rngB (Q : Cw) : Bool := inr Q.o 255 && (inr Q.a 16777215 && inr Q.n 65535)
def encC (Q : Cw) : Int := if rngB Q = true then (if alwB (dirI Q.o) (flI Q) Q.n = true then 0 else 1) else 6
def w4 (b r : Int) : List UInt8 := [by8 b, by8 (r / 65536), by8 (r / 256 % 256), by8 (r % 256)]
def encL (Q : Cw) : List UInt8 := w4 Q.o Q.a ++ w4 (flI Q) Q.n
def encS (Q : Cw) : List UInt8 := if encC Q = 0 then encL Q else []
/-- The number of three bytes. -/
def n3 (l : List UInt8) (i : Nat) : Int := 65536 * ((gt l i).toNat : Int) + 256 * ((gt l (i + 1)).toNat : Int) + ((gt l (i + 2)).toNat : Int)
def n2 (l : List UInt8) (i : Nat) : Int := 256 * ((gt l i).toNat : Int) + ((gt l (i + 1)).toNat : Int)
def b1 (l : List UInt8) (i : Nat) : Int := ((gt l i).toNat : Int)
def zC : Cw := ⟨0, 0, false, false, false, false, false, 0⟩
def zS : Cs := ⟨0, 0, 0, 0, 0⟩
def bt (x : Int) (v : Int) : Bool := x / v % 2 == 1
def decF (l : List UInt8) : Cw := ⟨b1 l 0, n3 l 1, bt (b1 l 4) 128, bt (b1 l 4) 64, bt (b1 l 4) 32, bt (b1 l 4) 16, bt (b1 l 4) 8, n2 l 6⟩
def decJ (l : List UInt8) : Cw := ⟨b1 l 0, n3 l 1, false, false, false, false, false, 0⟩
/-- What Decode answers. -/
def decR (l : List UInt8) : Cw × Bool :=
  if l.length = 8 then
    if dirI (b1 l 0) = 6 then (decJ l, true)
    else if b1 l 4 % 8 = 0 ∧ dirI (b1 l 0) ≠ 0 ∧ 0 < n2 l 6 then (decF l, true) else (zC, false)
  else (zC, false)
def rngS (S : Cs) : Bool := inr S.k 15 && (inr S.a 16777215 && ((inr S.u 255 && inr S.c 255) && inr S.n 65535))
def encSC (S : Cs) : Int := if rngS S = true then 0 else 6
def encSL (S : Cs) : List UInt8 := w4 (S.k * 16) S.a ++ w4 S.u (S.c * 65536 + S.n)
def encSS (S : Cs) : List UInt8 := if rngS S = true then encSL S else []
def decSF (l : List UInt8) : Cs := ⟨b1 l 0 / 16, n3 l 1, b1 l 4, b1 l 5, n2 l 6⟩
def decS (l : List UInt8) : Cs × Bool := if l.length = 8 ∧ b1 l 0 % 16 = 0 then (decSF l, true) else (zS, false)
def cawR (l : List UInt8) : (Int × Int) × Bool := if l.length = 4 ∧ b1 l 0 % 16 = 0 ∧ n3 l 1 % 8 = 0 then ((b1 l 0 / 16, n3 l 1), true) else ((0, 0), false)
def cawC (k a : Int) : Int := if inr k 15 = true ∧ inr a 16777215 = true then (if a % 8 = 0 then 0 else 1) else 6
def cawL (k a : Int) : List UInt8 := if cawC k a = 0 then w4 (k * 16) a else []
theorem n3_bd (l : List UInt8) (i : Nat) : 0 ≤ n3 l i ∧ n3 l i ≤ 16777215 := by
  have h1 := lt256 (gt l i); have h2 := lt256 (gt l (i + 1)); have h3 := lt256 (gt l (i + 2))
  unfold n3; omega
theorem n2_bd (l : List UInt8) (i : Nat) : 0 ≤ n2 l i ∧ n2 l i ≤ 65535 := by
  have h1 := lt256 (gt l i); have h2 := lt256 (gt l (i + 1))
  unfold n2; omega
theorem b1_bd (l : List UInt8) (i : Nat) : 0 ≤ b1 l i ∧ b1 l i ≤ 255 := by
  have h1 := lt256 (gt l i)
  unfold b1; omega
theorem w4_len (b r : Int) : (w4 b r).length = 4 := rfl
theorem encL_len (Q : Cw) : (encL Q).length = 8 := rfl
theorem encSL_len (S : Cs) : (encSL S).length = 8 := rfl
theorem bt_bits (x : UInt8) : (bits .and .i64 (x.toNat : Int) 128 != 0) = bt (x.toNat : Int) 128 ∧ (bits .and .i64 (x.toNat : Int) 64 != 0) = bt (x.toNat : Int) 64 ∧ (bits .and .i64 (x.toNat : Int) 32 != 0) = bt (x.toNat : Int) 32 ∧ (bits .and .i64 (x.toNat : Int) 16 != 0) = bt (x.toNat : Int) 16 ∧ (bits .and .i64 (x.toNat : Int) 8 != 0) = bt (x.toNat : Int) 8 :=
  all256 (p := fun x => (bits .and .i64 (x.toNat : Int) 128 != 0) = bt (x.toNat : Int) 128 ∧ (bits .and .i64 (x.toNat : Int) 64 != 0) = bt (x.toNat : Int) 64 ∧ (bits .and .i64 (x.toNat : Int) 32 != 0) = bt (x.toNat : Int) 32 ∧ (bits .and .i64 (x.toNat : Int) 16 != 0) = bt (x.toNat : Int) 16 ∧ (bits .and .i64 (x.toNat : Int) 8 != 0) = bt (x.toNat : Int) 8) (by decide +kernel) x
theorem fl_bt (a b c d e : Bool) : bt (fl a 128 + fl b 64 + fl c 32 + fl d 16 + fl e 8) 128 = a ∧ bt (fl a 128 + fl b 64 + fl c 32 + fl d 16 + fl e 8) 64 = b ∧ bt (fl a 128 + fl b 64 + fl c 32 + fl d 16 + fl e 8) 32 = c ∧ bt (fl a 128 + fl b 64 + fl c 32 + fl d 16 + fl e 8) 16 = d ∧ bt (fl a 128 + fl b 64 + fl c 32 + fl d 16 + fl e 8) 8 = e := by
  cases a <;> cases b <;> cases c <;> cases d <;> cases e <;> decide
theorem bt_fl (x : UInt8) : x.toNat % 8 = 0 → fl (bt (x.toNat : Int) 128) 128 + fl (bt (x.toNat : Int) 64) 64 + fl (bt (x.toNat : Int) 32) 32 + fl (bt (x.toNat : Int) 16) 16 + fl (bt (x.toNat : Int) 8) 8 = (x.toNat : Int) :=
  all256 (p := fun x => x.toNat % 8 = 0 → fl (bt (x.toNat : Int) 128) 128 + fl (bt (x.toNat : Int) 64) 64 + fl (bt (x.toNat : Int) 32) 32 + fl (bt (x.toNat : Int) 16) 16 + fl (bt (x.toNat : Int) 8) 8 = (x.toNat : Int)) (by decide +kernel) x
/-- A word's bytes read as its byte and its rest. -/
theorem w4_rd (l r : List UInt8) (b x : Int) (hb : 0 ≤ b ∧ b ≤ 255) (hx : 0 ≤ x ∧ x ≤ 16777215) : b1 (l ++ w4 b x ++ r) l.length = b ∧ n3 (l ++ w4 b x ++ r) (l.length + 1) = x := by
  have e0 : gt (l ++ w4 b x ++ r) l.length = by8 b := by simp [gt, w4]
  have e1 : gt (l ++ w4 b x ++ r) (l.length + 1) = by8 (x / 65536) := by simp [gt, w4]
  have e2 : gt (l ++ w4 b x ++ r) (l.length + 1 + 1) = by8 (x / 256 % 256) := by simp [gt, w4, Nat.add_assoc]
  have e3 : gt (l ++ w4 b x ++ r) (l.length + 1 + 2) = by8 (x % 256) := by simp [gt, w4, Nat.add_assoc]
  unfold b1 n3
  rw [e0, e1, e2, e3, by8_nat (by omega) (by omega), by8_nat (by omega) (by omega), by8_nat (by omega) (by omega), by8_nat (by omega) (by omega)]
  omega
theorem encL_rd (Q : Cw) (h : rngB Q = true) : b1 (encL Q) 0 = Q.o ∧ n3 (encL Q) 1 = Q.a ∧ b1 (encL Q) 4 = flI Q ∧ n2 (encL Q) 6 = Q.n := by
  unfold rngB at h
  simp only [Bool.and_eq_true, inr_iff] at h
  have hf := flI_bd Q
  show ((by8 Q.o).toNat : Int) = Q.o ∧ 65536 * ((by8 (Q.a / 65536)).toNat : Int) + 256 * ((by8 (Q.a / 256 % 256)).toNat : Int) + ((by8 (Q.a % 256)).toNat : Int) = Q.a ∧ ((by8 (flI Q)).toNat : Int) = flI Q ∧ 256 * ((by8 (Q.n / 256 % 256)).toNat : Int) + ((by8 (Q.n % 256)).toNat : Int) = Q.n
  rw [by8_nat (by omega) (by omega), by8_nat (by omega) (by omega), by8_nat (by omega) (by omega), by8_nat (by omega) (by omega), by8_nat (by omega) (by omega), by8_nat (by omega) (by omega), by8_nat (by omega) (by omega)]
  omega
/-- Encoded and decoded: as it was. -/
theorem dec_enc (Q : Cw) (h : encC Q = 0) : decR (encS Q) = (Q, true) := by
  have h' := h
  unfold encC at h
  split at h
  · rename_i hr
    split at h
    · rename_i ha
      obtain ⟨e0, e1, e2, e3⟩ := encL_rd Q hr
      have hf := flI_bd Q
      obtain ⟨g1, g2, g3, g4, g5⟩ := fl_bt Q.cd Q.cc Q.sl Q.sk Q.pc
      rw [show encS Q = encL Q from if_pos h']
      unfold decR
      rw [if_pos (encL_len Q), e0, e2, e3]
      unfold alwB at ha
      by_cases h6 : dirI Q.o = 6
      · rw [if_pos h6]
        rw [if_neg (by omega), if_pos h6] at ha
        simp only [Bool.and_eq_true, beq_iff_eq] at ha
        have hz : Q.cd = false ∧ Q.cc = false ∧ Q.sl = false ∧ Q.sk = false ∧ Q.pc = false := by
          have := ha.1
          unfold flI at this
          revert this
          cases Q.cd <;> cases Q.cc <;> cases Q.sl <;> cases Q.sk <;> cases Q.pc <;> decide
        unfold decJ
        rw [e0, e1]
        obtain ⟨z1, z2, z3, z4, z5⟩ := hz
        have hn := ha.2
        simp only [Prod.mk.injEq, and_true]
        ext <;> simp [z1, z2, z3, z4, z5, hn]
      · rw [if_neg h6]
        by_cases h0 : dirI Q.o = 0
        · rw [if_pos h0] at ha
          cases ha
        · rw [if_neg h0, if_neg h6, decide_eq_true_iff] at ha
          rw [if_pos ⟨hf.2.2, h0, ha⟩]
          unfold decF
          rw [e0, e1, e2, e3]
          unfold flI
          rw [g1, g2, g3, g4, g5]
    · omega
  · omega
/-- Decoded and encoded again: what is decoded is valid. -/
theorem enc_dec (l : List UInt8) (h : (decR l).2 = true) : encC (decR l).1 = 0 := by
  unfold decR at h ⊢
  have i0 := b1_bd l 0
  have i1 := n3_bd l 1
  have i2 := n2_bd l 6
  split at h
  · rename_i h8
    rw [if_pos h8]
    split at h
    · rename_i h6
      rw [if_pos h6]
      unfold encC
      rw [if_pos (by simp only [rngB, decJ, Bool.and_eq_true, inr_iff]; omega), if_pos (by
        show alwB (dirI (b1 l 0)) (flI (decJ l)) 0 = true
        rw [h6, show flI (decJ l) = 0 from rfl]
        decide)]
    · rename_i h6
      rw [if_neg h6]
      split at h
      · rename_i hc
        rw [if_pos hc]
        unfold encC
        rw [if_pos (by simp only [rngB, decF, Bool.and_eq_true, inr_iff]; omega), if_pos (by
          show alwB (dirI (b1 l 0)) (flI (decF l)) (n2 l 6) = true
          unfold alwB
          rw [if_neg hc.2.1, if_neg h6]
          simpa using hc.2.2)]
      · cases h
  · cases h
theorem encSL_rd (S : Cs) (h : rngS S = true) : b1 (encSL S) 0 = S.k * 16 ∧ n3 (encSL S) 1 = S.a ∧ b1 (encSL S) 4 = S.u ∧ b1 (encSL S) 5 = S.c ∧ n2 (encSL S) 6 = S.n := by
  unfold rngS at h
  simp only [Bool.and_eq_true, inr_iff] at h
  show ((by8 (S.k * 16)).toNat : Int) = S.k * 16 ∧ 65536 * ((by8 (S.a / 65536)).toNat : Int) + 256 * ((by8 (S.a / 256 % 256)).toNat : Int) + ((by8 (S.a % 256)).toNat : Int) = S.a ∧ ((by8 S.u).toNat : Int) = S.u ∧ ((by8 ((S.c * 65536 + S.n) / 65536)).toNat : Int) = S.c ∧ 256 * ((by8 ((S.c * 65536 + S.n) / 256 % 256)).toNat : Int) + ((by8 ((S.c * 65536 + S.n) % 256)).toNat : Int) = S.n
  rw [by8_nat (by omega) (by omega), by8_nat (by omega) (by omega), by8_nat (by omega) (by omega), by8_nat (by omega) (by omega), by8_nat (by omega) (by omega), by8_nat (by omega) (by omega), by8_nat (by omega) (by omega), by8_nat (by omega) (by omega)]
  omega
theorem decS_enc (S : Cs) (h : rngS S = true) : decS (encSS S) = (S, true) := by
  obtain ⟨e0, e1, e2, e3, e4⟩ := encSL_rd S h
  rw [show encSS S = encSL S from if_pos h]
  unfold decS
  rw [if_pos ⟨encSL_len S, by rw [e0]; omega⟩]
  unfold decSF
  rw [e0, e1, e2, e3, e4, show S.k * 16 / 16 = S.k by omega]
theorem list8 (l : List UInt8) (h : l.length = 8) : l = [gt l 0, gt l 1, gt l 2, gt l 3, gt l 4, gt l 5, gt l 6, gt l 7] := by
  match l, h with
  | [a, b, c, d, e, f, g, i], _ => rfl
theorem encS_dec (l : List UInt8) (h : (decS l).2 = true) : rngS (decS l).1 = true ∧ encSS (decS l).1 = l := by
  unfold decS at h ⊢
  split at h
  · rename_i hc
    rw [if_pos hc]
    obtain ⟨h8, h16⟩ := hc
    have j0 := lt256 (gt l 0); have j1 := lt256 (gt l 1); have j2 := lt256 (gt l 2); have j3 := lt256 (gt l 3); have j4 := lt256 (gt l 4); have j5 := lt256 (gt l 5); have j6 := lt256 (gt l 6); have j7 := lt256 (gt l 7)
    have hr : rngS (decSF l) = true := by
      have i0 := n3_bd l 1; have i1 := n2_bd l 6; have i2 := b1_bd l 0; have i3 := b1_bd l 4; have i4 := b1_bd l 5
      simp only [rngS, decSF, Bool.and_eq_true, inr_iff]
      omega
    refine ⟨hr, ?_⟩
    rw [show encSS (decSF l) = encSL (decSF l) from if_pos hr]
    unfold b1 at h16
    rw [list8 l h8]
    generalize gt l 0 = x0 at *
    generalize gt l 1 = x1 at *
    generalize gt l 2 = x2 at *
    generalize gt l 3 = x3 at *
    generalize gt l 4 = x4 at *
    generalize gt l 5 = x5 at *
    generalize gt l 6 = x6 at *
    generalize gt l 7 = x7 at *
    show [by8 ((x0.toNat : Int) / 16 * 16), by8 ((65536 * (x1.toNat : Int) + 256 * (x2.toNat : Int) + (x3.toNat : Int)) / 65536), by8 ((65536 * (x1.toNat : Int) + 256 * (x2.toNat : Int) + (x3.toNat : Int)) / 256 % 256), by8 ((65536 * (x1.toNat : Int) + 256 * (x2.toNat : Int) + (x3.toNat : Int)) % 256), by8 (x4.toNat : Int), by8 (((x5.toNat : Int) * 65536 + (256 * (x6.toNat : Int) + (x7.toNat : Int))) / 65536), by8 (((x5.toNat : Int) * 65536 + (256 * (x6.toNat : Int) + (x7.toNat : Int))) / 256 % 256), by8 (((x5.toNat : Int) * 65536 + (256 * (x6.toNat : Int) + (x7.toNat : Int))) % 256)] = [x0, x1, x2, x3, x4, x5, x6, x7]
    rw [show (x0.toNat : Int) / 16 * 16 = (x0.toNat : Int) by omega, show (65536 * (x1.toNat : Int) + 256 * (x2.toNat : Int) + (x3.toNat : Int)) / 65536 = (x1.toNat : Int) by omega, show (65536 * (x1.toNat : Int) + 256 * (x2.toNat : Int) + (x3.toNat : Int)) / 256 % 256 = (x2.toNat : Int) by omega, show (65536 * (x1.toNat : Int) + 256 * (x2.toNat : Int) + (x3.toNat : Int)) % 256 = (x3.toNat : Int) by omega,
      show ((x5.toNat : Int) * 65536 + (256 * (x6.toNat : Int) + (x7.toNat : Int))) / 65536 = (x5.toNat : Int) by omega, show ((x5.toNat : Int) * 65536 + (256 * (x6.toNat : Int) + (x7.toNat : Int))) / 256 % 256 = (x6.toNat : Int) by omega, show ((x5.toNat : Int) * 65536 + (256 * (x6.toNat : Int) + (x7.toNat : Int))) % 256 = (x7.toNat : Int) by omega]
    simp only [by8_self]
  · cases h
theorem caw_back (k a : Int) (h : cawC k a = 0) : cawR (cawL k a) = ((k, a), true) := by
  have h' := h
  unfold cawC at h
  split at h
  · rename_i hr
    simp only [inr_iff] at hr
    split at h
    · rename_i h8
      rw [show cawL k a = w4 (k * 16) a from if_pos h']
      have e0 : b1 (w4 (k * 16) a) 0 = k * 16 := by
        show ((by8 (k * 16)).toNat : Int) = _
        exact by8_nat (by omega) (by omega)
      have e1 : n3 (w4 (k * 16) a) 1 = a := by
        show 65536 * ((by8 (a / 65536)).toNat : Int) + 256 * ((by8 (a / 256 % 256)).toNat : Int) + ((by8 (a % 256)).toNat : Int) = a
        rw [by8_nat (by omega) (by omega), by8_nat (by omega) (by omega), by8_nat (by omega) (by omega)]
        omega
      unfold cawR
      rw [e0, e1, if_pos ⟨rfl, by omega, h8⟩, show k * 16 / 16 = k by omega]
    · omega
  · omega
end E
end Go.Proofs.YtijkbenbjdeocaaDoor

/- Program status words as plain structures: validity, encoding, decoding, branches, admissions, steps, and the facts on bits that they need. -/
import Derived.Test.YtfobmgoehamnnaaPsBase
namespace Go.Proofs.Ytfobmgoehamnnaa
open Go.RowKit
set_option linter.unusedVariables false
namespace E

/-- A program status word. -/
@[ext] structure Psw where
  m : Int
  k : Int
  ma : Bool
  wa : Bool
  pr : Bool
  co : Int
  il : Int
  cc : Int
  pg : Int
  ad : Int
  deriving DecidableEq

def okP (Q : Psw) : Prop := (0 ≤ Q.m ∧ Q.m ≤ 255) ∧ (0 ≤ Q.k ∧ Q.k ≤ 15) ∧ (0 ≤ Q.co ∧ Q.co ≤ 65535) ∧ (0 ≤ Q.il ∧ Q.il ≤ 3) ∧ (0 ≤ Q.cc ∧ Q.cc ≤ 3) ∧ (0 ≤ Q.pg ∧ Q.pg ≤ 15) ∧ (0 ≤ Q.ad ∧ Q.ad ≤ 16777215)
instance (Q : Psw) : Decidable (okP Q) := by unfold okP; infer_instance
def okB (Q : Psw) : Bool := decide (okP Q)
/-- The byte of a number. -/
def by8 (z : Int) : UInt8 := UInt8.ofNat z.toNat
theorem by8_nat {z : Int} (h0 : 0 ≤ z) (h1 : z < 256) : ((by8 z).toNat : Int) = z := by
  unfold by8
  rw [UInt8.toNat_ofNat', Nat.mod_eq_of_lt (by show z.toNat < 256; omega)]
  omega
theorem by8_self (x : UInt8) : by8 (x.toNat : Int) = x := by
  unfold by8
  rw [Int.toNat_natCast, UInt8.ofNat_toNat]
/-- A flag's bit. -/
def fl (b : Bool) (v : Int) : Int := bif b then v else 0
theorem fl_le (b : Bool) (v : Int) (h : 0 ≤ v) : 0 ≤ fl b v ∧ fl b v ≤ v := by cases b <;> simp [fl, h]
def fls (Q : Psw) : Int := fl Q.ma 4 + fl Q.wa 2 + fl Q.pr 1
theorem fls_le (Q : Psw) : 0 ≤ fls Q ∧ fls Q ≤ 7 := by
  have h1 := fl_le Q.ma 4 (by decide)
  have h2 := fl_le Q.wa 2 (by decide)
  have h3 := fl_le Q.pr 1 (by decide)
  unfold fls
  omega
/-- The encoding. -/
def encL (Q : Psw) : List UInt8 := [by8 Q.m, by8 (16 * Q.k + fls Q), by8 (Q.co / 256), by8 (Q.co % 256), by8 (64 * Q.il + 16 * Q.cc + Q.pg), by8 (Q.ad / 65536), by8 (Q.ad / 256 % 256), by8 (Q.ad % 256)]
/-- The word of eight bytes. -/
def decP (a b c d e f g h : UInt8) : Psw :=
  { m := (a.toNat : Int), k := (b.toNat : Int) / 16, ma := (b.toNat / 4 % 2 == 1), wa := (b.toNat / 2 % 2 == 1), pr := (b.toNat % 2 == 1), co := 256 * (c.toNat : Int) + (d.toNat : Int), il := (e.toNat : Int) / 64, cc := (e.toNat : Int) / 16 % 4, pg := (e.toNat : Int) % 16, ad := 65536 * (f.toNat : Int) + 256 * (g.toNat : Int) + (h.toNat : Int) }
theorem lt256 (x : UInt8) : (x.toNat : Int) < 256 := by have := x.toNat_lt; omega
theorem decP_ok (a b c d e f g h : UInt8) : okP (decP a b c d e f g h) := by
  have h1 := lt256 a; have h2 := lt256 b; have h3 := lt256 c; have h4 := lt256 d; have h5 := lt256 e; have h6 := lt256 f; have h7 := lt256 g; have h8 := lt256 h
  unfold okP decP
  simp only
  omega
theorem key_back (x : UInt8) : x.toNat / 8 % 2 = 0 → 16 * ((x.toNat : Int) / 16) + (fl (x.toNat / 4 % 2 == 1) 4 + fl (x.toNat / 2 % 2 == 1) 2 + fl (x.toNat % 2 == 1) 1) = (x.toNat : Int) :=
  all256 (p := fun x => x.toNat / 8 % 2 = 0 → 16 * ((x.toNat : Int) / 16) + (fl (x.toNat / 4 % 2 == 1) 4 + fl (x.toNat / 2 % 2 == 1) 2 + fl (x.toNat % 2 == 1) 1) = (x.toNat : Int)) (by decide +kernel) x
theorem enc_dec (a b c d e f g h : UInt8) (hb : b.toNat / 8 % 2 = 0) : encL (decP a b c d e f g h) = [a, b, c, d, e, f, g, h] := by
  have h1 := lt256 a; have h2 := lt256 b; have h3 := lt256 c; have h4 := lt256 d; have h5 := lt256 e; have h6 := lt256 f; have h7 := lt256 g; have h8 := lt256 h
  have e1 := key_back b hb
  unfold encL fls decP
  simp only
  rw [e1, by8_self, by8_self, show (256 * (c.toNat : Int) + (d.toNat : Int)) / 256 = (c.toNat : Int) by omega, show (256 * (c.toNat : Int) + (d.toNat : Int)) % 256 = (d.toNat : Int) by omega,
    show 64 * ((e.toNat : Int) / 64) + 16 * ((e.toNat : Int) / 16 % 4) + (e.toNat : Int) % 16 = (e.toNat : Int) by omega,
    show (65536 * (f.toNat : Int) + 256 * (g.toNat : Int) + (h.toNat : Int)) / 65536 = (f.toNat : Int) by omega,
    show (65536 * (f.toNat : Int) + 256 * (g.toNat : Int) + (h.toNat : Int)) / 256 % 256 = (g.toNat : Int) by omega,
    show (65536 * (f.toNat : Int) + 256 * (g.toNat : Int) + (h.toNat : Int)) % 256 = (h.toNat : Int) by omega]
  simp only [by8_self]
theorem fl_back (a b c : Bool) (x : Int) (h : x = fl a 4 + fl b 2 + fl c 1) : ((x / 4 % 2 == 1) = a ∧ (x / 2 % 2 == 1) = b ∧ (x % 2 == 1) = c) ∧ x / 8 % 2 = 0 := by
  subst h
  revert a b c
  decide
theorem flags_back (Q : Psw) (h : okP Q) (b : UInt8) (hb : b = by8 (16 * Q.k + fls Q)) : b.toNat / 8 % 2 = 0 ∧ (b.toNat : Int) / 16 = Q.k ∧ (b.toNat / 4 % 2 == 1) = Q.ma ∧ (b.toNat / 2 % 2 == 1) = Q.wa ∧ (b.toNat % 2 == 1) = Q.pr := by
  obtain ⟨_, hk, _⟩ := h
  have hf := fls_le Q
  have hn : (b.toNat : Int) = 16 * Q.k + fls Q := by rw [hb]; exact by8_nat (by omega) (by omega)
  obtain ⟨⟨h1, h2, h3⟩, h4⟩ := fl_back Q.ma Q.wa Q.pr (fls Q) rfl
  refine ⟨by omega, by omega, ?_, ?_, ?_⟩
  · rw [← h1, Bool.eq_iff_iff]; simp only [beq_iff_eq]; omega
  · rw [← h2, Bool.eq_iff_iff]; simp only [beq_iff_eq]; omega
  · rw [← h3, Bool.eq_iff_iff]; simp only [beq_iff_eq]; omega
theorem dec_enc (Q : Psw) (h : okP Q) : decP (by8 Q.m) (by8 (16 * Q.k + fls Q)) (by8 (Q.co / 256)) (by8 (Q.co % 256)) (by8 (64 * Q.il + 16 * Q.cc + Q.pg)) (by8 (Q.ad / 65536)) (by8 (Q.ad / 256 % 256)) (by8 (Q.ad % 256)) = Q := by
  obtain ⟨_, h2, h3, h4, h5⟩ := flags_back Q h _ rfl
  obtain ⟨hm, hk, hco, hil, hcc, hpg, had⟩ := h
  unfold decP
  ext
  · exact by8_nat (by omega) (by omega)
  · exact h2
  · rw [show Q.ma = _ from h3.symm]
  · rw [show Q.wa = _ from h4.symm]
  · rw [show Q.pr = _ from h5.symm]
  · show 256 * ((by8 (Q.co / 256)).toNat : Int) + ((by8 (Q.co % 256)).toNat : Int) = Q.co
    rw [by8_nat (z := Q.co / 256) (by omega) (by omega), by8_nat (z := Q.co % 256) (by omega) (by omega)]; omega
  · show ((by8 (64 * Q.il + 16 * Q.cc + Q.pg)).toNat : Int) / 64 = Q.il
    rw [by8_nat (by omega) (by omega)]; omega
  · show ((by8 (64 * Q.il + 16 * Q.cc + Q.pg)).toNat : Int) / 16 % 4 = Q.cc
    rw [by8_nat (by omega) (by omega)]; omega
  · show ((by8 (64 * Q.il + 16 * Q.cc + Q.pg)).toNat : Int) % 16 = Q.pg
    rw [by8_nat (by omega) (by omega)]; omega
  · show 65536 * ((by8 (Q.ad / 65536)).toNat : Int) + 256 * ((by8 (Q.ad / 256 % 256)).toNat : Int) + ((by8 (Q.ad % 256)).toNat : Int) = Q.ad
    rw [by8_nat (z := Q.ad / 65536) (by omega) (by omega), by8_nat (z := Q.ad / 256 % 256) (by omega) (by omega), by8_nat (z := Q.ad % 256) (by omega) (by omega)]; omega
/-- The answer of Decode for a list. -/
def decOk (l : List UInt8) : Bool := decide (l.length = 8) && decide ((gt l 1).toNat / 8 % 2 = 0)
def zeroP : Psw := ⟨0, 0, false, false, false, 0, 0, 0, 0, 0⟩
def decL (l : List UInt8) : Psw := bif decOk l then decP (gt l 0) (gt l 1) (gt l 2) (gt l 3) (gt l 4) (gt l 5) (gt l 6) (gt l 7) else zeroP
theorem decL_enc (Q : Psw) (h : okP Q) : decOk (encL Q) = true ∧ decL (encL Q) = Q := by
  have h1 : decOk (encL Q) = true := by
    obtain ⟨h2, _⟩ := flags_back Q h _ rfl
    have h3 : (gt (encL Q) 1).toNat / 8 % 2 = 0 := h2
    simp only [decOk, show (encL Q).length = 8 from rfl, h3]
    rfl
  refine ⟨h1, ?_⟩
  unfold decL
  rw [h1]
  exact dec_enc Q h
theorem list8 (l : List UInt8) (h : l.length = 8) : l = [gt l 0, gt l 1, gt l 2, gt l 3, gt l 4, gt l 5, gt l 6, gt l 7] := by
  match l, h with
  | [a, b, c, d, e, f, g, h], _ => rfl
theorem encL_dec (l : List UInt8) (h : decOk l = true) : okP (decL l) ∧ encL (decL l) = l := by
  have h' := h
  simp only [decOk, Bool.and_eq_true, decide_eq_true_eq] at h
  unfold decL
  rw [h']
  refine ⟨decP_ok .., ?_⟩
  show encL (decP ..) = l
  rw [enc_dec _ _ _ _ _ _ _ _ h.2]
  exact (list8 l h.1).symm

/-! ### Bits of signed numbers -/

theorem wrap_i64s {n : Int} (h0 : -9223372036854775808 ≤ n) (h1 : n < 9223372036854775808) : IntKind.i64.wrap n = n := by
  simp [IntKind.wrap, IntKind.bits, IntKind.signed]; omega
theorem bv64 {z : Int} (h0 : 0 ≤ z) (h1 : z < 18446744073709551616) : (BitVec.ofInt 64 z).toNat = z.toNat := by
  rw [BitVec.toNat_ofInt]; omega
/-- And of two natural numbers below 2^62. -/
theorem and_nat (a b : Nat) (ha : a < 4611686018427387904) (hb : b < 4611686018427387904) : bits .and .i64 (a : Int) (b : Int) = ((a &&& b : Nat) : Int) := by
  have hx : a &&& b < 2 ^ 62 := Nat.and_lt_two_pow _ (by omega)
  show IntKind.i64.wrap ((BitVec.ofInt 64 (a : Int) &&& BitVec.ofInt 64 (b : Int)).toNat : Int) = _
  rw [BitVec.toNat_and, bv64 (by omega) (by omega), bv64 (by omega) (by omega), Int.toNat_natCast, Int.toNat_natCast]
  exact wrap_i64s (by omega) (by omega)
theorem or_nat (a b : Nat) (ha : a < 4611686018427387904) (hb : b < 4611686018427387904) : bits .or .i64 (a : Int) (b : Int) = ((a ||| b : Nat) : Int) := by
  have hx : a ||| b < 2 ^ 62 := Nat.or_lt_two_pow (by omega) (by omega)
  show IntKind.i64.wrap ((BitVec.ofInt 64 (a : Int) ||| BitVec.ofInt 64 (b : Int)).toNat : Int) = _
  rw [BitVec.toNat_or, bv64 (by omega) (by omega), bv64 (by omega) (by omega), Int.toNat_natCast, Int.toNat_natCast]
  exact wrap_i64s (by omega) (by omega)
/-- The low bits of any number. -/
theorem and_low (n : Int) (k : Nat) (hk : k ≤ 62) : bits .and .i64 n ((2 ^ k - 1 : Nat) : Int) = n % (2 ^ k : Nat) := by
  have hp : 2 ^ k ≤ 2 ^ 62 := Nat.pow_le_pow_right (by decide) hk
  have hp0 : 0 < 2 ^ k := Nat.pow_pos (by decide)
  show IntKind.i64.wrap ((BitVec.ofInt 64 n &&& BitVec.ofInt 64 ((2 ^ k - 1 : Nat) : Int)).toNat : Int) = _
  rw [BitVec.toNat_and, bv64 (z := ((2 ^ k - 1 : Nat) : Int)) (by omega) (by omega), Int.toNat_natCast, Nat.and_two_pow_sub_one_eq_mod, BitVec.toNat_ofInt]
  have h1 : (((n % ((2 ^ 64 : Nat) : Int)).toNat % 2 ^ k : Nat) : Int) = n % ((2 ^ k : Nat) : Int) := by
    rw [Int.natCast_emod, Int.toNat_of_nonneg (Int.emod_nonneg _ (by decide))]
    exact Int.emod_emod_of_dvd n (by exact_mod_cast Nat.pow_dvd_pow 2 (by omega : k ≤ 64))
  rw [h1]
  have h2 := Int.emod_nonneg n (show ((2 ^ k : Nat) : Int) ≠ 0 by omega)
  have h3 := Int.emod_lt_of_pos n (show (0 : Int) < ((2 ^ k : Nat) : Int) by omega)
  exact wrap_i64s (by omega) (by omega)
theorem or_sum (i a b : Nat) (hb : b < 2 ^ i) (hs : 2 ^ i * a < 4611686018427387904) (hi : i ≤ 61) : bits .or .i64 ((2 ^ i * a : Nat) : Int) (b : Int) = ((2 ^ i * a + b : Nat) : Int) := by
  have hp : 2 ^ i ≤ 2 ^ 61 := Nat.pow_le_pow_right (by decide) hi
  rw [or_nat _ _ hs (by omega), ← Nat.two_pow_add_eq_or_of_lt hb a]

end E
end Go.Proofs.Ytfobmgoehamnnaa

/- The school's division, two digits of 32 bits by two: what the library's division of a double word reckons. -/
import Derived.Test.YtbcncohjjnmdcaaGreatDoorRows
namespace Go.Proofs.YtbcncohjjnmdcaaGreatDoor
namespace E

theorem kid {v yn1 yn0 qh : Nat} (hv : v = yn1 * 4294967296 + yn0) : qh * v = qh * yn1 * 4294967296 + qh * yn0 := by
  rw [hv, Nat.mul_add, ← Nat.mul_assoc]
theorem k_start {u v d yn1 yn0 : Nat} (hv : v = yn1 * 4294967296 + yn0) (h1 : 1 ≤ yn1) (hd : d < 4294967296) : (u * 4294967296 + d) / v ≤ u / yn1 := by
  rw [Nat.le_div_iff_mul_le (by omega)]
  have h := Nat.div_mul_le_self (u * 4294967296 + d) v
  rw [kid hv] at h
  generalize (u * 4294967296 + d) / v * yn1 = P at *
  generalize (u * 4294967296 + d) / v * yn0 = R at *
  omega
theorem k_le {u v d yn1 yn0 qh rh : Nat} (hv : v = yn1 * 4294967296 + yn0) (hid : qh * yn1 + rh = u) (hc : qh * yn0 ≤ rh * 4294967296 + d) (hv0 : 0 < v) : qh ≤ (u * 4294967296 + d) / v := by
  rw [Nat.le_div_iff_mul_le hv0, kid hv]
  generalize qh * yn1 = P at *
  generalize qh * yn0 = R at *
  omega
theorem k_lt' {u v d b : Nat} (h : u < v) (hd : d < b) : (u * b + d) / v < b := by
  have h2 : 0 < v := by omega
  refine (Nat.div_lt_iff_lt_mul h2).2 ?_
  have h3 : (u + 1) * b ≤ v * b := Nat.mul_le_mul_right b h
  rw [Nat.add_mul, Nat.one_mul] at h3
  rw [Nat.mul_comm b v]
  omega
theorem k_lt {u v d : Nat} (h : u < v) (hd : d < 4294967296) : (u * 4294967296 + d) / v < 4294967296 := k_lt' h hd
theorem k_dec {u v d yn1 yn0 qh rh : Nat} (hv : v = yn1 * 4294967296 + yn0) (hid : qh * yn1 + rh = u) (hc : rh * 4294967296 + d < qh * yn0) (hv0 : 0 < v) : (u * 4294967296 + d) / v < qh := by
  refine (Nat.div_lt_iff_lt_mul hv0).2 ?_
  rw [kid hv]
  have h2 : qh * yn1 * 4294967296 + rh * 4294967296 = u * 4294967296 := by rw [← Nat.add_mul, hid]
  refine Nat.lt_of_not_le fun h => ?_
  omega
theorem k_break {u v d yn1 yn0 qh rh : Nat} (hv : v = yn1 * 4294967296 + yn0) (h0 : yn0 < 4294967296) (hid : qh * yn1 + rh = u) (hu : u < v) (hr : 4294967296 ≤ rh) : qh < 4294967296 ∧ qh ≤ (u * 4294967296 + d) / v := by
  have h1 : qh < 4294967296 := by
    have h2 : qh * yn1 < 4294967296 * yn1 := by omega
    exact Nat.lt_of_mul_lt_mul_right h2
  have h3 : qh * yn0 ≤ 4294967296 * 4294967296 := Nat.mul_le_mul (Nat.le_of_lt h1) (Nat.le_of_lt h0)
  exact ⟨h1, k_le hv hid (by omega) (by omega)⟩
theorem k_down {yn1 qh rh u : Nat} (h : 1 ≤ qh) (hid : qh * yn1 + rh = u) : (qh - 1) * yn1 + (rh + yn1) = u := by
  obtain ⟨q, rfl⟩ : ∃ q, qh = q + 1 := ⟨qh - 1, by omega⟩
  rw [Nat.add_mul, Nat.one_mul] at hid
  rw [Nat.add_sub_cancel]
  omega
/-- Division of numbers in two steps. -/
theorem two_steps' (u d1 d0 v b : Nat) (hv : 0 < v) :
    ((u * b + d1) * b + d0) / v = (u * b + d1) / v * b + ((u * b + d1) % v * b + d0) / v ∧
    ((u * b + d1) * b + d0) % v = ((u * b + d1) % v * b + d0) % v := by
  have h := Nat.div_add_mod (u * b + d1) v
  have e : (u * b + d1) * b + d0 = v * ((u * b + d1) / v * b) + ((u * b + d1) % v * b + d0) := by
    rw [← Nat.add_assoc, ← Nat.mul_assoc, ← Nat.add_mul, h]
  rw [e]
  have h2 : ∀ q r, (v * (q * b) + r) / v = q * b + r / v ∧ (v * (q * b) + r) % v = r % v := fun q r => ⟨Nat.mul_add_div hv _ _, Nat.mul_add_mod _ _ _⟩
  have h3 := h2 ((u * b + d1) / v) ((u * b + d1) % v * b + d0)
  exact h3
theorem two_steps (u d1 d0 v : Nat) (hv : 0 < v) :
    ((u * 4294967296 + d1) * 4294967296 + d0) / v = (u * 4294967296 + d1) / v * 4294967296 + ((u * 4294967296 + d1) % v * 4294967296 + d0) / v ∧
    ((u * 4294967296 + d1) * 4294967296 + d0) % v = ((u * 4294967296 + d1) % v * 4294967296 + d0) % v := two_steps' u d1 d0 v 4294967296 hv
/-- Division of numbers that are both shifted. -/
theorem shifted (n y s : Nat) : n * 2 ^ s / (y * 2 ^ s) = n / y ∧ n * 2 ^ s % (y * 2 ^ s) / 2 ^ s = n % y := by
  have hp : 0 < 2 ^ s := Nat.two_pow_pos s
  refine ⟨Nat.mul_div_mul_right _ _ hp, ?_⟩
  rw [Nat.mul_mod_mul_right, Nat.mul_div_cancel _ hp]

/-- The numbers of the school's division, shifted so that the divisor fills 64 bits. -/
theorem shift_parts (hi lo y s : Nat) (hs : s ≤ 63) (h2 : lo < 18446744073709551616) (h3 : hi < y) (f2 : y * 2 ^ s < 18446744073709551616) :
    hi * 2 ^ s < 18446744073709551616 ∧ lo / 2 ^ (64 - s) < 2 ^ s ∧ hi * 2 ^ s + lo / 2 ^ (64 - s) < y * 2 ^ s ∧
    (hi * 2 ^ s + lo / 2 ^ (64 - s)) * 18446744073709551616 + lo * 2 ^ s % 18446744073709551616 = (hi * 18446744073709551616 + lo) * 2 ^ s := by
  have e64 : 2 ^ (64 - s) * 2 ^ s = 18446744073709551616 := by rw [← Nat.pow_add, Nat.sub_add_cancel (by omega)]
  have hp : 0 < 2 ^ s := Nat.two_pow_pos s
  have hq : 0 < 2 ^ (64 - s) := Nat.two_pow_pos _
  have a1 : hi * 2 ^ s < y * 2 ^ s := Nat.mul_lt_mul_of_pos_right h3 hp
  have a2 : lo / 2 ^ (64 - s) < 2 ^ s := by
    refine (Nat.div_lt_iff_lt_mul hq).2 ?_
    rw [Nat.mul_comm, e64]
    exact h2
  have a3 : lo * 2 ^ s / 18446744073709551616 = lo / 2 ^ (64 - s) := by
    rw [← e64]
    exact Nat.mul_div_mul_right _ _ hp
  have a4 : (hi + 1) * 2 ^ s ≤ y * 2 ^ s := Nat.mul_le_mul_right _ h3
  rw [Nat.add_mul, Nat.one_mul] at a4
  have a5 := Nat.div_add_mod (lo * 2 ^ s) 18446744073709551616
  rw [a3] at a5
  refine ⟨Nat.lt_trans a1 f2, a2, by omega, ?_⟩
  have a6 : (hi * 18446744073709551616 + lo) * 2 ^ s = hi * 2 ^ s * 18446744073709551616 + lo * 2 ^ s := by rw [Nat.add_mul, Nat.mul_right_comm]
  rw [a6]
  generalize lo * 2 ^ s % 18446744073709551616 = M at *
  rw [← a5, Nat.add_mul, Nat.mul_comm (lo / 2 ^ (64 - s))]
  exact Nat.add_assoc _ _ _
theorem or_parts (hi s l : Nat) (h : l < 2 ^ s) : hi * 2 ^ s ||| l = hi * 2 ^ s + l := by
  rw [Nat.mul_comm]
  exact (Nat.two_pow_add_eq_or_of_lt h hi).symm

theorem two_digits {u d1 d0 b B L : Nat} (hB : B = b * b) (hL : L = d1 * b + d0) : (u * b + d1) * b + d0 = u * B + L := by
  subst hB hL
  rw [Nat.add_mul, Nat.mul_assoc, Nat.add_assoc]

end E
end Go.Proofs.YtbcncohjjnmdcaaGreatDoor

/- The number of some bytes, and the last bytes of a number. -/
import Derived.Test.YtaodghaicmjadaaDoorIsPure
import Derived.Laws.Bits64b
namespace Go.Proofs.YtaodghaicmjadaaDoor
open Go.RowKit
set_option linter.unusedVariables false
namespace E

theorem or_low (a b k : Nat) (hb : b < 2 ^ k) (hk : 2 ^ k ≤ 4294967296) (ha : a * 2 ^ k + b < 18446744073709551616) : bits .or .u64 ((a * 2 ^ k : Nat) : Int) (b : Int) = ((a * 2 ^ k + b : Nat) : Int) := by
  rw [bits_or_u64_nat _ _ (by omega) (by omega), Nat.mul_comm a, Nat.two_pow_add_eq_or_of_lt hb]
theorem and_mask (a k : Nat) (ha : a < 18446744073709551616) (hk : 2 ^ k ≤ 4294967296) : bits .and .u64 (a : Int) ((2 ^ k - 1 : Nat) : Int) = ((a % 2 ^ k : Nat) : Int) := by
  rw [bits_and_u64_nat _ _ ha (by omega), Nat.and_two_pow_sub_one_eq_mod]
/-- The number whose bytes are given. -/
def numB (l : List UInt8) : Nat := l.foldl (fun a x => a * 256 + x.toNat) 0
theorem numB_snoc (l : List UInt8) (x : UInt8) : numB (l ++ [x]) = numB l * 256 + x.toNat := by simp [numB]
theorem numB_from (l : List UInt8) (a : Nat) : l.foldl (fun a x => a * 256 + x.toNat) a < (a + 1) * 256 ^ l.length := by
  induction l generalizing a with
  | nil => simp
  | cons x l ih =>
    have h1 := ih (a * 256 + x.toNat)
    have h2 := x.toNat_lt
    have h3 : (a * 256 + x.toNat + 1) * 256 ^ l.length ≤ ((a + 1) * 256) * 256 ^ l.length := Nat.mul_le_mul_right _ (by omega)
    rw [List.foldl_cons, List.length_cons, Nat.pow_succ, Nat.mul_comm (256 ^ l.length) 256, ← Nat.mul_assoc]
    exact Nat.lt_of_lt_of_le h1 h3
theorem numB_lt (l : List UInt8) : numB l < 256 ^ l.length := by
  have := numB_from l 0
  simpa [numB] using this
theorem numB_lt7 {l : List UInt8} (h : l.length ≤ 6) : numB l < 281474976710656 := by
  have h1 := numB_lt l
  have h2 : (256 : Nat) ^ l.length ≤ 256 ^ 6 := Nat.pow_le_pow_right (by omega) h
  exact Nat.lt_of_lt_of_le h1 h2
set_option maxRecDepth 100000 in
theorem number_any (p : Option Addr) (c : Nat) (l : List UInt8) (w : World) (hn : l.length ≤ 7) (hp : Rd w p l) :
    Calls Tryd.prog 39 #[.slice p l.length c] w fun e w' => e = .returned (.int .u64 (numB l : Int)) ∧ w = w' := by
  obtain ⟨n, hln⟩ : ∃ n, n = l.length := ⟨_, rfl⟩
  have HL := Lib.hid hln
  rw [← hln] at hn ⊢
  have hcl : ∀ j, j < n → ∃ B off, p = some ⟨B, off, none⟩ ∧ w.cell? ⟨B, off + j, none⟩ = some (.int .u8 ((gt l j).toNat : Int)) := fun j hj => by
    rw [hln] at hj
    rcases hp with h0 | ⟨B, off, rfl, hc⟩
    · subst h0; simp at hj
    · exact ⟨_, _, rfl, hc j hj⟩
  have HC := Lib.hid hcl
  clear hp hln hcl
  go_enter Tryd.func39, Tryd.ntmps39
  go_wp2
  go_loop [3, 8] (fun a i => ∃ k : Nat, k ≤ n ∧ i = .int .i64 (k : Int) ∧ a = .int .u64 ((numB (l.take k) : Nat) : Int)) (fun _ i => n - (intOf i).toNat)
  case atStart => exact ⟨0, Nat.zero_le _, rfl, rfl⟩
  case round =>
    obtain ⟨k, hk, rfl, rfl⟩ := hrel
    by_cases hlt : k < n
    · obtain ⟨B, off, rfl, hce⟩ := HC.out k hlt
      obtain ⟨a, ha⟩ : ∃ a, a = numB (l.take k) := ⟨_, rfl⟩
      have ha7 : a < 281474976710656 := by rw [ha]; exact numB_lt7 (by rw [List.length_take]; omega)
      have hnx : numB (l.take (k + 1)) = a * 256 + (gt l k).toNat := by rw [take_one (by rw [← HL.out]; exact hlt), numB_snoc, ha]
      have hx := (gt l k).toNat_lt
      have hor := or_low a (gt l k).toNat 8 (by omega) (by omega) (by omega)
      have hor2 : bits .or .u64 ((a : Int) * 256) ((gt l k).toNat : Int) = ((a * 256 + (gt l k).toNat : Nat) : Int) := by
        rw [← hor]; push_cast; rfl
      have hI : (a : Int) < 281474976710656 := by omega
      have HNX := Lib.hid hnx
      have HA := Lib.hid ha
      rw [← ha]
      clear ha hnx hor
      go_wp2
      go_round
      case rel => exact ⟨k + 1, hlt, by go_num, by rw [HNX.out]; push_cast; rfl⟩
      case measure => simp [intOf]; omega
    · obtain rfl : k = n := by omega
      have hta : l.take k = l := List.take_of_length_le (by rw [← HL.out]; exact Nat.le_refl _)
      have HT := Lib.hid hta
      clear hta
      go_wp2
      go_ret
      exact ⟨by rw [HT.out]; rfl, rfl⟩
/-- The byte number j, from the low end, of a number. -/
def byN (a j : Nat) : UInt8 := UInt8.ofNat (a / 256 ^ j % 256)
/-- A row of n bytes whose last t are those of a number. -/
def lastT (a n t : Nat) : List UInt8 := (List.range n).map fun i => if n - t ≤ i then byN a (n - 1 - i) else 0
def lastB (a n : Nat) : List UInt8 := lastT a n n
theorem lastT_len (a n t : Nat) : (lastT a n t).length = n := by simp [lastT]
theorem lastT_zero (a n : Nat) : lastT a n 0 = List.replicate n 0 := by
  refine List.ext_getElem (by simp [lastT]) fun i h1 h2 => ?_
  rw [lastT_len] at h1
  simp [lastT]
  omega
theorem lastT_set (a n t : Nat) (h : t < n) : (lastT a n t).set (n - 1 - t) (byN a t) = lastT a n (t + 1) := by
  refine List.ext_getElem (by simp [lastT]) fun i h1 h2 => ?_
  rw [lastT_len] at h2
  rw [List.getElem_set]
  by_cases e : n - 1 - t = i
  · rw [if_pos e]
    subst e
    simp only [lastT, List.getElem_map, List.getElem_range]
    rw [if_pos (by omega)]
    congr 1
    omega
  · rw [if_neg e]
    simp only [lastT, List.getElem_map, List.getElem_range]
    by_cases e2 : n - t ≤ i
    · rw [if_pos e2, if_pos (by omega)]
    · rw [if_neg e2, if_neg (by omega)]
theorem made_bs (n : Nat) : (madeCells (Value.cells (.int .u8 0)) (n * 1)).toList = bsU (List.replicate n 0) := by
  rw [Nat.mul_one]
  exact (toList_madeCells_one _ n).trans (by simp [bsU])
theorem byN_nat (a j : Nat) : (byN a j).toNat = a / 256 ^ j % 256 := by simp [byN]
set_option maxRecDepth 100000 in
theorem lastBytes_any (a n : Nat) (w : World) (hn1 : 1 ≤ n) (hn : n ≤ 8) (ha : a < 18446744073709551616) :
    Calls Tryd.prog 35 #[.int .u64 (a : Int), .int .i64 (n : Int)] w fun e w' => ∃ sv, e = .returned sv ∧ Hold w' w.heap.size sv (lastB a n) ∧ Below w.heap.size w w' := by
  obtain ⟨i0, hi, hz0, hz1, hz2⟩ := info_parts info5
  have HA := Lib.hid ha
  clear ha
  go_enter Tryd.func35, Tryd.ntmps35
  go_wp2_with (at_make; refine wpList_make_full _ rfl _ _ 29 rfl w.heap.size 5 i0 (.int .u8 0) 1 Tryd.underlying29 hi hz0 hz1 .i64 .i64 n n n rfl rfl rfl rfl (by rw [hz2]; omega) (by unfold maxLen; omega) (Nat.le_refl _) ?_; intro w1 hown hgrow)
  have hb1 : Below w.heap.size w w1 := (Below.refl _ _).grown hgrow (Nat.le_refl _) (by simp)
  rw [made_bs, ← lastT_zero a n] at hown
  clear hgrow
  go_loopw [0, 6] (fun v i wr => Below w.heap.size w wr ∧ ∃ t : Nat, t ≤ n ∧ i = .int .i64 ((n : Int) - 1 - (t : Int)) ∧ v = .int .u64 ((a / 256 ^ t : Nat) : Int) ∧ wr.ownsRow w.heap.size 5 1 (.slice (some ⟨w.heap.size, 0, none⟩) n n) n (bsU (lastT a n t))) (fun _ i _ => (intOf i + 1).toNat)
  case atStart => exact ⟨hb1, 0, Nat.zero_le _, by simp, by simp, hown⟩
  case round =>
    clear hb1 hown
    obtain ⟨hbw, t, ht, rfl, rfl, hown⟩ := hrel
    have HB := Lib.hid hbw
    have HO := Lib.hid hown
    clear hbw hown
    by_cases hlt : t < n
    · obtain ⟨k, hk⟩ : ∃ k, k + 1 + t = n := ⟨n - 1 - t, by omega⟩
      have hkI : (n : Int) - 1 - (t : Int) = (k : Int) := by omega
      rw [hkI]
      have hcell := HO.out.cellAt k (by omega)
      rw [bsU_get _ k (by rw [lastT_len]; omega)] at hcell
      have hfz := HO.out.frozenAt k
      obtain ⟨q, hq⟩ : ∃ q, q = a / 256 ^ t := ⟨_, rfl⟩
      rw [← hq]
      have hq64 : (q : Int) < 18446744073709551616 := by
        have h1 : a / 256 ^ t ≤ a := Nat.div_le_self _ _
        have := HA.out
        omega
      have hconv : ((q : Int)) % 256 = ((byN a t).toNat : Int) := by rw [byN_nat, ← hq]; omega
      have hdiv : (q : Int) / 256 = ((a / 256 ^ (t + 1) : Nat) : Int) := by
        rw [Nat.pow_succ, ← Nat.div_div_eq_div_mul, ← hq]
        omega
      have hnk : n - 1 - t = k := by omega
      have hst := (by
        obtain ⟨h1, h2⟩ := HO.out.stored k (.int .u8 ((byN a t).toNat : Int))
        rw [bsU_set, ← hnk, lastT_set a n t hlt, hnk] at h1
        exact ⟨h1, HB.out.grown h2 HB.out.size (fun r hr => by cases hr; exact Nat.le_refl _)⟩ : (wr.setCell ⟨w.heap.size, k, none⟩ (.int .u8 ((byN a t).toNat : Int))).ownsRow w.heap.size 5 1 (.slice (some ⟨w.heap.size, 0, none⟩) n n) n (bsU (lastT a n (t + 1))) ∧ Below w.heap.size w (wr.setCell ⟨w.heap.size, k, none⟩ (.int .u8 ((byN a t).toNat : Int))))
      have HS := Lib.hid hst
      have HQ := Lib.hid hq
      have HD := Lib.hid hdiv
      have HK := Lib.hid hkI
      have HC := Lib.hid hconv
      have hkn : (k : Int) < (n : Int) := by omega
      have hk8 : (k : Int) ≤ 8 := by omega
      have hconv' := HC.out
      have hdiv' := HD.out
      clear hst hq hdiv hkI hnk hq64 hconv
      go_wp2
      go_roundw
      case rel => exact ⟨HS.out.2, t + 1, by omega, by (congr 1; have := HK.out; omega), by push_cast; rfl, HS.out.1⟩
      case measure => simp [intOf]
    · obtain rfl : t = n := by omega
      go_wp2
      go_ret
      refine ⟨_, rfl, ?_, HB.out⟩
      unfold Hold
      rw [show (lastB a t).length = t from lastT_len a t t]
      exact HO.out

end E
end Go.Proofs.YtaodghaicmjadaaDoor

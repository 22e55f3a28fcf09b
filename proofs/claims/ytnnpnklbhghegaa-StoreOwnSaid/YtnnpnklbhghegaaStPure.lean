/- What the chapter asks of a storage, over plain lists of bytes and of keys. -/
import Derived.Test.YtnnpnklbhghegaaPkMath
namespace Go.Proofs.Ytnnpnklbhghegaa
open Go.RowKit
set_option linter.unusedVariables false
namespace E

/-- Is the range of k bytes from a on in a storage of n bytes? -/
def inB (n : Nat) (a k : Int) : Bool := decide (0 ≤ a ∧ 0 ≤ k ∧ k ≤ (n : Int) - a)
/-- May an access with the key store into a block with the number l? -/
def stP (key : Int) (l : UInt8) : Bool := key == 0 || key == ((l.toNat / 2 : Nat) : Int)
/-- May it fetch? -/
def ftP (key : Int) (l : UInt8) : Bool := stP key l || !(l.toNat % 2 == 1)
/-- Is the access allowed for each byte of the range? -/
def allB (p : UInt8 → Bool) (ks : List UInt8) (a k : Nat) : Bool := (List.range k).all fun i => p (gt ks ((a + i) / 2048))
/-- The code of an access. -/
def codeV (p : UInt8 → Bool) (n : Nat) (ks : List UInt8) (a k : Int) : Int := if inB n a k = true then (if allB p ks a.toNat k.toNat = true then 0 else 4) else 5
/-- The bytes with b from a on. -/
def putL (l : List UInt8) (a : Nat) (b : List UInt8) : List UInt8 := l.take a ++ (b ++ l.drop (a + b.length))
/-- The k bytes from a on. -/
def subL (l : List UInt8) (a k : Nat) : List UInt8 := (l.drop a).take k
theorem inB_iff {n : Nat} {a k : Int} : inB n a k = true ↔ 0 ≤ a ∧ 0 ≤ k ∧ k ≤ (n : Int) - a := by unfold inB; exact decide_eq_true_iff
theorem putL_len {l b : List UInt8} {a : Nat} (h : a + b.length ≤ l.length) : (putL l a b).length = l.length := by
  simp [putL]; omega
theorem subL_len {l : List UInt8} {a k : Nat} (h : a + k ≤ l.length) : (subL l a k).length = k := by
  simp [subL]; omega
theorem putL_nil (l : List UInt8) (a : Nat) : putL l a [] = l := by simp [putL]
theorem gt_putL {l b : List UInt8} {a : Nat} (h : a + b.length ≤ l.length) (j : Nat) : gt (putL l a b) j = if a ≤ j ∧ j < a + b.length then gt b (j - a) else gt l j := by
  unfold gt putL
  simp only [List.getD_eq_getElem?_getD]
  rw [List.getElem?_append, List.length_take, Nat.min_eq_left (by omega)]
  by_cases h1 : j < a
  · rw [if_pos h1, if_neg (by omega), List.getElem?_take, if_pos h1]
  · rw [if_neg h1, List.getElem?_append]
    by_cases h2 : j - a < b.length
    · rw [if_pos h2, if_pos (by omega)]
    · rw [if_neg h2, if_neg (by omega), List.getElem?_drop, show a + b.length + (j - a - b.length) = j by omega]
theorem gt_subL {l : List UInt8} {a k : Nat} (j : Nat) (hj : j < k) : gt (subL l a k) j = gt l (a + j) := by
  unfold gt subL
  simp only [List.getD_eq_getElem?_getD]
  rw [List.getElem?_take, if_pos hj, List.getElem?_drop]
theorem ext_gt {l m : List UInt8} (h : l.length = m.length) (hg : ∀ j, j < l.length → gt l j = gt m j) : l = m := by
  refine List.ext_getElem h fun j h1 h2 => ?_
  have := hg j h1
  rwa [gt_lt h1, gt_lt h2] at this
theorem gt_setX {l : List UInt8} {i : Nat} {x : UInt8} (h : i < l.length) (j : Nat) : gt (l.set i x) j = if j = i then x else gt l j := by
  unfold gt
  simp only [List.getD_eq_getElem?_getD, List.getElem?_set]
  by_cases e : i = j
  · rw [if_pos e, if_pos h, if_pos e.symm]; rfl
  · rw [if_neg e, if_neg (fun h => e h.symm)]
theorem subL_all (l : List UInt8) {n : Nat} (h : l.length = n) : subL l 0 n = l := by
  subst h
  simp [subL]

/-! ### The blocks of a range -/

/-- How many blocks it touches. -/
def blkN (a k : Nat) : Nat := if k = 0 then 0 else (a + k - 1) / 2048 - a / 2048 + 1
/-- Where the i-th of them is entered. -/
def atB (a i : Nat) : Nat := if i = 0 then a else (a / 2048 + i) * 2048
theorem atB_div (a i : Nat) : atB a i / 2048 = a / 2048 + i := by
  unfold atB
  split
  · omega
  · omega
theorem atB_lt (a k i : Nat) : atB a i < a + k ↔ i < blkN a k := by
  unfold atB blkN
  split
  · rename_i h
    subst h
    split
    · omega
    · omega
  · split
    · omega
    · omega
theorem atB_next (a i : Nat) : atB a (i + 1) = (a / 2048 + i + 1) * 2048 := by
  unfold atB
  rw [if_neg (by omega)]
  rfl
/-- What is answered for each of the first i blocks. -/
def grL (p : UInt8 → Bool) (ks : List UInt8) (a i : Nat) : List Bool := (List.range i).map fun j => p (gt ks (a / 2048 + j))
theorem grL_len (p : UInt8 → Bool) (ks : List UInt8) (a i : Nat) : (grL p ks a i).length = i := by simp [grL]
theorem grL_succ (p : UInt8 → Bool) (ks : List UInt8) (a i : Nat) : grL p ks a (i + 1) = grL p ks a i ++ [p (gt ks (a / 2048 + i))] := by
  simp [grL, List.range_succ]
theorem grL_pre (p : UInt8 → Bool) (ks : List UInt8) (a i K : Nat) (h : i ≤ K) : grL p ks a i <+: grL p ks a K := by
  unfold grL
  obtain ⟨d, rfl⟩ : ∃ d, K = i + d := ⟨K - i, by omega⟩
  rw [List.range_add, List.map_append]
  exact List.prefix_append _ _
theorem grL_all (p : UInt8 → Bool) (ks : List UInt8) (a k : Nat) : (grL p ks a (blkN a k)).all id = allB p ks a k := by
  rw [Bool.eq_iff_iff]
  unfold grL allB
  simp only [List.all_eq_true, List.mem_map, List.mem_range, id]
  constructor
  · intro h i hi
    have h2 : (a + i) / 2048 = a / 2048 + ((a + i) / 2048 - a / 2048) := by omega
    refine h _ ⟨(a + i) / 2048 - a / 2048, ?_, by rw [← h2]⟩
    unfold blkN
    rw [if_neg (by omega)]
    omega
  · rintro h _ ⟨j, hj, rfl⟩
    have h1 := (atB_lt a k j).2 hj
    have h2 := atB_div a j
    have h3 : a ≤ atB a j := by unfold atB; split <;> omega
    have h4 := h (atB a j - a) (by omega)
    rwa [show a + (atB a j - a) = atB a j by omega, h2] at h4
theorem allB_iff (p : UInt8 → Bool) (ks : List UInt8) (a k : Nat) : allB p ks a k = true ↔ ∀ i, i < k → p (gt ks ((a + i) / 2048)) = true := by
  unfold allB
  simp
theorem allB_no {p : UInt8 → Bool} {ks : List UInt8} {a k i : Nat} (hi : i < k) (h : p (gt ks ((a + i) / 2048)) = false) : allB p ks a k = false := by
  cases e : allB p ks a k with
  | false => rfl
  | true => rw [(allB_iff p ks a k).1 e i hi] at h; cases h

end E
end Go.Proofs.Ytnnpnklbhghegaa

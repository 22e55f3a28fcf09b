/- The number of an instruction, without memory. -/
import Derived.Test.YtaodghaicmjadaaDoorIsNum
namespace Go.Proofs.YtaodghaicmjadaaDoor
open Go.RowKit Go.Shelf
set_option linter.unusedVariables false
namespace E

def enStep (Q : Ins) (a : Nat) (f : Option Nat × Nat) : Nat := a * 2 ^ f.2 + (fv Q f.1).toNat
/-- The bytes of an instruction, as a number. -/
def enW (F : Nat) (Q : Ins) : Nat := (fldsT F).foldl (enStep Q) Q.op.toNat
def rangeB (F : Nat) (Q : Ins) : Bool := (fldsT F).all fun f => inR (fv Q f.1) f.2
theorem ok_range (F : Nat) (Q : Ins) (h : okB F Q = true) : rangeB F Q = true := by
  unfold okB at h
  unfold rangeB
  unfold fldsT at h ⊢
  split at h <;> simp_all [ckStep, fs, fv, Ins.set, Ins.get]
def bitsN (l : List (Option Nat × Nat)) : Nat := (l.map (·.2)).sum
theorem en_from (Q : Ins) (l : List (Option Nat × Nat)) (a : Nat) (h : ∀ f ∈ l, inR (fv Q f.1) f.2 = true) : l.foldl (enStep Q) a < (a + 1) * 2 ^ bitsN l := by
  induction l generalizing a with
  | nil => simp [bitsN]
  | cons f l ih =>
    have h1 := ih (enStep Q a f) (fun g hg => h g (List.mem_cons_of_mem _ hg))
    have h2 : (fv Q f.1).toNat < 2 ^ f.2 := by
      have h3 := h f (List.mem_cons_self ..)
      unfold inR at h3
      have h4 := of_decide_eq_true h3
      have h5 : (fv Q f.1) < ((2 ^ f.2 : Nat) : Int) := by push_cast; exact h4.2
      omega
    rw [List.foldl_cons]
    refine Nat.lt_of_lt_of_le h1 ?_
    have e : bitsN (f :: l) = f.2 + bitsN l := by simp [bitsN]
    rw [e, Nat.pow_add, ← Nat.mul_assoc]
    refine Nat.mul_le_mul_right _ ?_
    unfold enStep
    have : (a + 1) * 2 ^ f.2 = a * 2 ^ f.2 + 2 ^ f.2 := by rw [Nat.add_mul, Nat.one_mul]
    omega
theorem bits_take (F j : Nat) : bitsN ((fldsT F).take j) ≤ 40 := by
  have h : bitsN ((fldsT F).take j) ≤ bitsN (fldsT F) := by
    have := List.take_append_drop j (fldsT F)
    have e : bitsN (fldsT F) = bitsN ((fldsT F).take j) + bitsN ((fldsT F).drop j) := by
      unfold bitsN
      rw [← List.sum_append, ← List.map_append, this]
    omega
  refine Nat.le_trans h ?_
  unfold fldsT
  split <;> decide
theorem en_lt (F j : Nat) (Q : Ins) (h : rangeB F Q = true) (ho : Q.op.toNat < 256) : ((fldsT F).take j).foldl (enStep Q) Q.op.toNat < 281474976710656 := by
  have h1 := en_from Q ((fldsT F).take j) Q.op.toNat (fun f hf => List.all_eq_true.1 h f (List.mem_of_mem_take hf))
  have h2 : (Q.op.toNat + 1) * 2 ^ bitsN ((fldsT F).take j) ≤ 256 * 2 ^ 40 := Nat.mul_le_mul (by omega) (Nat.pow_le_pow_right (by omega) (bits_take F j))
  exact Nat.lt_of_lt_of_le h1 h2

end E
end Go.Proofs.YtaodghaicmjadaaDoor

/- What the chapter asks of an instruction: the check, the number of its bytes, its fields; what a round may use. -/
import Derived.Test.YtaodghaicmjadaaDoorIsIns
namespace Go.Proofs.YtaodghaicmjadaaDoor
open Go.RowKit Go.Shelf
set_option linter.unusedVariables false
namespace E

def fv (Q : Ins) : Option Nat → Int
  | some k => Q.get k
  | none => 0
def fs (Q : Ins) (o : Option Nat) (z : Int) : Ins := match o with
  | some k => Q.set k z
  | none => Q
def inR (z : Int) (b : Nat) : Bool := decide (0 ≤ z ∧ z < 2 ^ b)
def ckStep (s : Ins × Bool) (f : Option Nat × Nat) : Ins × Bool := (fs s.1 f.1 0, s.2 && inR (fv s.1 f.1) f.2)
/-- Op and Form alone. -/
def Ins.hd (Q : Ins) : Ins := ⟨Q.op, Q.fo, 0, 0, 0, 0, 0, 0, 0, 0, 0, 0⟩
/-- Is the form that of the operation code? -/
def foB (Q : Ins) : Bool := (ixC Q.op).isSome && Q.fo == (foO (ixC Q.op) : Int)
/-- Are the fields as they may be? -/
def okB (F : Nat) (Q : Ins) : Bool := ((fldsT F).foldl ckStep (Q, true)).2 && decide (((fldsT F).foldl ckStep (Q, true)).1 = Q.hd)
/-- What Check answers. -/
def chkV (Q : Ins) : Int := if foB Q then (if okB (foO (ixC Q.op)) Q then 0 else 6) else 80
theorem ck_false (l : List (Option Nat × Nat)) (s : Ins × Bool) (h : s.2 = false) : (l.foldl ckStep s).2 = false := by
  induction l generalizing s with
  | nil => exact h
  | cons f l ih => exact ih _ (by simp [ckStep, h])
theorem ck_stop {F j : Nat} {Q : Ins} (h : (((fldsT F).take j).foldl ckStep (Q, true)).2 = false) : okB F Q = false := by
  have h2 : ((fldsT F).foldl ckStep (Q, true)).2 = false := by
    rw [← List.take_append_drop j (fldsT F), List.foldl_append]
    exact ck_false _ _ h
  unfold okB
  rw [h2]
  rfl
/-- What is known of a value that comes. -/
theorem pf_next {F B : Nat} {pre : List (Addr × Nat)} {y : Addr × Nat} (h : PfF F B (pre ++ [y])) : pre.length < (fldsT F).length ∧ (fldsT F)[pre.length]? = some (kd B y) ∧ pre.map (kd B) = (fldsT F).take pre.length := by
  unfold PfF at h
  rw [List.map_append, List.map_cons, List.map_nil, List.length_append, List.length_cons, List.length_nil, Nat.zero_add] at h
  have hl : pre.length < (fldsT F).length := by
    have := congrArg List.length h
    simp at this
    omega
  rw [List.take_succ_eq_append_getElem hl] at h
  have h2 := List.append_inj h (by simp; omega)
  refine ⟨hl, ?_, h2.1⟩
  rw [List.getElem?_eq_getElem hl]
  have := h2.2
  injection this with h3
  rw [h3]
def bitsOk (F : Nat) : Bool := (fldsT F).all fun f => f.2 == 4 || f.2 == 8 || f.2 == 12
theorem bits_ok (F : Nat) : bitsOk F = true := by
  unfold bitsOk fldsT
  split <;> rfl
theorem pf_bits {F B : Nat} {pre : List (Addr × Nat)} {y : Addr × Nat} (h : PfF F B (pre ++ [y])) : y.2 = 4 ∨ y.2 = 8 ∨ y.2 = 12 := by
  obtain ⟨h1, h2, _⟩ := pf_next h
  have h3 := List.all_eq_true.1 (bits_ok F) _ (List.mem_of_getElem? h2)
  simp only [Bool.or_eq_true, beq_iff_eq] at h3
  have h4 : (kd B y).2 = y.2 := rfl
  omega
theorem fldsT_get (F : Nat) : ∀ f ∈ fldsT F, ∀ k, f.1 = some k → 2 ≤ k ∧ k < 12 := by
  intro f hf k hk
  unfold fldsT at hf
  split at hf <;> simp only [List.mem_cons, List.not_mem_nil, or_false] at hf
  all_goals (rcases hf with rfl | rfl | rfl | rfl | rfl | rfl | rfl) <;> simp at hk <;> omega
/-- The cell of a value that comes, and what a store there leaves. -/
theorem vy_cell {Pf : List (Addr × Nat) → Prop} {B base Bi : Nat} {pre : List (Addr × Nat)} {y : Addr × Nat} {W : World} {Q : Ins} (hv : Vy Pf B base pre y W) (hB : B < base) (hb : Bx W B 28 Q.cs) :
    Pf (pre ++ [y]) ∧ W.cell? y.1 = some (.int .i64 (fv Q (kd B y).1)) ∧ W.frozen? y.1 = false ∧ (∀ u : Int, Bx (W.setCell y.1 (.int .i64 u)) B 28 (fs Q (kd B y).1 u).cs) ∧ (∀ g, g ≠ B → g < base → g ≠ y.1.block) ∧ Kb base Bi y.1.block W W ∧ (∀ u : Value, Kb base Bi y.1.block W (W.setCell y.1 u)) ∧ y.1.block < W.heap.size := by
  obtain ⟨hp, h⟩ := hv
  have hk : ∀ u : Value, Kb base Bi y.1.block W (W.setCell y.1 u) := fun u => by
    refine ⟨by simp, fun k vs t x h1 h2 _ => ?_⟩
    rw [heap_setCell_other W y.1 k u h2]
    exact h1
  refine ⟨hp, ?_, ?_, ?_, ?_, Kb.refl _ _ _ _, hk, ?_⟩
  · rcases h with ⟨k, h12, he⟩ | ⟨U, hU, he, hx⟩
    · rw [he, hb.cell, Q.cell k h12]
      simp [kd, he, fv]
    · rw [he, hx.cell]
      simp [kd, he, fv, show ¬ U = B by omega]
  · rcases h with ⟨k, h12, he⟩ | ⟨U, hU, he, hx⟩
    · rw [he]; exact hb.frozen k
    · rw [he]; exact hx.frozen
  · intro u
    rcases h with ⟨k, h12, he⟩ | ⟨U, hU, he, hx⟩
    · have := hb.set k (.int .i64 u)
      rw [Q.set_cs k u h12] at this
      rw [he]
      simpa [kd, he, fs] using this
    · have := hb.far (p := ⟨U, 0, none⟩) (by simp; omega) (.int .i64 u)
      rw [he]
      simpa [kd, he, fs, show ¬ U = B by omega] using this
  · intro g h1 h2
    rcases h with ⟨k, h12, he⟩ | ⟨U, hU, he, hx⟩
    · rw [he]; exact h1
    · rw [he]; show g ≠ U; omega
  · rcases h with ⟨k, h12, he⟩ | ⟨U, hU, he, hx⟩
    · rw [he]; exact hb.lt
    · rw [he]; exact hx.lt

end E
end Go.Proofs.YtaodghaicmjadaaDoor

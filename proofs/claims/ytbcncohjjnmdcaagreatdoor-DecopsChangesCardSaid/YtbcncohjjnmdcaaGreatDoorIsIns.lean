/- Instructions as numbers. -/
import Derived.Test.YtbcncohjjnmdcaaGreatDoorRows
import Derived.Test.YtbcncohjjnmdcaaGreatDoorIsFldE
namespace Go.Proofs.YtbcncohjjnmdcaaGreatDoor
open Go.RowKit Go.Shelf
set_option linter.unusedVariables false
namespace E

theorem fields_all (F : Nat) (h1 : 1 ≤ F) (h9 : F ≤ 9) : FieldsAt F := by
  obtain rfl | rfl | rfl | rfl | rfl | rfl | rfl | rfl | rfl : F = 1 ∨ F = 2 ∨ F = 3 ∨ F = 4 ∨ F = 5 ∨ F = 6 ∨ F = 7 ∨ F = 8 ∨ F = 9 := by omega
  · exact fieldsRR
  · exact fieldsRX
  · exact fieldsRS
  · exact fieldsSI
  · exact fieldsSS
  · exact fieldsSS2
  · exact fieldsRRI
  · exact fieldsRR1
  · exact fieldsS
theorem fieldsV_any (a : Addr) (w : World) : Calls Tryz.prog 60 #[.pointer (some a)] w fun e w' =>
    e = .returned (.func (.func 120) #[] #[.pointer (some ⟨w.heap.size, 0, none⟩)]) ∧ w' = w.alloc (.cells #[.pointer (some a)] 95) := by
  go_enter Tryz.func60, Tryz.ntmps60
  go_wp2
  go_ret
  exact ⟨rfl, rfl⟩
def fdS (F B base : Nat) (xs : List (Addr × Nat)) (_ : World) : Prop := ∃ U, base ≤ U ∧ xs = (fldsT F).map (adr B U)
theorem fields_tells (n F B Bi : Nat) (w : World) (h1 : 1 ≤ F) (h9 : F ≤ 9) (hB : B < w.heap.size) (hne : Bi ≠ B) (bi : Boxed w Bi 95 (.pointer (some ⟨B, 0, none⟩))) (cf : w.cell? ⟨B, 1, none⟩ = some (.int .i64 (F : Int))) :
    Tells n Tryz.prog 120 #[.pointer (some ⟨Bi, 0, none⟩)] encY (Vy (PfF F B) B w.heap.size) (fun y => Kb w.heap.size Bi y.1.block) (fdS F B w.heap.size) w := by
  intro l J Jx W hW hD hY h0
  refine callsIn_wide.2 ?_
  have hBi := bi.lt
  exact fields_all F h1 h9 l J Jx w.heap.size Bi B W (fun pre y W1 hv hj => yieldAt_any (hY pre y W1 hv hj)) hD hW.size hB hBi hne (bi.kept (grown_of8 hW none) (by simp)) (by rw [hW.cell hB]; exact cf) h0
theorem vy_put {Pf : List (Addr × Nat) → Prop} {B base : Nat} (pre : List (Addr × Nat)) (y : Addr × Nat) (W : World) (l : Nat) (o o' : Obj) (hl : W.heap[l]? = some o) (ho : o.isCells = false) (h : Vy Pf B base pre y W) : Vy Pf B base pre y (W.putObj l o') := by
  obtain ⟨hp, h | ⟨U, h1, h2, h3⟩⟩ := h
  · exact ⟨hp, .inl h⟩
  · exact ⟨hp, .inr ⟨U, h1, h2, Boxed.ab8 h3 (grownBy_putObj' W l o') (fun r e => by cases e; exact ⟨o, hl, ho⟩)⟩⟩
theorem kb_put {base Bi b : Nat} (W : World) (l : Nat) (o o' : Obj) (hl : W.heap[l]? = some o) (ho : o.isCells = false) : Kb base Bi b W (W.putObj l o') := by
  refine ⟨by simp, fun k vs t x hk h1 h2 => ?_⟩
  rw [World.putObj_heap_other, hk]
  intro e
  subst e
  rw [hk] at hl
  cases hl
  cases ho

/-! ### Instructions -/

/-- An instruction: twelve numbers. -/
structure Ins where
  op : Int
  fo : Int
  r1 : Int
  r2 : Int
  x2 : Int
  b1 : Int
  d1 : Int
  b2 : Int
  d2 : Int
  l1 : Int
  l2 : Int
  i2 : Int
deriving DecidableEq
/-- Its fields by number. -/
def Ins.get (Q : Ins) : Nat → Int
  | 0 => Q.op
  | 1 => Q.fo
  | 2 => Q.r1
  | 3 => Q.r2
  | 4 => Q.x2
  | 5 => Q.b1
  | 6 => Q.d1
  | 7 => Q.b2
  | 8 => Q.d2
  | 9 => Q.l1
  | 10 => Q.l2
  | 11 => Q.i2
  | _ => 0
def Ins.set (Q : Ins) (k : Nat) (z : Int) : Ins := match k with
  | 0 => { Q with op := z }
  | 1 => { Q with fo := z }
  | 2 => { Q with r1 := z }
  | 3 => { Q with r2 := z }
  | 4 => { Q with x2 := z }
  | 5 => { Q with b1 := z }
  | 6 => { Q with d1 := z }
  | 7 => { Q with b2 := z }
  | 8 => { Q with d2 := z }
  | 9 => { Q with l1 := z }
  | 10 => { Q with l2 := z }
  | 11 => { Q with i2 := z }
  | _ => Q
/-- Its cells. -/
def Ins.cs (Q : Ins) : Array Value := #[.int .i64 Q.op, .int .i64 Q.fo, .int .i64 Q.r1, .int .i64 Q.r2, .int .i64 Q.x2, .int .i64 Q.b1, .int .i64 Q.d1, .int .i64 Q.b2, .int .i64 Q.d2, .int .i64 Q.l1, .int .i64 Q.l2, .int .i64 Q.i2]
def Ins.val (Q : Ins) : Value := .agg #[.int .i64 Q.op, .int .i64 Q.fo, .int .i64 Q.r1, .int .i64 Q.r2, .int .i64 Q.x2, .int .i64 Q.b1, .int .i64 Q.d1, .int .i64 Q.b2, .int .i64 Q.d2, .int .i64 Q.l1, .int .i64 Q.l2, .int .i64 Q.i2]
def Ins.zero : Ins := ⟨0, 0, 0, 0, 0, 0, 0, 0, 0, 0, 0, 0⟩
theorem Ins.cell (Q : Ins) (k : Nat) (h : k < 12) : Q.cs[k]? = some (.int .i64 (Q.get k)) := by
  obtain rfl | rfl | rfl | rfl | rfl | rfl | rfl | rfl | rfl | rfl | rfl | rfl : k = 0 ∨ k = 1 ∨ k = 2 ∨ k = 3 ∨ k = 4 ∨ k = 5 ∨ k = 6 ∨ k = 7 ∨ k = 8 ∨ k = 9 ∨ k = 10 ∨ k = 11 := by omega
  all_goals rfl
theorem Ins.set_cs (Q : Ins) (k : Nat) (z : Int) (h : k < 12) : Q.cs.setIfInBounds k (.int .i64 z) = (Q.set k z).cs := by
  obtain rfl | rfl | rfl | rfl | rfl | rfl | rfl | rfl | rfl | rfl | rfl | rfl : k = 0 ∨ k = 1 ∨ k = 2 ∨ k = 3 ∨ k = 4 ∨ k = 5 ∨ k = 6 ∨ k = 7 ∨ k = 8 ∨ k = 9 ∨ k = 10 ∨ k = 11 := by omega
  all_goals rfl
theorem Bx.boxed {w : World} {g : Nat} {t : TypeId} {v : Value} (h : Bx w g t #[v]) : Boxed w g t v := h
theorem Bx.ab {W W' : World} {B : Nat} {t : TypeId} {cs : Array Value} {row : Option Nat} (h : Bx W B t cs) (hg : W.grownBy W' row) (hrow : ∀ r, row = some r → ∃ o : Obj, W.heap[r]? = some o ∧ o.isCells = false) : Bx W' B t cs :=
  h.grown hg (not_row8 h rfl hrow)
/-- All fields within the 64 bits of an int. -/
def Ins.wf (Q : Ins) : Prop := ∀ k, k < 12 → -9223372036854775808 ≤ Q.get k ∧ Q.get k < 9223372036854775808

end E
end Go.Proofs.YtbcncohjjnmdcaaGreatDoor
namespace Go.Proofs.YtbcncohjjnmdcaaGreatDoor
open Go.RowKit Go.Shelf
set_option linter.unusedVariables false
namespace E

def fv (Q : Ins) : Option Nat → Int
  | some k => Q.get k
  | none => 0
def fs (Q : Ins) (o : Option Nat) (z : Int) : Ins := match o with
  | some k => Q.set k z
  | none => Q
def inR (z : Int) (b : Nat) : Bool := decide (0 ≤ z ∧ z < 2 ^ b)
def ckStep (s : Ins × Bool) (f : Option Nat × Nat) : Ins × Bool := (fs s.1 f.1 0, s.2 && inR (fv s.1 f.1) f.2)
/-- Op and Form alone. -/
def Ins.hd (Q : Ins) : Ins := ⟨Q.op, Q.fo, 0, 0, 0, 0, 0, 0, 0, 0, 0, 0⟩
/-- Is the form that of the operation code? -/
def foB (Q : Ins) : Bool := (ixC Q.op).isSome && Q.fo == (foO (ixC Q.op) : Int)
/-- Are the fields as they may be? -/
def okB8 (F : Nat) (Q : Ins) : Bool := ((fldsT F).foldl ckStep (Q, true)).2 && decide (((fldsT F).foldl ckStep (Q, true)).1 = Q.hd)
/-- What Check answers. -/
def chkV (Q : Ins) : Int := if foB Q then (if okB8 (foO (ixC Q.op)) Q then 0 else 6) else 80
theorem ck_false (l : List (Option Nat × Nat)) (s : Ins × Bool) (h : s.2 = false) : (l.foldl ckStep s).2 = false := by
  induction l generalizing s with
  | nil => exact h
  | cons f l ih => exact ih _ (by simp [ckStep, h])
theorem ck_stop {F j : Nat} {Q : Ins} (h : (((fldsT F).take j).foldl ckStep (Q, true)).2 = false) : okB8 F Q = false := by
  have h2 : ((fldsT F).foldl ckStep (Q, true)).2 = false := by
    rw [← List.take_append_drop j (fldsT F), List.foldl_append]
    exact ck_false _ _ h
  unfold okB8
  rw [h2]
  rfl
/-- What is known of a value that comes. -/
theorem pf_next {F B : Nat} {pre : List (Addr × Nat)} {y : Addr × Nat} (h : PfF F B (pre ++ [y])) : pre.length < (fldsT F).length ∧ (fldsT F)[pre.length]? = some (kd B y) ∧ pre.map (kd B) = (fldsT F).take pre.length := by
  unfold PfF at h
  rw [List.map_append, List.map_cons, List.map_nil, List.length_append, List.length_cons, List.length_nil, Nat.zero_add] at h
  have hl : pre.length < (fldsT F).length := by
    have := congrArg List.length h
    simp at this
    omega
  rw [List.take_succ_eq_append_getElem hl] at h
  have h2 := List.append_inj h (by simp; omega)
  refine ⟨hl, ?_, h2.1⟩
  rw [List.getElem?_eq_getElem hl]
  have := h2.2
  injection this with h3
  rw [h3]
def bitsOk (F : Nat) : Bool := (fldsT F).all fun f => f.2 == 4 || f.2 == 8 || f.2 == 12
theorem bits_ok (F : Nat) : bitsOk F = true := by
  unfold bitsOk fldsT
  split <;> rfl
theorem pf_bits {F B : Nat} {pre : List (Addr × Nat)} {y : Addr × Nat} (h : PfF F B (pre ++ [y])) : y.2 = 4 ∨ y.2 = 8 ∨ y.2 = 12 := by
  obtain ⟨h1, h2, _⟩ := pf_next h
  have h3 := List.all_eq_true.1 (bits_ok F) _ (List.mem_of_getElem? h2)
  simp only [Bool.or_eq_true, beq_iff_eq] at h3
  have h4 : (kd B y).2 = y.2 := rfl
  omega
/-- The cell of a value that comes, and what a store there leaves. -/
theorem vy_cell {Pf : List (Addr × Nat) → Prop} {B base Bi : Nat} {pre : List (Addr × Nat)} {y : Addr × Nat} {W : World} {Q : Ins} (hv : Vy Pf B base pre y W) (hB : B < base) (hb : Bx W B 25 Q.cs) :
    Pf (pre ++ [y]) ∧ W.cell? y.1 = some (.int .i64 (fv Q (kd B y).1)) ∧ W.frozen? y.1 = false ∧ (∀ u : Int, Bx (W.setCell y.1 (.int .i64 u)) B 25 (fs Q (kd B y).1 u).cs) ∧ (∀ g, g ≠ B → g < base → g ≠ y.1.block) ∧ Kb base Bi y.1.block W W ∧ (∀ u : Value, Kb base Bi y.1.block W (W.setCell y.1 u)) ∧ y.1.block < W.heap.size := by
  obtain ⟨hp, h⟩ := hv
  have hk : ∀ u : Value, Kb base Bi y.1.block W (W.setCell y.1 u) := fun u => by
    refine ⟨by simp, fun k vs t x h1 h2 _ => ?_⟩
    rw [heap_setCell_other W y.1 k u h2]
    exact h1
  refine ⟨hp, ?_, ?_, ?_, ?_, Kb.refl _ _ _ _, hk, ?_⟩
  · rcases h with ⟨k, h12, he⟩ | ⟨U, hU, he, hx⟩
    · rw [he, hb.cell, Q.cell k h12]
      simp [kd, he, fv]
    · rw [he, hx.cell]
      simp [kd, he, fv, show ¬ U = B by omega]
  · rcases h with ⟨k, h12, he⟩ | ⟨U, hU, he, hx⟩
    · rw [he]; exact hb.frozen k
    · rw [he]; exact hx.frozen
  · intro u
    rcases h with ⟨k, h12, he⟩ | ⟨U, hU, he, hx⟩
    · have := hb.set k (.int .i64 u)
      rw [Q.set_cs k u h12] at this
      rw [he]
      simpa [kd, he, fs] using this
    · have := hb.far (p := ⟨U, 0, none⟩) (by simp; omega) (.int .i64 u)
      rw [he]
      simpa [kd, he, fs, show ¬ U = B by omega] using this
  · intro g h1 h2
    rcases h with ⟨k, h12, he⟩ | ⟨U, hU, he, hx⟩
    · rw [he]; exact h1
    · rw [he]; show g ≠ U; omega
  · rcases h with ⟨k, h12, he⟩ | ⟨U, hU, he, hx⟩
    · rw [he]; exact hb.lt
    · rw [he]; exact hx.lt

end E
end Go.Proofs.YtbcncohjjnmdcaaGreatDoor

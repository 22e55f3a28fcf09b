/- Instructions as twelve numbers; what the iterator of the fields tells. -/
import Derived.Test.YtaodghaicmjadaaDoorIsFldA
import Derived.Test.YtaodghaicmjadaaDoorIsFldB
import Derived.Test.YtaodghaicmjadaaDoorIsFldC
import Derived.Test.YtaodghaicmjadaaDoorIsFldD
import Derived.Test.YtaodghaicmjadaaDoorIsFldE
namespace Go.Proofs.YtaodghaicmjadaaDoor
open Go.RowKit Go.Shelf
set_option linter.unusedVariables false
namespace E

theorem fields_all (F : Nat) (h1 : 1 ≤ F) (h9 : F ≤ 9) : FieldsAt F := by
  obtain rfl | rfl | rfl | rfl | rfl | rfl | rfl | rfl | rfl : F = 1 ∨ F = 2 ∨ F = 3 ∨ F = 4 ∨ F = 5 ∨ F = 6 ∨ F = 7 ∨ F = 8 ∨ F = 9 := by omega
  · exact fieldsRR
  · exact fieldsRX
  · exact fieldsRS
  · exact fieldsSI
  · exact fieldsSS
  · exact fieldsSS2
  · exact fieldsRRI
  · exact fieldsRR1
  · exact fieldsS
theorem fieldsV_any (a : Addr) (w : World) : Calls Tryd.prog 34 #[.pointer (some a)] w fun e w' =>
    e = .returned (.func (.func 49) #[] #[.pointer (some ⟨w.heap.size, 0, none⟩)]) ∧ w' = w.alloc (.cells #[.pointer (some a)] 59) := by
  go_enter Tryd.func34, Tryd.ntmps34
  go_wp2
  go_ret
  exact ⟨rfl, rfl⟩
def fdS (F B base : Nat) (xs : List (Addr × Nat)) (_ : World) : Prop := ∃ U, base ≤ U ∧ xs = (fldsT F).map (adr B U)
theorem fields_tells (n F B Bi : Nat) (w : World) (h1 : 1 ≤ F) (h9 : F ≤ 9) (hB : B < w.heap.size) (hne : Bi ≠ B) (bi : Boxed w Bi 59 (.pointer (some ⟨B, 0, none⟩))) (cf : w.cell? ⟨B, 1, none⟩ = some (.int .i64 (F : Int))) :
    Tells n Tryd.prog 49 #[.pointer (some ⟨Bi, 0, none⟩)] encY (Vy (PfF F B) B w.heap.size) (fun y => Kb w.heap.size Bi y.1.block) (fdS F B w.heap.size) w := by
  intro l J Jx W hW hD hY h0
  refine callsIn_wide.2 ?_
  have hBi := bi.lt
  exact fields_all F h1 h9 l J Jx w.heap.size Bi B W (fun pre y W1 hv hj => yieldAt_any (hY pre y W1 hv hj)) hD hW.size hB hBi hne (bi.kept (grown_of hW none) (by simp)) (by rw [hW.cell hB]; exact cf) h0
theorem vy_put {Pf : List (Addr × Nat) → Prop} {B base : Nat} (pre : List (Addr × Nat)) (y : Addr × Nat) (W : World) (l : Nat) (o o' : Obj) (hl : W.heap[l]? = some o) (ho : o.isCells = false) (h : Vy Pf B base pre y W) : Vy Pf B base pre y (W.putObj l o') := by
  obtain ⟨hp, h | ⟨U, h1, h2, h3⟩⟩ := h
  · exact ⟨hp, .inl h⟩
  · exact ⟨hp, .inr ⟨U, h1, h2, Boxed.ab h3 (grownBy_putObj' W l o') (fun r e => by cases e; exact ⟨o, hl, ho⟩)⟩⟩
theorem kb_put {base Bi b : Nat} (W : World) (l : Nat) (o o' : Obj) (hl : W.heap[l]? = some o) (ho : o.isCells = false) : Kb base Bi b W (W.putObj l o') := by
  refine ⟨by simp, fun k vs t x hk h1 h2 => ?_⟩
  rw [World.putObj_heap_other, hk]
  intro e
  subst e
  rw [hk] at hl
  cases hl
  cases ho

/-! ### Instructions -/

/-- An instruction: twelve numbers. -/
structure Ins where
  op : Int
  fo : Int
  r1 : Int
  r2 : Int
  x2 : Int
  b1 : Int
  d1 : Int
  b2 : Int
  d2 : Int
  l1 : Int
  l2 : Int
  i2 : Int
deriving DecidableEq
/-- Its fields by number. -/
def Ins.get (Q : Ins) : Nat → Int
  | 0 => Q.op
  | 1 => Q.fo
  | 2 => Q.r1
  | 3 => Q.r2
  | 4 => Q.x2
  | 5 => Q.b1
  | 6 => Q.d1
  | 7 => Q.b2
  | 8 => Q.d2
  | 9 => Q.l1
  | 10 => Q.l2
  | 11 => Q.i2
  | _ => 0
def Ins.set (Q : Ins) (k : Nat) (z : Int) : Ins := match k with
  | 0 => { Q with op := z }
  | 1 => { Q with fo := z }
  | 2 => { Q with r1 := z }
  | 3 => { Q with r2 := z }
  | 4 => { Q with x2 := z }
  | 5 => { Q with b1 := z }
  | 6 => { Q with d1 := z }
  | 7 => { Q with b2 := z }
  | 8 => { Q with d2 := z }
  | 9 => { Q with l1 := z }
  | 10 => { Q with l2 := z }
  | 11 => { Q with i2 := z }
  | _ => Q
/-- Its cells. -/
def Ins.cs (Q : Ins) : Array Value := #[.int .i64 Q.op, .int .i64 Q.fo, .int .i64 Q.r1, .int .i64 Q.r2, .int .i64 Q.x2, .int .i64 Q.b1, .int .i64 Q.d1, .int .i64 Q.b2, .int .i64 Q.d2, .int .i64 Q.l1, .int .i64 Q.l2, .int .i64 Q.i2]
def Ins.val (Q : Ins) : Value := .agg #[.int .i64 Q.op, .int .i64 Q.fo, .int .i64 Q.r1, .int .i64 Q.r2, .int .i64 Q.x2, .int .i64 Q.b1, .int .i64 Q.d1, .int .i64 Q.b2, .int .i64 Q.d2, .int .i64 Q.l1, .int .i64 Q.l2, .int .i64 Q.i2]
def Ins.zero : Ins := ⟨0, 0, 0, 0, 0, 0, 0, 0, 0, 0, 0, 0⟩
theorem Ins.cell (Q : Ins) (k : Nat) (h : k < 12) : Q.cs[k]? = some (.int .i64 (Q.get k)) := by
  obtain rfl | rfl | rfl | rfl | rfl | rfl | rfl | rfl | rfl | rfl | rfl | rfl : k = 0 ∨ k = 1 ∨ k = 2 ∨ k = 3 ∨ k = 4 ∨ k = 5 ∨ k = 6 ∨ k = 7 ∨ k = 8 ∨ k = 9 ∨ k = 10 ∨ k = 11 := by omega
  all_goals rfl
theorem Ins.set_cs (Q : Ins) (k : Nat) (z : Int) (h : k < 12) : Q.cs.setIfInBounds k (.int .i64 z) = (Q.set k z).cs := by
  obtain rfl | rfl | rfl | rfl | rfl | rfl | rfl | rfl | rfl | rfl | rfl | rfl : k = 0 ∨ k = 1 ∨ k = 2 ∨ k = 3 ∨ k = 4 ∨ k = 5 ∨ k = 6 ∨ k = 7 ∨ k = 8 ∨ k = 9 ∨ k = 10 ∨ k = 11 := by omega
  all_goals rfl
theorem Bx.boxed {w : World} {g : Nat} {t : TypeId} {v : Value} (h : Bx w g t #[v]) : Boxed w g t v := h
theorem Boxed.bx {w : World} {g : Nat} {t : TypeId} {v : Value} (h : Boxed w g t v) : Bx w g t #[v] := h
theorem Bx.ab {W W' : World} {B : Nat} {t : TypeId} {cs : Array Value} {row : Option Nat} (h : Bx W B t cs) (hg : W.grownBy W' row) (hrow : ∀ r, row = some r → ∃ o : Obj, W.heap[r]? = some o ∧ o.isCells = false) : Bx W' B t cs :=
  h.grown hg (not_row h rfl hrow)
/-- All fields within the 64 bits of an int. -/
def Ins.wf (Q : Ins) : Prop := ∀ k, k < 12 → -9223372036854775808 ≤ Q.get k ∧ Q.get k < 9223372036854775808

end E
end Go.Proofs.YtaodghaicmjadaaDoor

/- What the texts of layer 4 stand on: the contracts of layer 3 that its functions call. -/
import Derived.Test.YtbcncohjjnmdcaaGreatDoorRows
import Derived.ChangeMaps5
import Derived.LaidMore
import Derived.Lay
import Derived.Lib.SmallJoins
import Derived.OpenShut
import Derived.SevenTiedAt
import Derived.Stop.Joined
import Derived.Test.YtbcncohjjnmdcaaGreatDoorPkR
namespace Go.Proofs.YtbcncohjjnmdcaaGreatDoor
open Go.RowKit Go.Shelf
set_option linter.unusedVariables false
namespace E

theorem bel_app {wr W W' : World} (h : ApS wr W) (hb : Below W.heap.size W W') : ApS wr W' := bel0 h hb
end E
end Go.Proofs.YtbcncohjjnmdcaaGreatDoor
namespace Go.Proofs.YtbcncohjjnmdcaaGreatDoor
namespace E

/-- The value of a list of digits, the last digit first. -/
def val (l : List (Fin 16)) : Nat := l.foldr (fun d n => d.val + 10 * n) 0
theorem val_nil : val [] = 0 := rfl
theorem val_cons (d : Fin 16) (l : List (Fin 16)) : val (d :: l) = d.val + 10 * val l := rfl
theorem val_app (l m : List (Fin 16)) : val (l ++ m) = val l + 10 ^ l.length * val m := by
  induction l with
  | nil => simp [val_nil]
  | cons d l ih =>
    rw [List.cons_append, val_cons, ih, val_cons, List.length_cons, Nat.pow_succ, Nat.mul_add, ← Nat.mul_assoc, Nat.mul_comm 10 (10 ^ l.length)]
    omega
/-- All digits are at most 9. -/
def ok9 (l : List (Fin 16)) : Prop := ∀ d ∈ l, d.val ≤ 9
theorem ok9_cons {d : Fin 16} {l : List (Fin 16)} : ok9 (d :: l) ↔ d.val ≤ 9 ∧ ok9 l := by simp [ok9]
theorem ok9_take {l : List (Fin 16)} (h : ok9 l) (k : Nat) : ok9 (l.take k) := fun d hd => h d (List.mem_of_mem_take hd)
theorem val_lt {l : List (Fin 16)} (h : ok9 l) : val l < 10 ^ l.length := by
  induction l with
  | nil => simp [val_nil]
  | cons d l ih =>
    have h2 := ok9_cons.1 h
    have h3 := ih h2.2
    rw [val_cons, List.length_cons, Nat.pow_succ]
    omega
theorem val_zeros (l m : List (Fin 16)) (h : ∀ d ∈ m, d = 0) : val (l ++ m) = val l := by
  have : val m = 0 := by
    induction m with
    | nil => rfl
    | cons d m ih =>
      rw [val_cons, ih (fun e he => h e (List.mem_cons_of_mem _ he)), h d (List.mem_cons_self ..)]
      rfl
  rw [val_app, this, Nat.mul_zero, Nat.add_zero]
end E
end Go.Proofs.YtbcncohjjnmdcaaGreatDoor

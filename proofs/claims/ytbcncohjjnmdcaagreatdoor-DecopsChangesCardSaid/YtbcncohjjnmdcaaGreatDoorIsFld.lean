/- The fields of each format, one after the other. -/
import Derived.Test.YtbcncohjjnmdcaaGreatDoorRows
import Derived.Deep.RegionHeld
import Derived.Lib.SliceRun
import Derived.Test.YtbcncohjjnmdcaaGreatDoorIsHalf
namespace Go.Proofs.YtbcncohjjnmdcaaGreatDoor
open Go.RowKit Go.Shelf
set_option linter.unusedVariables false
namespace E

theorem only_wp {P : Program} {id : Nat} {ops : Array Oper} {b : Bool} {Q : Exit → Act → World → Prop} {a : Act} {w : World} (h : (Code.region id ops b).wp P (OnlyN Q) a w) : (Code.region id ops b).wp P Q a w :=
  Code.wp_mono (fun e a w hq => by cases e <;> first | exact hq | exact hq.elim) h
/-- The fields of a format: which of the twelve (none: unused bits), and how many bits. -/
def fldsT : Nat → List (Option Nat × Nat)
  | 1 => [(some 2, 4), (some 3, 4)]
  | 8 => [(some 2, 4), (none, 4)]
  | 7 => [(some 11, 8)]
  | 2 => [(some 2, 4), (some 4, 4), (some 7, 4), (some 8, 12)]
  | 3 => [(some 2, 4), (some 3, 4), (some 7, 4), (some 8, 12)]
  | 4 => [(some 11, 8), (some 5, 4), (some 6, 12)]
  | 9 => [(none, 8), (some 5, 4), (some 6, 12)]
  | 5 => [(some 9, 8), (some 5, 4), (some 6, 12), (some 7, 4), (some 8, 12)]
  | 6 => [(some 9, 4), (some 10, 4), (some 5, 4), (some 6, 12), (some 7, 4), (some 8, 12)]
  | _ => []
def adr (B U : Nat) (f : Option Nat × Nat) : Addr × Nat := match f.1 with
  | some k => (⟨B, k, none⟩, f.2)
  | none => (⟨U, 0, none⟩, f.2)
/-- The boxes of the iterator. -/
def Fx (l By Bh Bi B : Nat) (W : World) : Prop := Boxed W By 131 (.func (.yield l) #[] #[]) ∧ Boxed W Bh 132 (halfV By) ∧ Boxed W Bi 95 (.pointer (some ⟨B, 0, none⟩))
theorem Fx.next {l By Bh Bi B base b : Nat} {X Y : World} (h : Fx l By Bh Bi B X) (hk : Kb base Bi b X Y) (h1 : By ≠ b) (h2 : Bh ≠ b) (h3 : Bi ≠ b) (h4 : base ≤ By ∨ By = Bi) (h5 : base ≤ Bh ∨ Bh = Bi) : Fx l By Bh Bi B Y :=
  ⟨hk.boxed h.1 h1 h4, hk.boxed h.2.1 h2 h5, hk.boxed h.2.2 h3 (.inr rfl)⟩
theorem Fx.drew {l By Bh Bi B : Nat} {X : World} (h : Fx l By Bh Bi B X) : Fx l By Bh Bi B X.drew := ⟨h.1.kept (grown_drewN X 1 none) (by simp), h.2.1.kept (grown_drewN X 1 none) (by simp), h.2.2.kept (grown_drewN X 1 none) (by simp)⟩
/-- Which field lies there. -/
def kd (B : Nat) (y : Addr × Nat) : Option Nat × Nat := (if y.1.block = B then some y.1.off else none, y.2)
/-- The values that have come are those of the format. -/
def PfF (F B : Nat) (q : List (Addr × Nat)) : Prop := q.map (kd B) = (fldsT F).take q.length
/-- The contract for a format. -/
def FieldsAt (F : Nat) : Prop := ∀ (l : Nat) (J Jx : List (Addr × Nat) → World → Prop) (base Bi B : Nat) (W : World),
    (∀ pre y W1, Vy (PfF F B) B base pre y W1 → J pre W1 → YieldAt Fence.wide 5 Tryz.prog l (encY y) W1 fun e W' => Kb base Bi y.1.block W1 W' ∧ ((e = .returned (.bool true) ∧ J (pre ++ [y]) W') ∨ (e = .returned (.bool false) ∧ Jx (pre ++ [y]) W'))) →
    (∀ s X Y, J s X → X.grownBy Y none → J s Y) → base ≤ W.heap.size → B < base → Bi < base → Bi ≠ B → Boxed W Bi 95 (.pointer (some ⟨B, 0, none⟩)) → W.cell? ⟨B, 1, none⟩ = some (.int .i64 (F : Int)) → J [] W →
    Calls Tryz.prog 120 #[.func (.yield l) #[] #[], .pointer (some ⟨Bi, 0, none⟩)] W fun e W' => (∃ v, e = .returned v) ∧ ((∃ xs, (∃ U, base ≤ U ∧ xs = (fldsT F).map (adr B U)) ∧ J xs W') ∨ (∃ q, Jx q W'))

end E
end Go.Proofs.YtbcncohjjnmdcaaGreatDoor

/- The given answers' table. -/
import Derived.Test.YtaodghaicmjadaaDoorIsFind
namespace Go.Proofs.YtaodghaicmjadaaDoor
open Go.RowKit Go.Shelf
set_option linter.unusedVariables false
namespace E

/-- A list of unguarded operations that yield values, run. -/
def evalL (P : Program) : List Oper → Act → World → Option (Act × World)
  | [], a, w => some (a, w)
  | o :: r, a, w => match o.guard with
    | none => match (execOp a.eval o).run P w with
      | .ok (.value v) w' => evalL P r (a.put o.dst v) w'
      | _ => none
    | some _ => none
theorem wpList_run {P : Program} {ops : Array Oper} {Q : Exit → Act → World → Prop} {aF : Act} {wF : World} : ∀ (l : List Oper) (a : Act) (w : World), evalL P l a w = some (aF, wF) → Q .normal aF wF → wpList P ops Q l a w
  | [], a, w, h, q => by
    cases h
    exact q
  | o :: r, a, w, h, q => by
    unfold evalL at h
    cases hg : o.guard with
    | some g => rw [hg] at h; cases h
    | none =>
      rw [hg] at h
      refine wpList_plain hg fun K hK => ?_
      unfold Oper.wp
      revert h
      dsimp only
      cases he : (execOp a.eval o).run P w with
      | halt x w' => intro h; cases h
      | ok x w' =>
        cases x with
        | value v =>
          intro h
          exact hK _ _ (wpList_run r _ _ h q)
        | _ => intro h; cases h
theorem wp_region_run {P : Program} {id : Nat} {ops : Array Oper} {Q : Exit → Act → World → Prop} {a aF : Act} {w wF : World} (h : evalL P ops.toList a w = some (aF, wF)) (q : Q .normal aF wF) : (Code.region id ops false).wp P Q a w := by
  refine wp_region ?_
  have e := wpOps_eq_wpList (P := P) (ops := ops) (Q := Q) ops.toList 0 (fun j => by simp)
  rw [Array.length_toList, ← List.range_eq_range'] at e
  rw [e]
  exact wpList_run _ _ _ h q
/-- The cells of the table of the given answers. -/
def refC : List Value := (List.range 97).flatMap fun k => [.int .i64 (opK k : Int), .string ⟨(nmK k).toArray⟩, .int .i64 (foK k : Int)]
def refT (w : World) : List Value := .slice (some ⟨w.heap.size, 0, none⟩) 97 97 :: ((List.range 97).map fun k => .agg #[.int .i64 (opK k : Int), .string ⟨(nmK k).toArray⟩, .int .i64 (foK k : Int)]) ++ [.slice (some ⟨w.heap.size, 0, none⟩) 97 97]
set_option maxRecDepth 1000000 in
set_option maxHeartbeats 4000000 in
theorem rows_ref (w : World) : Calls Tryd.prog 42 #[] w fun e w' => e = .returned (.slice (some ⟨w.heap.size, 0, none⟩) 97 97) ∧ w' = w.alloc (.cells refC.toArray 52) := by
  go_enter Tryd.func42, Tryd.ntmps42
  refine wp_seq (wp_region_run (aF := { tmps := (Value.slice none 0 0 :: List.replicate 98 undef).toArray, defers := [] }) (wF := w) (by kernel_rfl) ?_)
  show Code.wp _ _ _ _ _
  refine wp_seq (wp_region_run (aF := { tmps := (refT w).toArray, defers := [] }) (wF := w.alloc (.cells refC.toArray 52)) (by kernel_rfl) ?_)
  refine wp_ret ?_
  exact bodyPost_ret (v := .slice (some ⟨w.heap.size, 0, none⟩) 97 97) (by kernel_rfl) rfl ⟨rfl, rfl⟩
end E
end Go.Proofs.YtaodghaicmjadaaDoor

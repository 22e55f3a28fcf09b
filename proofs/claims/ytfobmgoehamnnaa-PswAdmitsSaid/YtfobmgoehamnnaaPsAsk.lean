/- A word and a question in two blocks at a function's start. -/
import Derived.Test.YtfobmgoehamnnaaPsWorks
namespace Go.Proofs.Ytfobmgoehamnnaa
open Go.RowKit
set_option linter.unusedVariables false
namespace E

def Ca (W : World) (g : Nat) (cl co ch : Int) : Prop := W.cell? ⟨g, 0, none⟩ = some (.int .i64 cl) ∧ W.cell? ⟨g, 1, none⟩ = some (.int .i64 co) ∧ W.cell? ⟨g, 2, none⟩ = some (.int .i64 ch)
theorem ca_next {w W W' : World} {n g : Nat} {Q : Psw} {cl co ch : Int} (h : (Cf W n Q ∧ Ca W g cl co ch) ∧ Below w.heap.size w W) (hb : Below W.heap.size W W') : (Cf W' n Q ∧ Ca W' g cl co ch) ∧ Below w.heap.size w W' :=
  ⟨⟨(cf_next ⟨h.1.1, h.2⟩ hb).1, cell_bel h.1.2.1 hb, cell_bel h.1.2.2.1 hb, cell_bel h.1.2.2.2 hb⟩, bel0 h.2 hb⟩
theorem ca_of {w W : World} {n g : Nat} {Q : Psw} {t : TypeId} {cl co ch : Int} (h : Bx w n 23 #[.int .i64 Q.m, .int .i64 Q.k, .bool Q.ma, .bool Q.wa, .bool Q.pr, .int .i64 Q.co, .int .i64 Q.il, .int .i64 Q.cc, .int .i64 Q.pg, .int .i64 Q.ad]) (h2 : Bx w g t #[.int .i64 cl, .int .i64 co, .int .i64 ch]) (hb : Below w.heap.size w W) : (Cf W n Q ∧ Ca W g cl co ch) ∧ Below w.heap.size w W :=
  ⟨⟨(cf_of h hb).1, (h2.below hb).cell 0, (h2.below hb).cell 1, (h2.below hb).cell 2⟩, hb⟩
theorem ask_start (w : World) (Q : Psw) (cl co ch : Int) : Bx ((w.alloc (.cells #[.int .i64 Q.m, .int .i64 Q.k, .bool Q.ma, .bool Q.wa, .bool Q.pr, .int .i64 Q.co, .int .i64 Q.il, .int .i64 Q.cc, .int .i64 Q.pg, .int .i64 Q.ad] 23)).alloc (.cells #[.int .i64 cl, .int .i64 co, .int .i64 ch] 35)) w.heap.size 23 #[.int .i64 Q.m, .int .i64 Q.k, .bool Q.ma, .bool Q.wa, .bool Q.pr, .int .i64 Q.co, .int .i64 Q.il, .int .i64 Q.cc, .int .i64 Q.pg, .int .i64 Q.ad] ∧ Bx ((w.alloc (.cells #[.int .i64 Q.m, .int .i64 Q.k, .bool Q.ma, .bool Q.wa, .bool Q.pr, .int .i64 Q.co, .int .i64 Q.il, .int .i64 Q.cc, .int .i64 Q.pg, .int .i64 Q.ad] 23)).alloc (.cells #[.int .i64 cl, .int .i64 co, .int .i64 ch] 35)) (w.heap.size + 1) 35 #[.int .i64 cl, .int .i64 co, .int .i64 ch] := by
  refine ⟨(Bx.new w 23 (#[.int .i64 Q.m, .int .i64 Q.k, .bool Q.ma, .bool Q.wa, .bool Q.pr, .int .i64 Q.co, .int .i64 Q.il, .int .i64 Q.cc, .int .i64 Q.pg, .int .i64 Q.ad] : Array Value)).below (below_new _ _), ?_⟩
  have h := Bx.new (w.alloc (Obj.cells #[.int .i64 Q.m, .int .i64 Q.k, .bool Q.ma, .bool Q.wa, .bool Q.pr, .int .i64 Q.co, .int .i64 Q.il, .int .i64 Q.cc, .int .i64 Q.pg, .int .i64 Q.ad] 23)) 35 #[.int .i64 cl, .int .i64 co, .int .i64 ch]
  rw [World.size_alloc] at h
  exact h

end E
end Go.Proofs.Ytfobmgoehamnnaa

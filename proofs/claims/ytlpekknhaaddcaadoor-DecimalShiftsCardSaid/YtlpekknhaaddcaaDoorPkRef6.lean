/- The program's and the document's own moves answer alike. -/
import Derived.Test.YtlpekknhaaddcaaDoorPkRef3
namespace Go.Proofs.YtlpekknhaaddcaaDoor
open Go.RowKit Go.Shelf
set_option linter.unusedVariables false
namespace E
/-- A slice that reads as a list. -/
def SvRd (W : World) (sv : Value) (l : List UInt8) : Prop := ∃ p c, sv = .slice p l.length c ∧ Rd W p l
theorem SvRd.below {w w' : World} {sv : Value} {l : List UInt8} (h : SvRd w sv l) (hb : Below w.heap.size w w') : SvRd w' sv l := by
  obtain ⟨p, c, h1, h2⟩ := h
  exact ⟨p, c, h1, h2.below hb⟩
def SvPost (w : World) (l : List UInt8) (e : Ending) (w' : World) : Prop := ∃ sv, e = .returned sv ∧ SvRd w' sv l ∧ Below w.heap.size w w'
theorem MvPost.sv {f : Nat} {args : Array Value} {w : World} {n : Int} {l : List UInt8} {ok : Bool} (h : Calls Tryd.prog f args w (MvPost w ok n l)) (hl : l.length = n.toNat) : Calls Tryd.prog f args w (SvPost w (if ok then l else [])) :=
  h.mono fun e w' h => by
    rcases h with ⟨ho, g, h1, h2, h3⟩ | ⟨ho, h1, h2⟩
    · rw [ho, if_pos rfl]
      exact ⟨_, h1, ⟨_, _, by rw [hl], h2.rd⟩, h3⟩
    · rw [ho, if_neg (by simp)]
      exact ⟨_, h1, ⟨none, 0, rfl, .inl rfl⟩, h2⟩
theorem RmPost.sv {f : Nat} {args : Array Value} {w : World} {l : List UInt8} {ok : Bool} (h : Calls Tryd.prog f args w (RmPost w ok l)) : Calls Tryd.prog f args w (SvPost w (if ok then l else [])) :=
  h.mono fun e w' h => by
    rcases h with ⟨ho, sv, h1, h2, h3⟩ | ⟨ho, h1, h2⟩
    · rw [ho, if_pos rfl]
      obtain ⟨p, c, e1, e2, _⟩ := h2.rd
      exact ⟨_, h1, ⟨p, c, e1, e2⟩, h3⟩
    · rw [ho, if_neg (by simp)]
      exact ⟨_, h1, ⟨none, 0, rfl, .inl rfl⟩, h2⟩
theorem same_sv {w : World} {u v : Value} {l : List UInt8} (h1 : SvRd w u l) (h2 : SvRd w v l) : Calls Tryd.prog 19 #[u, v] w fun e w' => e = .returned (.bool true) ∧ w = w' := by
  obtain ⟨p, c, rfl, r1⟩ := h1
  obtain ⟨q, d, rfl, r2⟩ := h2
  exact rsame_true p q c d l w r1 r2

end E
end Go.Proofs.YtlpekknhaaddcaaDoor

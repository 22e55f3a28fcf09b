/- The program's digits of a source: next and take. -/
import Derived.Test.YtfkenoehoocobaaEdSmall
import Derived.BigQuiet
namespace Go.Proofs.Ytfkenoehoocobaa
open Go.RowKit
set_option linter.unusedVariables false
namespace E

/-- A slice that reads as a list, from blocks below G. -/
def Src (w : World) (G : Nat) (sv : Value) (l : List UInt8) : Prop := ∃ p c, sv = .slice p l.length c ∧ l.length ≤ c ∧ c ≤ 9223372036854775807 ∧ (p = none → c = 0) ∧ (l = [] ∨ ∃ B off, p = some ⟨B, off, none⟩ ∧ B < G ∧ ∀ j, j < l.length → w.cell? ⟨B, off + j, none⟩ = some (.int .u8 ((gt l j).toNat : Int)))
theorem Src.bel {w w' : World} {G : Nat} {sv : Value} {l : List UInt8} (h : Src w G sv l) (hb : Below G w w') : Src w' G sv l := by
  obtain ⟨p, c, h1, h2, h3, h4, h5⟩ := h
  refine ⟨p, c, h1, h2, h3, h4, ?_⟩
  rcases h5 with h5 | ⟨B, off, e1, e2, e3⟩
  · exact .inl h5
  · exact .inr ⟨B, off, e1, e2, fun j hj => (hb.cell (p := ⟨B, off + j, none⟩) e2).trans (e3 j hj)⟩
theorem SvB.src {w : World} {sv : Value} {l : List UInt8} (h : SvB w sv l) : Src w w.heap.size sv l := by
  obtain ⟨p, c, h1, h2, h3, h4, h5⟩ := h
  refine ⟨p, c, h1, h3, h4, h5, ?_⟩
  rcases h2 with h2 | ⟨B, off, e1, e2⟩
  · exact .inl h2
  · by_cases h0 : l = []
    · exact .inl h0
    · have hl : 0 < l.length := List.length_pos_iff.2 h0
      exact .inr ⟨B, off, e1, World.block_lt_of_cell? w _ (e2 0 hl), e2⟩
theorem Src.up {w : World} {G G' : Nat} {sv : Value} {l : List UInt8} (h : Src w G sv l) (hg : G ≤ G') : Src w G' sv l := by
  obtain ⟨p, c, h1, h2, h3, h4, h5⟩ := h
  refine ⟨p, c, h1, h2, h3, h4, ?_⟩
  rcases h5 with h5 | ⟨B, off, e1, e2, e3⟩
  · exact .inl h5
  · exact .inr ⟨B, off, e1, by omega, e3⟩
/-- The rest of a slice. -/
theorem Src.tail {w : World} {G : Nat} {sv : Value} {x : UInt8} {l : List UInt8} (h : Src w G sv (x :: l)) :
    ∃ sv', (∀ W, (Instr.sliceAt 22 sv (some (.int .i64 1)) none none).run Try.prog W = .ok sv' W) ∧ Src w G sv' l ∧ ∃ p n c, sv' = .slice p n c := by
  obtain ⟨p, c, rfl, h2, h3, h4, h5⟩ := h
  have hs : ∀ W : World, (sizeOf (Try.prog.elem 22)).run Try.prog W = .ok 1 W := fun W => by kernel_rfl
  refine ⟨sliced p 1 (x :: l).length c 1, fun W => ?_, ?_, ⟨_, _, _, rfl⟩⟩
  · rw [run_sliceAt_slice W _ _ _ _ _ Try.underlying22, run_slice_l W _ _ _ _ Try.underlying22 .i64 1 (by omega) (by simp; omega)]
    rw [hs]
    rfl
  · unfold sliced
    by_cases hc : c = 1
    · subst hc
      have hl : l = [] := by
        have h2' : l.length + 1 ≤ 1 := h2
        have : l.length = 0 := by omega
        exact List.length_eq_zero_iff.1 this
      subst hl
      exact ⟨_, _, rfl, Nat.zero_le _, Nat.zero_le _, fun _ => rfl, .inl rfl⟩
    · rw [if_neg (by simpa using hc)]
      rcases h5 with h5 | ⟨B, off, rfl, e2, e3⟩
      · cases h5
      · refine ⟨some ⟨B, off + 1, none⟩, c - 1, by simp [Addr.add], (by have h2' : l.length + 1 ≤ c := h2; omega), by omega, fun h => (by cases h), .inr ⟨B, off + 1, rfl, e2, fun j hj => ?_⟩⟩
        have := e3 (j + 1) (by simp; omega)
        rw [show off + 1 + j = off + (j + 1) by omega, this]
        rfl
/-- The source's two cells of the editor's block. -/
def DgM (w : World) (G : Nat) (t : TypeId) (cs : Array Value) (sv : Value) (r : Bool) : Prop := Bx w G t cs ∧ cs[0]? = some sv ∧ cs[1]? = some (.bool r)
/-- What next leaves. -/
def NPost (w : World) (G : Nat) (t : TypeId) (cs : Array Value) (l : List UInt8) (e : Ending) (w' : World) : Prop := ∃ sv', e = .returned (.tuple #[]) ∧ w' = (w.setCell ⟨G, 0, none⟩ sv').setCell ⟨G, 1, none⟩ (.bool false) ∧ Src w G sv' l ∧ ∃ p n c, sv' = .slice p n c
theorem next_any (G : Nat) (t : TypeId) (cs : Array Value) (sv : Value) (r : Bool) (x : UInt8) (l : List UInt8) (w : World) (h : DgM w G t cs sv r) (hs : Src w G sv (x :: l)) :
    Calls Try.prog 34 #[.pointer (some ⟨G, 0, none⟩)] w (NPost w G t cs l) := by
  obtain ⟨hB, h0, h1⟩ := h
  have c0 := (hB.cell 0).trans h0
  have c1 := (hB.cell 1).trans h1
  have f0 := hB.frozen 0
  have f1 := hB.frozen 1
  obtain ⟨sv', hrun, hs', p, n, c, rfl⟩ := hs.tail
  obtain ⟨p0, c0', rfl, _⟩ := hs
  have HS := Lib.hid hs'
  clear hs' hB h0 h1
  generalize (x :: l).length = n0 at *
  go_enter Try.func34, Try.ntmps34
  go_wp2
  (try simp only [Exit.inBlock, Exit.then])
  first | (refine bodyPost_ret (results_none rfl _ _ _) rfl ?_) | (refine bodyPost_end (results_none rfl _ _ _) rfl ?_)
  exact ⟨_, rfl, rfl, HS.out, _, _, _, rfl⟩

end E
end Go.Proofs.Ytfkenoehoocobaa

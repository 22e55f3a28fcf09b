/- What a call of Edit leaves, when its result is put into a block: in whatever order the block is made. -/
import Derived.Test.YtfkenoehoocobaaEdWorks
import Derived.Deep.CutRange
namespace Go.Proofs.Ytfkenoehoocobaa
open Go.RowKit
set_option linter.unusedVariables false
namespace E

theorem keep_new {w3 W w4 : World} {o : Obj} (h0 : Below w3.heap.size w3 W) (hb : Below W.heap.size W w4) : Below w3.heap.size w3 (w4.alloc o) := (bel0 h0 hb).alloc (bel0 h0 hb).size o
theorem bx_first {w3 w4 : World} {t : TypeId} {cs : Array Value} (hb : Below (w3.alloc (.cells cs t)).drew.heap.size (w3.alloc (.cells cs t)).drew w4) : Bx w4 w3.heap.size t cs := ((Bx.new w3 t cs).below (Below.refl _ _).drew).below hb
theorem Bx.all3 {w : World} {g : Nat} {t : TypeId} {a b c : Value} (h : Bx w g t #[a, b, c]) (x y z : Value) : Bx (((w.setCell ⟨g, 0, none⟩ x).setCell ⟨g, 1, none⟩ y).setCell ⟨g, 2, none⟩ z) g t #[x, y, z] := ((h.set 0 x).set 1 y).set 2 z
/-- What the call leaves: the result in a block of its own, its text in another. -/
def AfterEd (w3 : World) (text : List UInt8) (cc : Nat) (mk : Int) (code : Nat) (rv ev : Value) (W : World) : Prop :=
  ∃ g pv cv, rv = .pointer (some ⟨g, 0, none⟩) ∧ ev = .int .i64 (code : Int) ∧ Bx W g 26 #[.slice pv text.length cv, .int .i64 (cc : Int), .int .i64 mk] ∧ Hold W w3.heap.size (.slice pv text.length cv) text ∧ Below w3.heap.size w3 W ∧ w3.heap.size ≤ g ∧ ∀ a, pv = some a → a.block ≠ g
theorem own_setB {w : World} {b n size g k : Nat} {t : TypeId} {sv : Value} {xs : List Value} {u : Value} (h : w.ownsRow b t size sv n xs) (hne : sv.ownBlock ≠ some g) : (w.setCell ⟨g, k, none⟩ u).ownsRow b t size sv n xs := by
  obtain ⟨h0, h1 | ⟨g', cap, cur, hv, hbg, hh, hle, hm, hsz, ht⟩⟩ := h
  · exact ⟨h0, .inl h1⟩
  · refine ⟨h0, .inr ⟨g', cap, cur, hv, hbg, ?_, hle, hm, hsz, ht⟩⟩
    rw [heap_setCell_other w ⟨g, k, none⟩ g' _ (fun e => hne (by rw [hv]; exact congrArg some e))]
    exact hh
theorem after_new {w3 W w4 : World} {text : List UInt8} {cc : Nat} {mk : Int} {code : Nat} {pv : Option Addr} {cv : Nat} (hW : Below w3.heap.size w3 W) (hh : Hold w4 W.heap.size (.slice pv text.length cv) text) (hb : Below W.heap.size W w4) :
    AfterEd w3 text cc mk code (.pointer (some ⟨w4.heap.size, 0, none⟩)) (.int .i64 (code : Int)) (w4.alloc (.cells #[.slice pv text.length cv, .int .i64 (cc : Int), .int .i64 mk] 26)) := by
  have h1 := bel0 hW hb
  refine ⟨_, pv, cv, rfl, rfl, Bx.new _ _ _, (hh.kept (below_new _ _)).base hW.size, h1.alloc h1.size _, h1.size, fun a ha e => ?_⟩
  subst ha
  have := (World.ownsRow.lt hh a.block rfl).2
  omega
theorem after_store {w3 W w4 : World} {text : List UInt8} {cc : Nat} {mk : Int} {code g : Nat} {pv : Option Addr} {cv : Nat} {a b c : Value} (hW : Below w3.heap.size w3 W) (hg : w3.heap.size ≤ g) (hgW : g < W.heap.size) (hB : Bx w4 g 26 #[a, b, c]) (hh : Hold w4 W.heap.size (.slice pv text.length cv) text) (hb : Below W.heap.size W w4) :
    AfterEd w3 text cc mk code (.pointer (some ⟨g, 0, none⟩)) (.int .i64 (code : Int)) (((w4.setCell ⟨g, 0, none⟩ (.slice pv text.length cv)).setCell ⟨g, 1, none⟩ (.int .i64 (cc : Int))).setCell ⟨g, 2, none⟩ (.int .i64 mk)) := by
  have h1 := bel0 hW hb
  have hne : ∀ k, (Value.slice pv text.length cv).ownBlock = some k → k ≠ g := fun k hk e => by
    have := (World.ownsRow.lt hh k hk).1
    omega
  refine ⟨g, pv, cv, rfl, rfl, hB.all3 _ _ _, Hold.base (own_setB (own_setB (own_setB hh (fun e => hne g e rfl)) (fun e => hne g e rfl)) (fun e => hne g e rfl)) hW.size, below_set3 h1 hg _ _ _, hg, fun ad ha e => ?_⟩
  subst ha
  exact hne ad.block rfl e
/-- A row of bytes of the call's own: empty, or a block that holds them. -/
theorem hold_blk {w : World} {base : Nat} {p : Option Addr} {c : Nat} {l : List UInt8} (h : Hold w base (.slice p l.length c) l) : l.length = 0 ∨ ∃ g, p = some ⟨g, 0, none⟩ ∧ Blk w base g l := by
  obtain ⟨_, ⟨h1, h0⟩ | ⟨g, cap, cur, hv, hbg, hh, hle, hm, hsz, ht⟩⟩ := h
  · exact .inl h0
  · obtain ⟨rfl, _, _⟩ := Value.slice.inj hv
    rw [Nat.mul_one] at ht
    exact .inr ⟨g, rfl, hbg, cur, hh, ht⟩

end E
end Go.Proofs.Ytfkenoehoocobaa

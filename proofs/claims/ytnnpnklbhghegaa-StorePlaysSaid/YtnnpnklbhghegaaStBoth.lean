/- Two storages through a sequence of calls. -/
import Derived.Test.YtnnpnklbhghegaaStOpen
namespace Go.Proofs.Ytnnpnklbhghegaa
open Go.RowKit Go.Shelf
set_option linter.unusedVariables false
namespace E

/-- Two storages that are alike, in new memory. -/
def Both (w0 wr : World) (a g h n m ra g2 h2 c d : Nat) : Prop := Below w0.heap.size w0 wr ∧ ∃ bs ks, Sto wr a g h n m bs ks ∧ Rfs wr ra g2 h2 n m c d bs ks
/-- The blocks that calls write are new. -/
def Fresh (w0 : World) (g h g2 h2 : Nat) : Prop := w0.heap.size ≤ g ∧ w0.heap.size ≤ h ∧ w0.heap.size ≤ g2 ∧ w0.heap.size ≤ h2 ∧ g ≠ g2
theorem Fresh.all {w0 : World} {g h g2 h2 : Nat} (f : Fresh w0 g h g2 h2) : ∀ b, b ∈ [g, h, g2, h2] → w0.heap.size ≤ b := by
  obtain ⟨h1, h2, h3, h4, _⟩ := f
  intro b hb
  simp at hb
  rcases hb with rfl | rfl | rfl | rfl <;> assumption
/-- A call that was given is made. -/
theorem one_of {w0 wr : World} {a g h n m ra g2 h2 c d : Nat} (kd : UInt8) (x k key : Int) (bv : Value) (b : List UInt8) (hb : Both w0 wr a g h n m ra g2 h2 c d) (hf : Fresh w0 g h g2 h2) (hx : x ≤ 9223372036854775807) (hs : SvB w0 bv b) :
    Calls Try.prog 13 #[.pointer (some ⟨a, 0, none⟩), .pointer (some ⟨ra, 0, none⟩), .agg #[.int .u8 (kd.toNat : Int), .int .i64 x, .int .i64 k, .int .i64 key, bv]] wr fun e w' => e = .returned (.bool true) ∧ Both w0 w' a g h n m ra g2 h2 c d ∧ Kp wr w' [g, h, g2, h2] := by
  obtain ⟨h1, bs, ks, h3, h4⟩ := hb
  refine (one_any kd x k key bv b bs ks a g h n m ra g2 h2 c d wr hx h3 h4 hf.2.2.2.2 (fun W hk => hs.below (Kp.below h1 hk hf.all))).mono ?_
  rintro e w' ⟨rfl, bs', ks', h5, h6, hk⟩
  exact ⟨rfl, ⟨Kp.below h1 hk hf.all, bs', ks', h5, h6⟩, hk⟩
theorem alike_of {w0 wr : World} {a g h n m ra g2 h2 c d : Nat} (hb : Both w0 wr a g h n m ra g2 h2 c d) : Calls Try.prog 14 #[.pointer (some ⟨a, 0, none⟩), .pointer (some ⟨ra, 0, none⟩)] wr (New wr (.bool true)) := by
  obtain ⟨_, bs, ks, h3, h4⟩ := hb
  exact alike_any a g h n m ra g2 h2 c d bs ks wr h3 h4
theorem Both.below {w0 w1 w2 : World} {a g h n m ra g2 h2 c d : Nat} (hb : Both w0 w1 a g h n m ra g2 h2 c d) (hbl : Below w1.heap.size w1 w2) : Both w0 w2 a g h n m ra g2 h2 c d := by
  obtain ⟨h1, bs, ks, h3, h4⟩ := hb
  exact ⟨bel0 h1 hbl, bs, ks, h3.below hbl, h4.below hbl⟩

end E
end Go.Proofs.Ytnnpnklbhghegaa

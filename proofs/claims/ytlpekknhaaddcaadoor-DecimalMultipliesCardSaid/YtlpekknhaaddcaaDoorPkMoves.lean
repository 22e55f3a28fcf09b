/- The contracts of convert, Pack, Unpack and Offset. -/
import Derived.Test.YtlpekknhaaddcaaDoorPkBuild
import Derived.Deep.RegionHeld3
namespace Go.Proofs.YtlpekknhaaddcaaDoor
open Go.RowKit Go.Shelf
set_option linter.unusedVariables false
namespace E

theorem grown_below {w w' : World} (h : w.grownBy w' none) : Below w.heap.size w w' := (Below.refl _ _).grown h (Nat.le_refl _) (fun j ej => by cases ej)
/-- What is held of each world of the last statement. -/
def CvS (w0 : World) (p : Option Addr) (bs : List UInt8) (W : World) : Prop := Below w0.heap.size w0 W ∧ Rd W p bs
theorem CvS.next {w0 : World} {p : Option Addr} {bs : List UInt8} {W W' : World} (h : CvS w0 p bs W) (hb : Below W.heap.size W W') : CvS w0 p bs W' := ⟨h.1.trans (hb.mono h.1.size), h.2.below hb⟩
/-- The cells of the two layouts, and what is held. -/
abbrev CvC (w0 : World) (D : Nat) (p : Option Addr) (bs : List UInt8) (a1 a2 a3 b1 b2 b3 : Nat) (a4 b4 : UInt8) (W : World) : Prop :=
  (W.cell? ⟨D, 0, none⟩ = some (.int .i64 (a1 : Int)) ∧ W.cell? ⟨D, 1, none⟩ = some (.int .i64 (a2 : Int)) ∧ W.cell? ⟨D, 2, none⟩ = some (.int .i64 (a3 : Int)) ∧ W.cell? ⟨D, 3, none⟩ = some (.int .u8 (a4.toNat : Int))) ∧
  (W.cell? ⟨D + 1, 0, none⟩ = some (.int .i64 (b1 : Int)) ∧ W.cell? ⟨D + 1, 1, none⟩ = some (.int .i64 (b2 : Int)) ∧ W.cell? ⟨D + 1, 2, none⟩ = some (.int .i64 (b3 : Int)) ∧ W.cell? ⟨D + 1, 3, none⟩ = some (.int .u8 (b4.toNat : Int))) ∧ CvS w0 p bs W
theorem keepC {W W' : World} {D j : Nat} {v : Value} (h : W.cell? ⟨D, j, none⟩ = some v) (hb : Below W.heap.size W W') : W'.cell? ⟨D, j, none⟩ = some v := (hb.cell (p := ⟨D, j, none⟩) (World.block_lt_of_cell? W _ h)).trans h
theorem CvC.next {w0 W W' : World} {D : Nat} {p : Option Addr} {bs : List UInt8} {a1 a2 a3 b1 b2 b3 : Nat} {a4 b4 : UInt8} (h : CvC w0 D p bs a1 a2 a3 b1 b2 b3 a4 b4 W) (hb : Below W.heap.size W W') : CvC w0 D p bs a1 a2 a3 b1 b2 b3 a4 b4 W' :=
  ⟨⟨keepC h.1.1 hb, keepC h.1.2.1 hb, keepC h.1.2.2.1 hb, keepC h.1.2.2.2 hb⟩, ⟨keepC h.2.1.1 hb, keepC h.2.1.2.1 hb, keepC h.2.1.2.2.1 hb, keepC h.2.1.2.2.2 hb⟩, h.2.2.next hb⟩
theorem CvC.rd {w0 W : World} {D : Nat} {p : Option Addr} {bs : List UInt8} {a1 a2 a3 b1 b2 b3 : Nat} {a4 b4 : UInt8} (h : CvC w0 D p bs a1 a2 a3 b1 b2 b3 a4 b4 W) : Rd W p bs := h.2.2.2
theorem CvC.below {w0 W : World} {D : Nat} {p : Option Addr} {bs : List UInt8} {a1 a2 a3 b1 b2 b3 : Nat} {a4 b4 : UInt8} (h : CvC w0 D p bs a1 a2 a3 b1 b2 b3 a4 b4 W) : Below w0.heap.size w0 W := h.2.2.1
/-- What digits leaves. -/
def DigPost (w : World) (p : Option Addr) (n c la st : Nat) (e : Ending) (w' : World) : Prop :=
  ∃ B0 B1 B2, e = .returned (.func (.func 96) #[] #[.pointer (some ⟨B1, 0, none⟩), .pointer (some ⟨B0, 0, none⟩), .pointer (some ⟨B2, 0, none⟩)]) ∧
    Boxed w' B0 22 (.slice p n c) ∧ Boxed w' B1 3 (.int .i64 (la : Int)) ∧ Boxed w' B2 3 (.int .i64 (st : Int)) ∧ Below w.heap.size w w'
theorem digits_ex (p : Option Addr) (n c la st : Nat) (w : World) : Calls Tryd.prog 86 #[.slice p n c, .int .i64 (la : Int), .int .i64 (st : Int)] w (DigPost w p n c la st) :=
  (digits_any p n c la st w).mono fun e w' ⟨he, q1, q2, q3, hg⟩ => ⟨_, _, _, he, q1, q2, q3, grown_below hg⟩
theorem build_digits (p : Option Addr) (c n K1 a2 a3 K2 b1 b2 b3 : Nat) (b4 : UInt8) (s : Fin 16) (bs : List UInt8) (W : World) (B0 B1 B2 : Nat) (hl2 : bs.length ≤ 16) (hn : 1 ≤ n) (hn2 : n ≤ 16)
    (ha2 : a2 ≤ 4) (ha3 : 1 ≤ a3) (ha4 : a3 ≤ 2) (hK1 : ∀ i, i < K1 ↔ a2 + a3 * i < 2 * bs.length)
    (hb : b1 < 2 * n) (hb2 : b2 ≤ 4) (hb3 : 1 ≤ b3) (hb4 : b3 ≤ 2) (hne : ∀ j, b1 ≠ b2 + b3 * j) (hK2 : ∀ i, i < K2 ↔ b2 + b3 * i < 2 * n)
    (q1 : Boxed W B0 22 (.slice p bs.length c)) (q2 : Boxed W B1 3 (.int .i64 (a2 : Int))) (q3 : Boxed W B2 3 (.int .i64 (a3 : Int))) (hr : Rd W p bs) :
    Calls Tryd.prog 99 #[.agg #[.int .i64 (b1 : Int), .int .i64 (b2 : Int), .int .i64 (b3 : Int), .int .u8 (b4.toNat : Int)], .int .u8 (s.val : Int), .func (.func 96) #[] #[.pointer (some ⟨B1, 0, none⟩), .pointer (some ⟨B0, 0, none⟩), .pointer (some ⟨B2, 0, none⟩)], .int .i64 (n : Int)] W
      (BuildPost W n K2 b1 b2 b3 b4 s (dg bs a2 a3 K1)) :=
  build_any 96 _ (enters_of Tryd.func96 (by kernel_rfl) rfl) n K2 b1 b2 b3 b4 s (dg bs a2 a3 K1) W K1 hn hn2 hb4 hb3 hb2 hb hne hK2 (fun m hm => digits_stops m hm _ _ _ p c a2 a3 K1 bs W (by omega) ha2 ha4 ha3 hK1 q2 q1 q3 hr)
/-- Are the sizes of both fields valid? -/
def szB (m : Nat) (n : Int) : Bool := decide (1 ≤ m ∧ m ≤ 16) && decide (1 ≤ n ∧ n ≤ 16)
/-- What a move leaves: a new field; nil, where a size is invalid. -/
def MvPost (w : World) (ok : Bool) (n : Int) (l : List UInt8) (e : Ending) (w' : World) : Prop :=
  (ok = true ∧ ∃ g, e = .returned (.slice (some ⟨g, 0, none⟩) n.toNat n.toNat) ∧ Blk w' w.heap.size g l ∧ Below w.heap.size w w') ∨ (ok = false ∧ New w (.slice none 0 0) e w')
theorem MvPost.from {w0 w w' : World} {ok : Bool} {n : Int} {l : List UInt8} {e : Ending} (h : MvPost w ok n l e w') (hb : Below w0.heap.size w0 w) : MvPost w0 ok n l e w' := by
  rcases h with ⟨h1, g, h2, h3, h4⟩ | ⟨h1, h2, h3⟩
  · exact .inl ⟨h1, g, h2, h3.base' hb.size, hb.trans (h4.mono hb.size)⟩
  · exact .inr ⟨h1, h2, hb.trans (h3.mono hb.size)⟩
/-- What Pack returns. -/
def packL (bs : List UInt8) (n : Nat) : List UInt8 := outL n 0 1 1 0 (nib bs 1) (dg bs 0 2 bs.length)
/-- What Unpack returns. -/
def unpackL (bs : List UInt8) (n : Nat) : List UInt8 := outL n 1 0 2 240 (nib bs 0) (dg bs 1 1 (2 * bs.length - 1))
/-- What Offset returns. -/
def offL (ds bs : List UInt8) : List UInt8 := outL ds.length 0 1 1 0 (nib ds 0) (dg bs 0 1 (2 * bs.length))
theorem packL_len (bs : List UInt8) (n : Nat) : (packL bs n).length = n := outL_len _ _ _ _ _ _ _
theorem unpackL_len (bs : List UInt8) (n : Nat) : (unpackL bs n).length = n := outL_len _ _ _ _ _ _ _
theorem offL_len (ds bs : List UInt8) : (offL ds bs).length = ds.length := outL_len _ _ _ _ _ _ _
/-- The cells of the layout, and what is held. -/
abbrev OfC (w0 : World) (D : Nat) (p q : Option Addr) (ds bs : List UInt8) (W : World) : Prop :=
  (W.cell? ⟨D, 0, none⟩ = some (.int .i64 0) ∧ W.cell? ⟨D, 1, none⟩ = some (.int .i64 1) ∧ W.cell? ⟨D, 2, none⟩ = some (.int .i64 1) ∧ W.cell? ⟨D, 3, none⟩ = some (.int .u8 0)) ∧ CvS w0 p ds W ∧ CvS w0 q bs W
theorem OfC.next {w0 W W' : World} {D : Nat} {p q : Option Addr} {ds bs : List UInt8} (h : OfC w0 D p q ds bs W) (hb : Below W.heap.size W W') : OfC w0 D p q ds bs W' :=
  ⟨⟨keepC h.1.1 hb, keepC h.1.2.1 hb, keepC h.1.2.2.1 hb, keepC h.1.2.2.2 hb⟩, h.2.1.next hb, h.2.2.next hb⟩
theorem OfC.rd1 {w0 W : World} {D : Nat} {p q : Option Addr} {ds bs : List UInt8} (h : OfC w0 D p q ds bs W) : Rd W p ds := h.2.1.2
theorem OfC.rd2 {w0 W : World} {D : Nat} {p q : Option Addr} {ds bs : List UInt8} (h : OfC w0 D p q ds bs W) : Rd W q bs := h.2.2.2
theorem OfC.below {w0 W : World} {D : Nat} {p q : Option Addr} {ds bs : List UInt8} (h : OfC w0 D p q ds bs W) : Below w0.heap.size w0 W := h.2.1.1
end E
end Go.Proofs.YtlpekknhaaddcaaDoor

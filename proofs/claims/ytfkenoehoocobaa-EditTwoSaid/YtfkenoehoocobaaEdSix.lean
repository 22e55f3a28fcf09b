/- Worlds that hold a number's block, and one or more results' blocks, and all that lay below. -/
import Derived.Test.YtfkenoehoocobaaEdCode
import Derived.Test.YtfkenoehoocobaaEdOut
namespace Go.Proofs.Ytfkenoehoocobaa
open Go.RowKit
set_option linter.unusedVariables false
namespace E

theorem cd_of {w W : World} {g : Nat} {t : TypeId} {a b c : Value} (h : Bx w g t #[a, b, c]) (hb : Below w.heap.size w W) : W.cell? ⟨g, 0, none⟩ = some a ∧ W.cell? ⟨g, 1, none⟩ = some b ∧ W.cell? ⟨g, 2, none⟩ = some c ∧ ApS w W := cd_mk (h.below hb).three.1 hb
theorem cd_nx {w W W' : World} {g : Nat} {a b c : Value} (hb : Below W.heap.size W W') (h : W.cell? ⟨g, 0, none⟩ = some a ∧ W.cell? ⟨g, 1, none⟩ = some b ∧ W.cell? ⟨g, 2, none⟩ = some c ∧ ApS w W) :
    W'.cell? ⟨g, 0, none⟩ = some a ∧ W'.cell? ⟨g, 1, none⟩ = some b ∧ W'.cell? ⟨g, 2, none⟩ = some c ∧ ApS w W' := cd_next h hb
theorem cd_al {w W : World} {g : Nat} {a b c : Value} {o : Obj} (h : W.cell? ⟨g, 0, none⟩ = some a ∧ W.cell? ⟨g, 1, none⟩ = some b ∧ W.cell? ⟨g, 2, none⟩ = some c ∧ ApS w W) :
    (W.alloc o).cell? ⟨g, 0, none⟩ = some a ∧ (W.alloc o).cell? ⟨g, 1, none⟩ = some b ∧ (W.alloc o).cell? ⟨g, 2, none⟩ = some c ∧ ApS w (W.alloc o) := cd_next h (below_new _ _)
theorem cd_dr {w W : World} {g : Nat} {a b c : Value} (h : W.cell? ⟨g, 0, none⟩ = some a ∧ W.cell? ⟨g, 1, none⟩ = some b ∧ W.cell? ⟨g, 2, none⟩ = some c ∧ ApS w W) :
    W.drew.cell? ⟨g, 0, none⟩ = some a ∧ W.drew.cell? ⟨g, 1, none⟩ = some b ∧ W.drew.cell? ⟨g, 2, none⟩ = some c ∧ ApS w W.drew := cd_next h (Below.refl _ _).drew
theorem cd_ald {w W : World} {g : Nat} {a b c : Value} {o : Obj} (h : W.drew.cell? ⟨g, 0, none⟩ = some a ∧ W.drew.cell? ⟨g, 1, none⟩ = some b ∧ W.drew.cell? ⟨g, 2, none⟩ = some c ∧ ApS w W.drew) :
    (W.alloc o).drew.cell? ⟨g, 0, none⟩ = some a ∧ (W.alloc o).drew.cell? ⟨g, 1, none⟩ = some b ∧ (W.alloc o).drew.cell? ⟨g, 2, none⟩ = some c ∧ ApS w (W.alloc o).drew := cd_next h (below_new _ _)
theorem cd_st {w W : World} {g F : Nat} {t : TypeId} {a b c x y z : Value} (hB : Bx w g t #[a, b, c]) (hF : w.heap.size ≤ F) (h : W.cell? ⟨g, 0, none⟩ = some a ∧ W.cell? ⟨g, 1, none⟩ = some b ∧ W.cell? ⟨g, 2, none⟩ = some c ∧ ApS w W) :
    (((W.setCell ⟨F, 0, none⟩ x).setCell ⟨F, 1, none⟩ y).setCell ⟨F, 2, none⟩ z).cell? ⟨g, 0, none⟩ = some a ∧ (((W.setCell ⟨F, 0, none⟩ x).setCell ⟨F, 1, none⟩ y).setCell ⟨F, 2, none⟩ z).cell? ⟨g, 1, none⟩ = some b ∧
      (((W.setCell ⟨F, 0, none⟩ x).setCell ⟨F, 1, none⟩ y).setCell ⟨F, 2, none⟩ z).cell? ⟨g, 2, none⟩ = some c ∧ ApS w (((W.setCell ⟨F, 0, none⟩ x).setCell ⟨F, 1, none⟩ y).setCell ⟨F, 2, none⟩ z) := cd_of hB (below_set3 h.2.2.2 hF _ _ _)
theorem bx_alloc {w w' : World} {t : TypeId} {cs : Array Value} (hb : Below (w.alloc (.cells cs t)).heap.size (w.alloc (.cells cs t)) w') : Bx w' w.heap.size t cs := (Bx.new w t cs).below hb

/-! ### Two blocks of three cells -/

theorem sx_mk {w W : World} {g r : Nat} {a b c x y z : Value} (h : W.cell? ⟨g, 0, none⟩ = some a ∧ W.cell? ⟨g, 1, none⟩ = some b ∧ W.cell? ⟨g, 2, none⟩ = some c) (k : W.cell? ⟨r, 0, none⟩ = some x ∧ W.cell? ⟨r, 1, none⟩ = some y ∧ W.cell? ⟨r, 2, none⟩ = some z) (hb : ApS w W) :
    W.cell? ⟨g, 0, none⟩ = some a ∧ W.cell? ⟨g, 1, none⟩ = some b ∧ W.cell? ⟨g, 2, none⟩ = some c ∧ W.cell? ⟨r, 0, none⟩ = some x ∧ W.cell? ⟨r, 1, none⟩ = some y ∧ W.cell? ⟨r, 2, none⟩ = some z ∧ ApS w W := ⟨h.1, h.2.1, h.2.2, k.1, k.2.1, k.2.2, hb⟩
theorem sx_of {w W : World} {g r : Nat} {t s : TypeId} {a b c x y z : Value} (h : Bx w g t #[a, b, c]) (k : Bx w r s #[x, y, z]) (hb : Below w.heap.size w W) :
    W.cell? ⟨g, 0, none⟩ = some a ∧ W.cell? ⟨g, 1, none⟩ = some b ∧ W.cell? ⟨g, 2, none⟩ = some c ∧ W.cell? ⟨r, 0, none⟩ = some x ∧ W.cell? ⟨r, 1, none⟩ = some y ∧ W.cell? ⟨r, 2, none⟩ = some z ∧ ApS w W := sx_mk (h.below hb).three.1 (k.below hb).three.1 hb
theorem sx_nx {w W W' : World} {g r : Nat} {a b c x y z : Value} (hb : Below W.heap.size W W') (h : W.cell? ⟨g, 0, none⟩ = some a ∧ W.cell? ⟨g, 1, none⟩ = some b ∧ W.cell? ⟨g, 2, none⟩ = some c ∧ W.cell? ⟨r, 0, none⟩ = some x ∧ W.cell? ⟨r, 1, none⟩ = some y ∧ W.cell? ⟨r, 2, none⟩ = some z ∧ ApS w W) :
    W'.cell? ⟨g, 0, none⟩ = some a ∧ W'.cell? ⟨g, 1, none⟩ = some b ∧ W'.cell? ⟨g, 2, none⟩ = some c ∧ W'.cell? ⟨r, 0, none⟩ = some x ∧ W'.cell? ⟨r, 1, none⟩ = some y ∧ W'.cell? ⟨r, 2, none⟩ = some z ∧ ApS w W' :=
  ⟨keepC h.1 hb, keepC h.2.1 hb, keepC h.2.2.1 hb, keepC h.2.2.2.1 hb, keepC h.2.2.2.2.1 hb, keepC h.2.2.2.2.2.1 hb, bel0 h.2.2.2.2.2.2 hb⟩
theorem sx_bel {w W : World} {g r : Nat} {a b c x y z : Value} (h : W.cell? ⟨g, 0, none⟩ = some a ∧ W.cell? ⟨g, 1, none⟩ = some b ∧ W.cell? ⟨g, 2, none⟩ = some c ∧ W.cell? ⟨r, 0, none⟩ = some x ∧ W.cell? ⟨r, 1, none⟩ = some y ∧ W.cell? ⟨r, 2, none⟩ = some z ∧ ApS w W) : Below w.heap.size w W := h.2.2.2.2.2.2

end E
end Go.Proofs.Ytfkenoehoocobaa

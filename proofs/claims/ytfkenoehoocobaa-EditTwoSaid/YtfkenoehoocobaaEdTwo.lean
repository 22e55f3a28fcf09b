/- Worlds with two numbers' blocks; append at a step of a drawn region. -/
import Derived.Test.YtfkenoehoocobaaEdSix
import Derived.Test.YtfkenoehoocobaaEdMore
namespace Go.Proofs.Ytfkenoehoocobaa
open Go.RowKit
set_option linter.unusedVariables false
namespace E

theorem sx_al {w W : World} {g r : Nat} {a b c x y z : Value} {o : Obj} (h : W.cell? ⟨g, 0, none⟩ = some a ∧ W.cell? ⟨g, 1, none⟩ = some b ∧ W.cell? ⟨g, 2, none⟩ = some c ∧ W.cell? ⟨r, 0, none⟩ = some x ∧ W.cell? ⟨r, 1, none⟩ = some y ∧ W.cell? ⟨r, 2, none⟩ = some z ∧ ApS w W) :
    (W.alloc o).cell? ⟨g, 0, none⟩ = some a ∧ (W.alloc o).cell? ⟨g, 1, none⟩ = some b ∧ (W.alloc o).cell? ⟨g, 2, none⟩ = some c ∧ (W.alloc o).cell? ⟨r, 0, none⟩ = some x ∧ (W.alloc o).cell? ⟨r, 1, none⟩ = some y ∧ (W.alloc o).cell? ⟨r, 2, none⟩ = some z ∧ ApS w (W.alloc o) := sx_nx (below_new _ _) h
theorem sx_st {w W : World} {g r F : Nat} {t s : TypeId} {a b c x y z u v k a' b' c' x' y' z' : Value} (hA : Bx w g t #[a, b, c]) (hB : Bx w r s #[x, y, z]) (hF : w.heap.size ≤ F) (h : W.cell? ⟨g, 0, none⟩ = some a' ∧ W.cell? ⟨g, 1, none⟩ = some b' ∧ W.cell? ⟨g, 2, none⟩ = some c' ∧ W.cell? ⟨r, 0, none⟩ = some x' ∧ W.cell? ⟨r, 1, none⟩ = some y' ∧ W.cell? ⟨r, 2, none⟩ = some z' ∧ ApS w W) :
    (((W.setCell ⟨F, 0, none⟩ u).setCell ⟨F, 1, none⟩ v).setCell ⟨F, 2, none⟩ k).cell? ⟨g, 0, none⟩ = some a ∧ (((W.setCell ⟨F, 0, none⟩ u).setCell ⟨F, 1, none⟩ v).setCell ⟨F, 2, none⟩ k).cell? ⟨g, 1, none⟩ = some b ∧
      (((W.setCell ⟨F, 0, none⟩ u).setCell ⟨F, 1, none⟩ v).setCell ⟨F, 2, none⟩ k).cell? ⟨g, 2, none⟩ = some c ∧ (((W.setCell ⟨F, 0, none⟩ u).setCell ⟨F, 1, none⟩ v).setCell ⟨F, 2, none⟩ k).cell? ⟨r, 0, none⟩ = some x ∧
      (((W.setCell ⟨F, 0, none⟩ u).setCell ⟨F, 1, none⟩ v).setCell ⟨F, 2, none⟩ k).cell? ⟨r, 1, none⟩ = some y ∧ (((W.setCell ⟨F, 0, none⟩ u).setCell ⟨F, 1, none⟩ v).setCell ⟨F, 2, none⟩ k).cell? ⟨r, 2, none⟩ = some z ∧
      ApS w (((W.setCell ⟨F, 0, none⟩ u).setCell ⟨F, 1, none⟩ v).setCell ⟨F, 2, none⟩ k) := sx_of hA hB (below_set3 (sx_bel h) hF _ _ _)

/-! ### Three results' blocks -/

theorem sy_of {w W : World} {g r s : Nat} {t : TypeId} {a b c d e f x y z : Value} (h1 : Bx W g t #[a, b, c]) (h2 : Bx W r t #[d, x, y]) (h3 : Bx W s t #[e, f, z]) (hb : ApS w W) :
    W.cell? ⟨g, 0, none⟩ = some a ∧ W.cell? ⟨g, 1, none⟩ = some b ∧ W.cell? ⟨g, 2, none⟩ = some c ∧ W.cell? ⟨r, 0, none⟩ = some d ∧ W.cell? ⟨s, 0, none⟩ = some e ∧ W.cell? ⟨s, 1, none⟩ = some f ∧ ApS w W :=
  ⟨h1.three.1.1, h1.three.1.2.1, h1.three.1.2.2, h2.three.1.1, h3.three.1.1, h3.three.1.2.1, hb⟩
theorem sy_nx {w W W' : World} {g r s : Nat} {a b c d e f : Value} (hb : Below W.heap.size W W') (h : W.cell? ⟨g, 0, none⟩ = some a ∧ W.cell? ⟨g, 1, none⟩ = some b ∧ W.cell? ⟨g, 2, none⟩ = some c ∧ W.cell? ⟨r, 0, none⟩ = some d ∧ W.cell? ⟨s, 0, none⟩ = some e ∧ W.cell? ⟨s, 1, none⟩ = some f ∧ ApS w W) :
    W'.cell? ⟨g, 0, none⟩ = some a ∧ W'.cell? ⟨g, 1, none⟩ = some b ∧ W'.cell? ⟨g, 2, none⟩ = some c ∧ W'.cell? ⟨r, 0, none⟩ = some d ∧ W'.cell? ⟨s, 0, none⟩ = some e ∧ W'.cell? ⟨s, 1, none⟩ = some f ∧ ApS w W' :=
  ⟨keepC h.1 hb, keepC h.2.1 hb, keepC h.2.2.1 hb, keepC h.2.2.2.1 hb, keepC h.2.2.2.2.1 hb, keepC h.2.2.2.2.2.1 hb, bel0 h.2.2.2.2.2.2 hb⟩
theorem sy_bel {w W : World} {g r s : Nat} {a b c d e f : Value} (h : W.cell? ⟨g, 0, none⟩ = some a ∧ W.cell? ⟨g, 1, none⟩ = some b ∧ W.cell? ⟨g, 2, none⟩ = some c ∧ W.cell? ⟨r, 0, none⟩ = some d ∧ W.cell? ⟨s, 0, none⟩ = some e ∧ W.cell? ⟨s, 1, none⟩ = some f ∧ ApS w W) : Below w.heap.size w W := h.2.2.2.2.2.2

/-! ### append -/

theorem op_append_none {P : Program} {w : World} {o : Oper} {a : Act} {K : Act → World → Prop} {Q : Exit → Act → World → Prop} (s x : Operand) (t : TypeId)
    (ho : o.op = .call { callee := .builtin .append, args := #[s, x], argTypes := #[t, t] })
    (base : Nat) (e : TypeId) (i : TypeInfo) (size : Nat) (ht : P.underlying t = some (.slice e)) (hi : P.info? e = some i)
    (v : Value) (n : Nat) (xs : List Value) (hs : a.eval s = v) (hown : w.ownsRow base e size v n xs) (hx : a.eval x = .slice none 0 0)
    (h : K (a.put o.dst v) w) : o.wp P a w K Q := by
  have hrun := run_append_owned_none (P := P) (w := w) base t o.type e i size ht hi v n xs hown
  unfold Oper.wp
  simp [execOp, ho, resolve, invoke, builtin, hs, hx, hrun, Result.andThen]
  exact h
theorem op_append_sv {o : Oper} {a : Act} {K : Act → World → Prop} {Q : Exit → Act → World → Prop} {w : World} (s x : Operand)
    (ho : o.op = .call { callee := .builtin .append, args := #[s, x], argTypes := #[22, 22] })
    (base : Nat) (v u : Value) (n : Nat) (xs : List Value) (l : List UInt8) (hs : a.eval s = v) (hx : a.eval x = u) (hown : w.ownsRow base 5 1 v n xs) (hu : SvB w u l) (hl : n + l.length ≤ 9000) (hbase : base ≤ w.heap.size)
    (h : ∀ v' w', w'.ownsRow base 5 1 v' (n + l.length) (xs ++ bsU l) → w.grownBy w' v.ownBlock → K (a.put o.dst v') w') : o.wp Try.prog a w K Q := by
  obtain ⟨i0, hi0, hz0, hz1, hz2⟩ := info_parts info5
  obtain ⟨p, c, rfl, hr, hc, _, hn⟩ := hu
  cases p with
  | none =>
    have hc0 := hn rfl
    have hl0 : l = [] := List.length_eq_zero_iff.1 (by omega)
    subst hc0 hl0
    refine op_append_none s x 22 ho base 5 i0 1 Try.underlying22 hi0 v n xs hs hown hx (h v w ?_ (grown_refl _ _))
    simpa [bsU] using hown
  | some ad =>
    exact wp_append_own w s x 22 ho base 5 i0 (.int .u8 0) 1 1 Try.underlying22 hi0 hz0 hz1 hz2 rfl (by decide) v n xs hs hown ad l.length c (bsU l) hx (by rw [bsU_len, Nat.mul_one]) (rd_cellsA hr) (bsU_one _) (by unfold maxLen; omega) (by omega) hbase (fun v' w' h1 h2 _ => h v' w' h1 h2)
theorem hold_app {w : World} {b : Nat} {v : Value} {la lb : List UInt8} (h : w.ownsRow b 5 1 v (la.length + lb.length) (bsU la ++ bsU lb)) : Hold w b v (la ++ lb) := by
  unfold Hold
  rw [List.length_append, bsU_app]
  exact h
theorem hold_own {w : World} {b : Nat} {v : Value} {l : List UInt8} (h : Hold w b v l) : w.ownsRow b 5 1 v l.length (bsU l) := h
theorem own_hold {w : World} {b n : Nat} {v : Value} {l : List UInt8} (h : w.ownsRow b 5 1 v n (bsU l)) (e : n = l.length) : Hold w b v l := by
  subst e
  exact h
theorem ne_before {w W : World} {o : Obj} {sv : Value} {l : List UInt8} (h : Hold w (W.alloc o).heap.size sv l) : some W.heap.size ≠ sv.ownBlock := fun e => by
  have h1 := (World.ownsRow.lt h _ e.symm).1
  rw [World.size_alloc] at h1
  omega
theorem ne_after {w : World} {b : Nat} {sv : Value} {l : List UInt8} (h : Hold w b sv l) : some w.heap.size ≠ sv.ownBlock := fun e => by
  have h1 := (World.ownsRow.lt h _ e.symm).2
  omega
/-- Where the block of a row lies. -/
theorem Hold.ne {w : World} {b g : Nat} {sv : Value} {l : List UInt8} (h : Hold w b sv l) (hg : w.heap.size ≤ g) : some g ≠ sv.ownBlock := fun e => by
  have h1 := (World.ownsRow.lt h _ e.symm).2
  omega
theorem ne_slice {p : Option Addr} {n c g : Nat} (h : ∀ a, p = some a → a.block ≠ g) : some g ≠ (Value.slice p n c).ownBlock := by
  cases p with
  | none => intro e; cases e
  | some a => intro e; exact h a rfl (Option.some.inj e).symm
/-- What an append leaves. -/
def AfL (w : World) (l : List UInt8) (sv : Value) (W : World) : Prop := Hold W w.heap.size sv l ∧ Below w.heap.size w W
theorem pkN_len (neg : Bool) (d : List Nat) (h : d.length % 2 = 1) (h9 : d.length ≤ 99) : (pkN neg d).length ≤ 50 := by
  have := pairs_len ((d.length + 1) / 2) (d ++ [sgH neg]) (by rw [List.length_append]; simp; omega)
  unfold pkN
  omega

end E
end Go.Proofs.Ytfkenoehoocobaa

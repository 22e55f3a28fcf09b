/- append, in a row and in a drawn region. -/
import Derived.Test.YtijkbenbjdeocaaDoorCcWorks
import Derived.Laws.AppendOwnNone
namespace Go.Proofs.YtijkbenbjdeocaaDoor
open Go.RowKit
set_option linter.unusedVariables false
namespace E

theorem bsU_app (l m : List UInt8) : bsU (l ++ m) = bsU l ++ bsU m := by simp [bsU]
theorem grown_refl (w : World) (r : Option Nat) : w.grownBy w r := ⟨rfl, rfl, rfl, Nat.le_refl _, fun _ _ _ => rfl⟩
theorem rd_cellsA {w : World} {a : Addr} {l : List UInt8} (h : Rd w (some a) l) : ∀ j u, (bsU l)[j]? = some u → w.cell? (a.add j) = some u := fun j u hu => by
  obtain ⟨hj, rfl⟩ := bsU_at hu
  rcases h with h | ⟨B, off, hp, hc⟩
  · rw [h] at hj; simp at hj
  · obtain rfl := Option.some.inj hp
    have hadd : (⟨B, off, none⟩ : Addr).add j = ⟨B, off + j, none⟩ := by
      unfold Addr.add
      split <;> simp_all
    rw [hadd]
    exact hc j hj
/-- append(s, x...), s of the call's own, x any slice of bytes. -/
theorem wpList_append_sv {ops : Array Oper} {rest : List Oper} {o : Oper} {a : Act} {Q : Exit → Act → World → Prop} {w : World} (hgd : o.guard = none) (s x : Operand)
    (ho : o.op = .call { callee := .builtin .append, args := #[s, x], argTypes := #[27, 27] })
    (base : Nat) (v : Value) (n : Nat) (xs : List Value) (hs : a.eval s = v) (hown : w.ownsRow base 5 1 v n xs)
    (p : Option Addr) (m c : Nat) (l : List UInt8) (hx : a.eval x = .slice p m c) (hm : m = l.length) (hr : Rd w p l) (hc : m ≤ c) (hn : p = none → c = 0) (hl : n + m ≤ 9000) (hbase : base ≤ w.heap.size)
    (h : ∀ v' w', w'.ownsRow base 5 1 v' (n + m) (xs ++ bsU l) → w.grownBy w' v.ownBlock → wpList Tryd.prog ops Q rest (a.put o.dst v') w') : wpList Tryd.prog ops Q (o :: rest) a w := by
  obtain ⟨i0, hi0, hz0, hz1, hz2⟩ := info_parts info5
  cases p with
  | none =>
    have hc0 := hn rfl
    have hm0 : m = 0 := by omega
    have hl0 : l = [] := List.length_eq_zero_iff.1 (by omega)
    subst hc0 hm0 hl0
    refine wpList_append_own_none hgd s x 27 ho base 5 i0 1 Tryd.underlying27 hi0 v n xs hs hown hx (h v w ?_ (grown_refl _ _))
    simpa [bsU] using hown
  | some ad =>
    exact wpList_append_own w hgd s x 27 ho base 5 i0 (.int .u8 0) 1 1 Tryd.underlying27 hi0 hz0 hz1 hz2 rfl (by decide) v n xs hs hown ad m c (bsU l) hx (by rw [bsU_len, hm, Nat.mul_one]) (rd_cellsA hr) (bsU_one _) (by unfold maxLen; omega) (by omega) hbase (fun v' w' h1 h2 _ => h v' w' h1 h2)
theorem op_append_none {P : Program} {w : World} {o : Oper} {a : Act} {K : Act → World → Prop} {Q : Exit → Act → World → Prop} (s x : Operand) (t : TypeId)
    (ho : o.op = .call { callee := .builtin .append, args := #[s, x], argTypes := #[t, t] })
    (base : Nat) (e : TypeId) (i : TypeInfo) (size : Nat) (ht : P.underlying t = some (.slice e)) (hi : P.info? e = some i)
    (v : Value) (n : Nat) (xs : List Value) (hs : a.eval s = v) (hown : w.ownsRow base e size v n xs) (hx : a.eval x = .slice none 0 0)
    (h : K (a.put o.dst v) w) : o.wp P a w K Q := by
  have hrun := run_append_owned_none (P := P) (w := w) base t o.type e i size ht hi v n xs hown
  unfold Oper.wp
  simp [execOp, ho, resolve, invoke, builtin, hs, hx, hrun, Result.andThen]
  exact h
theorem op_append_sv {o : Oper} {a : Act} {K : Act → World → Prop} {Q : Exit → Act → World → Prop} {w : World} (s x : Operand)
    (ho : o.op = .call { callee := .builtin .append, args := #[s, x], argTypes := #[27, 27] })
    (base : Nat) (v u : Value) (n : Nat) (xs : List Value) (l : List UInt8) (hs : a.eval s = v) (hx : a.eval x = u) (hown : w.ownsRow base 5 1 v n xs) (hu : SvB w u l) (hl : n + l.length ≤ 9000) (hbase : base ≤ w.heap.size)
    (h : ∀ v' w', w'.ownsRow base 5 1 v' (n + l.length) (xs ++ bsU l) → w.grownBy w' v.ownBlock → K (a.put o.dst v') w') : o.wp Tryd.prog a w K Q := by
  obtain ⟨i0, hi0, hz0, hz1, hz2⟩ := info_parts info5
  obtain ⟨p, c, rfl, hr, hc, _, hn⟩ := hu
  cases p with
  | none =>
    have hc0 := hn rfl
    have hl0 : l = [] := List.length_eq_zero_iff.1 (by omega)
    subst hc0 hl0
    refine op_append_none s x 27 ho base 5 i0 1 Tryd.underlying27 hi0 v n xs hs hown hx (h v w ?_ (grown_refl _ _))
    simpa [bsU] using hown
  | some ad =>
    exact wp_append_own w s x 27 ho base 5 i0 (.int .u8 0) 1 1 Tryd.underlying27 hi0 hz0 hz1 hz2 rfl (by decide) v n xs hs hown ad l.length c (bsU l) hx (by rw [bsU_len, Nat.mul_one]) (rd_cellsA hr) (bsU_one _) (by unfold maxLen; omega) (by omega) hbase (fun v' w' h1 h2 _ => h v' w' h1 h2)
theorem hold_app {w : World} {b : Nat} {v : Value} {la lb : List UInt8} (h : w.ownsRow b 5 1 v (la.length + lb.length) (bsU la ++ bsU lb)) : Hold w b v (la ++ lb) := by
  unfold Hold
  rw [List.length_append, bsU_app]
  exact h
theorem hold_own {w : World} {b : Nat} {v : Value} {l : List UInt8} (h : Hold w b v l) : w.ownsRow b 5 1 v l.length (bsU l) := h
theorem own_hold {w : World} {b n : Nat} {v : Value} {l : List UInt8} (h : w.ownsRow b 5 1 v n (bsU l)) (e : n = l.length) : Hold w b v l := by
  subst e
  exact h
/-- A literal row is the call's own. -/
theorem hold_lit (w : World) (b : Nat) (l : List UInt8) (hl : l.length ≤ 1000) (hb : b ≤ w.heap.size) : Hold (w.alloc (.cells (bsU l).toArray 5)) b (.slice (some ⟨w.heap.size, 0, none⟩) l.length l.length) l :=
  ⟨by rw [bsU_len, Nat.mul_one], .inr ⟨w.heap.size, l.length, (bsU l).toArray, rfl, hb, heap_alloc_new w _, Nat.le_refl _, by unfold maxLen; omega, by simp [bsU_len], by rw [List.take_of_length_le (by simp [bsU_len])]⟩⟩
end E
end Go.Proofs.YtijkbenbjdeocaaDoor

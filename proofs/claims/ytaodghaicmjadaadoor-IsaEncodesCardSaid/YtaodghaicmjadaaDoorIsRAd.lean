/- The given answers: address; appending. -/
import Derived.Test.YtaodghaicmjadaaDoorIsRCk
import Derived.Laws.AppendOwn
import Derived.Laws.AppendOwnNone
namespace Go.Proofs.YtaodghaicmjadaaDoor
open Go.RowKit Go.Shelf
set_option linter.unusedVariables false
namespace E

/-- 'append(buf, xs...)': buf the call's own, xs any slice of bytes that reads as a list. -/
theorem append_rd {w : World} {ops : Array Oper} {rest : List Oper} {o : Oper} {a : Act} {Q : Exit → Act → World → Prop} (hgd : o.guard = none) (s x : Operand)
    (ho : o.op = .call { callee := .builtin .append, args := #[s, x], argTypes := #[29, 29] })
    (base : Nat) (v : Value) (n : Nat) (xs : List Value) (hs : a.eval s = v) (hown : w.ownsRow base 5 1 v n xs)
    (p : Option Addr) (c m : Nat) (l : List UInt8) (hm : l.length = m) (hx : a.eval x = .slice p m c) (hc : p = none → c = 0) (hr : Rd w p l) (hn : n + m ≤ 140737488355328) (hbase : base ≤ w.heap.size)
    (h : ∀ v' w', w'.ownsRow base 5 1 v' (n + m) (xs ++ bsU l) → w.grownBy w' v.ownBlock → wpList Tryd.prog ops Q rest (a.put o.dst v') w') : wpList Tryd.prog ops Q (o :: rest) a w := by
  obtain ⟨i0, hi, hz0, hz1, hz2⟩ := info_parts info5
  subst hm
  cases p with
  | none =>
    have hl : l = [] := by
      rcases hr with h | ⟨_, _, h, _⟩
      · exact h
      · cases h
    subst hl
    rw [hc rfl] at hx
    refine wpList_append_own_none hgd s x 29 ho base 5 i0 1 Tryd.underlying29 hi v n xs hs hown hx ?_
    refine h v w (by simpa [bsU] using hown) ⟨rfl, rfl, rfl, Nat.le_refl _, fun _ _ _ => rfl⟩
  | some ad =>
    refine wpList_append_own _ hgd s x 29 ho base 5 i0 (.int .u8 0) 1 1 Tryd.underlying29 hi hz0 hz1 hz2 rfl (by decide) v n xs hs hown ad l.length c (bsU l) hx (by rw [bsU_len]; omega) ?_ (bsU_one l) (by unfold maxLen; omega) (by omega) hbase fun v' w' h1 h2 _ => h v' w' h1 h2
    rcases hr with h0 | ⟨B, off, he, hcell⟩
    · subst h0
      intro j u hu
      simp [bsU] at hu
    · cases he
      intro j u hu
      obtain ⟨hj, rfl⟩ := bsU_at hu
      rw [show ((⟨B, off, none⟩ : Addr).add j) = ⟨B, off + j, none⟩ from by simp [Addr.add]]
      exact hcell j hj
theorem own_ge {W : World} {base n size : Nat} {t : TypeId} {v : Value} {xs : List Value} (h : W.ownsRow base t size v n xs) : ∀ r, v.ownBlock = some r → base ≤ r := by
  intro r hr
  obtain ⟨_, ⟨h2, _⟩ | ⟨g, cap, cur, hv, hg, _⟩⟩ := h
  · rw [h2] at hr
    cases hr
  · rw [hv] at hr
    cases hr
    exact hg
theorem own_first (w : World) (x : UInt8) : (w.alloc (.cells #[.int .u8 (x.toNat : Int)] 5)).ownsRow w.heap.size 5 1 (.slice (some ⟨w.heap.size, 0, none⟩) 1 1) 1 (bsU [x]) :=
  ⟨rfl, .inr ⟨_, 1, _, rfl, Nat.le_refl _, heap_alloc_new w _, Nat.le_refl _, by unfold maxLen; omega, rfl, rfl⟩⟩
theorem rd_first (w : World) (x : UInt8) : Rd (w.alloc (.cells #[.int .u8 (x.toNat : Int)] 5)) (some ⟨w.heap.size, 0, none⟩) [x] := rd_new w [x] 5
set_option maxRecDepth 100000 in
theorem address_ref (b d : Nat) (hb : b < 16) (hd : d < 4096) (w : World) : Calls Tryd.prog 36 #[.int .i64 (b : Int), .int .i64 (d : Int)] w fun e w' =>
    e = .returned (.slice (some ⟨w.heap.size, 0, none⟩) 2 2) ∧ Rd w' (some ⟨w.heap.size, 0, none⟩) [u8 (16 * b + d / 256), u8 (d % 256)] ∧ Below w.heap.size w w' := by
  have h1 := rd_new w [u8 (16 * b + d / 256), u8 (d % 256)] 5
  have h2 := below_new w (.cells (bsU [u8 (16 * b + d / 256), u8 (d % 256)]).toArray 5)
  have e1 : ((u8 (16 * b + d / 256)).toNat : Int) = 16 * (b : Int) + (d : Int) / 256 := by rw [u8_nat (by omega)]; omega
  have e2 : ((u8 (d % 256)).toNat : Int) = (d : Int) % 256 := by rw [u8_nat (by omega)]; omega
  simp only [bsU, List.map_cons, List.map_nil, e1, e2] at h1 h2
  have H1 := Lib.hid h1
  have H2 := Lib.hid h2
  have hbI : (b : Int) < 16 := by omega
  have hdI : (d : Int) < 4096 := by omega
  clear h1 h2 e1 e2 hb hd
  go_enter Tryd.func36, Tryd.ntmps36
  go_wp2
  go_ret
  exact ⟨rfl, H1.out, H2.out⟩
end E
end Go.Proofs.YtaodghaicmjadaaDoor

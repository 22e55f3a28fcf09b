/- Laws for PackedOwn: an append of bytes that are read, nil or not; what the calls of the package hand out. -/
import Derived.Test.YtgnaiolbleadbaaDoorPkSpoil
import Derived.Laws.AppendOwnNone
import Derived.Deep.CutRange
namespace Go.Proofs.YtgnaiolbleadbaaDoor
open Go.RowKit Go.Shelf
set_option linter.unusedVariables false
namespace E

/-- 'append(buf, xs...)': buf the call's own, xs any slice of bytes that reads as a list. -/
theorem wpList_append_rd {w : World} {ops : Array Oper} {rest : List Oper} {o : Oper} {a : Act} {Q : Exit → Act → World → Prop} (hgd : o.guard = none) (s x : Operand)
    (ho : o.op = .call { callee := .builtin .append, args := #[s, x], argTypes := #[22, 22] })
    (base : Nat) (v : Value) (n : Nat) (xs : List Value) (hs : a.eval s = v) (hown : w.ownsRow base 5 1 v n xs)
    (p : Option Addr) (c m : Nat) (l : List UInt8) (hm : l.length = m) (hx : a.eval x = .slice p m c) (hc : p = none → c = 0) (hr : Rd w p l) (hn : n + m ≤ 1000) (hbase : base ≤ w.heap.size)
    (h : ∀ v' w', w'.ownsRow base 5 1 v' (n + m) (xs ++ bsU l) → w.grownBy w' v.ownBlock → wpList Tryd.prog ops Q rest (a.put o.dst v') w') : wpList Tryd.prog ops Q (o :: rest) a w := by
  obtain ⟨i0, hi, hz0, hz1, hz2⟩ := info_parts info5
  subst hm
  cases p with
  | none =>
    have hl : l = [] := by
      rcases hr with h | ⟨_, _, h, _⟩
      · exact h
      · cases h
    subst hl
    rw [hc rfl] at hx
    refine wpList_append_own_none hgd s x 22 ho base 5 i0 1 Tryd.underlying22 hi v n xs hs hown hx ?_
    refine h v w (by simpa [bsU] using hown) ⟨rfl, rfl, rfl, Nat.le_refl _, fun _ _ _ => rfl⟩
  | some ad =>
    refine wpList_append_own _ hgd s x 22 ho base 5 i0 (.int .u8 0) 1 1 Tryd.underlying22 hi hz0 hz1 hz2 rfl (by decide) v n xs hs hown ad l.length c (bsU l) hx (by rw [bsU_len]; omega) ?_ (bsU_one l) (by unfold maxLen; omega) (by omega) hbase fun v' w' h1 h2 _ => h v' w' h1 h2
    rcases hr with h0 | ⟨B, off, he, hcell⟩
    · subst h0
      intro j u hu
      simp [bsU] at hu
    · cases he
      exact rd_news hcell
/-- What a call hands out: nothing, or a new block from base on that may be written. -/
def OutS (W : World) (base : Nat) (p : Option Addr) (n : Nat) : Prop := n ≤ 16 ∧ (n = 0 ∨ ∃ g l, p = some ⟨g, 0, none⟩ ∧ l.length = n ∧ Blk W base g l)
theorem OutS.below {W W' : World} {base n : Nat} {p : Option Addr} (h : OutS W base p n) (hb : Below W.heap.size W W') : OutS W' base p n :=
  ⟨h.1, h.2.imp id fun ⟨g, l, h1, h2, h3⟩ => ⟨g, l, h1, h2, h3.below hb⟩⟩
theorem OutS.base {W : World} {b1 b2 n : Nat} {p : Option Addr} (h : OutS W b1 p n) (hb : b2 ≤ b1) : OutS W b2 p n :=
  ⟨h.1, h.2.imp id fun ⟨g, l, h1, h2, h3⟩ => ⟨g, l, h1, h2, h3.base' hb⟩⟩
theorem Blk.put {W : World} {base g : Nat} {l : List UInt8} (h : Blk W base g l) (b j : Nat) (x : UInt8) : ∃ l', l'.length = l.length ∧ Blk (W.setCell ⟨b, j, none⟩ (.int .u8 (x.toNat : Int))) base g l' := by
  by_cases hg : g = b
  · subst hg
    exact ⟨_, List.length_set .., (h.stored j x).1⟩
  · exact ⟨l, rfl, h.1, h.2.imp fun cur hc => ⟨(heap_setCell_other W ⟨b, j, none⟩ g _ (fun e => hg (by simp [e]))).trans hc.1, hc.2⟩⟩
theorem OutS.put {W : World} {base n : Nat} {p : Option Addr} (h : OutS W base p n) (b j : Nat) (x : UInt8) : OutS (W.setCell ⟨b, j, none⟩ (.int .u8 (x.toNat : Int))) base p n :=
  ⟨h.1, h.2.imp id fun ⟨g, l, h1, h2, h3⟩ => by
    obtain ⟨l', e, hb⟩ := h3.put b j x
    exact ⟨g, l', h1, e.trans h2, hb⟩⟩
theorem Blk.past {W : World} {base g : Nat} {l : List UInt8} (h : Blk W base g l) (b j : Nat) (v : Value) (hne : g ≠ b) : Blk (W.setCell ⟨b, j, none⟩ v) base g l :=
  ⟨h.1, h.2.imp fun cur hc => ⟨(heap_setCell_other W ⟨b, j, none⟩ g _ (fun e => hne (by simp [e]))).trans hc.1, hc.2⟩⟩
def OutPost (w : World) (e : Ending) (w' : World) : Prop := ∃ p n, e = .returned (.slice p n n) ∧ OutS w' w.heap.size p n ∧ Below w.heap.size w w'
theorem MvPost.out {f : Nat} {args : Array Value} {w : World} {n : Int} {l : List UInt8} {ok : Bool} (h : Calls Tryd.prog f args w (MvPost w ok n l)) (hl : l.length = n.toNat) (hn : ok = true → n.toNat ≤ 16) : Calls Tryd.prog f args w (OutPost w) :=
  h.mono fun e w' h => by
    rcases h with ⟨ho, g, h1, h2, h3⟩ | ⟨ho, h1, h2⟩
    · exact ⟨_, _, h1, ⟨hn ho, .inr ⟨g, l, rfl, hl, h2⟩⟩, h3⟩
    · exact ⟨_, _, h1, ⟨by omega, .inl rfl⟩, h2⟩
/-- What the four calls of a turn have handed out. -/
def O4 (W : World) (base : Nat) (p1 p2 p3 p4 : Option Addr) (n1 n2 n3 n4 : Nat) : Prop := OutS W base p1 n1 ∧ OutS W base p2 n2 ∧ OutS W base p3 n3 ∧ OutS W base p4 n4
theorem O4.put {W : World} {base n1 n2 n3 n4 : Nat} {p1 p2 p3 p4 : Option Addr} (h : O4 W base p1 p2 p3 p4 n1 n2 n3 n4) (b j : Nat) (x : UInt8) : O4 (W.setCell ⟨b, j, none⟩ (.int .u8 (x.toNat : Int))) base p1 p2 p3 p4 n1 n2 n3 n4 :=
  ⟨h.1.put b j x, h.2.1.put b j x, h.2.2.1.put b j x, h.2.2.2.put b j x⟩
theorem xor_u8 (x : UInt8) : bits .xor .u8 (x.toNat : Int) 255 = ((x ^^^ 255).toNat : Int) := all256 (p := fun x => bits .xor .u8 (x.toNat : Int) 255 = ((x ^^^ 255).toNat : Int)) (by decide +kernel) x
theorem szB_two {m : Nat} {n : Int} (h : szB m n = true) : m ≤ 16 ∧ n.toNat ≤ 16 := by
  unfold szB at h
  simp only [Bool.and_eq_true, decide_eq_true_eq] at h
  omega
theorem own_blk {w : World} {base : Nat} {v : Value} {l : List UInt8} (hl : 1 ≤ l.length) (h : w.ownsRow base 5 1 v l.length (bsU l)) : ∃ g c, v = .slice (some ⟨g, 0, none⟩) l.length c ∧ l.length ≤ c ∧ c ≤ 9223372036854775807 ∧ Blk w base g l := by
  obtain ⟨g, c, rfl, hb⟩ := hold_blk hl h
  obtain ⟨p, c2, e, _, h1, h2, _⟩ := Hold.full h
  cases e
  exact ⟨g, c, rfl, h1, h2, hb⟩
theorem ApS.mem {w W : World} {o : Obj} (h : ApS w W) : ApS w (W.alloc o) := Below.alloc h (Below.size h) o
theorem rd18 (W : World) : Rd (W.alloc (.cells #[.int .u8 18] 5)) (some ⟨W.heap.size, 0, none⟩) [18] := rd_new W [18] 5

end E
end Go.Proofs.YtgnaiolbleadbaaDoor

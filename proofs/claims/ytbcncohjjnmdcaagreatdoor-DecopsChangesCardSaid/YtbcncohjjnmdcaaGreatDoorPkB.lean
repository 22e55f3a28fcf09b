/- Rows of bytes in memory: how they are read, kept and written; the contracts of same and of the small helpers. -/
import Derived.Test.YtbcncohjjnmdcaaGreatDoorRows
import Derived.Deep.RegionLaw
import Derived.Laws.MathBits
import Derived.Lib.MakeNoZero
import Derived.Maps.AppendAt
import Derived.Test.YtbcncohjjnmdcaaGreatDoorStGrant
namespace Go.Proofs.YtbcncohjjnmdcaaGreatDoor
open Go.RowKit
set_option linter.unusedVariables false
namespace E

/-! ### Digits -/

theorem where_any (p : Option Addr) (n c pl : Nat) (w : World) (hn : n ≤ 1000) (hp : pl < 2 * n) :
    Calls Tryz.prog 190 #[.slice p n c, .int .i64 (pl : Int)] w fun e w' => e = .returned (.tuple #[.int .i64 ((n - 1 - pl / 2 : Nat) : Int), .int .i64 ((pl % 2 * 4 : Nat) : Int)]) ∧ w = w' := by
  have h1 : ((n - 1 - pl / 2 : Nat) : Int) = (n : Int) - 1 - (pl : Int) / 2 := by omega
  have h2 : ((pl % 2 * 4 : Nat) : Int) = (pl : Int) % 2 * 4 := by omega
  rw [h1, h2]
  go_enter Tryz.func190, Tryz.ntmps190
  go_wp2
  go_ret2
  exact ⟨rfl, rfl⟩
theorem digitAt_any (p : Option Addr) (c pl : Nat) (l : List UInt8) (w : World) (hn : l.length ≤ 1000) (hp : pl < 2 * l.length) (hr : Rd w p l) :
    Calls Tryz.prog 158 #[.slice p l.length c, .int .i64 (pl : Int)] w fun e w' => e = .returned (.int .u8 ((nib l pl).val : Int)) ∧ w = w' := by
  rcases hr with h0 | ⟨B, off, rfl, hc⟩
  · subst h0; simp at hp
  have hcell := hc (l.length - 1 - pl / 2) (by omega)
  clear hc
  have hw := Lib.hid (where_any (some ⟨B, off, none⟩) l.length c pl w hn hp)
  obtain ⟨x, hx⟩ : ∃ x, x = gt l (l.length - 1 - pl / 2) := ⟨_, rfl⟩
  have hv : ((nib l pl).val : Int) = if pl % 2 = 0 then ((lo x).val : Int) else ((hi x).val : Int) := by
    unfold nib; rw [← hx]; split <;> rfl
  rw [← hx] at hcell
  rw [hv]
  have hi1 : l.length - 1 - pl / 2 < l.length := by omega
  clear hx hv
  generalize l.length - 1 - pl / 2 = at0 at *
  by_cases h2 : pl % 2 = 0
  · rw [h2] at hw
    rw [if_pos h2]
    have H := Lib.hid (and15 x)
    go_enter Tryz.func158, Tryz.ntmps158
    go_wp2_with fail
    refine (hw.out).mono ?_
    rintro e w' ⟨rfl, rfl⟩
    go_wp2
    go_ret
    exact ⟨by simp [H.out], rfl⟩
  · rw [show pl % 2 = 1 by omega] at hw
    rw [if_neg h2]
    have H := Lib.hid (shr4 x)
    go_enter Tryz.func158, Tryz.ntmps158
    go_wp2_with fail
    refine (hw.out).mono ?_
    rintro e w' ⟨rfl, rfl⟩
    go_wp2
    go_ret
    exact ⟨by simp [H.out], rfl⟩

end E
end Go.Proofs.YtbcncohjjnmdcaaGreatDoor
namespace Go.Proofs.YtbcncohjjnmdcaaGreatDoor
open Go.RowKit
set_option linter.unusedVariables false
namespace E

theorem all4096 {p : UInt8 → Fin 16 → Prop} (h : ∀ n : Nat, n < 256 → ∀ d : Fin 16, p (UInt8.ofNat n) d) (x : UInt8) (d : Fin 16) : p x d := all256 (p := fun x => ∀ d, p x d) h x d
theorem put_lo (x : UInt8) (d : Fin 16) : bits .or .u8 (bits .andNot .u8 (x.toNat : Int) 15) (d.val : Int) = ((mk (hi x) d).toNat : Int) :=
  all4096 (p := fun x d => bits .or .u8 (bits .andNot .u8 (x.toNat : Int) 15) (d.val : Int) = ((mk (hi x) d).toNat : Int)) (by decide +kernel) x d
theorem put_hi (x : UInt8) (d : Fin 16) : bits .or .u8 (bits .andNot .u8 (x.toNat : Int) 240) ((d.val : Int) * 16) = ((mk d (lo x)).toNat : Int) :=
  all4096 (p := fun x d => bits .or .u8 (bits .andNot .u8 (x.toNat : Int) 240) ((d.val : Int) * 16) = ((mk d (lo x)).toNat : Int)) (by decide +kernel) x d
/-- What a store of a digit leaves. -/
def SetPost4 (w : World) (g pl : Nat) (l : List UInt8) (d : Fin 16) (e : Ending) (w' : World) : Prop :=
  (∃ v, e = .returned v) ∧ ∃ m, w' = (w.setCell ⟨g, l.length - 1 - pl / 2, none⟩ (.int .u8 ((gt (setD l pl d) (l.length - 1 - pl / 2)).toNat : Int))).drewN m
set_option maxRecDepth 100000 in
theorem setDigit_any (g c pl base : Nat) (l : List UInt8) (d : Fin 16) (w : World) (hn : l.length ≤ 1000) (hp : pl < 2 * l.length) (hr : Blk w base g l) :
    Calls Tryz.prog 188 #[.slice (some ⟨g, 0, none⟩) l.length c, .int .i64 (pl : Int), .int .u8 (d.val : Int)] w (SetPost4 w g pl l d) := by
  have hcell := hr.cell (l.length - 1 - pl / 2) (by omega)
  have hfz := hr.frozen (l.length - 1 - pl / 2)
  clear hr
  have hw := Lib.hid (where_any (some ⟨g, 0, none⟩) l.length c pl w hn hp)
  obtain ⟨x, hx⟩ : ∃ x, x = gt l (l.length - 1 - pl / 2) := ⟨_, rfl⟩
  have hv : gt (setD l pl d) (l.length - 1 - pl / 2) = if pl % 2 = 0 then mk (hi x) d else mk d (lo x) := by
    unfold setD
    rw [gt_set _ _ _ _ (by omega), if_pos rfl, ← hx]
  unfold SetPost4
  rw [← hx] at hcell
  rw [hv]
  have hi1 : l.length - 1 - pl / 2 < l.length := by omega
  clear hx hv
  generalize l.length - 1 - pl / 2 = at0 at *
  by_cases h2 : pl % 2 = 0
  · rw [h2] at hw
    rw [if_pos h2]
    have H := Lib.hid (put_lo x d)
    go_enter Tryz.func188, Tryz.ntmps188
    go_wp2_with fail
    refine (hw.out).mono ?_
    rintro e w' ⟨rfl, rfl⟩
    go_wp2
    go_region
    go_wp2
    go_end0
    exact ⟨⟨_, rfl⟩, 1, by rw [H.out]; rfl⟩
  · rw [show pl % 2 = 1 by omega] at hw
    rw [if_neg h2]
    have H := Lib.hid (put_hi x d)
    go_enter Tryz.func188, Tryz.ntmps188
    go_wp2_with fail
    refine (hw.out).mono ?_
    rintro e w' ⟨rfl, rfl⟩
    go_wp2
    go_region
    go_wp2
    go_end0
    exact ⟨⟨_, rfl⟩, 1, by rw [H.out]; rfl⟩

theorem grown_drewN4 (w : World) (n : Nat) (row : Option Nat) : w.grownBy (w.drewN n) row := ⟨rfl, rfl, rfl, Nat.le_refl _, fun _ _ _ => rfl⟩
theorem Blk.cells {w : World} {base g : Nat} {l : List UInt8} (h : Blk w base g l) : ∀ o, w.heap[g]? = some o → o.isCells = true := by
  obtain ⟨_, cur, hg, _⟩ := h
  intro o ho
  rw [hg] at ho; cases ho; rfl
/-- What a store of a digit leaves in a block of the call's own. -/
theorem SetPost4.hold {w w' : World} {g pl base : Nat} {l : List UInt8} {d : Fin 16} {e : Ending} (h : SetPost4 w g pl l d e w') (hp : pl < 2 * l.length) (hr : Blk w base g l) :
    Blk w' base g (setD l pl d) ∧ w.grownBy w' (some g) := by
  obtain ⟨_, m, rfl⟩ := h
  obtain ⟨h1, h2⟩ := hr.stored (l.length - 1 - pl / 2) (gt (setD l pl d) (l.length - 1 - pl / 2))
  have e1 : l.set (l.length - 1 - pl / 2) (gt (setD l pl d) (l.length - 1 - pl / 2)) = setD l pl d := by
    unfold setD
    rw [gt_set _ _ _ _ (by omega), if_pos rfl]
  rw [e1] at h1
  exact ⟨h1.below (belowDraw _ _), World.grownBy.trans h2 (grown_drewN4 _ _ _)⟩
theorem Boxed.not_blk {w : World} {B g base : Nat} {t : TypeId} {v : Value} {l : List UInt8} (h : Boxed w B t v) (ht : t ≠ 5) (hr : Blk w base g l) : B ≠ g := by
  obtain ⟨_, cur, hg, _⟩ := hr
  rintro rfl
  have := (show w.heap[B]? = _ from h).symm.trans hg
  simp at this
  exact ht this.2

/-- What the writer leaves: no place is left; or the digit is put, and the place moves on. -/
def PutPost4 (w : World) (Bn g base nx st : Nat) (l : List UInt8) (d : Fin 16) (e : Ending) (w' : World) : Prop :=
  (2 * l.length ≤ nx ∧ e = .returned (.bool false) ∧ w = w') ∨
  (nx < 2 * l.length ∧ e = .returned (.bool true) ∧ Boxed w' Bn 3 (.int .i64 ((nx + st : Nat) : Int)) ∧ Blk w' base g (setD l nx d) ∧
    (∀ B t v, t ≠ 5 → B ≠ Bn → Boxed w B t v → Boxed w' B t v) ∧ KeepsOthers w w' ∧ Below base w w')
set_option maxRecDepth 100000 in
theorem put_any4 (Bn Bb Bs g c base nx st : Nat) (l : List UInt8) (d : Fin 16) (w : World) (hn : l.length ≤ 1000) (hnx : nx ≤ 4000) (hst : st ≤ 2)
    (bn : Boxed w Bn 3 (.int .i64 (nx : Int))) (bb : Boxed w Bb 31 (.slice (some ⟨g, 0, none⟩) l.length c)) (bs : Boxed w Bs 3 (.int .i64 (st : Int)))
    (hr : Blk w base g l) (hB : base ≤ Bn) (hne : Bs ≠ Bn) :
    Calls Tryz.prog 211 #[.int .u8 (d.val : Int), .pointer (some ⟨Bn, 0, none⟩), .pointer (some ⟨Bb, 0, none⟩), .pointer (some ⟨Bs, 0, none⟩)] w (PutPost4 w Bn g base nx st l d) := by
  have c1 := bn.cell
  have c2 := bb.cell
  have c3 := bs.cell
  have f1 := bn.frozen
  by_cases hlt : nx < 2 * l.length
  · have hs := Lib.hid (setDigit_any g c nx base l d w hn hlt hr)
    have HN := Lib.hid bn
    have HB := Lib.hid bb
    have HS := Lib.hid bs
    have HR := Lib.hid hr
    clear bn bb bs hr
    go_enter Tryz.func211, Tryz.ntmps211
    go_wp2_with fail
    refine (hs.out).mono ?_
    rintro e w' hp
    obtain ⟨hh, hg⟩ := hp.hold hlt HR.out
    obtain ⟨⟨v, rfl⟩, _⟩ := hp
    have hk : ∀ B t v, t ≠ 5 → Boxed w B t v → Boxed w' B t v := fun B t v ht hb => hb.kept hg (fun e => E.Boxed.not_blk hb ht HR.out (Option.some.inj e))
    have bn' := hk _ _ _ (by decide) HN.out
    have bs' := hk _ _ _ (by decide) HS.out
    have c1' := bn'.cell
    have c3' := bs'.cell
    have f1' := bn'.frozen
    have HK := Lib.hid hk
    have HH := Lib.hid hh
    have HG := Lib.hid hg
    have HBN := Lib.hid bn'
    clear hk hh hg bn' bs' c1 c2 c3 f1
    go_wp2
    go_ret
    have hgb := HR.out.1
    have hcells := HR.out.cells
    have hBl := HN.out.lt
    have hk2 : KeepsOthers w w' := KeepsOthers.of_grownBy HG.out fun j o ej hj => by
      obtain rfl : g = j := by simpa using ej
      exact hcells o hj
    have hb2 : Below base w w' := (Below.refl base w).grown HG.out (by omega) fun j ej => by
      obtain rfl : g = j := by simpa using ej
      exact hgb
    refine .inr ⟨hlt, rfl, ?_, ?_, ?_, hk2.trans (KeepsOthers.setCell _ _ _), hb2.setCell (p := ⟨Bn, 0, none⟩) hB _⟩
    · have := HBN.out.set (.int .i64 ((nx + st : Nat) : Int))
      simpa using this
    · exact HH.out.kept (grownBy_setCell' w' Bn _) (fun e => E.Boxed.not_blk HBN.out (by decide) HH.out (Option.some.inj e).symm)
    · exact fun B t v ht hB hb => (HK.out B t v ht hb).other hB _
  · clear bn bs hr
    go_enter Tryz.func211, Tryz.ntmps211
    go_wp2
    go_ret
    exact .inl ⟨by omega, rfl, rfl⟩

end E
end Go.Proofs.YtbcncohjjnmdcaaGreatDoor
namespace Go.Proofs.YtbcncohjjnmdcaaGreatDoor
open Go.RowKit Go.Shelf
set_option linter.unusedVariables false
namespace E
attribute [local go_sem] Oper.semAt_some

theorem isSize_any (n : Int) (w : World) : Calls Tryz.prog 156 #[.int .i64 n] w fun e w' => e = .returned (.bool (decide (1 ≤ n ∧ n ≤ 16))) ∧ w = w' := by
  by_cases h1 : 1 ≤ n
  · by_cases h2 : n ≤ 16
    · go_enter Tryz.func156, Tryz.ntmps156
      go_wp2
      go_ret
      exact ⟨by simp [h1, h2], rfl⟩
    · go_enter Tryz.func156, Tryz.ntmps156
      go_wp2
      go_ret
      exact ⟨by simp [h2], rfl⟩
  · go_enter Tryz.func156, Tryz.ntmps156
    go_wp2
    go_ret
    exact ⟨by rw [decide_eq_false (by omega)]; simp, rfl⟩
/-- The closure that writer makes. -/
def writerF (w : World) : Value := .func (.func 211) #[] #[.pointer (some ⟨w.heap.size + 2, 0, none⟩), .pointer (some ⟨w.heap.size, 0, none⟩), .pointer (some ⟨w.heap.size + 1, 0, none⟩)]
theorem boxed_new34 (w : World) (o o2 : Obj) (t : TypeId) (v : Value) : Boxed (((w.alloc o).alloc o2).alloc (.cells #[v] t)) (w.heap.size + 2) t v := by
  have := Boxed.new ((w.alloc o).alloc o2) t v
  rwa [World.size_alloc, World.size_alloc] at this
theorem writer_any (g n c la st : Nat) (w : World) : Calls Tryz.prog 189 #[.slice (some ⟨g, 0, none⟩) n c, .int .i64 (la : Int), .int .i64 (st : Int)] w fun e w' =>
    e = .returned (writerF w) ∧ Boxed w' w.heap.size 31 (.slice (some ⟨g, 0, none⟩) n c) ∧ Boxed w' (w.heap.size + 1) 3 (.int .i64 (st : Int)) ∧ Boxed w' (w.heap.size + 2) 3 (.int .i64 (la : Int)) ∧ w.grownBy w' none ∧ w'.heap.size = w.heap.size + 3 := by
  go_enter Tryz.func189, Tryz.ntmps189
  go_wp2
  go_ret
  exact ⟨rfl, ((Boxed.new w _ _).alloc _).alloc _, (boxed_new2 w _ _ _).alloc _, boxed_new34 w _ _ _ _, ((World.grownBy_alloc w _ none).trans (World.grownBy_alloc _ _ none)).trans (World.grownBy_alloc _ _ none), by simp⟩
/-- A layout's value. -/
def layV (sp la st : Nat) (em : UInt8) : Value := .agg #[.int .i64 (sp : Int), .int .i64 (la : Int), .int .i64 (st : Int), .int .u8 (em.toNat : Int)]
theorem packedLayout_any (w : World) : Calls Tryz.prog 155 #[] w (New w (layV 0 1 1 0)) := by
  go_enter Tryz.func155, Tryz.ntmps155
  go_wp2
  refine bodyPost_ret (results_cell_row rfl _ _ w.heap.size _ _ _ _ rfl (heap_alloc_new w _) Tryz.underlying174 rfl (by kernel_rfl)) rfl ?_
  exact ⟨rfl, below_new _ _⟩
/-- The closure that digits makes. -/
def digitsB (w : World) : Array Value := #[.pointer (some ⟨w.heap.size + 1, 0, none⟩), .pointer (some ⟨w.heap.size, 0, none⟩), .pointer (some ⟨w.heap.size + 2, 0, none⟩)]
theorem digits_any (p : Option Addr) (n c la st : Nat) (w : World) : Calls Tryz.prog 159 #[.slice p n c, .int .i64 (la : Int), .int .i64 (st : Int)] w fun e w' =>
    e = .returned (.func (.func 191) #[] (digitsB w)) ∧ Boxed w' w.heap.size 31 (.slice p n c) ∧ Boxed w' (w.heap.size + 1) 3 (.int .i64 (la : Int)) ∧ Boxed w' (w.heap.size + 2) 3 (.int .i64 (st : Int)) ∧ w.grownBy w' none := by
  go_enter Tryz.func159, Tryz.ntmps159
  go_wp2
  go_ret
  exact ⟨rfl, ((Boxed.new w _ _).alloc _).alloc _, (boxed_new2 w _ _ _).alloc _, boxed_new34 w _ _ _ _, ((World.grownBy_alloc w _ none).trans (World.grownBy_alloc _ _ none)).trans (World.grownBy_alloc _ _ none)⟩
/-- The closure that figures makes. -/
def figuresB (w : World) : Array Value := #[.pointer (some ⟨w.heap.size, 0, none⟩)]
theorem figures_any (s : ByteArray) (w : World) : Calls Tryz.prog 224 #[.string s] w fun e w' =>
    e = .returned (.func (.func 232) #[] (figuresB w)) ∧ Boxed w' w.heap.size 9 (.string s) ∧ w.grownBy w' none := by
  go_enter Tryz.func224, Tryz.ntmps224
  go_wp2
  go_ret
  exact ⟨rfl, Boxed.new w _ _, World.grownBy_alloc w _ none⟩

/-- What is yielded for a digit. -/
def encD (d : Fin 16) : Array Value := #[.int .u8 (d.val : Int)]
set_option maxRecDepth 100000 in
set_option maxHeartbeats 1000000 in
theorem digits1_in (F : Fence) (hF : F = Fence.wide) (n : Nat) (hro : F.round = none) (hn : 1 ≤ n) (l Bf Bb Bs n₀ : Nat) (p : Option Addr) (c la st K : Nat) (bs : List UInt8) (J Jx : List (Fin 16) → World → Prop)
    (hbn : bs.length ≤ 1000) (hla : la ≤ 4) (hst : st ≤ 2) (hst1 : 1 ≤ st) (hK : ∀ i, i < K ↔ la + st * i < 2 * bs.length)
    (hY : ∀ pre x W, J pre W → pre.length < K → YieldAt F (n - 1) Tryz.prog l (encD x) W fun e W' =>
      (e = .returned (.bool true) ∧ J (pre ++ [x]) W' ∧ Below n₀ W W') ∨ (e = .returned (.bool false) ∧ Jx (pre ++ [x]) W'))
    (W : World) (h1 : Bf < n₀) (h2 : Bb < n₀) (h3 : Bs < n₀) (bf : Boxed W Bf 3 (.int .i64 (la : Int))) (bb : Boxed W Bb 31 (.slice p bs.length c)) (bst : Boxed W Bs 3 (.int .i64 (st : Int)))
    (hr : ∀ W', Below n₀ W W' → Rd W' p bs) (h0 : J [] W) :
    CallsIn F n Tryz.prog 191 #[.func (.yield l) #[] #[], .pointer (some ⟨Bf, 0, none⟩), .pointer (some ⟨Bb, 0, none⟩), .pointer (some ⟨Bs, 0, none⟩)] W fun e W' => (∃ v, e = .returned v) ∧
      ((∃ ys, ys = dg bs la st K ∧ J ys W') ∨ (∃ pre, pre <+: dg bs la st K ∧ Jx pre W')) := by
  subst hF
  have cf := bf.cell
  refine callsIn_of_wp Tryz.func191 rfl trivial ?_ hro
  simp only [Tryz.ntmps191, List.size_toArray, List.length_cons, List.length_nil, Nat.reduceAdd, Nat.reduceSub, Array.replicate_succ, Array.replicate_zero, List.push_toArray, List.append_toArray, List.nil_append, List.cons_append]
  gi_wp2
  gi_loopw [5] (fun i wr => ∃ k : Nat, k ≤ K ∧ i = .int .i64 ((la + st * k : Nat) : Int) ∧ Below n₀ W wr ∧ J (dg bs la st k) wr) (fun i _ => 2 * bs.length - (intOf i).toNat)
  case atStart =>
    exact ⟨0, Nat.zero_le _, by simp, Below.refl _ _, h0⟩
  case round =>
    obtain ⟨k, hk, rfl, hbk, hJ⟩ := hrel
    have cb := (hbk.cell (p := ⟨Bb, 0, none⟩) h2).trans bb.cell
    by_cases hlt : k < K
    · have hq := (hK k).1 hlt
      obtain ⟨q, hqe⟩ : ∃ q, q = la + st * k := ⟨_, rfl⟩
      have hd := Lib.hid (digitAt_any p c q bs wr hbn (by omega) (hr wr hbk))
      obtain ⟨fn, tmps, assign, body, hy, hR⟩ := hY (dg bs la st k) (nib bs q) wr hJ (by rw [dg_len]; exact hlt)
      have hR' := Lib.hid hR
      have HJ := Lib.hid hJ
      have HQ := Lib.hid hqe
      have HB := Lib.hid hbk
      unfold encD at hy
      rw [← hqe] at hq ⊢
      clear hqe hR hJ hbk hY hr
      gi_wp2_with (refine ⟨trivial, ?_⟩; gi_at_call 158; refine (callsIn_wide.2 hd.out).mono ?_; rintro e w' ⟨rfl, rfl⟩)
      refine hR'.out.mono ?_
      rintro e W3 (⟨rfl, hJ3, hk3⟩ | ⟨rfl, hJx3⟩)
      · have hb3 := HB.out.trans hk3
        have cs3 := (hb3.cell (p := ⟨Bs, 0, none⟩) h3).trans bst.cell
        have HB3 := Lib.hid hb3
        clear hb3 hk3
        gi_wp2
        go_roundw
        case rel => exact ⟨k + 1, hlt, by rw [show la + st * (k + 1) = q + st by rw [HQ.out, Nat.mul_succ]; omega]; go_num, HB3.out, by rw [dg_succ, ← HQ.out]; exact hJ3⟩
        case measure => simp [intOf]; omega
      · gi_wp2
        refine bodyPost_ret (results_none rfl _ _ _) rfl ?_
        exact ⟨⟨_, rfl⟩, .inr ⟨dg bs la st k ++ [nib bs q], by rw [HQ.out, ← dg_succ, ← dg_take bs la st (k + 1) K hlt]; exact List.take_prefix _ _, hJx3⟩⟩
    · obtain rfl : k = K := by omega
      have hq : 2 * bs.length ≤ la + st * k := by have := (not_congr (hK k)).1 hlt; omega
      generalize la + st * k = q at *
      gi_wp2
      go_end0
      exact ⟨⟨_, rfl⟩, .inl ⟨_, rfl, hJ⟩⟩
/-- The iterator of a field's digits yields them, from the place la on. -/
theorem digits_stops (n : Nat) (hn : 1 ≤ n) (Bf Bb Bs : Nat) (p : Option Addr) (c la st K : Nat) (bs : List UInt8) (w : World)
    (hbn : bs.length ≤ 1000) (hla : la ≤ 4) (hst : st ≤ 2) (hst1 : 1 ≤ st) (hK : ∀ i, i < K ↔ la + st * i < 2 * bs.length)
    (bf : Boxed w Bf 3 (.int .i64 (la : Int))) (bb : Boxed w Bb 31 (.slice p bs.length c)) (bst : Boxed w Bs 3 (.int .i64 (st : Int))) (hr : Rd w p bs) :
    SeqStopsK Fence.wide n Tryz.prog 191 #[.pointer (some ⟨Bf, 0, none⟩), .pointer (some ⟨Bb, 0, none⟩), .pointer (some ⟨Bs, 0, none⟩)] encD (Below w.heap.size) (fun ys => ys = dg bs la st K) (fun pre => pre <+: dg bs la st K) K w := fun l J Jx W hW _ _ hY h0 =>
  digits1_in Fence.wide rfl n rfl hn l Bf Bb Bs w.heap.size p c la st K bs J Jx hbn hla hst hst1 hK hY W bf.lt bb.lt bst.lt (hW.block Bf bf.lt |>.trans bf) (hW.block Bb bb.lt |>.trans bb) (hW.block Bs bst.lt |>.trans bst) (fun W' hb => hr.below (hW.trans (hb.mono (Nat.le_refl _)))) h0

theorem fg_take {l : List UInt8} {k q : Nat} (h : q + 1 + k = l.length) : (fg l).take (k + 1) = (fg l).take k ++ [dgt (gt l q)] := by
  have hkl : k < (fg l).length := by rw [fg_len]; omega
  have e : (fg l)[k] = dgt (gt l q) := by
    have : (fg l)[k]? = some (dgt (gt l q)) := by
      unfold fg
      rw [List.getElem?_reverse (by simp; omega), List.getElem?_map, List.length_map, show l.length - 1 - k = q by omega, List.getElem?_eq_getElem (by omega), gt_lt (by omega)]
      rfl
    rw [List.getElem?_eq_getElem hkl] at this
    exact Option.some.inj this
  rw [List.take_succ_eq_append_getElem hkl, e]
set_option maxRecDepth 100000 in
set_option maxHeartbeats 1000000 in
theorem figures1_in (F : Fence) (hF : F = Fence.wide) (n : Nat) (hro : F.round = none) (hn : 1 ≤ n) (l B n₀ : Nat) (s : ByteArray) (bs : List UInt8) (J Jx : List (Fin 16) → World → Prop)
    (hs : s.data.toList = bs) (hbn : bs.length ≤ 1000) (hd : ∀ j, j < bs.length → isD (gt bs j) = true)
    (hY : ∀ pre x W, J pre W → pre.length < bs.length → YieldAt F (n - 1) Tryz.prog l (encD x) W fun e W' =>
      (e = .returned (.bool true) ∧ J (pre ++ [x]) W' ∧ Below n₀ W W') ∨ (e = .returned (.bool false) ∧ Jx (pre ++ [x]) W'))
    (W : World) (h1 : B < n₀) (bf : Boxed W B 9 (.string s)) (h0 : J [] W) :
    CallsIn F n Tryz.prog 232 #[.func (.yield l) #[] #[], .pointer (some ⟨B, 0, none⟩)] W fun e W' => (∃ v, e = .returned v) ∧
      ((∃ ys, ys = fg bs ∧ J ys W') ∨ (∃ pre, pre <+: fg bs ∧ Jx pre W')) := by
  subst hF
  have cf := bf.cell
  have hln : bs.length = s.size := by rw [← hs]; rfl
  have hstr : ∀ k (h : k < s.size), s[k] = gt bs k := fun k h => by rw [← hs]; exact str_at s k h
  have HS := Lib.hid hstr
  have HL := Lib.hid hln
  have HD := Lib.hid hd
  rw [hln] at hbn hY
  clear hs hstr hln hd
  refine callsIn_of_wp Tryz.func232 rfl trivial ?_ hro
  simp only [Tryz.ntmps232, List.size_toArray, List.length_cons, List.length_nil, Nat.reduceAdd, Nat.reduceSub, Array.replicate_succ, Array.replicate_zero, List.push_toArray, List.append_toArray, List.nil_append, List.cons_append]
  gi_wp2
  gi_loopw [3] (fun i wr => ∃ k : Nat, k ≤ s.size ∧ i = .int .i64 ((s.size : Int) - 1 - k) ∧ Below n₀ W wr ∧ J ((fg bs).take k) wr) (fun i _ => (intOf i + 1).toNat)
  case atStart =>
    exact ⟨0, Nat.zero_le _, by simp, Below.refl _ _, h0⟩
  case round =>
    obtain ⟨k, hk, rfl, hbk, hJ⟩ := hrel
    have cb := (hbk.cell (p := ⟨B, 0, none⟩) h1).trans bf.cell
    by_cases hlt : k < s.size
    · obtain ⟨q, hq⟩ : ∃ q, q + 1 + k = s.size := ⟨s.size - 1 - k, by omega⟩
      have hqs : q < s.size := by omega
      have e1 : (s.size : Int) - 1 - k = (q : Int) := by omega
      have hx := HD.out q (by rw [HL.out]; omega)
      have hx2 := (isD_iff _).1 hx
      have hv : ((gt bs q).toNat : Int) - 48 = ((dgt (gt bs q)).val : Int) := by rw [dgt_nat hx2]; omega
      have htk := fg_take (l := bs) (k := k) (q := q) (by rw [HL.out]; exact hq)
      obtain ⟨fn, tmps, assign, body, hy, hR⟩ := hY ((fg bs).take k) (dgt (gt bs q)) wr hJ (by rw [List.length_take]; omega)
      have hR' := Lib.hid hR
      have HJ := Lib.hid hJ
      have HB := Lib.hid hbk
      have HT := Lib.hid htk
      have hsq := HS.out q hqs
      unfold encD at hy
      rw [← hv] at hy
      rw [e1]
      clear hR hJ hbk hY htk hx hv
      gi_wp2
      refine hR'.out.mono ?_
      rintro e W3 (⟨rfl, hJ3, hk3⟩ | ⟨rfl, hJx3⟩)
      · have HB3 := Lib.hid (HB.out.trans hk3)
        clear hk3
        gi_wp2
        go_roundw
        case rel => exact ⟨k + 1, hlt, by rw [show (s.size : Int) - 1 - ((k + 1 : Nat) : Int) = (q : Int) - 1 by omega], HB3.out, by rw [HT.out]; exact hJ3⟩
        case measure => simp [intOf]
      · gi_wp2
        refine bodyPost_ret (results_none rfl _ _ _) rfl ?_
        exact ⟨⟨_, rfl⟩, .inr ⟨(fg bs).take k ++ [dgt (gt bs q)], by rw [← HT.out]; exact List.take_prefix _ _, hJx3⟩⟩
    · obtain rfl : k = s.size := by omega
      rw [← HL.out, ← fg_len bs, List.take_length] at hJ
      have HJ := Lib.hid hJ
      clear hJ hY
      rw [show (s.size : Int) - 1 - s.size = -1 by omega]
      gi_wp2
      go_end0
      exact ⟨⟨_, rfl⟩, .inl ⟨_, rfl, HJ.out⟩⟩
/-- The iterator of a number's digits yields them, the last one first. -/
theorem figures_stops (n : Nat) (hn : 1 ≤ n) (B : Nat) (s : ByteArray) (bs : List UInt8) (w : World) (hs : s.data.toList = bs) (hbn : bs.length ≤ 1000) (hd : ∀ j, j < bs.length → isD (gt bs j) = true) (bf : Boxed w B 9 (.string s)) :
    SeqStopsK Fence.wide n Tryz.prog 232 #[.pointer (some ⟨B, 0, none⟩)] encD (Below w.heap.size) (fun ys => ys = fg bs) (fun pre => pre <+: fg bs) bs.length w := fun l J Jx W hW _ _ hY h0 =>
  figures1_in Fence.wide rfl n rfl hn l B w.heap.size s bs J Jx hs hbn hd hY W bf.lt (hW.block B bf.lt |>.trans bf) h0

end E
end Go.Proofs.YtbcncohjjnmdcaaGreatDoor
namespace Go.Proofs.YtbcncohjjnmdcaaGreatDoor
open Go.RowKit
set_option linter.unusedVariables false
namespace E

set_option maxHeartbeats 2000000 in
theorem mul64_one (c : Nat) (hc : c < 4294967296) (w : World) :
    Calls Tryz.prog 197 #[.int .u64 1, .int .u64 (c : Int)] w fun e w' => e = .returned (.tuple #[.int .u64 0, .int .u64 (c : Int)]) ∧ w = w' := by
  have h1 : (c : Int) % 4294967296 = c := Int.emod_eq_of_lt (by omega) (by omega)
  have a0 : bits .and .u64 0 4294967295 = 0 := by decide +kernel
  have a1 : bits .and .u64 1 4294967295 = 1 := by decide +kernel
  have a2 : bits .and .u64 (c : Int) 4294967295 = c := by rw [and_low32 _ (by omega) (by omega)]; exact h1
  have h2 : (c : Int) / 4294967296 = 0 := Int.ediv_eq_zero_of_lt (by omega) (by omega)
  go_enter Tryz.func197, Tryz.ntmps197
  go_wp2
  go_ret2
  exact ⟨rfl, rfl⟩
set_option maxHeartbeats 2000000 in
theorem mul_one' (c : Nat) (hc : c < 4294967296) (w : World) :
    Calls Tryz.prog 206 #[.int .u64 1, .int .u64 (c : Int)] w fun e w' => e = .returned (.tuple #[.int .u64 0, .int .u64 (c : Int)]) ∧ w = w' := by
  go_enter Tryz.func206, Tryz.ntmps206
  go_wp2_with fail
  refine (mul64_one c hc _).mono ?_
  rintro e w' ⟨rfl, rfl⟩
  go_wp2
  go_ret2
  exact ⟨rfl, rfl⟩

set_option maxHeartbeats 2000000 in
theorem heap_cell {w : World} {h : Nat} {cur : List Value} {t : TypeId} {fr : Nat × Nat} (hh : w.heap[h]? = some (.cells cur.toArray t fr)) (j : Nat) : w.cell? ⟨h, j, none⟩ = cur[j]? := by
  simp [World.cell?, hh]
set_option maxHeartbeats 2000000 in
theorem src_one {w w' : World} {B : Nat} {x : UInt8} (hb : Below w.heap.size w w') (hB : B < w.heap.size) (hx : w.cell? ⟨B, 0, none⟩ = some (.int .u8 (x.toNat : Int))) : ∀ j v, (bsU [x])[j]? = some v → w'.cell? ((⟨B, 0, none⟩ : Addr).add j) = some v := by
  intro j v h
  obtain ⟨hj, rfl⟩ := bsU_at h
  have h0 : j = 0 := by simp at hj; exact hj
  subst h0
  have h1 : w'.cell? ⟨B, 0, none⟩ = w.cell? ⟨B, 0, none⟩ := hb.cell hB
  rw [show ((⟨B, 0, none⟩ : Addr).add 0) = ⟨B, 0, none⟩ from by simp [Addr.add], h1, hx]
  rfl
set_option maxHeartbeats 2000000 in
theorem splice_same {cur L : List Value} {k m : Nat} {v : Value} (h1 : ∀ j, j < k → cur[j]? = some v) (hk : k ≤ cur.length) (hL : L.length = m) (h2 : ∀ j, j < m → L[j]? = some v) (j : Nat) (hj : j < k + m) : (splice cur k L)[j]? = some v := by
  unfold splice
  have ht : (cur.take k).length = k := by simp; omega
  by_cases hjk : j < k
  · rw [List.getElem?_append_left (by omega), List.getElem?_take_of_lt hjk]
    exact h1 j hjk
  · rw [List.getElem?_append_right (by omega), ht, List.getElem?_append_left (by omega)]
    exact h2 _ (by omega)
/-- What Repeat leaves: new memory that holds the bytes l. -/
def RepPost (w : World) (l : List UInt8) (e : Ending) (w' : World) : Prop :=
  e = .returned (.slice (some ⟨w.heap.size, 0, none⟩) l.length l.length) ∧ Blk w' w.heap.size w.heap.size l ∧ Below w.heap.size w w'
set_option maxRecDepth 100000 in
set_option maxHeartbeats 2000000 in
theorem repeat_any (x : UInt8) (B n : Nat) (w : World) (hpos : 0 < n) (hn : n ≤ 8192) (hx : w.cell? ⟨B, 0, none⟩ = some (.int .u8 (x.toNat : Int))) :
    Calls Tryz.prog 184 #[.slice (some ⟨B, 0, none⟩) 1 1, .int .i64 (n : Int)] w (RepPost w (List.replicate n x)) := by
  have hB : B < w.heap.size := World.block_lt_of_cell? w _ hx
  obtain ⟨cs, hrun, hle, _⟩ := Lib.run_makeNoZero (P := Tryz.prog) w #[3] 31 5 Tryz.underlying31 n (by omega)
  have hcall : (callFunc 207 #[.int .i64 (n : Int)]).run Tryz.prog w = .ok (.value (.slice (some ⟨w.heap.size, 0, none⟩) n cs.size)) (w.drew.drew.alloc (.cells cs 5)) := by
    rw [run_callFunc_extern Tryz.func207 (by kernel_rfl) (by kernel_rfl) (by kernel_rfl) (e := Extern.BytealgMakeNoZero.makeNoZero #[3] #[31]) (by kernel_rfl), hrun]
    rfl
  clear hrun
  have i0 : (0 : Int) ≤ (n : Int) := by omega
  have i1 : (n : Int) ≤ (cs.size : Int) := by omega
  have hb0 : Below w.heap.size w ((w.alloc (.cells cs 5)).drew.drew) := ((below_new w _).drew).drew
  have hh0 : ((w.alloc (.cells cs 5)).drew.drew).heap[w.heap.size]? = some (.cells cs.toList.toArray 5 (0, 0)) := by
    show (w.heap.push _)[w.heap.size]? = _
    simp
  go_enter Tryz.func184, Tryz.ntmps184
  go_wp2_with fail
  refine (mul_one' n (by omega) _).mono ?_
  rintro e w' ⟨rfl, rfl⟩
  go_wp2_with ((with_reducible refine wpList_copy_splice (o := ⟨some 60, _, _, _, _, _⟩) ?_ (.tmp 58) (.tmp 59) 31 31 ?_ 5 ?_ ?_ (some ⟨w.heap.size, 0, none⟩) (some ⟨B, 0, none⟩) n n 1 1 ?_ ?_ w.heap.size 0 cs.toList 5 ?_ (bsU [x]) ?_ ?_ ?_ (bsU_one _) w.heap.size w ?_ (Nat.le_refl _) ?_); (rfl); (rfl); (exact Tryz.underlying31); (kernel_rfl); (rfl); (rfl); go_must (exact hh0); go_must (show 1 = min 1 n; omega); (exact fun _ => ⟨rfl, _, rfl, src_one hb0 hB hx⟩); go_must (simp [bsU]; omega); go_must (exact hb0); intro w1 h1 hb1)
  have h1' := h1.out
  have hs1 : ∃ cur : List Value, w1.heap[w.heap.size]? = some (.cells cur.toArray 5 (0, 0)) ∧ cur.length = cs.size ∧ ∀ j, j < 1 → cur[j]? = some (.int .u8 (x.toNat : Int)) :=
    ⟨_, h1', by rw [length_splice _ _ _ (by simp [bsU]; omega)]; simp, fun j hj => by
      obtain rfl : j = 0 := by omega
      simp [splice, bsU]⟩
  clear h1 h1' hh0 hb0 hcall
  go_loopw [10] (fun i wr => Below w.heap.size w wr ∧ ∃ k : Nat, 1 ≤ k ∧ k ≤ n ∧ i = .int .i64 k ∧ ∃ cur : List Value, wr.heap[w.heap.size]? = some (.cells cur.toArray 5 (0, 0)) ∧ cur.length = cs.size ∧ ∀ j, j < k → cur[j]? = some (.int .u8 (x.toNat : Int))) (fun i _ => n - (intOf i).toNat)
  case atStart => exact ⟨hb1, 1, Nat.le_refl _, hpos, by simp [bsU], hs1⟩
  case round =>
    clear hb1 hs1
    obtain ⟨hbw, k, hk1, hk, rfl, cur, hcur, hlen, hrd⟩ := hrel
    have HR := Lib.hid hrd; clear hrd
    have HC := Lib.hid hcur; clear hcur
    have HL := Lib.hid hlen; clear hlen
    have HB := Lib.hid hbw; clear hbw
    by_cases hlt : k < n
    · have hmin : min (k : Int) (n : Int) = k := by omega
      obtain ⟨m, hm⟩ : ∃ m, m = min k (n - k) := ⟨_, rfl⟩
      have hnk : ¬ n = k := by omega
      have hm1 : k + m ≤ n := by omega
      have hm2 : 1 ≤ m := by omega
      obtain ⟨L, hL⟩ : ∃ L, L = List.replicate m x := ⟨_, rfl⟩
      have hLm : (bsU L).length = m := by rw [hL, bsU_len, List.length_replicate]
      have hLx : ∀ j, j < m → (bsU L)[j]? = some (.int .u8 (x.toNat : Int)) := fun j hj => by
        rw [hL, bsU_get _ j (by rw [List.length_replicate]; exact hj), gt_lt (by rw [List.length_replicate]; exact hj), List.getElem_replicate]
      have hLb : (bsU L).length ≤ 8192 := by omega
      have hLp : 1 ≤ (bsU L).length := by omega
      have HM := Lib.hid hm
      have HLM := Lib.hid hLm
      have HLX := Lib.hid hLx
      clear hm hL hLm hLx
      have hsrc : ∀ W : World, W.heap = wr.heap → ∀ j v, (bsU L)[j]? = some v → W.cell? ((⟨w.heap.size, 0, none⟩ : Addr).add j) = some v := fun W hW j v hv => by
        have hj : j < m := by
          have := (List.getElem?_eq_some_iff.1 hv).1
          rw [HLM.out] at this; exact this
        rw [HLX.out j hj] at hv
        rw [show ((⟨w.heap.size, 0, none⟩ : Addr).add j) = ⟨w.heap.size, j, none⟩ from by by_cases h : j = 0 <;> simp [Addr.add, h], heap_cell (hW ▸ HC.out) j, HR.out j (by rw [HM.out] at hj; omega)]
        exact hv
      have HS := Lib.hid hsrc
      clear hsrc
      go_wp2
      go_region_law (refine step_copy_splice rfl (.tmp 70) (.tmp 73) 31 31 rfl 5 Tryz.underlying31 (by kernel_rfl) (some ⟨w.heap.size, k, none⟩) (some ⟨w.heap.size, 0, none⟩) (n - k) (n - k) k n (by simp [Act.eval, Act.put]) (by simp [Act.eval, Act.put]) w.heap.size k cur 5 HC.out (bsU L) (by rw [HLM.out, HM.out]) (fun _ => ⟨rfl, _, rfl, HS.out _ rfl⟩) (by rw [HLM.out, HL.out]; omega) (bsU_one _) w.heap.size w HB.out.drew (Nat.le_refl _) ?_; intro w2 h2 hb2)
      go_simp
      rw [show IntKind.i64.wrap ((k : Int) + ((bsU L).length : Int)) = ((k + m : Nat) : Int) from by rw [IntKind.wrap_i64, HLM.out]; omega]
      go_roundw
      case rel => exact ⟨_, _, _, _, _, _, _, _, _, _, _, _, _, _, _, _, _, ⟨hb2, k + m, by omega, hm1, rfl, _, h2.out, by rw [length_splice _ _ _ (by rw [HLM.out, HL.out]; omega)]; exact HL.out, fun j hj => splice_same HR.out (by rw [HL.out]; omega) HLM.out HLX.out j hj⟩, rfl⟩
      case measure => simp [intOf]; omega
    · obtain rfl : k = n := by omega
      go_wp2
      go_ret
      have hlen : (List.replicate k x).length = k := List.length_replicate
      refine ⟨by rw [hlen]; rfl, ⟨Nat.le_refl _, _, HC.out, ?_⟩, HB.out⟩
      rw [hlen]
      refine List.ext_getElem? fun j => ?_
      by_cases hj : j < k
      · rw [List.getElem?_take_of_lt hj, HR.out j hj, bsU_get _ j (by rw [hlen]; exact hj), gt_lt (by rw [hlen]; exact hj), List.getElem_replicate]
      · rw [List.getElem?_eq_none (by rw [List.length_take]; omega), List.getElem?_eq_none (by rw [bsU_len, hlen]; omega)]

end E
end Go.Proofs.YtbcncohjjnmdcaaGreatDoor
namespace Go.Proofs.YtbcncohjjnmdcaaGreatDoor
open Go.RowKit Go.Shelf
set_option linter.unusedVariables false
namespace E
attribute [local go_sem] Oper.semAt_some

/-- A layout that lies in a block. -/
def LayB (w : World) (D sp la st : Nat) (em : UInt8) : Prop := w.heap[D]? = some (.cells #[.int .i64 (sp : Int), .int .i64 (la : Int), .int .i64 (st : Int), .int .u8 (em.toNat : Int)] 174 (0, 0))
theorem layB_new (w : World) (sp la st : Nat) (em : UInt8) : LayB (w.alloc (.cells #[.int .i64 (sp : Int), .int .i64 (la : Int), .int .i64 (st : Int), .int .u8 (em.toNat : Int)] 174)) w.heap.size sp la st em := World.alloc_heap_new w _
theorem LayB.lt {w : World} {D sp la st : Nat} {em : UInt8} (h : LayB w D sp la st em) : D < w.heap.size := (Array.getElem?_eq_some_iff.1 h).1
theorem LayB.kept {w w' : World} {row : Option Nat} {D sp la st : Nat} {em : UInt8} (h : LayB w D sp la st em) (hg : w.grownBy w' row) (hne : some D ≠ row) : LayB w' D sp la st em := (hg.block D h.lt hne).trans h
theorem LayB.alloc {w : World} {D sp la st : Nat} {em : UInt8} (h : LayB w D sp la st em) (o : Obj) : LayB (w.alloc o) D sp la st em := h.kept (World.grownBy_alloc w o none) (by simp)
theorem LayB.cells {w : World} {D sp la st : Nat} {em : UInt8} (h : LayB w D sp la st em) : w.cell? ⟨D, 0, none⟩ = some (.int .i64 (sp : Int)) ∧ w.cell? ⟨D, 1, none⟩ = some (.int .i64 (la : Int)) ∧ w.cell? ⟨D, 2, none⟩ = some (.int .i64 (st : Int)) ∧ w.cell? ⟨D, 3, none⟩ = some (.int .u8 (em.toNat : Int)) := by
  have h' : w.heap[D]? = _ := h
  refine ⟨?_, ?_, ?_, ?_⟩ <;> simp [World.cell?, h']
theorem cell_one (w : World) (v : Value) (t : TypeId) {n : Nat} (hn : n = w.heap.size) : (w.alloc (.cells #[v] t)).cell? ⟨n, 0, none⟩ = some v := by
  subst hn
  simp [go_sem]
theorem results_cell2 {P : Program} {fn : Func} {p q : Tmp} {t u : TypeId} {d f : TypeDesc} {w : World} {a b : Addr} {v x : Value} {tmps : Array Value} (h : fn.results = #[.cell p t, .cell q u])
    (hp : tmps.getD p undef = .pointer (some a)) (hq : tmps.getD q undef = .pointer (some b)) (ha : w.cell? a = some v) (hb : w.cell? b = some x)
    (ht : P.underlying t = some d) (hd : (match d with | .struct _ | .array _ _ => true | _ => false) = false) (hu : P.underlying u = some f) (hf : (match f with | .struct _ | .array _ _ => true | _ => false) = false) :
    (results fn tmps).run P w = .ok (.tuple #[v, x]) w := by
  have hp' : tmps[p]?.getD undef = .pointer (some a) := by simpa using hp
  have hq' : tmps[q]?.getD undef = .pointer (some b) := by simpa using hq
  simp [results, h, hp', hq', asAddr, Sem.run_bind, Result.andThen, run_loadVar_one ha ht hd, run_loadVar_one hb hu hf]
theorem Blk.ab {W W' : World} {base g : Nat} {l : List UInt8} {row : Option Nat} (h : Blk W base g l) (hg : W.grownBy W' row) (hrow : ∀ r, row = some r → ∃ o : Obj, W.heap[r]? = some o ∧ o.isCells = false) : Blk W' base g l := by
  obtain ⟨_, cur, hh, _⟩ := id h
  exact h.kept hg (not_row hh rfl hrow)
/-- Between two rounds: pre has been written. -/
def BI (D B2 B3 n la st : Nat) (L1 : List UInt8) (pre : List (Fin 16)) (W : World) : Prop :=
  Boxed W (D + 1) 31 (.slice (some ⟨D + 4, 0, none⟩) n n) ∧ Boxed W (D + 2) 4 (.bool false) ∧ Boxed W B2 31 (.slice (some ⟨D + 4, 0, none⟩) n n) ∧ Boxed W (B2 + 1) 3 (.int .i64 (st : Int)) ∧
    Boxed W (B2 + 2) 3 (.int .i64 ((la + st * pre.length : Nat) : Int)) ∧
    Boxed W B3 213 (.func (.func 211) #[] #[.pointer (some ⟨B2 + 2, 0, none⟩), .pointer (some ⟨B2, 0, none⟩), .pointer (some ⟨B2 + 1, 0, none⟩)]) ∧
    Blk W D (D + 4) (wr L1 la st pre) ∧ ∀ j, j < pre.length → la + st * j < 2 * n
theorem BI.own (D B2 B3 n la st : Nat) (L1 : List UInt8) : Go.Own (BI D B2 B3 n la st L1) := fun s X Y row ⟨h1, h2, h3, h4, h5, h6, h7, h8⟩ hg hr =>
  ⟨Boxed.ab h1 hg hr, Boxed.ab h2 hg hr, Boxed.ab h3 hg hr, Boxed.ab h4 hg hr, Boxed.ab h5 hg hr, Boxed.ab h6 hg hr, Blk.ab h7 hg hr, h8⟩
/-- A round has left: there was no place. -/
def BX (D n la st : Nat) (L1 : List UInt8) (c : Code) (pre : List (Fin 16)) (W : World) : Prop :=
  c = .ret ∧ Boxed W (D + 1) 31 (.slice (some ⟨D + 4, 0, none⟩) n n) ∧ Boxed W (D + 2) 4 (.bool true) ∧ ∃ pre0 x, pre = pre0 ++ [x] ∧ Blk W D (D + 4) (wr L1 la st pre0) ∧ (∀ j, j < pre0.length → la + st * j < 2 * n) ∧ 2 * n ≤ la + st * pre0.length
theorem BX.own (D n la st : Nat) (L1 : List UInt8) (c : Code) : Go.Own (BX D n la st L1 c) := fun s X Y row ⟨h0, h1, h2, p, x, hp, h3, h4⟩ hg hr =>
  ⟨h0, Boxed.ab h1 hg hr, Boxed.ab h2 hg hr, p, x, hp, Blk.ab h3 hg hr, h4⟩
/-- What build leaves. -/
def BuildPost (w : World) (n K sp la st : Nat) (em : UInt8) (s : Fin 16) (ds : List (Fin 16)) (e : Ending) (w' : World) : Prop :=
  ∃ g, e = .returned (.tuple #[.slice (some ⟨g, 0, none⟩) n n, .bool (decide (K < ds.length))]) ∧ Blk w' w.heap.size g (outL n sp la st em s ds) ∧ Below w.heap.size w w'
set_option maxRecDepth 100000 in
set_option maxHeartbeats 2000000 in
theorem build_any (gf : Nat) (lb : Array Value) (hgf : ∀ args w, (callFunc gf args).run Tryz.prog w = .ok (.enter gf args) w) (n K sp la st : Nat) (em : UInt8) (s : Fin 16) (ds : List (Fin 16)) (w : World) (N : Nat)
    (hn : 1 ≤ n) (hn2 : n ≤ 16) (hst : st ≤ 2) (hst1 : 1 ≤ st) (hla : la ≤ 4) (hsp : sp < 2 * n) (hne : ∀ j, sp ≠ la + st * j) (hK : ∀ i, i < K ↔ la + st * i < 2 * n)
    (hseq : ∀ m, 1 ≤ m → SeqStopsK Fence.wide m Tryz.prog gf lb encD (Below w.heap.size) (fun ys => ys = ds) (fun pre => pre <+: ds) N w) :
    Calls Tryz.prog 157 #[layV sp la st em, .int .u8 (s.val : Int), .func (.func gf) #[] lb, .int .i64 (n : Int)] w (BuildPost w n K sp la st em s ds) := by
  refine (callsIn_wide (n := 5)).1 ?_
  have hro : Fence.wide.round = none := rfl
  have HQ := Lib.hid hseq
  have HG := Lib.hid hgf
  have HK := Lib.hid hK
  have HNE := Lib.hid hne
  clear hseq hgf hK hne
  unfold layV
  refine callsIn_of_wp_marks Tryz.func157 rfl trivial ?_ hro
  simp only [Tryz.ntmps157, List.size_toArray, List.length_cons, List.length_nil, Nat.reduceAdd, Nat.reduceSub, Array.replicate_succ, Array.replicate_zero, List.push_toArray, List.append_toArray, List.nil_append, List.cons_append]
  gi_wp2_with fail
  refine ⟨trivial, (callsIn_wide.2 (repeat_any em _ n _ (by omega) (by omega) (cell_one _ _ _ (by simp)))).mono ?_⟩
  rintro e w1 ⟨rfl, hbk, hb1⟩
  rw [List.length_replicate]
  simp only [World.size_alloc] at hbk hb1 ⊢
  have bL : LayB w1 w.heap.size sp la st em := (hb1.block w.heap.size (by omega)).trans ((((layB_new w sp la st em).alloc _).alloc _).alloc _)
  have bB : Boxed w1 (w.heap.size + 1) 31 (.slice none 0 0) := (hb1.block _ (by omega)).trans (((boxed_new2 w _ _ _).alloc _).alloc _)
  have bO : Boxed w1 (w.heap.size + 2) 4 (.bool false) := (hb1.block _ (by omega)).trans ((boxed_new34 w _ _ _ _).alloc _)
  have hbw : Below w.heap.size w w1 := by
    refine Below.trans ?_ (hb1.mono (by omega))
    exact ((((Below.refl _ w).alloc (Nat.le_refl _) _).alloc (by simp) _).alloc (by simp; omega) _).alloc (by simp; omega) _
  have hblk : Blk w1 w.heap.size (w.heap.size + 4) (List.replicate n em) := hbk.base' (by omega)
  clear hbk hb1
  have c1 := bB.cell
  have f1 := bB.frozen
  have hg1 := grownBy_setCell' w1 (w.heap.size + 1) (.slice (some ⟨w.heap.size + 4, 0, none⟩) n n)
  have bL2 := bL.kept hg1 (by simp)
  have bB2 := bB.set (.slice (some ⟨w.heap.size + 4, 0, none⟩) n n)
  have bO2 := bO.kept hg1 (by simp)
  have hbk2 := hblk.kept hg1 (by simp)
  have hbw2 := hbw.setCell (p := ⟨w.heap.size + 1, 0, none⟩) (by simp) (.slice (some ⟨w.heap.size + 4, 0, none⟩) n n)
  have HL := Lib.hid bL2
  have HB := Lib.hid bB2
  have HO := Lib.hid bO2
  have HR := Lib.hid hbk2
  have HBW := Lib.hid hbw2
  obtain ⟨hc0, hc1, hc2, hc3⟩ := bL2.cells
  clear bL bB bO hbw hblk hg1 bL2 bB2 bO2 hbk2 hbw2
  have hsd := Lib.hid (setDigit_any (w.heap.size + 4) n sp w.heap.size (List.replicate n em) s _ (by simp; omega) (by simpa using hsp) HR.out)
  rw [List.length_replicate] at hsd
  gi_wp2_with fail
  refine ⟨trivial, (callsIn_wide.2 hsd.out).mono ?_⟩
  rintro e w2 hp
  obtain ⟨hb2, hg2⟩ := hp.hold (by simpa using hsp) HR.out
  obtain ⟨⟨v, rfl⟩, _⟩ := hp
  have bL3 := HL.out.kept hg2 (by simp)
  have bB3 := HB.out.kept hg2 (by simp)
  have bO3 := HO.out.kept hg2 (by simp)
  have hbw3 := HBW.out.grown hg2 HBW.out.size (fun j ej => by cases ej; omega)
  clear HL HB HO HR HBW hsd hg2 hc0 hc1 hc2 hc3 c1 f1
  obtain ⟨L1, hL1⟩ : ∃ L, L = setD (List.replicate n em) sp s := ⟨_, rfl⟩
  have hlen : L1.length = n := by rw [hL1, setD_len]; simp
  rw [← hL1] at hb2
  obtain ⟨hc0, hc1, hc2, hc3⟩ := bL3.cells
  have c1 := bB3.cell
  have f1 := bB3.frozen
  have HLen := Lib.hid hlen
  have HL1 := Lib.hid hL1
  have HB := Lib.hid bB3
  have HO := Lib.hid bO3
  have HR := Lib.hid hb2
  have HBW := Lib.hid hbw3
  clear bL3 bB3 bO3 hb2 hbw3 hL1 hlen
  gi_wp2_with fail
  refine ⟨trivial, (callsIn_wide.2 (writer_any _ _ _ _ _ _)).mono ?_⟩
  rintro e w3 ⟨rfl, bx0, bx1, bx2, hg3, hsz⟩
  have bB4 := HB.out.kept hg3 (by simp)
  have bO4 := HO.out.kept hg3 (by simp)
  have hb4 := HR.out.kept hg3 (by simp)
  have hbw4 := HBW.out.grown hg3 HBW.out.size (fun j ej => by cases ej)
  have hbsz := HR.out.lt
  clear hg3 HB HO HR HBW hc0 hc1 hc2 hc3 c1 f1
  obtain ⟨B2, hB2⟩ : ∃ B, w2.heap.size = B := ⟨_, rfl⟩
  unfold writerF
  rw [hB2] at bx0 bx1 bx2 hsz hbsz ⊢
  have bf := Boxed.new w3 213 (.func (.func 211) #[] #[.pointer (some ⟨B2 + 2, 0, none⟩), .pointer (some ⟨B2, 0, none⟩), .pointer (some ⟨B2 + 1, 0, none⟩)])
  have HSZ := Lib.hid hsz
  clear hsz
  gi_wp2_with fail
  have hbw5 := hbw4.alloc hbw4.size (.cells #[.func (.func 211) #[] #[.pointer (some ⟨B2 + 2, 0, none⟩), .pointer (some ⟨B2, 0, none⟩), .pointer (some ⟨B2 + 1, 0, none⟩)]] 213)
  have hbi : BI w.heap.size B2 w3.heap.size n la st L1 [] _ := ⟨bB4.alloc _, bO4.alloc _, bx0.alloc _, bx1.alloc _, by simpa using bx2.alloc _, bf, hb4.kept (World.grownBy_alloc w3 _ none) (by simp), fun j hj => by simp at hj⟩
  have hsz4 := hbw4.size
  clear bB4 bO4 bx0 bx1 bx2 bf hb4 hbw4
  refine wpIn_rangeFunc_ownG hro (by omega) (gf := gf) (lb := lb) rfl trivial HG.out
    (HQ.out _ (by omega)) belowK_t (belowK_b (by simp; omega)) hbw5 (fun _ => rfl)
    (fun pre W => BI w.heap.size B2 w3.heap.size n la st L1 pre W ∧ Below w.heap.size w W)
    (fun c pre W => BX w.heap.size n la st L1 c pre W ∧ Below w.heap.size w W)
    (OwnFrom.and (Own.from (BI.own _ _ _ _ _ _ _) _) (ownFrom_below (Nat.le_refl _) (by simp; omega)))
    (fun c => OwnFrom.and (Own.from (BX.own _ _ _ _ _ c) _) (ownFrom_below (Nat.le_refl _) (by simp; omega)))
    ⟨hbi, hbw5⟩
    (fun x => { tmps := #[.agg #[.int .i64 (sp : Int), .int .i64 (la : Int), .int .i64 (st : Int), .int .u8 (em.toNat : Int)], .int .u8 (s.val : Int), .func (.func gf) #[] lb, .int .i64 (n : Int),
        .pointer (some ⟨w.heap.size, 0, none⟩), undef, undef, undef, .pointer (some ⟨w.heap.size + 1, 0, none⟩), .pointer (some ⟨w.heap.size + 1 + 1, 0, none⟩), .pointer (some ⟨w3.heap.size, 0, none⟩), .int .u8 (x.val : Int),
        .pointer (some ⟨w.heap.size, 3, none⟩), .int .u8 (em.toNat : Int), .slice (some ⟨w.heap.size + 1 + 1 + 1, 0, none⟩) 1 1, .int .i64 (n : Int), .slice (some ⟨w.heap.size + 1 + 1 + 1 + 1, 0, none⟩) n n,
        .slice (some ⟨w.heap.size + 1 + 1 + 1 + 1, 0, none⟩) n n, .pointer (some ⟨w.heap.size, 0, none⟩), .int .i64 (sp : Int), .int .u8 (s.val : Int), v, .slice (some ⟨w.heap.size + 4, 0, none⟩) n n,
        .pointer (some ⟨w.heap.size, 1, none⟩), .int .i64 (la : Int), .pointer (some ⟨w.heap.size, 2, none⟩), .int .i64 (st : Int),
        .func (.func 211) #[] #[.pointer (some ⟨B2 + 2, 0, none⟩), .pointer (some ⟨B2, 0, none⟩), .pointer (some ⟨B2 + 1, 0, none⟩)],
        .func (.func gf) #[] lb, .int .u8 (x.val : Int), undef, undef, undef, undef, undef, undef], defers := [] }) ?assign ?body ?done ?stop
  case assign =>
    intro l x W K hK
    unfold encD
    gi_wp2
    exact hK
  case body =>
    rintro l pre x W ⟨hI, hB⟩ hlt
    obtain ⟨h1, h2, h3, h4, h5, h6, h7, h8⟩ := hI
    have cf := h6.cell
    have hwl : (wr L1 la st pre).length = n := by rw [wr_len]; exact HLen.out
    have hfit : la + st * pre.length ≤ 40 := by
      cases hp : pre.length with
      | zero => simp; omega
      | succ m =>
        have := h8 m (by omega)
        rw [Nat.mul_succ]; omega
    have hput := put_any4 (B2 + 2) B2 (B2 + 1) (w.heap.size + 4) n w.heap.size (la + st * pre.length) st (wr L1 la st pre) x W (by omega) (by omega) (by omega) h5 (by rw [hwl]; exact h3) h4 h7 (by omega) (by omega)
    have HP := Lib.hid hput
    have H1 := Lib.hid h1
    have H2 := Lib.hid h2
    have HI := Lib.hid (show BI w.heap.size B2 w3.heap.size n la st L1 pre W from ⟨h1, h2, h3, h4, h5, h6, h7, h8⟩)
    have HB := Lib.hid hB
    clear hput h1 h2 h3 h4 h5 h6 h7 h8 hB
    dsimp only
    gi_wp2_with fail
    refine ⟨trivial, (CallsIn.inRound l (callsIn_wide.2 HP.out)).mono ?_⟩
    rintro e W' (⟨hno, rfl, rfl⟩ | ⟨hlt2, rfl, q1, q2, q3, q4, q5⟩)
    · have c1 := H1.out.cell
      have f1 := H1.out.frozen
      have c2 := H2.out.cell
      have f2 := H2.out.frozen
      gi_wp2
      obtain ⟨h1, h2, h3, h4, h5, h6, h7, h8⟩ := HI.out
      have k1 := grownBy_setCell' W (w.heap.size + 1) (.slice (some ⟨w.heap.size + 4, 0, none⟩) n n)
      have k2 := grownBy_setCell' (W.setCell ⟨w.heap.size + 1, 0, none⟩ (.slice (some ⟨w.heap.size + 4, 0, none⟩) n n)) (w.heap.size + 2) (.bool true)
      refine ⟨((KeepsOthers.setCell _ _ _).trans (KeepsOthers.setCell _ _ _)).from _, ⟨rfl, (h1.set _).kept k2 (by simp), (h2.kept k1 (by simp)).set _, pre, x, rfl, (h7.kept k1 (by simp)).kept k2 (by simp), h8, by rw [← hwl]; exact hno⟩, ?_⟩
      exact (HB.out.setCell (p := ⟨w.heap.size + 1, 0, none⟩) (by simp) _).setCell (p := ⟨w.heap.size + 2, 0, none⟩) (by simp) _
    · gi_wp2
      obtain ⟨h1, h2, h3, h4, h5, h6, h7, h8⟩ := HI.out
      have e1 : la + st * (pre ++ [x]).length = la + st * pre.length + st := by rw [List.length_append, List.length_singleton, Nat.mul_succ]; omega
      refine ⟨q4.from _, q5, ⟨q3 _ _ _ (by decide) (by omega) h1, q3 _ _ _ (by decide) (by omega) h2, q3 _ _ _ (by decide) (by omega) h3, q3 _ _ _ (by decide) (by omega) h4, by rw [e1]; exact q1,
        q3 _ _ _ (by decide) (by rw [HSZ.out]; omega) h6, by rw [wr_snoc]; exact q2, fun j hj => ?_⟩, HB.out.trans q5⟩
      rcases Nat.lt_or_ge j pre.length with h | h
      · exact h8 j h
      · rw [List.length_append, List.length_singleton] at hj
        obtain rfl : j = pre.length := by omega
        omega
  case done =>
    rintro D ys W hD rfl ⟨hI, hB⟩ hK
    obtain ⟨h1, h2, h3, h4, h5, h6, h7, h8⟩ := hI
    have c1 := h1.cell
    have f1 := h1.frozen
    have c2 := h2.cell
    have f2 := h2.frozen
    gi_wp2
    have k1 := grownBy_setCell' W (w.heap.size + 1) (.slice (some ⟨w.heap.size + 4, 0, none⟩) n n)
    have k2 := grownBy_setCell' (W.setCell ⟨w.heap.size + 1, 0, none⟩ (.slice (some ⟨w.heap.size + 4, 0, none⟩) n n)) (w.heap.size + 2) (.bool false)
    have b1 := (h1.set (.slice (some ⟨w.heap.size + 4, 0, none⟩) n n)).kept k2 (by simp)
    have b2 := (h2.kept k1 (by simp)).set (.bool false)
    have b3 := (h7.kept k1 (by simp)).kept k2 (by simp)
    have hK2 := ((KeepsOthers.setCell W ⟨w.heap.size + 1, 0, none⟩ (.slice (some ⟨w.heap.size + 4, 0, none⟩) n n)).trans (KeepsOthers.setCell _ ⟨w.heap.size + 2, 0, none⟩ (.bool false))).same D _ hK rfl
    have hB2 := (hB.setCell (p := ⟨w.heap.size + 1, 0, none⟩) (by simp) (.slice (some ⟨w.heap.size + 4, 0, none⟩) n n)).setCell (p := ⟨w.heap.size + 2, 0, none⟩) (by simp) (.bool false)
    have hnr : ∀ r, some D = some r → ∃ o : Obj, ((W.setCell ⟨w.heap.size + 1, 0, none⟩ (.slice (some ⟨w.heap.size + 4, 0, none⟩) n n)).setCell ⟨w.heap.size + 2, 0, none⟩ (.bool false)).heap[r]? = some o ∧ o.isCells = false := fun r e => by cases e; exact ⟨_, hK2, rfl⟩
    have b1' := Boxed.ab b1 (grownBy_putObj' _ D (.deferred none)) hnr
    have b2' := Boxed.ab b2 (grownBy_putObj' _ D (.deferred none)) hnr
    have b3' := Blk.ab b3 (grownBy_putObj' _ D (.deferred none)) hnr
    refine ⟨by simp, .inl ⟨_, _, rfl, run_takeDeferred hK2, ?_⟩⟩
    refine ⟨_, results_cell2 rfl rfl rfl b1'.cell b2'.cell Tryz.underlying31 rfl Tryz.underlying4 rfl, w.heap.size + 4, ?_, ?_, hB2.trans (belowK_b (w := w) (Nat.le_refl _) _ D _ _ (by simp at hD; omega) hK2 rfl rfl)⟩
    · have hle : ys.length ≤ K := by
        rcases Nat.lt_or_ge K ys.length with h | h
        · exact absurd ((HK.out K).2 (h8 K h)) (Nat.lt_irrefl _)
        · exact h
      rw [decide_eq_false (by omega)]
    · have := wr_out n sp la st em s ys ys.length hst1 hsp HNE.out (Nat.le_refl _) h8 (.inl rfl)
      rw [List.take_length, ← HL1.out] at this
      rw [this] at b3'
      exact b3'
  case stop =>
    rintro D c pre W hD hp ⟨hX, hB⟩ hK
    obtain ⟨rfl, h1, h2, pre0, x, rfl, h3, h4, h5⟩ := hX
    gi_wp2
    have hnr : ∀ r, some D = some r → ∃ o : Obj, W.heap[r]? = some o ∧ o.isCells = false := fun r e => by cases e; exact ⟨_, hK, rfl⟩
    have b1' := Boxed.ab h1 (grownBy_putObj' _ D (.deferred none)) hnr
    have b2' := Boxed.ab h2 (grownBy_putObj' _ D (.deferred none)) hnr
    have b3' := Blk.ab h3 (grownBy_putObj' _ D (.deferred none)) hnr
    refine ⟨by simp, .inl ⟨_, _, rfl, run_takeDeferred hK, ?_⟩⟩
    refine ⟨_, results_cell2 rfl rfl rfl b1'.cell b2'.cell Tryz.underlying31 rfl Tryz.underlying4 rfl, w.heap.size + 4, ?_, ?_, hB.trans (belowK_b (w := w) (Nat.le_refl _) _ D _ _ (by simp at hD; omega) hK rfl rfl)⟩
    all_goals have hpl := hp.length_le
    all_goals rw [List.length_append, List.length_singleton] at hpl
    · have hle : K ≤ pre0.length := by
        rcases Nat.lt_or_ge pre0.length K with h | h
        · have := (HK.out pre0.length).1 h
          omega
        · exact h
      rw [decide_eq_true (by omega)]
    · have e1 : pre0 = ds.take pre0.length := by
        obtain ⟨t, ht⟩ := hp
        rw [← ht]
        simp
      have := wr_out n sp la st em s ds pre0.length hst1 hsp HNE.out (by omega) h4 (.inr h5)
      rw [← e1, ← HL1.out] at this
      rw [this] at b3'
      exact b3'

end E
end Go.Proofs.YtbcncohjjnmdcaaGreatDoor

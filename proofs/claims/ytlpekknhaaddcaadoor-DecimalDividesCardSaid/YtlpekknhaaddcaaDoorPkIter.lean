/- The contracts of the makers of closures: writer, digits, figures; of the layouts and of isSize; what the closures of digits and figures yield. -/
import Derived.RangeFuncNested
import Derived.RangeFuncBound
import Derived.RangeFuncCalls
import Derived.RangeFuncLeaves
import Derived.Shelf.Abstract
import Derived.Shelf.RegionOpen
import Derived.WalkKit
import Derived.OwnWalkIn
import Derived.TacticsInMore
import Derived.LoopNIn
import Derived.LoopIn
import Derived.Test.YtlpekknhaaddcaaDoorPkDig
namespace Go.Proofs.YtlpekknhaaddcaaDoor
open Go.RowKit Go.Shelf
set_option linter.unusedVariables false
namespace E
attribute [local go_sem] Oper.semAt_some

theorem isSize_any (n : Int) (w : World) : Calls Tryd.prog 82 #[.int .i64 n] w fun e w' => e = .returned (.bool (decide (1 ≤ n ∧ n ≤ 16))) ∧ w = w' := by
  by_cases h1 : 1 ≤ n
  · by_cases h2 : n ≤ 16
    · go_enter Tryd.func82, Tryd.ntmps82
      go_wp2
      go_ret
      exact ⟨by simp [h1, h2], rfl⟩
    · go_enter Tryd.func82, Tryd.ntmps82
      go_wp2
      go_ret
      exact ⟨by simp [h2], rfl⟩
  · go_enter Tryd.func82, Tryd.ntmps82
    go_wp2
    go_ret
    exact ⟨by rw [decide_eq_false (by omega)]; simp, rfl⟩
/-- The closure that writer makes. -/
def writerF (w : World) : Value := .func (.func 112) #[] #[.pointer (some ⟨w.heap.size + 2, 0, none⟩), .pointer (some ⟨w.heap.size, 0, none⟩), .pointer (some ⟨w.heap.size + 1, 0, none⟩)]
theorem boxed_new2 (w : World) (o : Obj) (t : TypeId) (v : Value) : Boxed ((w.alloc o).alloc (.cells #[v] t)) (w.heap.size + 1) t v := by
  have := Boxed.new (w.alloc o) t v
  rwa [World.size_alloc] at this
theorem boxed_new3 (w : World) (o o2 : Obj) (t : TypeId) (v : Value) : Boxed (((w.alloc o).alloc o2).alloc (.cells #[v] t)) (w.heap.size + 2) t v := by
  have := Boxed.new ((w.alloc o).alloc o2) t v
  rwa [World.size_alloc, World.size_alloc] at this
theorem writer_any (g n c la st : Nat) (w : World) : Calls Tryd.prog 107 #[.slice (some ⟨g, 0, none⟩) n c, .int .i64 (la : Int), .int .i64 (st : Int)] w fun e w' =>
    e = .returned (writerF w) ∧ Boxed w' w.heap.size 22 (.slice (some ⟨g, 0, none⟩) n c) ∧ Boxed w' (w.heap.size + 1) 3 (.int .i64 (st : Int)) ∧ Boxed w' (w.heap.size + 2) 3 (.int .i64 (la : Int)) ∧ w.grownBy w' none ∧ w'.heap.size = w.heap.size + 3 := by
  go_enter Tryd.func107, Tryd.ntmps107
  go_wp2
  go_ret
  exact ⟨rfl, ((Boxed.new w _ _).alloc _).alloc _, (boxed_new2 w _ _ _).alloc _, boxed_new3 w _ _ _ _, ((World.grownBy_alloc w _ none).trans (World.grownBy_alloc _ _ none)).trans (World.grownBy_alloc _ _ none), by simp⟩
/-- A layout's value. -/
def layV (sp la st : Nat) (em : UInt8) : Value := .agg #[.int .i64 (sp : Int), .int .i64 (la : Int), .int .i64 (st : Int), .int .u8 (em.toNat : Int)]
theorem packedLayout_any (w : World) : Calls Tryd.prog 83 #[] w (New w (layV 0 1 1 0)) := by
  go_enter Tryd.func83, Tryd.ntmps83
  go_wp2
  refine bodyPost_ret (results_cell_row rfl _ _ w.heap.size _ _ _ _ rfl (heap_alloc_new w _) Tryd.underlying98 rfl (by kernel_rfl)) rfl ?_
  exact ⟨rfl, below_new _ _⟩
/-- The closure that digits makes. -/
def digitsB (w : World) : Array Value := #[.pointer (some ⟨w.heap.size + 1, 0, none⟩), .pointer (some ⟨w.heap.size, 0, none⟩), .pointer (some ⟨w.heap.size + 2, 0, none⟩)]
theorem digits_any (p : Option Addr) (n c la st : Nat) (w : World) : Calls Tryd.prog 86 #[.slice p n c, .int .i64 (la : Int), .int .i64 (st : Int)] w fun e w' =>
    e = .returned (.func (.func 96) #[] (digitsB w)) ∧ Boxed w' w.heap.size 22 (.slice p n c) ∧ Boxed w' (w.heap.size + 1) 3 (.int .i64 (la : Int)) ∧ Boxed w' (w.heap.size + 2) 3 (.int .i64 (st : Int)) ∧ w.grownBy w' none := by
  go_enter Tryd.func86, Tryd.ntmps86
  go_wp2
  go_ret
  exact ⟨rfl, ((Boxed.new w _ _).alloc _).alloc _, (boxed_new2 w _ _ _).alloc _, boxed_new3 w _ _ _ _, ((World.grownBy_alloc w _ none).trans (World.grownBy_alloc _ _ none)).trans (World.grownBy_alloc _ _ none)⟩
/-- The closure that figures makes. -/
def figuresB (w : World) : Array Value := #[.pointer (some ⟨w.heap.size, 0, none⟩)]
theorem figures_any (s : ByteArray) (w : World) : Calls Tryd.prog 100 #[.string s] w fun e w' =>
    e = .returned (.func (.func 108) #[] (figuresB w)) ∧ Boxed w' w.heap.size 9 (.string s) ∧ w.grownBy w' none := by
  go_enter Tryd.func100, Tryd.ntmps100
  go_wp2
  go_ret
  exact ⟨rfl, Boxed.new w _ _, World.grownBy_alloc w _ none⟩

/-- What is yielded for a digit. -/
def encD (d : Fin 16) : Array Value := #[.int .u8 (d.val : Int)]
set_option maxRecDepth 100000 in
set_option maxHeartbeats 1000000 in
theorem digits1_in (F : Fence) (hF : F = Fence.wide) (n : Nat) (hro : F.round = none) (hn : 1 ≤ n) (l Bf Bb Bs n₀ : Nat) (p : Option Addr) (c la st K : Nat) (bs : List UInt8) (J Jx : List (Fin 16) → World → Prop)
    (hbn : bs.length ≤ 1000) (hla : la ≤ 4) (hst : st ≤ 2) (hst1 : 1 ≤ st) (hK : ∀ i, i < K ↔ la + st * i < 2 * bs.length)
    (hY : ∀ pre x W, J pre W → pre.length < K → YieldAt F (n - 1) Tryd.prog l (encD x) W fun e W' =>
      (e = .returned (.bool true) ∧ J (pre ++ [x]) W' ∧ Below n₀ W W') ∨ (e = .returned (.bool false) ∧ Jx (pre ++ [x]) W'))
    (W : World) (h1 : Bf < n₀) (h2 : Bb < n₀) (h3 : Bs < n₀) (bf : Boxed W Bf 3 (.int .i64 (la : Int))) (bb : Boxed W Bb 22 (.slice p bs.length c)) (bst : Boxed W Bs 3 (.int .i64 (st : Int)))
    (hr : ∀ W', Below n₀ W W' → Rd W' p bs) (h0 : J [] W) :
    CallsIn F n Tryd.prog 96 #[.func (.yield l) #[] #[], .pointer (some ⟨Bf, 0, none⟩), .pointer (some ⟨Bb, 0, none⟩), .pointer (some ⟨Bs, 0, none⟩)] W fun e W' => (∃ v, e = .returned v) ∧
      ((∃ ys, ys = dg bs la st K ∧ J ys W') ∨ (∃ pre, pre <+: dg bs la st K ∧ Jx pre W')) := by
  subst hF
  have cf := bf.cell
  refine callsIn_of_wp Tryd.func96 rfl trivial ?_ hro
  simp only [Tryd.ntmps96, List.size_toArray, List.length_cons, List.length_nil, Nat.reduceAdd, Nat.reduceSub, Array.replicate_succ, Array.replicate_zero, List.push_toArray, List.append_toArray, List.nil_append, List.cons_append]
  gi_wp2
  gi_loopw [5] (fun i wr => ∃ k : Nat, k ≤ K ∧ i = .int .i64 ((la + st * k : Nat) : Int) ∧ Below n₀ W wr ∧ J (dg bs la st k) wr) (fun i _ => 2 * bs.length - (intOf i).toNat)
  case atStart =>
    exact ⟨0, Nat.zero_le _, by simp, Below.refl _ _, h0⟩
  case round =>
    obtain ⟨k, hk, rfl, hbk, hJ⟩ := hrel
    have cb := (hbk.cell (p := ⟨Bb, 0, none⟩) h2).trans bb.cell
    by_cases hlt : k < K
    · have hq := (hK k).1 hlt
      obtain ⟨q, hqe⟩ : ∃ q, q = la + st * k := ⟨_, rfl⟩
      have hd := Lib.hid (digitAt_any p c q bs wr hbn (by omega) (hr wr hbk))
      obtain ⟨fn, tmps, assign, body, hy, hR⟩ := hY (dg bs la st k) (nib bs q) wr hJ (by rw [dg_len]; exact hlt)
      have hR' := Lib.hid hR
      have HJ := Lib.hid hJ
      have HQ := Lib.hid hqe
      have HB := Lib.hid hbk
      unfold encD at hy
      rw [← hqe] at hq ⊢
      clear hqe hR hJ hbk hY hr
      gi_wp2_with (refine ⟨trivial, ?_⟩; gi_at_call 84; refine (callsIn_wide.2 hd.out).mono ?_; rintro e w' ⟨rfl, rfl⟩)
      refine hR'.out.mono ?_
      rintro e W3 (⟨rfl, hJ3, hk3⟩ | ⟨rfl, hJx3⟩)
      · have hb3 := HB.out.trans hk3
        have cs3 := (hb3.cell (p := ⟨Bs, 0, none⟩) h3).trans bst.cell
        have HB3 := Lib.hid hb3
        clear hb3 hk3
        gi_wp2
        go_roundw
        case rel => exact ⟨k + 1, hlt, by rw [show la + st * (k + 1) = q + st by rw [HQ.out, Nat.mul_succ]; omega]; go_num, HB3.out, by rw [dg_succ, ← HQ.out]; exact hJ3⟩
        case measure => simp [intOf]; omega
      · gi_wp2
        refine bodyPost_ret (results_none rfl _ _ _) rfl ?_
        exact ⟨⟨_, rfl⟩, .inr ⟨dg bs la st k ++ [nib bs q], by rw [HQ.out, ← dg_succ, ← dg_take bs la st (k + 1) K hlt]; exact List.take_prefix _ _, hJx3⟩⟩
    · obtain rfl : k = K := by omega
      have hq : 2 * bs.length ≤ la + st * k := by have := (not_congr (hK k)).1 hlt; omega
      generalize la + st * k = q at *
      gi_wp2
      go_end0
      exact ⟨⟨_, rfl⟩, .inl ⟨_, rfl, hJ⟩⟩
/-- The iterator of a field's digits yields them, from the place la on. -/
theorem digits_stops (n : Nat) (hn : 1 ≤ n) (Bf Bb Bs : Nat) (p : Option Addr) (c la st K : Nat) (bs : List UInt8) (w : World)
    (hbn : bs.length ≤ 1000) (hla : la ≤ 4) (hst : st ≤ 2) (hst1 : 1 ≤ st) (hK : ∀ i, i < K ↔ la + st * i < 2 * bs.length)
    (bf : Boxed w Bf 3 (.int .i64 (la : Int))) (bb : Boxed w Bb 22 (.slice p bs.length c)) (bst : Boxed w Bs 3 (.int .i64 (st : Int))) (hr : Rd w p bs) :
    SeqStopsK Fence.wide n Tryd.prog 96 #[.pointer (some ⟨Bf, 0, none⟩), .pointer (some ⟨Bb, 0, none⟩), .pointer (some ⟨Bs, 0, none⟩)] encD (Below w.heap.size) (fun ys => ys = dg bs la st K) (fun pre => pre <+: dg bs la st K) K w := fun l J Jx W hW _ _ hY h0 =>
  digits1_in Fence.wide rfl n rfl hn l Bf Bb Bs w.heap.size p c la st K bs J Jx hbn hla hst hst1 hK hY W bf.lt bb.lt bst.lt (hW.block Bf bf.lt |>.trans bf) (hW.block Bb bb.lt |>.trans bb) (hW.block Bs bst.lt |>.trans bst) (fun W' hb => hr.below (hW.trans (hb.mono (Nat.le_refl _)))) h0

theorem fg_take {l : List UInt8} {k q : Nat} (h : q + 1 + k = l.length) : (fg l).take (k + 1) = (fg l).take k ++ [dgt (gt l q)] := by
  have hkl : k < (fg l).length := by rw [fg_len]; omega
  have e : (fg l)[k] = dgt (gt l q) := by
    have : (fg l)[k]? = some (dgt (gt l q)) := by
      unfold fg
      rw [List.getElem?_reverse (by simp; omega), List.getElem?_map, List.length_map, show l.length - 1 - k = q by omega, List.getElem?_eq_getElem (by omega), gt_lt (by omega)]
      rfl
    rw [List.getElem?_eq_getElem hkl] at this
    exact Option.some.inj this
  rw [List.take_succ_eq_append_getElem hkl, e]
set_option maxRecDepth 100000 in
set_option maxHeartbeats 1000000 in
theorem figures1_in (F : Fence) (hF : F = Fence.wide) (n : Nat) (hro : F.round = none) (hn : 1 ≤ n) (l B n₀ : Nat) (s : ByteArray) (bs : List UInt8) (J Jx : List (Fin 16) → World → Prop)
    (hs : s.data.toList = bs) (hbn : bs.length ≤ 1000) (hd : ∀ j, j < bs.length → isD (gt bs j) = true)
    (hY : ∀ pre x W, J pre W → pre.length < bs.length → YieldAt F (n - 1) Tryd.prog l (encD x) W fun e W' =>
      (e = .returned (.bool true) ∧ J (pre ++ [x]) W' ∧ Below n₀ W W') ∨ (e = .returned (.bool false) ∧ Jx (pre ++ [x]) W'))
    (W : World) (h1 : B < n₀) (bf : Boxed W B 9 (.string s)) (h0 : J [] W) :
    CallsIn F n Tryd.prog 108 #[.func (.yield l) #[] #[], .pointer (some ⟨B, 0, none⟩)] W fun e W' => (∃ v, e = .returned v) ∧
      ((∃ ys, ys = fg bs ∧ J ys W') ∨ (∃ pre, pre <+: fg bs ∧ Jx pre W')) := by
  subst hF
  have cf := bf.cell
  have hln : bs.length = s.size := by rw [← hs]; rfl
  have hstr : ∀ k (h : k < s.size), s[k] = gt bs k := fun k h => by rw [← hs]; exact str_at s k h
  have HS := Lib.hid hstr
  have HL := Lib.hid hln
  have HD := Lib.hid hd
  rw [hln] at hbn hY
  clear hs hstr hln hd
  refine callsIn_of_wp Tryd.func108 rfl trivial ?_ hro
  simp only [Tryd.ntmps108, List.size_toArray, List.length_cons, List.length_nil, Nat.reduceAdd, Nat.reduceSub, Array.replicate_succ, Array.replicate_zero, List.push_toArray, List.append_toArray, List.nil_append, List.cons_append]
  gi_wp2
  gi_loopw [3] (fun i wr => ∃ k : Nat, k ≤ s.size ∧ i = .int .i64 ((s.size : Int) - 1 - k) ∧ Below n₀ W wr ∧ J ((fg bs).take k) wr) (fun i _ => (intOf i + 1).toNat)
  case atStart =>
    exact ⟨0, Nat.zero_le _, by simp, Below.refl _ _, h0⟩
  case round =>
    obtain ⟨k, hk, rfl, hbk, hJ⟩ := hrel
    have cb := (hbk.cell (p := ⟨B, 0, none⟩) h1).trans bf.cell
    by_cases hlt : k < s.size
    · obtain ⟨q, hq⟩ : ∃ q, q + 1 + k = s.size := ⟨s.size - 1 - k, by omega⟩
      have hqs : q < s.size := by omega
      have e1 : (s.size : Int) - 1 - k = (q : Int) := by omega
      have hx := HD.out q (by rw [HL.out]; omega)
      have hx2 := (isD_iff _).1 hx
      have hv : ((gt bs q).toNat : Int) - 48 = ((dgt (gt bs q)).val : Int) := by rw [dgt_nat hx2]; omega
      have htk := fg_take (l := bs) (k := k) (q := q) (by rw [HL.out]; exact hq)
      obtain ⟨fn, tmps, assign, body, hy, hR⟩ := hY ((fg bs).take k) (dgt (gt bs q)) wr hJ (by rw [List.length_take]; omega)
      have hR' := Lib.hid hR
      have HJ := Lib.hid hJ
      have HB := Lib.hid hbk
      have HT := Lib.hid htk
      have hsq := HS.out q hqs
      unfold encD at hy
      rw [← hv] at hy
      rw [e1]
      clear hR hJ hbk hY htk hx hv
      gi_wp2
      refine hR'.out.mono ?_
      rintro e W3 (⟨rfl, hJ3, hk3⟩ | ⟨rfl, hJx3⟩)
      · have HB3 := Lib.hid (HB.out.trans hk3)
        clear hk3
        gi_wp2
        go_roundw
        case rel => exact ⟨k + 1, hlt, by rw [show (s.size : Int) - 1 - ((k + 1 : Nat) : Int) = (q : Int) - 1 by omega], HB3.out, by rw [HT.out]; exact hJ3⟩
        case measure => simp [intOf]
      · gi_wp2
        refine bodyPost_ret (results_none rfl _ _ _) rfl ?_
        exact ⟨⟨_, rfl⟩, .inr ⟨(fg bs).take k ++ [dgt (gt bs q)], by rw [← HT.out]; exact List.take_prefix _ _, hJx3⟩⟩
    · obtain rfl : k = s.size := by omega
      rw [← HL.out, ← fg_len bs, List.take_length] at hJ
      have HJ := Lib.hid hJ
      clear hJ hY
      rw [show (s.size : Int) - 1 - s.size = -1 by omega]
      gi_wp2
      go_end0
      exact ⟨⟨_, rfl⟩, .inl ⟨_, rfl, HJ.out⟩⟩
/-- The iterator of a number's digits yields them, the last one first. -/
theorem figures_stops (n : Nat) (hn : 1 ≤ n) (B : Nat) (s : ByteArray) (bs : List UInt8) (w : World) (hs : s.data.toList = bs) (hbn : bs.length ≤ 1000) (hd : ∀ j, j < bs.length → isD (gt bs j) = true) (bf : Boxed w B 9 (.string s)) :
    SeqStopsK Fence.wide n Tryd.prog 108 #[.pointer (some ⟨B, 0, none⟩)] encD (Below w.heap.size) (fun ys => ys = fg bs) (fun pre => pre <+: fg bs) bs.length w := fun l J Jx W hW _ _ hY h0 =>
  figures1_in Fence.wide rfl n rfl hn l B w.heap.size s bs J Jx hs hbn hd hY W bf.lt (hW.block B bf.lt |>.trans bf) h0

end E
end Go.Proofs.YtlpekknhaaddcaaDoor

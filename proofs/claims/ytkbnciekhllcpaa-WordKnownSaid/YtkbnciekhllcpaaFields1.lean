/- The statement WordFields: what its walks share, and the walk where no field is put. -/
import Derived.Test.YtkbnciekhllcpaaRows
import Derived.WalkKit
import Derived.ProofKit
import Derived.Deep.QuietTactic
import Derived.BigQuiet
import Derived.OwnWalk
import Derived.Laws.CopyOwn
import Derived.Laws.AppendOwn
import Derived.Laws.OwnMore
import Derived.Laws.AppendOwnNone
import Derived.Deep.Draws
import Derived.Lib.Hide
import Derived.Test.YtkbnciekhllcpaaWordPut
import Derived.Test.YtkbnciekhllcpaaWordLaws
namespace Go.Proofs.Ytkbnciekhllcpaa
open Go.RowKit
set_option linter.unusedVariables false
namespace W

/-- A slice that came in: nil, or bytes in memory. -/
def Src (w : World) (p : Option Addr) (c : Nat) (l : List Int) : Prop := (l = [] ∧ (p = none → c = 0)) ∨ ∃ B off, p = some ⟨B, off, none⟩ ∧ Bytes w B off l.length (fun j => l.getD j 0)
theorem Src.rd {w : World} {p : Option Addr} {c : Nat} {l : List Int} (h : Src w p c l) : Rd w p l := by
  rcases h with ⟨h, _⟩ | ⟨B, off, hp, hc⟩
  · exact .inl h
  · exact .inr ⟨B, off, hp, hc⟩
theorem Src.below {w w' : World} {p : Option Addr} {c : Nat} {l : List Int} (h : Src w p c l) (hb : Below w.heap.size w w') : Src w' p c l := by
  rcases h with h | ⟨B, off, hp, hc⟩
  · exact .inl h
  · refine .inr ⟨B, off, hp, fun j hj => ?_⟩
    rw [hb.cell (World.block_lt_of_cell? w _ (hc j hj))]; exact hc j hj

theorem lent_any (p : Option Addr) (c : Nat) (l : List Int) (w : World) (hn : l.length ≤ 4096) (hs : Src w p c l) :
    Calls Try.prog 19 #[.slice p l.length c] w (LentPost w l) := by
  rcases hs with ⟨rfl, hcn⟩ | ⟨B, off, rfl, hc⟩
  · cases p with
    | none => rw [hcn rfl]; exact lent_nil w
    | some ad => exact lent_some ad c [] w hn (fun j u hu => by simp [bs] at hu)
  · refine lent_some ⟨B, off, none⟩ c l w hn (fun j u hu => ?_)
    obtain ⟨hj, rfl⟩ := bs_at hu
    rw [addNone, (below_new w _).cell (World.block_lt_of_cell? w _ (hc j hj))]
    exact hc j hj
theorem lentForm {w w' : World} {l : List Int} {e : Ending} (h : LentPost w l e w') : ∃ g cap, e = .returned (.slice (some ⟨g, 0, none⟩) (l.length + 8) cap) ∧ l.length + 8 ≤ cap ∧ w.heap.size ≤ g ∧ Below w.heap.size w w' ∧
    (∀ j, j < l.length + 8 → w'.cell? ⟨g, j, none⟩ = some (.int .u8 ((l ++ List.replicate 8 7).getD j 0))) := by
  obtain ⟨sv, he, ho, hb⟩ := h
  have ho' := ho
  obtain ⟨_, ⟨_, h0⟩ | ⟨g, cap, cur, hv, hg, _, hle, _, _, _⟩⟩ := ho
  · omega
  · subst hv
    refine ⟨g, cap, he, hle, hg, hb, fun j hj => ?_⟩
    rw [ho'.cellAt j (by omega)]
    have hj' : j < (l ++ List.replicate 8 7).length := by simp; omega
    simp only [bs, List.getElem?_map, List.getD_eq_getElem?_getD, List.getElem?_eq_getElem hj']
    rfl
theorem bytesPart {w : World} {g : Nat} {l : List Int} (h : ∀ j, j < l.length + 8 → w.cell? ⟨g, j, none⟩ = some (.int .u8 ((l ++ List.replicate 8 7).getD j 0))) : Bytes w g 0 l.length (fun j => l.getD j 0) := fun j hj => by
  rw [Nat.zero_add, h j (by omega)]
  simp [List.getD_eq_getElem?_getD, List.getElem?_append_left hj]
theorem allBelow {w w' : World} {g : Nat} {l : List Int} (h : ∀ j, j < l.length + 8 → w.cell? ⟨g, j, none⟩ = some (.int .u8 ((l ++ List.replicate 8 7).getD j 0))) (hb : Below w.heap.size w w') :
    ∀ j, j < l.length + 8 → w'.cell? ⟨g, j, none⟩ = some (.int .u8 ((l ++ List.replicate 8 7).getD j 0)) := fun j hj => by
  rw [hb.cell (World.block_lt_of_cell? w _ (h j hj))]; exact h j hj
/-- What stands through the whole statement: nothing that was there has changed, the argument reads as it did, and what was lent is as it was. -/
def St (w : World) (p : Option Addr) (c : Nat) (l : List Int) (g : Nat) (W : World) : Prop :=
  Below w.heap.size w W ∧ Src W p c l ∧ w.heap.size ≤ g ∧ ∀ j, j < l.length + 8 → W.cell? ⟨g, j, none⟩ = some (.int .u8 ((l ++ List.replicate 8 7).getD j 0))
theorem St.next {w W W' : World} {p : Option Addr} {c g : Nat} {l : List Int} (h : St w p c l g W) (hb : Below W.heap.size W W') : St w p c l g W' :=
  ⟨h.1.trans (hb.mono h.1.size), h.2.1.below hb, h.2.2.1, allBelow h.2.2.2 hb⟩
theorem belowDraw (w : World) (m : Nat) : Below w.heap.size w (w.drewN m) := by
  induction m with
  | zero => exact Below.refl _ _
  | succ m ih => exact ih.drew
theorem St.draw {w W : World} {p : Option Addr} {c g : Nat} {l : List Int} (h : St w p c l g W) (m : Nat) : St w p c l g (W.drewN m) := h.next (belowDraw W m)
theorem rdNil (W : World) (q : Option Addr) : Rd W q [] := .inl rfl

/-- What both puts leave: a new row with these bytes. -/
def Put1 (w : World) (n : Nat) (xs : List Int) (e : Ending) (w' : World) : Prop :=
  ∃ gd cap, e = .returned (.tuple #[.slice (some ⟨gd, 0, none⟩) n cap, .bool true]) ∧ w.heap.size ≤ gd ∧ Below w.heap.size w w' ∧ w'.ownsRow w.heap.size 5 1 (.slice (some ⟨gd, 0, none⟩) n cap) n (bs xs)
theorem putEq (l : List Int) (v : Int) (k m n : Nat) (fs : List Int) (hl : l.length = n) (hk : k + m ≤ n) (hm : fs.length = m) (hfs : ∀ j, j < m → fs.getD j 0 = rb v m j) : pl2 (fun j => l.getD j 0) v k m n = putL l k fs := by
  apply List.ext_getElem?
  intro i
  by_cases hi : i < n
  · simp only [pl2, List.getElem?_map, List.getElem?_range hi, Option.map_some, pj, putL]
    by_cases h1 : i < k
    · rw [if_neg (by omega), List.getElem?_append_left (by simp; omega), List.getElem?_take, if_pos h1, List.getElem?_eq_getElem (by omega), List.getD_eq_getElem?_getD, List.getElem?_eq_getElem (by omega)]; rfl
    · by_cases h2 : i < k + m
      · rw [if_pos ⟨by omega, h2⟩, List.getElem?_append_right (by simp; omega), List.getElem?_append_left (by simp; omega)]
        have e : i - (l.take k).length = i - k := by simp; omega
        rw [e, ← hfs (i - k) (by omega), List.getD_eq_getElem?_getD, List.getElem?_eq_getElem (by omega)]; rfl
      · rw [if_neg (by omega), List.getElem?_append_right (by simp; omega), List.getElem?_append_right (by simp; omega), List.getElem?_drop]
        have e : k + fs.length + (i - (l.take k).length - fs.length) = i := by simp; omega
        rw [e, List.getElem?_eq_getElem (by omega), List.getD_eq_getElem?_getD, List.getElem?_eq_getElem (by omega)]; rfl
  · have h1 : (pl2 (fun j => l.getD j 0) v k m n).length ≤ i := by simp [pl2]; omega
    have h2 : (putL l k fs).length ≤ i := by rw [putL_len (by omega)]; omega
    rw [List.getElem?_eq_none h1, List.getElem?_eq_none h2]
theorem ownOf (W : World) (base gd n : Nat) (xs : List Int) (hn : xs.length = n) (hm : n ≤ 9223372036854775807) (hg : base ≤ gd) (h : W.heap[gd]? = some (.cells (bs xs).toArray 5 (0, 0))) : W.ownsRow base 5 1 (.slice (some ⟨gd, 0, none⟩) n n) n (bs xs) :=
  ⟨by rw [bs_len, hn, Nat.mul_one], .inr ⟨gd, n, (bs xs).toArray, rfl, hg, h, Nat.le_refl _, by unfold maxLen; omega, by simp [bs_len, hn], by simp [bs_len, hn, List.take_of_length_le]⟩⟩
theorem Put1.ofRef {w : World} {f : Nat → Int} {v : Int} {k m n : Nat} {xs : List Int} {e : Ending} {w' : World} (h : PutPost w f v k m n e w') (hn : 0 < n) (hx : pl2 f v k m n = xs) : Put1 w n xs e w' := by
  obtain ⟨sv, he, ho, hb⟩ := h
  subst hx
  have ho' := ho
  obtain ⟨_, ⟨_, h0⟩ | ⟨gd, cap, cur, hv, hg, _, _, _, _, _⟩⟩ := ho
  · omega
  · subst hv
    exact ⟨gd, cap, he, hg, hb, ho'⟩
theorem ownBelow {W W' : World} {base gd n cap : Nat} {xs : List Value} (h : W.ownsRow base 5 1 (.slice (some ⟨gd, 0, none⟩) n cap) n xs) (hb : Below W.heap.size W W') : W'.ownsRow base 5 1 (.slice (some ⟨gd, 0, none⟩) n cap) n xs := by
  have hlt := (h.lt gd rfl).2
  obtain ⟨hl, h0 | ⟨g, c, cur, hv, hg, hh, h1, h2, h3, h4⟩⟩ := h
  · exact absurd h0.1 (by simp)
  · refine ⟨hl, .inr ⟨g, c, cur, hv, hg, ?_, h1, h2, h3, h4⟩⟩
    simp at hv
    obtain ⟨rfl, rfl⟩ := hv
    rw [hb.block _ hlt]; exact hh
theorem ownRd {W : World} {base gd n cap : Nat} {xs : List Int} (h : W.ownsRow base 5 1 (.slice (some ⟨gd, 0, none⟩) n cap) n (bs xs)) (hn : xs.length = n) : Rd W (some ⟨gd, 0, none⟩) xs := by
  refine .inr ⟨_, _, rfl, fun j hj => ?_⟩
  rw [Nat.zero_add, h.cellAt j (by omega)]
  simp [bs, List.getD_eq_getElem?_getD, List.getElem?_eq_getElem hj]
theorem St.grown {w W W' : World} {p : Option Addr} {c g gd : Nat} {l : List Int} (h : St w p c l g W) (hg : W.grownBy W' (some gd)) (h1 : w.heap.size ≤ gd) (h2 : gd ≠ g) (hw : Src w p c l) : St w p c l g W' := by
  obtain ⟨hb, hs, hgg, ha⟩ := h
  have hb' : Below w.heap.size w W' := hb.grown hg hb.size (fun r hr => by injection hr with hr; omega)
  refine ⟨hb', hw.below hb', hgg, fun j hj => ?_⟩
  have hc := ha j hj
  have hlt := World.block_lt_of_cell? W _ hc
  rw [World.cell?_of_block (hg.block g hlt (by simp; omega))]; exact hc
theorem grownTrans {a b c : World} {r : Option Nat} (h : a.grownBy b r) (k : b.grownBy c r) : a.grownBy c r :=
  ⟨k.os.trans h.os, k.tape.trans h.tape, k.output.trans h.output, Nat.le_trans h.size k.size, fun i hi hne => (k.block i (Nat.lt_of_lt_of_le hi h.size) hne).trans (h.block i hi hne)⟩
theorem grownSelf (a : World) (r : Option Nat) : a.grownBy a r := ⟨rfl, rfl, rfl, Nat.le_refl _, fun _ _ _ => rfl⟩
theorem bs_set (xs : List Int) (j : Nat) (x : Int) : (bs xs).set j (.int .u8 x) = bs (xs.set j x) := by simp [bs, List.map_set]
theorem IsB.set {xs : List Int} (h : IsB xs) (j : Nat) (x : Int) (hx : 0 ≤ x ∧ x < 256) : IsB (xs.set j x) := fun y hy => by
  rcases List.mem_or_eq_of_mem_set hy with hy | rfl
  · exact h y hy
  · exact hx

set_option maxRecDepth 100000 in
theorem fields_none (p : Option Addr) (c : Nat) (l : List Int) (at' v : Int) (w : World) (hn : l.length ≤ 4096) (hs : Src w p c l) (a0 : -9223372036854775808 ≤ at') (a1 : at' < 9223372036854775808) (v0 : 0 ≤ v) (v1 : v < 4294967296)
    (h : ¬ (0 ≤ at' ∧ at' + 2 ≤ l.length)) :
    Calls Try.prog 3 #[.slice p l.length c, .int .i64 at', .int .u32 v] w fun e w' => e = .returned (.bool true) ∧ Below w.heap.size w w' := by
  have h4 : ¬ (0 ≤ at' ∧ at' + 4 ≤ l.length) := by omega
  have hn' : l.length ≤ 9223372036854775807 := by omega
  have HN := Lib.hid h; clear h
  have HN4 := Lib.hid h4; clear h4
  have LE := Lib.hid (fun W (h : Src W p c l) => lent_any p c l W hn h)
  have KE := Lib.hid (fun g c' W (h1 : l.length + 8 ≤ c') h2 (h : Src W p c l) => kept_true g c' c p l W hn h1 h2 h.rd)
  go_enter Try.func3, Try.ntmps3
  go_wp2_with fail
  refine (works_any _).mono ?_
  rintro e w1 ⟨rfl, _, hb1⟩
  have hs1 := hs.below hb1
  have HS1 := Lib.hid hs1; clear hs1 hs
  go_wp2_with fail
  refine (LE.out _ HS1.out).mono ?_
  intro e w2 hlp
  obtain ⟨g, cap, rfl, hcap, hg, hb2, hall⟩ := lentForm hlp
  have hst : St w p c l g w2 := ⟨hb1.trans (hb2.mono hb1.size), HS1.out.below hb2, Nat.le_trans hb1.size hg, hall⟩
  have HST := Lib.hid hst
  clear hlp hall hst hb1 hb2 HS1 hg
  go_wp2_with fail
  refine (wHalf_no _ _ _ _ _ hn' HN.out).mono ?_
  rintro e w' ⟨rfl, rfl⟩
  go_wp2_with fail
  refine (rHalf_no _ _ _ _ _ a0 a1 hn' HN.out).mono ?_
  rintro e w' ⟨rfl, rfl⟩
  go_wp2_with fail
  refine (wFull_no _ _ _ _ _ hn' HN4.out).mono ?_
  rintro e w' ⟨rfl, rfl⟩
  go_wp2_with fail
  refine (rFull_no _ _ _ _ _ a0 a1 hn' HN4.out).mono ?_
  rintro e w' ⟨rfl, rfl⟩
  go_wp2_with fail
  refine (wPutHalf_no _ _ _ _ _ _ v0 v1 hn' HN.out).mono ?_
  rintro e w3 ⟨rfl, hb3, _⟩
  have HST3 := Lib.hid (HST.out.next hb3)
  clear HST hb3
  go_wp2_with fail
  refine (rPutHalf_no _ _ _ _ _ _ a0 a1 hn' HN.out).mono ?_
  rintro e w' ⟨rfl, rfl⟩
  go_wp2_with fail
  refine (wPutFull_no _ _ _ _ _ _ v0 v1 hn' HN4.out).mono ?_
  rintro e w4 ⟨rfl, hb4, _⟩
  have HST4 := Lib.hid (HST3.out.next hb4)
  clear HST3 hb4
  go_wp2_with fail
  refine (rPutFull_no _ _ _ _ _ _ a0 a1 hn' HN4.out).mono ?_
  rintro e w' ⟨rfl, rfl⟩
  go_wp2_with fail
  refine (same_true none none 0 0 [] _ (by decide) (rdNil _ _) (rdNil _ _)).mono ?_
  rintro e w' ⟨rfl, m1, rfl⟩
  go_wp2_with fail
  refine (same_true none none 0 0 [] _ (by decide) (rdNil _ _) (rdNil _ _)).mono ?_
  rintro e w' ⟨rfl, m2, rfl⟩
  have HST5 := Lib.hid (HST4.out.draw (m1 + m2))
  have HST4' := Lib.hid HST4.out
  clear HST4
  go_wp2
  go_loop [24] (fun i => i = .int .i64 0) (fun _ => 0)
  case atStart => rfl
  case round =>
    subst hrel
    go_wp2
    go_loop [25] (fun i => i = .int .i64 0) (fun _ => 0)
    case atStart => rfl
    case round =>
      subst hrel
      go_wp2_with fail
      refine (KE.out _ _ _ hcap HST5.out.2.2.2 HST5.out.2.1).mono ?_
      rintro e w' ⟨rfl, m3, rfl⟩
      go_wp2
      go_ret
      exact ⟨rfl, (HST4'.out.draw (m1 + m2 + m3)).1⟩

end W
end Go.Proofs.Ytkbnciekhllcpaa

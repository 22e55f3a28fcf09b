/- Storages: the methods of the program. -/
import Derived.Test.YtbcncohjjnmdcaaGreatDoorRows
import Derived.Test.YtbcncohjjnmdcaaGreatDoorStGrant
namespace Go.Proofs.YtbcncohjjnmdcaaGreatDoor
open Go.RowKit Go.Shelf
set_option linter.unusedVariables false
namespace E
attribute [local go_sem] Oper.semAt_some

set_option maxRecDepth 100000 in
theorem refusalS_no (a g nn : Nat) (x k : Int) (v : Value) (w : World) (hx : x ≤ 9223372036854775807) (hn : nn ≤ 65536) (hc : w.cell? ⟨a, 0, none⟩ = some (.slice (some ⟨g, 0, none⟩) nn nn)) (hi : inB nn x k = false) :
    Calls Tryz.prog 42 #[.pointer (some ⟨a, 0, none⟩), .int .i64 x, .int .i64 k, v] w (New w (.int .i64 5)) := by
  have H1 := Lib.hid (holds_any a g nn x k (w.alloc (.cells #[.int .i64 0] 3)) hx hn (Lib.cell?_alloc_some _ hc))
  rw [hi] at H1
  go_enter Tryz.func42, Tryz.ntmps42
  go_wp2_with fail
  refine H1.out.mono ?_
  rintro e w1 ⟨rfl, rfl⟩
  go_wp2
  refine bodyPost_ret (results_cell1 rfl rfl (v := .int .i64 5) (by simp [go_sem]) Tryz.underlying3 rfl) rfl ?_
  exact ⟨rfl, by simpa using below_new w _⟩
set_option maxRecDepth 100000 in
set_option maxHeartbeats 2000000 in
theorem refusalS_yes (a g h nn m K : Nat) (x k : Nat) (bs ks : List UInt8) (key : Int) (w : World) (hxk : x + k ≤ nn) (hst : Sto w a g h nn m bs ks) (hkey : Boxed w K 3 (.int .i64 key)) :
    Calls Tryz.prog 42 #[.pointer (some ⟨a, 0, none⟩), .int .i64 (x : Int), .int .i64 (k : Int), (storesV K)] w (New w (.int .i64 (if allB (stP key) ks x k = true then 0 else 4))) := by
  refine (callsIn_wide (n := 5)).1 ?_
  have hro : Fence.wide.round = none := rfl
  have hn : nn ≤ 65536 := by have := hst.nums; omega
  obtain ⟨c, hc⟩ : ∃ c : Int, c = if allB (stP key) ks x k = true then 0 else 4 := ⟨_, rfl⟩
  rw [← hc]
  have HC := Lib.hid hc
  clear hc
  have hin : inB nn (x : Int) (k : Int) = true := inB_iff.2 ⟨by omega, by omega, by omega⟩
  have hstA := hst.below (below_new w (.cells #[.int .i64 0] 3))
  have H1 := Lib.hid (holds_any a g nn (x : Int) (k : Int) (w.alloc (.cells #[.int .i64 0] 3)) (by omega) hn hstA.c0)
  rw [hin] at H1
  have HG := Lib.hid (grants_any a x k)
  have HXK := Lib.hid hxk
  have HST := Lib.hid hst
  have HGL := Lib.hid (grL_all (stP key) ks x k)
  have hgf := Lib.hid (enters_of Tryz.func148 (by kernel_rfl) rfl)
  have HKEY := Lib.hid hkey
  obtain ⟨ds, hds⟩ : ∃ ds, ds = grL (stP key) ks x (blkN x k) := ⟨_, rfl⟩
  have HDS := Lib.hid hds
  have hW0 := below_new w (.cells #[.int .i64 0] 3)
  have HW0 := Lib.hid hW0
  clear hxk hst hin hstA hkey hds hW0
  unfold storesV
  refine callsIn_of_wp_marks Tryz.func42 rfl trivial ?_ hro
  simp only [Tryz.ntmps42, List.size_toArray, List.length_cons, List.length_nil, Nat.reduceAdd, Nat.reduceSub, Array.replicate_succ, Array.replicate_zero, List.push_toArray, List.append_toArray, List.nil_append, List.cons_append]
  gi_wp2_with fail
  refine ⟨trivial, (callsIn_wide.2 H1.out).mono ?_⟩
  rintro e w1 ⟨rfl, rfl⟩
  gi_wp2_with fail
  refine ⟨trivial, (callsIn_wide.2 (HG.out _ _ _)).mono ?_⟩
  rintro e w2 ⟨Bs, Ba, Bn, Bm, rfl, ba, bn, bm, bp, hb2⟩
  have HBA := Lib.hid ba
  have HBN := Lib.hid bn
  have HBM := Lib.hid bm
  have HBP := Lib.hid bp
  have bD := (Boxed.new w 3 (.int .i64 0)).kept (grown_of hb2 none) (by simp)
  have HBD := Lib.hid bD
  have hB2 := bel0 HW0.out hb2
  have HBW := Lib.hid hB2
  have hsz : w.heap.size ≤ w2.heap.size := hB2.size
  clear ba bn bm bp hb2 bD hB2
  gi_wp2_with fail
  refine wpIn_rangeFunc_ownG hro (by omega) (gf := 148) (lb := #[.pointer (some ⟨Ba, 0, none⟩), .pointer (some ⟨Bn, 0, none⟩), .pointer (some ⟨Bm, 0, none⟩), .pointer (some ⟨Bs, 0, none⟩)]) rfl trivial hgf.out
    (grantsS_stops (5 - 1) (by omega) Ba Bn Bm Bs K x k a g h nn m bs ks key w2 HXK.out HBA.out HBN.out HBM.out HBP.out (HKEY.out.kept (grown_of HBW.out none) (by simp)) (HST.out.below HBW.out)) belowK_t (belowK_b (Nat.le_refl _)) (Below.refl _ w2) (fun _ => rfl)
    (fun pre W => RI w.heap.size pre W ∧ Below w.heap.size w W)
    (fun cd pre W => RX w.heap.size cd pre W ∧ Below w.heap.size w W)
    (OwnFrom.and (Own.from (RI.own _) _) (ownFrom_below (Nat.le_refl _) hsz))
    (fun cd => OwnFrom.and (Own.from (RX.own _ cd) _) (ownFrom_below (Nat.le_refl _) hsz))
    ⟨⟨HBD.out, rfl⟩, HBW.out⟩
    (fun b => { tmps := #[.pointer (some ⟨a, 0, none⟩), .int .i64 (x : Int), .int .i64 (k : Int), .func (.func 91) #[] #[.pointer (some ⟨K, 0, none⟩)], undef, undef, undef, undef, .pointer (some ⟨w.heap.size, 0, none⟩), .bool b,
        .pointer (some ⟨a, 0, none⟩), .int .i64 (x : Int), .int .i64 (k : Int), .bool true, .bool false, .pointer (some ⟨a, 0, none⟩), .int .i64 (x : Int), .int .i64 (k : Int), .func (.func 91) #[] #[.pointer (some ⟨K, 0, none⟩)],
        .func (.func 148) #[] #[.pointer (some ⟨Ba, 0, none⟩), .pointer (some ⟨Bn, 0, none⟩), .pointer (some ⟨Bm, 0, none⟩), .pointer (some ⟨Bs, 0, none⟩)], .bool b, undef, undef], defers := [] }) ?assign ?body ?done ?stop
  case assign =>
    intro l b W K hK
    unfold encB
    gi_wp2
    exact hK
  case body =>
    rintro l pre b W ⟨⟨hs, hk⟩, hB⟩ hlt
    cases b with
    | true =>
      have HS := Lib.hid hs
      have HK := Lib.hid hk
      have HB := Lib.hid hB
      clear hs hk hB
      gi_wp2
      exact ⟨KeepsFrom.refl _ _, Below.refl _ _, ⟨HS.out, by rw [List.all_append, HK.out]; rfl⟩, HB.out⟩
    | false =>
      have c1 := hs.cell
      have f1 := hs.frozen
      have HS := Lib.hid hs
      have HB := Lib.hid hB
      clear hs hk hB
      gi_wp2
      exact ⟨(KeepsOthers.setCell _ _ _).from _, ⟨rfl, HS.out.set _, by rw [List.all_append]; simp⟩, HB.out.setCell (p := ⟨w.heap.size, 0, none⟩) (Nat.le_refl _) _⟩
  case done =>
    rintro D ys W hD rfl ⟨⟨hs, hk⟩, hB⟩ hK
    have hc0 : c = 0 := by
      have h1 := HGL.out
      rw [hk] at h1
      rw [HC.out, if_pos h1.symm]
    subst hc0
    have c1 := hs.cell
    have f1 := hs.frozen
    have HS := Lib.hid hs
    have HB := Lib.hid hB
    have HK := Lib.hid hK
    clear hs hk hB hK
    gi_wp2
    have hK2 := (KeepsOthers.setCell W ⟨w.heap.size, 0, none⟩ (.int .i64 0)).same D _ HK.out rfl
    have hnr : ∀ r, some D = some r → ∃ o : Obj, (W.setCell ⟨w.heap.size, 0, none⟩ (.int .i64 0)).heap[r]? = some o ∧ o.isCells = false := fun r e => by cases e; exact ⟨_, hK2, rfl⟩
    have b1' := Boxed.ab (HS.out.set (.int .i64 0)) (grownBy_putObj' _ D (.deferred none)) hnr
    have hB2 := HB.out.setCell (p := ⟨w.heap.size, 0, none⟩) (Nat.le_refl _) (.int .i64 0)
    refine ⟨by simp, .inl ⟨_, _, rfl, run_takeDeferred hK2, ?_⟩⟩
    exact ⟨_, results_cell1 rfl rfl b1'.cell Tryz.underlying3 rfl, rfl, hB2.trans (belowK_b (w := w) (Nat.le_refl _) _ D _ _ (by omega) hK2 rfl rfl)⟩
  case stop =>
    rintro D cd pre W hD hp ⟨⟨rfl, hs, hk⟩, hB⟩ hK
    have hc4 : c = 4 := by
      have h1 := HGL.out
      obtain ⟨t, ht⟩ := hp
      rw [← ht, List.all_append, hk] at h1
      have h2 : allB (stP key) ks x k = false := h1.symm
      rw [HC.out, h2]
      rfl
    subst hc4
    gi_wp2
    have hnr : ∀ r, some D = some r → ∃ o : Obj, W.heap[r]? = some o ∧ o.isCells = false := fun r e => by cases e; exact ⟨_, hK, rfl⟩
    have b1' := Boxed.ab hs (grownBy_putObj' _ D (.deferred none)) hnr
    refine ⟨by simp, .inl ⟨_, _, rfl, run_takeDeferred hK, ?_⟩⟩
    exact ⟨_, results_cell1 rfl rfl b1'.cell Tryz.underlying3 rfl, rfl, hB.trans (belowK_b (w := w) (Nat.le_refl _) _ D _ _ (by omega) hK rfl rfl)⟩
set_option maxRecDepth 100000 in
theorem refusalF_no (a g nn : Nat) (x k : Int) (v : Value) (w : World) (hx : x ≤ 9223372036854775807) (hn : nn ≤ 65536) (hc : w.cell? ⟨a, 0, none⟩ = some (.slice (some ⟨g, 0, none⟩) nn nn)) (hi : inB nn x k = false) :
    Calls Tryz.prog 42 #[.pointer (some ⟨a, 0, none⟩), .int .i64 x, .int .i64 k, v] w (New w (.int .i64 5)) := by
  have H1 := Lib.hid (holds_any a g nn x k (w.alloc (.cells #[.int .i64 0] 3)) hx hn (Lib.cell?_alloc_some _ hc))
  rw [hi] at H1
  go_enter Tryz.func42, Tryz.ntmps42
  go_wp2_with fail
  refine H1.out.mono ?_
  rintro e w1 ⟨rfl, rfl⟩
  go_wp2
  refine bodyPost_ret (results_cell1 rfl rfl (v := .int .i64 5) (by simp [go_sem]) Tryz.underlying3 rfl) rfl ?_
  exact ⟨rfl, by simpa using below_new w _⟩
set_option maxRecDepth 100000 in
set_option maxHeartbeats 2000000 in
theorem refusalF_yes (a g h nn m K L : Nat) (x k : Nat) (bs ks : List UInt8) (key : Int) (w : World) (hxk : x + k ≤ nn) (hst : Sto w a g h nn m bs ks) (hkey : Boxed w K 3 (.int .i64 key) ∧ Boxed w L 88 (storesV K)) :
    Calls Tryz.prog 42 #[.pointer (some ⟨a, 0, none⟩), .int .i64 (x : Int), .int .i64 (k : Int), (fetchesV L)] w (New w (.int .i64 (if allB (ftP key) ks x k = true then 0 else 4))) := by
  refine (callsIn_wide (n := 5)).1 ?_
  have hro : Fence.wide.round = none := rfl
  have hn : nn ≤ 65536 := by have := hst.nums; omega
  obtain ⟨c, hc⟩ : ∃ c : Int, c = if allB (ftP key) ks x k = true then 0 else 4 := ⟨_, rfl⟩
  rw [← hc]
  have HC := Lib.hid hc
  clear hc
  have hin : inB nn (x : Int) (k : Int) = true := inB_iff.2 ⟨by omega, by omega, by omega⟩
  have hstA := hst.below (below_new w (.cells #[.int .i64 0] 3))
  have H1 := Lib.hid (holds_any a g nn (x : Int) (k : Int) (w.alloc (.cells #[.int .i64 0] 3)) (by omega) hn hstA.c0)
  rw [hin] at H1
  have HG := Lib.hid (grants_any a x k)
  have HXK := Lib.hid hxk
  have HST := Lib.hid hst
  have HGL := Lib.hid (grL_all (ftP key) ks x k)
  have hgf := Lib.hid (enters_of Tryz.func148 (by kernel_rfl) rfl)
  have HKEY := Lib.hid hkey
  obtain ⟨ds, hds⟩ : ∃ ds, ds = grL (ftP key) ks x (blkN x k) := ⟨_, rfl⟩
  have HDS := Lib.hid hds
  have hW0 := below_new w (.cells #[.int .i64 0] 3)
  have HW0 := Lib.hid hW0
  clear hxk hst hin hstA hkey hds hW0
  unfold fetchesV
  refine callsIn_of_wp_marks Tryz.func42 rfl trivial ?_ hro
  simp only [Tryz.ntmps42, List.size_toArray, List.length_cons, List.length_nil, Nat.reduceAdd, Nat.reduceSub, Array.replicate_succ, Array.replicate_zero, List.push_toArray, List.append_toArray, List.nil_append, List.cons_append]
  gi_wp2_with fail
  refine ⟨trivial, (callsIn_wide.2 H1.out).mono ?_⟩
  rintro e w1 ⟨rfl, rfl⟩
  gi_wp2_with fail
  refine ⟨trivial, (callsIn_wide.2 (HG.out _ _ _)).mono ?_⟩
  rintro e w2 ⟨Bs, Ba, Bn, Bm, rfl, ba, bn, bm, bp, hb2⟩
  have HBA := Lib.hid ba
  have HBN := Lib.hid bn
  have HBM := Lib.hid bm
  have HBP := Lib.hid bp
  have bD := (Boxed.new w 3 (.int .i64 0)).kept (grown_of hb2 none) (by simp)
  have HBD := Lib.hid bD
  have hB2 := bel0 HW0.out hb2
  have HBW := Lib.hid hB2
  have hsz : w.heap.size ≤ w2.heap.size := hB2.size
  clear ba bn bm bp hb2 bD hB2
  gi_wp2_with fail
  refine wpIn_rangeFunc_ownG hro (by omega) (gf := 148) (lb := #[.pointer (some ⟨Ba, 0, none⟩), .pointer (some ⟨Bn, 0, none⟩), .pointer (some ⟨Bm, 0, none⟩), .pointer (some ⟨Bs, 0, none⟩)]) rfl trivial hgf.out
    (grantsF_stops (5 - 1) (by omega) Ba Bn Bm Bs K L x k a g h nn m bs ks key w2 HXK.out HBA.out HBN.out HBM.out HBP.out (⟨HKEY.out.1.kept (grown_of HBW.out none) (by simp), HKEY.out.2.kept (grown_of HBW.out none) (by simp)⟩) (HST.out.below HBW.out)) belowK_t (belowK_b (Nat.le_refl _)) (Below.refl _ w2) (fun _ => rfl)
    (fun pre W => RI w.heap.size pre W ∧ Below w.heap.size w W)
    (fun cd pre W => RX w.heap.size cd pre W ∧ Below w.heap.size w W)
    (OwnFrom.and (Own.from (RI.own _) _) (ownFrom_below (Nat.le_refl _) hsz))
    (fun cd => OwnFrom.and (Own.from (RX.own _ cd) _) (ownFrom_below (Nat.le_refl _) hsz))
    ⟨⟨HBD.out, rfl⟩, HBW.out⟩
    (fun b => { tmps := #[.pointer (some ⟨a, 0, none⟩), .int .i64 (x : Int), .int .i64 (k : Int), .func (.func 204) #[] #[.pointer (some ⟨L, 0, none⟩)], undef, undef, undef, undef, .pointer (some ⟨w.heap.size, 0, none⟩), .bool b,
        .pointer (some ⟨a, 0, none⟩), .int .i64 (x : Int), .int .i64 (k : Int), .bool true, .bool false, .pointer (some ⟨a, 0, none⟩), .int .i64 (x : Int), .int .i64 (k : Int), .func (.func 204) #[] #[.pointer (some ⟨L, 0, none⟩)],
        .func (.func 148) #[] #[.pointer (some ⟨Ba, 0, none⟩), .pointer (some ⟨Bn, 0, none⟩), .pointer (some ⟨Bm, 0, none⟩), .pointer (some ⟨Bs, 0, none⟩)], .bool b, undef, undef], defers := [] }) ?assign ?body ?done ?stop
  case assign =>
    intro l b W K hK
    unfold encB
    gi_wp2
    exact hK
  case body =>
    rintro l pre b W ⟨⟨hs, hk⟩, hB⟩ hlt
    cases b with
    | true =>
      have HS := Lib.hid hs
      have HK := Lib.hid hk
      have HB := Lib.hid hB
      clear hs hk hB
      gi_wp2
      exact ⟨KeepsFrom.refl _ _, Below.refl _ _, ⟨HS.out, by rw [List.all_append, HK.out]; rfl⟩, HB.out⟩
    | false =>
      have c1 := hs.cell
      have f1 := hs.frozen
      have HS := Lib.hid hs
      have HB := Lib.hid hB
      clear hs hk hB
      gi_wp2
      exact ⟨(KeepsOthers.setCell _ _ _).from _, ⟨rfl, HS.out.set _, by rw [List.all_append]; simp⟩, HB.out.setCell (p := ⟨w.heap.size, 0, none⟩) (Nat.le_refl _) _⟩
  case done =>
    rintro D ys W hD rfl ⟨⟨hs, hk⟩, hB⟩ hK
    have hc0 : c = 0 := by
      have h1 := HGL.out
      rw [hk] at h1
      rw [HC.out, if_pos h1.symm]
    subst hc0
    have c1 := hs.cell
    have f1 := hs.frozen
    have HS := Lib.hid hs
    have HB := Lib.hid hB
    have HK := Lib.hid hK
    clear hs hk hB hK
    gi_wp2
    have hK2 := (KeepsOthers.setCell W ⟨w.heap.size, 0, none⟩ (.int .i64 0)).same D _ HK.out rfl
    have hnr : ∀ r, some D = some r → ∃ o : Obj, (W.setCell ⟨w.heap.size, 0, none⟩ (.int .i64 0)).heap[r]? = some o ∧ o.isCells = false := fun r e => by cases e; exact ⟨_, hK2, rfl⟩
    have b1' := Boxed.ab (HS.out.set (.int .i64 0)) (grownBy_putObj' _ D (.deferred none)) hnr
    have hB2 := HB.out.setCell (p := ⟨w.heap.size, 0, none⟩) (Nat.le_refl _) (.int .i64 0)
    refine ⟨by simp, .inl ⟨_, _, rfl, run_takeDeferred hK2, ?_⟩⟩
    exact ⟨_, results_cell1 rfl rfl b1'.cell Tryz.underlying3 rfl, rfl, hB2.trans (belowK_b (w := w) (Nat.le_refl _) _ D _ _ (by omega) hK2 rfl rfl)⟩
  case stop =>
    rintro D cd pre W hD hp ⟨⟨rfl, hs, hk⟩, hB⟩ hK
    have hc4 : c = 4 := by
      have h1 := HGL.out
      obtain ⟨t, ht⟩ := hp
      rw [← ht, List.all_append, hk] at h1
      have h2 : allB (ftP key) ks x k = false := h1.symm
      rw [HC.out, h2]
      rfl
    subst hc4
    gi_wp2
    have hnr : ∀ r, some D = some r → ∃ o : Obj, W.heap[r]? = some o ∧ o.isCells = false := fun r e => by cases e; exact ⟨_, hK, rfl⟩
    have b1' := Boxed.ab hs (grownBy_putObj' _ D (.deferred none)) hnr
    refine ⟨by simp, .inl ⟨_, _, rfl, run_takeDeferred hK, ?_⟩⟩
    exact ⟨_, results_cell1 rfl rfl b1'.cell Tryz.underlying3 rfl, rfl, hB.trans (belowK_b (w := w) (Nat.le_refl _) _ D _ _ (by omega) hK rfl rfl)⟩

end E
end Go.Proofs.YtbcncohjjnmdcaaGreatDoor
namespace Go.Proofs.YtbcncohjjnmdcaaGreatDoor
open Go.RowKit Go.Shelf
set_option linter.unusedVariables false
namespace E

theorem refusalS_any (a g h nn m K : Nat) (x k : Int) (bs ks : List UInt8) (key : Int) (w : World) (hx : x ≤ 9223372036854775807) (hst : Sto w a g h nn m bs ks) (hkey : Boxed w K 3 (.int .i64 key)) :
    Calls Tryz.prog 42 #[.pointer (some ⟨a, 0, none⟩), .int .i64 x, .int .i64 k, storesV K] w (New w (.int .i64 (codeV (stP key) nn ks x k))) := by
  have hn := hst.nums
  unfold codeV
  by_cases hi : inB nn x k = true
  · obtain ⟨h1, h2, h3⟩ := inB_iff.1 hi
    rw [if_pos hi]
    obtain ⟨X, rfl⟩ := Int.eq_ofNat_of_zero_le h1
    obtain ⟨Z, rfl⟩ := Int.eq_ofNat_of_zero_le h2
    exact refusalS_yes a g h nn m K X Z bs ks key w (by omega) hst hkey
  · rw [if_neg hi]
    exact refusalS_no a g nn x k _ w hx (by omega) hst.c0 (by simpa using hi)
theorem refusalF_any (a g h nn m K L : Nat) (x k : Int) (bs ks : List UInt8) (key : Int) (w : World) (hx : x ≤ 9223372036854775807) (hst : Sto w a g h nn m bs ks) (hkey : Boxed w K 3 (.int .i64 key) ∧ Boxed w L 88 (storesV K)) :
    Calls Tryz.prog 42 #[.pointer (some ⟨a, 0, none⟩), .int .i64 x, .int .i64 k, fetchesV L] w (New w (.int .i64 (codeV (ftP key) nn ks x k))) := by
  have hn := hst.nums
  unfold codeV
  by_cases hi : inB nn x k = true
  · obtain ⟨h1, h2, h3⟩ := inB_iff.1 hi
    rw [if_pos hi]
    obtain ⟨X, rfl⟩ := Int.eq_ofNat_of_zero_le h1
    obtain ⟨Z, rfl⟩ := Int.eq_ofNat_of_zero_le h2
    exact refusalF_yes a g h nn m K L X Z bs ks key w (by omega) hst hkey
  · rw [if_neg hi]
    exact refusalF_no a g nn x k _ w hx (by omega) hst.c0 (by simpa using hi)
/-- What Bytes returns. -/
def bytL (n : Nat) (bs : List UInt8) (x k : Int) : List UInt8 := if inB n x k = true then subL bs x.toNat k.toNat else []
/-- What Fetch returns. -/
def fetL (p : UInt8 → Bool) (n : Nat) (bs ks : List UInt8) (x k : Int) : List UInt8 := if codeV p n ks x k = 0 then subL bs x.toNat k.toNat else []
/-- What Put leaves. -/
def putB (p : UInt8 → Bool) (n : Nat) (bs ks : List UInt8) (x : Int) (b : List UInt8) : List UInt8 := if codeV p n ks x (b.length : Int) = 0 then putL bs x.toNat b else bs
/-- Is there such an address and such a number? -/
def setOk (n : Nat) (x key : Int) : Bool := inB n x 1 && decide (0 ≤ key ∧ key ≤ 31)
def setK (n : Nat) (ks : List UInt8) (x key : Int) : List UInt8 := if setOk n x key = true then ks.set (x.toNat / 2048) (UInt8.ofNat key.toNat) else ks
def keyV (n : Nat) (ks : List UInt8) (x : Int) : Int := if inB n x 1 = true then ((gt ks (x.toNat / 2048)).toNat : Int) else 0
theorem codeV_in {p : UInt8 → Bool} {n : Nat} {ks : List UInt8} {x k : Int} (h : codeV p n ks x k = 0) : inB n x k = true := by
  unfold codeV at h
  split at h
  · assumption
  · cases h
theorem codeV_three (p : UInt8 → Bool) (n : Nat) (ks : List UInt8) (x k : Int) : codeV p n ks x k = 0 ∨ codeV p n ks x k = 4 ∨ codeV p n ks x k = 5 := by
  unfold codeV
  split
  · split
    · exact .inl rfl
    · exact .inr (.inl rfl)
  · exact .inr (.inr rfl)
theorem bsU_putL (l : List UInt8) (a : Nat) (b : List UInt8) : bsU (putL l a b) = (bsU l).take a ++ (bsU b ++ (bsU l).drop (a + (bsU b).length)) := by
  simp [bsU, putL, List.map_take, List.map_drop]
theorem bsU_rep (k : Nat) : bsU (List.replicate k 0) = List.replicate k (.int .u8 0) := by simp [bsU]
theorem splice_cons {xs : List Value} {o : Nat} {v : Value} {vs : List Value} (h : o < xs.length) : (xs.set o v).take (o + 1) ++ (vs ++ (xs.set o v).drop (o + 1 + vs.length)) = xs.take o ++ ((v :: vs) ++ xs.drop (o + (v :: vs).length)) := by
  have h1 : (xs.set o v).take (o + 1) = xs.take o ++ [v] := by
    rw [List.take_succ_eq_append_getElem (by simpa using h), List.take_set_of_le (Nat.le_refl _)]
    simp
  have h2 : (xs.set o v).drop (o + 1 + vs.length) = xs.drop (o + (v :: vs).length) := by
    rw [List.drop_set_of_lt (by omega), List.length_cons]
    congr 1
    omega
  rw [h1, h2]
  simp
theorem Row.cells {g c : Nat} {t : TypeId} : ∀ (vs : List Value) (o : Nat) (w : World) (xs : List Value), Row w g t xs c → o + vs.length ≤ xs.length → Row (w.setCells g o vs) g t (xs.take o ++ (vs ++ xs.drop (o + vs.length))) c ∧ w.grownBy (w.setCells g o vs) (some g)
  | [], o, w, xs, h, hl => by
    refine ⟨?_, World.grownBy.refl _ _⟩
    have e : xs.take o ++ ([] ++ xs.drop (o + ([] : List Value).length)) = xs := by simp
    rw [e]
    exact h
  | v :: vs, o, w, xs, h, hl => by
    simp at hl
    obtain ⟨h1, h2⟩ := h.set o v
    obtain ⟨h3, h4⟩ := Row.cells vs (o + 1) _ _ h1 (by simp; omega)
    rw [splice_cons (by omega)] at h3
    exact ⟨h3, h2.trans h4⟩

end E
end Go.Proofs.YtbcncohjjnmdcaaGreatDoor
namespace Go.Proofs.YtbcncohjjnmdcaaGreatDoor
open Go.RowKit Go.Shelf
set_option linter.unusedVariables false
namespace E

/-- copy into a row. -/
theorem wpList_copy_row {P : Program} {w : World} {ops : Array Oper} {rest : List Oper} {o : Oper} {a : Act} {Q : Exit → Act → World → Prop} (hgd : o.guard = none) (d s : Operand) (dT sT : TypeId)
    (ho : o.op = .call { callee := .builtin .copy, args := #[d, s], argTypes := #[dT, sT] }) (elem : TypeId) (hu : P.underlying dT = some (.slice elem)) (hsz : (P.info? elem).map (·.size) = some 1)
    (dp sp : Option Addr) (dLen dCap sLen sCap : Nat) (hd : a.eval d = .slice dp dLen dCap) (hs : a.eval s = .slice sp sLen sCap)
    (g off c : Nat) (xs : List Value) (t : TypeId) (hg : Row w g t xs c) (cs : List Value) (hn : cs.length = Nat.min sLen dLen)
    (hpos : 0 < cs.length → dp = some ⟨g, off, none⟩ ∧ ∃ ad, sp = some ad ∧ ∀ j v, cs[j]? = some v → w.cell? (ad.add j) = some v)
    (hfit : off + cs.length ≤ xs.length) (h1 : ∀ v ∈ cs, v.oneCell' = true)
    (h : ∀ w', Hid (Row w' g t (xs.take off ++ (cs ++ xs.drop (off + cs.length))) c) → Hid (w.grownBy w' (some g)) → wpList P ops Q rest (a.put o.dst (goInt cs.length)) w') :
    wpList P ops Q (o :: rest) a w := by
  by_cases h0 : cs.length = 0
  · obtain rfl : cs = [] := List.eq_nil_of_length_eq_zero h0
    refine wpList_copy_nothing hgd d s dT sT ho elem hu hsz dp sp dLen dCap sLen sCap hd hs (by simpa using hn.symm) ?_
    exact h w (Lib.hid (by simpa using hg)) (Lib.hid (World.grownBy.refl _ _))
  · obtain ⟨rfl, ad, rfl, hsrc⟩ := hpos (by omega)
    obtain ⟨cur, h2, h3, h4, h5⟩ := hg.splice off cs hfit
    refine wpList_copy_own hgd d s dT sT ho elem hu hsz g off dLen dCap ad sLen sCap hd hs cur t h2 cs hn hsrc h3 h1 ?_
    exact h _ (Lib.hid h4) (Lib.hid h5)
theorem cells_rd {w : World} {a : Addr} {l : List UInt8} (h : Rd w (some a) l) : ∀ j u, (bsU l)[j]? = some u → w.cell? (a.add j) = some u := by
  rcases h with h0 | ⟨B, off, hp, hc⟩
  · subst h0
    intro j u hu
    simp [bsU] at hu
  · obtain rfl := Option.some.inj hp
    intro j u hu
    obtain ⟨hj, rfl⟩ := bsU_at hu
    have hadd : (⟨B, off, none⟩ : Addr).add j = ⟨B, off + j, none⟩ := by
      unfold Addr.add
      split <;> simp_all
    rw [hadd]
    exact hc j hj
theorem row_hold {w : World} {base g n c : Nat} {l : List UInt8} (h : Row w g 5 (bsU l) c) (hb : base ≤ g) (hl : l.length = n) (hnc : n = c) (hm : c ≤ 65536) : Hold w base (.slice (some ⟨g, 0, none⟩) n c) l := by
  obtain ⟨cur, h1, h2, h3⟩ := h
  subst hl
  have e : (bsU l).length = l.length := bsU_len l
  rw [e] at h2
  exact ⟨by rw [e, Nat.mul_one], .inr ⟨g, c, cur, rfl, hb, h1, by omega, by unfold maxLen; omega, by simp [h3], by simpa using h2⟩⟩
theorem made_bs (n : Nat) : (madeCells (Value.cells (.int .u8 0)) (n * 1)).toList = bsU (List.replicate n 0) := by
  rw [Nat.mul_one]
  exact (toList_madeCells_one _ n).trans (by simp [bsU])
/-- What Bytes leaves: bytes in new memory. -/
def BytPost (w : World) (l : List UInt8) (e : Ending) (w' : World) : Prop := ∃ sv, e = .returned sv ∧ Hold w' w.heap.size sv l ∧ Below w.heap.size w w'
set_option maxRecDepth 100000 in
set_option maxHeartbeats 1000000 in
theorem bytes_any (a g h n m : Nat) (x k : Int) (bs ks : List UInt8) (w : World) (hx : x ≤ 9223372036854775807) (hst : Sto w a g h n m bs ks) :
    Calls Tryz.prog 18 #[.pointer (some ⟨a, 0, none⟩), .int .i64 x, .int .i64 k] w (BytPost w (bytL n bs x k)) := by
  obtain ⟨i0, hi0, hz0, hz1, hz2⟩ := info_parts info5
  have hnum := hst.nums
  have H1 := Lib.hid (holds_any a g n x k w hx (by omega) hst.c0)
  unfold bytL
  by_cases hi : inB n x k = true
  · obtain ⟨h1, h2, h3⟩ := inB_iff.1 hi
    rw [if_pos hi]
    rw [hi] at H1
    obtain ⟨X, rfl⟩ := Int.eq_ofNat_of_zero_le h1
    obtain ⟨Z, rfl⟩ := Int.eq_ofNat_of_zero_le h2
    have hXZ : X + Z ≤ n := by omega
    have hXn : X ≤ n := by omega
    have hn : n ≤ 65536 := by omega
    obtain ⟨L, hL⟩ : ∃ L, L = subL bs X Z := ⟨_, rfl⟩
    have hLl : L.length = Z := by rw [hL]; exact subL_len (by omega)
    have hrd := hst.2.1.rd X Z (by omega)
    rw [show (bs.drop X).take Z = L from hL.symm] at hrd
    show Calls _ _ _ _ (BytPost w (subL bs X Z))
    rw [← hL]
    have c0 := hst.c0
    have HST := Lib.hid hst
    have HL := Lib.hid hLl
    have HR := Lib.hid hrd
    have HXZ := Lib.hid hXZ
    have hZn : Z ≤ n := by omega
    clear hi h1 h2 h3 hnum hst hL hLl hrd hXZ
    go_enter Tryz.func18, Tryz.ntmps18
    go_wp2_with fail
    refine H1.out.mono ?_
    rintro e w1 ⟨rfl, rfl⟩
    by_cases hXe : n = X
    · subst hXe
      have HZ0 : Hid (Z = 0) := Lib.hid (by have := HXZ.out; omega)
      go_wp2_with (first
        | (at_make; refine wpList_make_full _ rfl _ _ 31 rfl w.heap.size 5 i0 (.int .u8 0) 1 Tryz.underlying31 hi0 hz0 hz1 .i64 .i64 Z Z Z rfl rfl rfl rfl (by rw [hz2]; omega) (by unfold maxLen; omega) (Nat.le_refl _) ?_; intro w1 hown hgrow; have HB1 := Lib.hid (below_of hgrow); rw [made_bs] at hown; have HROW := Lib.hid (own_row hown (by simp [bsU])); have c1 := (HST.out.below HB1.out).c0; have HR1 := Lib.hid (HR.out.below HB1.out); clear hown hgrow c0)
        | ((with_reducible refine wpList_copy_row (o := ⟨some 22, _, _, _, _, _⟩) ?_ (.tmp 15) (.tmp 21) 31 31 ?_ 5 ?_ ?_ (some ⟨w.heap.size, 0, none⟩) (some ⟨g, 0, none⟩) Z Z 0 0 ?_ ?_ w.heap.size 0 Z (bsU (List.replicate Z 0)) 5 HROW.out (bsU L) ?_ ?_ ?_ (bsU_one L) ?_); (rfl); (rfl); (exact Tryz.underlying31); (kernel_rfl); (rfl); (rfl); (rw [bsU_len, HL.out, HZ0.out]; rfl); (exact fun hp => absurd hp (by rw [bsU_len, HL.out, HZ0.out]; omega)); (rw [bsU_len, bsU_len, HL.out]; simp); intro w2 HR2 HG2))
      rw [show (bsU (List.replicate Z 0)).take 0 ++ (bsU L ++ (bsU (List.replicate Z 0)).drop (0 + (bsU L).length)) = bsU L by rw [List.drop_of_length_le (by rw [bsU_len, bsU_len, HL.out]; simp)]; simp] at HR2
      go_ret
      exact ⟨_, rfl, row_hold HR2.out (Nat.le_refl _) HL.out rfl (by omega), below_grown HB1.out HG2.out (Nat.le_refl _)⟩
    · skip
      go_wp2_with (first
        | (at_make; refine wpList_make_full _ rfl _ _ 31 rfl w.heap.size 5 i0 (.int .u8 0) 1 Tryz.underlying31 hi0 hz0 hz1 .i64 .i64 Z Z Z rfl rfl rfl rfl (by rw [hz2]; omega) (by unfold maxLen; omega) (Nat.le_refl _) ?_; intro w1 hown hgrow; have HB1 := Lib.hid (below_of hgrow); rw [made_bs] at hown; have HROW := Lib.hid (own_row hown (by simp [bsU])); have c1 := (HST.out.below HB1.out).c0; have HR1 := Lib.hid (HR.out.below HB1.out); clear hown hgrow c0)
        | ((with_reducible refine wpList_copy_row (o := ⟨some 22, _, _, _, _, _⟩) ?_ (.tmp 15) (.tmp 21) 31 31 ?_ 5 ?_ ?_ (some ⟨w.heap.size, 0, none⟩) (some ⟨g, X, none⟩) Z Z (n - X) (n - X) ?_ ?_ w.heap.size 0 Z (bsU (List.replicate Z 0)) 5 HROW.out (bsU L) ?_ ?_ ?_ (bsU_one L) ?_); (rfl); (rfl); (exact Tryz.underlying31); (kernel_rfl); (rfl); (rfl); (rw [bsU_len, HL.out]; exact (Nat.min_eq_right (by have := HXZ.out; omega)).symm); (exact fun _ => ⟨rfl, _, rfl, cells_rd HR1.out⟩); (rw [bsU_len, bsU_len, HL.out]; simp); intro w2 HR2 HG2))
      rw [show (bsU (List.replicate Z 0)).take 0 ++ (bsU L ++ (bsU (List.replicate Z 0)).drop (0 + (bsU L).length)) = bsU L by rw [List.drop_of_length_le (by rw [bsU_len, bsU_len, HL.out]; simp)]; simp] at HR2
      go_ret
      exact ⟨_, rfl, row_hold HR2.out (Nat.le_refl _) HL.out rfl (by omega), below_grown HB1.out HG2.out (Nat.le_refl _)⟩
  · rw [if_neg hi]
    rw [show inB n x k = false by simpa using hi] at H1
    go_enter Tryz.func18, Tryz.ntmps18
    go_wp2_with fail
    refine H1.out.mono ?_
    rintro e w1 ⟨rfl, rfl⟩
    go_wp2
    go_ret
    exact ⟨_, rfl, ⟨rfl, .inl ⟨rfl, rfl⟩⟩, Below.refl _ _⟩

end E
end Go.Proofs.YtbcncohjjnmdcaaGreatDoor
namespace Go.Proofs.YtbcncohjjnmdcaaGreatDoor
open Go.RowKit Go.Shelf
set_option linter.unusedVariables false
namespace E

/-- What Fetch leaves: bytes in new memory, and a code. -/
def FetPost (w : World) (l : List UInt8) (c : Int) (e : Ending) (w' : World) : Prop := ∃ sv, e = .returned (.tuple #[sv, .int .i64 c]) ∧ Hold w' w.heap.size sv l ∧ Below w.heap.size w w'
set_option maxRecDepth 100000 in
set_option maxHeartbeats 1000000 in
theorem fetch_any (a g h n m : Nat) (x k key : Int) (bs ks : List UInt8) (w : World) (hx : x ≤ 9223372036854775807) (hst : Sto w a g h n m bs ks) :
    Calls Tryz.prog 150 #[.pointer (some ⟨a, 0, none⟩), .int .i64 x, .int .i64 k, .int .i64 key] w (FetPost w (fetL (ftP key) n bs ks x k) (codeV (ftP key) n ks x k)) := by
  have HST := Lib.hid hst
  have H1 := Lib.hid (mayFetch_any key w)
  have H2 := Lib.hid (fun K L W hs hk => refusalF_any a g h n m K L x k bs ks key W hx hs hk)
  have H3 := Lib.hid (fun W hs => bytes_any a g h n m x k bs ks W hx hs)
  have H0 : Hid (codeV (ftP key) n ks x k = 0 → bytL n bs x k = fetL (ftP key) n bs ks x k) := Lib.hid (fun h0 => by unfold bytL fetL; rw [if_pos (codeV_in h0), if_pos h0])
  have H4 : Hid (codeV (ftP key) n ks x k ≠ 0 → fetL (ftP key) n bs ks x k = []) := Lib.hid (fun h0 => by unfold fetL; rw [if_neg h0])
  have h3 := codeV_three (ftP key) n ks x k
  generalize fetL (ftP key) n bs ks x k = L at *
  generalize codeV (ftP key) n ks x k = C at *
  clear hst
  rcases h3 with rfl | hC
  · have H3' := Lib.hid (fun W hs => (by have h := H3.out W hs; rw [H0.out rfl] at h; exact h : Calls Tryz.prog 18 #[.pointer (some ⟨a, 0, none⟩), .int .i64 x, .int .i64 k] W (BytPost W L)))
    clear H3 H0 H4
    go_enter Tryz.func150, Tryz.ntmps150
    go_wp2_with fail
    refine H1.out.mono ?_
    rintro e w1 ⟨J, K, rfl, hk, hj, hb⟩
    have HB := Lib.hid hb
    have HK := Lib.hid (And.intro hk hj)
    clear hb hk hj
    go_wp2_with fail
    refine (H2.out _ _ _ (HST.out.below HB.out) HK.out).mono ?_
    rintro e w2 ⟨rfl, hb⟩
    have HB2 := Lib.hid (bel0 HB.out hb)
    clear hb
    go_wp2_with fail
    refine (H3'.out _ (HST.out.below HB2.out)).mono ?_
    rintro e w3 ⟨sv, rfl, hh, hb⟩
    have HB3 := Lib.hid (bel0 HB2.out hb)
    have HH := Lib.hid (hh.base HB2.out.size)
    clear hb hh
    go_wp2
    go_ret2
    exact ⟨_, rfl, HH.out, HB3.out⟩
  · have hC0 : C ≠ 0 := by omega
    obtain rfl := H4.out hC0
    clear H3 H0 H4 hC
    go_enter Tryz.func150, Tryz.ntmps150
    go_wp2_with fail
    refine H1.out.mono ?_
    rintro e w1 ⟨J, K, rfl, hk, hj, hb⟩
    have HB := Lib.hid hb
    have HK := Lib.hid (And.intro hk hj)
    clear hb hk hj
    go_wp2_with fail
    refine (H2.out _ _ _ (HST.out.below HB.out) HK.out).mono ?_
    rintro e w2 ⟨rfl, hb⟩
    have HB2 := Lib.hid (bel0 HB.out hb)
    clear hb
    go_wp2
    go_ret2
    exact ⟨_, rfl, ⟨rfl, .inl ⟨rfl, rfl⟩⟩, HB2.out⟩
/-- What Put leaves. -/
def PutPost (w : World) (a g h n m : Nat) (bs ks : List UInt8) (v : Value) (e : Ending) (w' : World) : Prop := e = .returned v ∧ w.grownBy w' (some g) ∧ Sto w' a g h n m bs ks
theorem sv_src {w w' : World} {p : Option Addr} {l : List UInt8} (h : Rd w p l) (hb : Below w.heap.size w w') : 0 < (bsU l).length → ∃ ad, p = some ad ∧ ∀ j v, (bsU l)[j]? = some v → w'.cell? (ad.add j) = some v := by
  intro h0
  rcases h with h1 | ⟨B, off, rfl, hc⟩
  · subst h1; simp [bsU] at h0
  · exact ⟨_, rfl, cells_rd ((show Rd w (some ⟨B, off, none⟩) l from .inr ⟨B, off, rfl, hc⟩).below hb)⟩
set_option maxRecDepth 100000 in
set_option maxHeartbeats 1000000 in
theorem put_any (a g h n m : Nat) (x key : Int) (v : Value) (b bs ks : List UInt8) (w : World) (hx : x ≤ 9223372036854775807) (hst : Sto w a g h n m bs ks) (hv : SvB w v b) :
    Calls Tryz.prog 27 #[.pointer (some ⟨a, 0, none⟩), .int .i64 x, v, .int .i64 key] w (PutPost w a g h n m (putB (stP key) n bs ks x b) ks (.int .i64 (codeV (stP key) n ks x (b.length : Int)))) := by
  obtain ⟨p, c, rfl, hr, hbc, hc, hpn⟩ := hv
  have hnum := hst.nums
  have HST := Lib.hid hst
  have HR := Lib.hid hr
  have H1 := Lib.hid (mayStore_any key w)
  have H2 := Lib.hid (fun K W hs hk => refusalS_any a g h n m K x (b.length : Int) bs ks key W hx hs hk)
  have h0 : codeV (stP key) n ks x (b.length : Int) = 0 → putB (stP key) n bs ks x b = putL bs x.toNat b := fun h0 => by unfold putB; rw [if_pos h0]
  have h4 : codeV (stP key) n ks x (b.length : Int) ≠ 0 → putB (stP key) n bs ks x b = bs := fun h0 => by unfold putB; rw [if_neg h0]
  have h5 : codeV (stP key) n ks x (b.length : Int) = 0 → inB n x (b.length : Int) = true := codeV_in
  have H6 := Lib.hid (codeV_three (stP key) n ks x (b.length : Int))
  generalize putB (stP key) n bs ks x b = L at *
  generalize codeV (stP key) n ks x (b.length : Int) = C at *
  obtain ⟨lb, hlb⟩ : ∃ lb, lb = b.length := ⟨_, rfl⟩
  rw [← hlb] at H2 h5 hbc ⊢
  have HLB := Lib.hid hlb
  clear hst hr hlb
  by_cases hC : C = 0
  · subst hC
    obtain ⟨i1, i2, i3⟩ := inB_iff.1 (h5 rfl)
    obtain ⟨X, rfl⟩ := Int.eq_ofNat_of_zero_le i1
    obtain rfl : L = putL bs X b := h0 rfl
    have HXZ : Hid (X + lb ≤ n) := Lib.hid (by omega)
    have hXn : X ≤ n := by omega
    have hn : n ≤ 65536 := by omega
    have hbl := hnum.1
    have HBL := Lib.hid hbl
    clear h0 h4 h5 i1 i2 i3 hnum hbl hpn
    by_cases hXe : n = X
    · subst hXe
      have HZ0 : Hid (lb = 0) := Lib.hid (by have := HXZ.out; omega)
      go_enter Tryz.func27, Tryz.ntmps27
      go_wp2_with fail
      refine H1.out.mono ?_
      rintro e w1 ⟨rfl, hk, hb⟩
      have HB := Lib.hid hb
      have HK := Lib.hid hk
      clear hb hk
      go_wp2_with fail
      refine (H2.out _ _ (HST.out.below HB.out) HK.out).mono ?_
      rintro e w2 ⟨rfl, hb⟩
      have HB2 := Lib.hid (bel0 HB.out hb)
      have HS2 := Lib.hid (HST.out.below HB2.out)
      have HROW := Lib.hid HS2.out.2.1
      have HSRC := Lib.hid (sv_src HR.out HB2.out)
      have c0 := HS2.out.c0
      clear hb
      go_wp2_with ((with_reducible refine wpList_copy_row (o := ⟨some 28, _, _, _, _, _⟩) ?_ (.tmp 26) (.tmp 27) 31 31 ?_ 5 ?_ ?_ (some ⟨g, 0, none⟩) p 0 0 lb c ?_ ?_ g n n (bsU bs) 5 HROW.out (bsU b) ?_ ?_ ?_ (bsU_one b) ?_); (rfl); (rfl); (exact Tryz.underlying31); (kernel_rfl); (rfl); (rfl); (rw [bsU_len, ← HLB.out, HZ0.out]; rfl); (exact fun hp => absurd hp (by rw [bsU_len, ← HLB.out, HZ0.out]; omega)); (rw [bsU_len, bsU_len, ← HLB.out, HBL.out]; exact HXZ.out); intro w3 HR3 HG3)
      rw [← bsU_putL] at HR3
      go_ret
      exact ⟨rfl, btrans HB2.out HG3.out, HS2.out.spliced HR3.out (by rw [putL_len (by rw [← HLB.out, HBL.out]; exact HXZ.out), HBL.out]) HG3.out⟩
    · skip
      go_enter Tryz.func27, Tryz.ntmps27
      go_wp2_with fail
      refine H1.out.mono ?_
      rintro e w1 ⟨rfl, hk, hb⟩
      have HB := Lib.hid hb
      have HK := Lib.hid hk
      clear hb hk
      go_wp2_with fail
      refine (H2.out _ _ (HST.out.below HB.out) HK.out).mono ?_
      rintro e w2 ⟨rfl, hb⟩
      have HB2 := Lib.hid (bel0 HB.out hb)
      have HS2 := Lib.hid (HST.out.below HB2.out)
      have HROW := Lib.hid HS2.out.2.1
      have HSRC := Lib.hid (sv_src HR.out HB2.out)
      have c0 := HS2.out.c0
      clear hb
      go_wp2_with ((with_reducible refine wpList_copy_row (o := ⟨some 28, _, _, _, _, _⟩) ?_ (.tmp 26) (.tmp 27) 31 31 ?_ 5 ?_ ?_ (some ⟨g, X, none⟩) p (n - X) (n - X) lb c ?_ ?_ g X n (bsU bs) 5 HROW.out (bsU b) ?_ ?_ ?_ (bsU_one b) ?_); (rfl); (rfl); (exact Tryz.underlying31); (kernel_rfl); (rfl); (rfl); (rw [bsU_len, ← HLB.out]; exact (Nat.min_eq_left (by have := HXZ.out; omega)).symm); (exact fun hp => ⟨rfl, HSRC.out hp⟩); (rw [bsU_len, bsU_len, ← HLB.out, HBL.out]; exact HXZ.out); intro w3 HR3 HG3)
      rw [← bsU_putL] at HR3
      go_ret
      exact ⟨rfl, btrans HB2.out HG3.out, HS2.out.spliced HR3.out (by rw [putL_len (by rw [← HLB.out, HBL.out]; exact HXZ.out), HBL.out]) HG3.out⟩
  · obtain rfl : L = bs := h4 hC
    clear h0 h4 h5 hnum
    go_enter Tryz.func27, Tryz.ntmps27
    go_wp2_with fail
    refine H1.out.mono ?_
    rintro e w1 ⟨rfl, hk, hb⟩
    have HB := Lib.hid hb
    have HK := Lib.hid hk
    clear hb hk
    go_wp2_with fail
    refine (H2.out _ _ (HST.out.below HB.out) HK.out).mono ?_
    rintro e w2 ⟨rfl, hb⟩
    have HB2 := Lib.hid (bel0 HB.out hb)
    clear hb
    go_wp2
    go_ret
    exact ⟨rfl, grown_of HB2.out _, HST.out.below HB2.out⟩
end E
end Go.Proofs.YtbcncohjjnmdcaaGreatDoor
namespace Go.Proofs.YtbcncohjjnmdcaaGreatDoor
open Go.RowKit Go.Shelf
set_option linter.unusedVariables false
namespace E

/-- What SetKey leaves. -/
def SetPost (w : World) (a g h n m : Nat) (bs ks : List UInt8) (v : Value) (e : Ending) (w' : World) : Prop := e = .returned v ∧ w.grownBy w' (some h) ∧ Sto w' a g h n m bs ks
theorem u8wrap {k : Nat} (h : k < 256) : IntKind.u8.wrap (k : Int) = (k : Int) := by
  simp [IntKind.wrap, IntKind.bits, IntKind.signed]; omega
theorem i64wrap {k : Nat} (h : k < 256) : IntKind.i64.wrap (k : Int) = (k : Int) := by
  simp [IntKind.wrap, IntKind.bits, IntKind.signed]; omega
set_option maxRecDepth 100000 in
set_option maxHeartbeats 1000000 in
theorem setKey_any (a g h n m : Nat) (x key : Int) (bs ks : List UInt8) (w : World) (hx : x ≤ 9223372036854775807) (hst : Sto w a g h n m bs ks) :
    Calls Tryz.prog 32 #[.pointer (some ⟨a, 0, none⟩), .int .i64 x, .int .i64 key] w (SetPost w a g h n m bs (setK n ks x key) (.bool (setOk n x key))) := by
  have hnum := hst.nums
  have H1 := Lib.hid (holds_any a g n x 1 w hx (by omega) hst.c0)
  have HST := Lib.hid hst
  by_cases hok : setOk n x key = true
  · have h0 := hok
    unfold setOk at h0
    rw [Bool.and_eq_true] at h0
    obtain ⟨hi, hk⟩ := h0
    obtain ⟨k0, k1⟩ := of_decide_eq_true hk
    obtain ⟨h1, h2, h3⟩ := inB_iff.1 hi
    obtain ⟨X, rfl⟩ := Int.eq_ofNat_of_zero_le h1
    obtain ⟨kk, rfl⟩ := Int.eq_ofNat_of_zero_le k0
    rw [hi] at H1
    obtain ⟨B, hB⟩ : ∃ B, B = X / 2048 := ⟨_, rfl⟩
    have hset : setK n ks (X : Int) (kk : Int) = ks.set B (UInt8.ofNat kk) := by unfold setK; rw [if_pos hok, hB]; rfl
    rw [hset, hok]
    have hkb : (UInt8.ofNat kk).toNat = kk := by rw [UInt8.toNat_ofNat']; exact Nat.mod_eq_of_lt (by show kk < 256; omega)
    have HBO := Lib.hid (fun W => blockOf_any X W (by omega))
    rw [← hB] at HBO
    have hBm : B < m := by omega
    have hBm' : (B : Int) < (m : Int) := by omega
    have hstd := hst.below (Below.refl w.heap.size w).drew
    obtain ⟨hr1, hr2⟩ := hstd.2.2.1.set B (.int .u8 (kk : Int))
    have hr3 : (bsU ks).set B (.int .u8 (kk : Int)) = bsU (ks.set B (UInt8.ofNat kk)) := by rw [← bsU_set, hkb]
    rw [hr3] at hr1
    have HR := Lib.hid (And.intro (hstd.relocked hr1 (by rw [List.length_set]; exact hnum.2.1) hr2) (btrans (Below.refl w.heap.size w).drew hr2))
    have hap := hst.apart
    have c1 := hstd.c1
    have c2 := hstd.lock B hBm
    have f2 := hstd.2.2.1.frozen B
    have HC : Hid (∀ W, (W = w.drew ∨ W = w.drew.setCell ⟨h, B, none⟩ (.int .u8 (kk : Int))) → W.cell? ⟨a, 1, none⟩ = some (.slice (some ⟨h, 0, none⟩) m m)) := Lib.hid (fun W hW => by
      rcases hW with rfl | rfl
      · exact c1
      · exact (hstd.1.far (p := ⟨h, B, none⟩) hap.2.1 _).cell 1)
    have hw8 := u8wrap (k := kk) (by omega)
    have hk31 : ¬ (31 : Int) < (kk : Int) := by omega
    clear hnum hok hi hk k1 h1 h2 h3 hB hset hkb hstd hr1 hr2 hr3 hap hst
    go_enter Tryz.func32, Tryz.ntmps32
    go_wp2_with fail
    refine H1.out.mono ?_
    rintro e w1 ⟨rfl, rfl⟩
    go_upto_region 3 with fail
    refine wp_region_noPanic ?_
    refine wp_region_held_drew (S := fun W => W = w.drew ∨ W = w.drew.setCell ⟨h, B, none⟩ (.int .u8 (kk : Int))) (by kernel_rfl) (.inl rfl) (fun k0 => ?_)
    show wpAnyH _ _ _ _ _ 10 #[false, false, false, false, false, false, false, false, false, false] _ _
    refine wpAnyH_take (i := 0) (oi := ⟨some 19, _, _, _, _, _⟩) (v := .pointer (some ⟨a, 0, none⟩)) rfl (by kernel_rfl) (by kernel_rfl) (by kernel_rfl) (fun _ _ _ h => h) (Or.inl ⟨by rfl, fun W hSw => by (try dsimp only at hSw); go_simp⟩) k0 ?_
    try simp only [Act.put, List.setIfInBounds_toArray, List.set_cons_zero, List.set_cons_succ]
    refine wpAnyH_take (i := 1) (oi := ⟨some 20, _, _, _, _, _⟩) (v := .pointer (some ⟨a, 0, none⟩)) rfl (by kernel_rfl) (by kernel_rfl) (by kernel_rfl) (fun _ _ _ h => h) (Or.inl ⟨by rfl, fun W hSw => by (try dsimp only at hSw); go_simp⟩) k0 ?_
    try simp only [Act.put, List.setIfInBounds_toArray, List.set_cons_zero, List.set_cons_succ]
    refine wpAnyH_take (i := 2) (oi := ⟨some 21, _, _, _, _, _⟩) (v := .pointer (some ⟨a, 1, none⟩)) rfl (by kernel_rfl) (by kernel_rfl) (by kernel_rfl) (fun _ _ _ h => h) (Or.inl ⟨by rfl, fun W hSw => by (try dsimp only at hSw); go_simp⟩) k0 ?_
    try simp only [Act.put, List.setIfInBounds_toArray, List.set_cons_zero, List.set_cons_succ]
    refine wpAnyH_take (i := 3) (oi := ⟨some 22, _, _, _, _, _⟩) (v := .slice (some ⟨h, 0, none⟩) m m) rfl (by kernel_rfl) (by kernel_rfl) (by kernel_rfl) (fun _ _ _ h => h) (Or.inl ⟨by rfl, fun W hSw => by have cc := HC.out W hSw; clear hSw; go_simp⟩) k0 ?_
    try simp only [Act.put, List.setIfInBounds_toArray, List.set_cons_zero, List.set_cons_succ]
    refine wpAnyH_take (i := 4) (oi := ⟨some 23, _, _, _, _, _⟩) (v := .int .i64 (X : Int)) rfl (by kernel_rfl) (by kernel_rfl) (by kernel_rfl) (fun _ _ _ h => h) (Or.inl ⟨by rfl, fun W hSw => by (try dsimp only at hSw); go_simp⟩) k0 ?_
    try simp only [Act.put, List.setIfInBounds_toArray, List.set_cons_zero, List.set_cons_succ]
    refine wpAnyH_take (i := 6) (oi := ⟨some 25, _, _, _, _, _⟩) (v := .int .i64 (kk : Int)) rfl (by kernel_rfl) (by kernel_rfl) (by kernel_rfl) (fun _ _ _ h => h) (Or.inl ⟨by rfl, fun W hSw => by (try dsimp only at hSw); go_simp⟩) k0 ?_
    try simp only [Act.put, List.setIfInBounds_toArray, List.set_cons_zero, List.set_cons_succ]
    refine wpAnyH_take (i := 7) (oi := ⟨some 26, _, _, _, _, _⟩) (v := .int .u8 (kk : Int)) rfl (by kernel_rfl) (by kernel_rfl) (by kernel_rfl) (fun _ _ _ h => h) (Or.inl ⟨by rfl, fun W hSw => by (try dsimp only at hSw); go_simp⟩) k0 ?_
    try simp only [Act.put, List.setIfInBounds_toArray, List.set_cons_zero, List.set_cons_succ]
    refine wpAnyH_ready (rs := [5]) (by kernel_rfl) (by simp) ?_
    refine AllReadyH.cons (o := ⟨some 24, _, _, _, _, _⟩) rfl (fun K hK => ?_) AllReadyH.nil
    go_simp
    go_at_call 41
    refine (HBO.out _).mono ?_
    rintro e x1 ⟨rfl, rfl⟩
    go_wp2_with fail
    refine hK.out _ _ (.inl rfl) (fun k1 => ?_)
    clear hK K
    try simp only [List.setIfInBounds_toArray, List.set_cons_zero, List.set_cons_succ]
    refine wpAnyH_take (i := 8) (oi := ⟨some 27, _, _, _, _, _⟩) (v := .pointer (some ⟨h, B, none⟩)) rfl (by kernel_rfl) (by kernel_rfl) (by kernel_rfl) (fun _ _ _ h => h) (Or.inl ⟨by rfl, fun W hSw => by (try dsimp only at hSw); go_simp⟩) k1 ?_
    try simp only [Act.put, List.setIfInBounds_toArray, List.set_cons_zero, List.set_cons_succ]
    refine wpAnyH_ready (rs := [9]) (by kernel_rfl) (by simp) ?_
    refine AllReadyH.cons (o := ⟨none, _, _, _, _, _⟩) rfl (fun K hK => ?_) AllReadyH.nil
    go_simp
    refine hK.out _ _ (.inr rfl) (fun k2 => ?_)
    clear hK K
    try simp only [List.setIfInBounds_toArray, List.set_cons_zero, List.set_cons_succ]
    refine wpAnyH_done (by kernel_rfl) ?_ _
    refine NoPanic.normal ?_
    go_wp2
    go_ret
    exact ⟨rfl, HR.out.2, HR.out.1⟩
  · have hset : setK n ks x key = ks := by unfold setK; rw [if_neg hok]
    rw [hset, show setOk n x key = false by simpa using hok]
    cases hi : inB n x 1 with
    | false =>
      rw [hi] at H1
      clear hok hset hi
      go_enter Tryz.func32, Tryz.ntmps32
      go_wp2_with fail
      refine H1.out.mono ?_
      rintro e w1 ⟨rfl, rfl⟩
      go_wp2
      go_ret
      exact ⟨rfl, World.grownBy.refl _ _, HST.out⟩
    | true =>
      rw [hi] at H1
      have hk : ¬ (0 ≤ key ∧ key ≤ 31) := fun h => hok (by unfold setOk; rw [hi, decide_eq_true h]; rfl)
      clear hok hset hi
      by_cases h0 : key < 0
      · clear hk
        go_enter Tryz.func32, Tryz.ntmps32
        go_wp2_with fail
        refine H1.out.mono ?_
        rintro e w1 ⟨rfl, rfl⟩
        go_wp2
        go_ret
        exact ⟨rfl, World.grownBy.refl _ _, HST.out⟩
      · have h31 : 31 < key := by omega
        clear hk
        go_enter Tryz.func32, Tryz.ntmps32
        go_wp2_with fail
        refine H1.out.mono ?_
        rintro e w1 ⟨rfl, rfl⟩
        go_wp2
        go_ret
        exact ⟨rfl, World.grownBy.refl _ _, HST.out⟩
set_option maxRecDepth 100000 in
set_option maxHeartbeats 1000000 in
theorem keyOf_any (a g h n m : Nat) (x : Int) (bs ks : List UInt8) (w : World) (hx : x ≤ 9223372036854775807) (hst : Sto w a g h n m bs ks) :
    Calls Tryz.prog 22 #[.pointer (some ⟨a, 0, none⟩), .int .i64 x] w (New w (.tuple #[.int .i64 (keyV n ks x), .bool (inB n x 1)])) := by
  have hnum := hst.nums
  have H1 := Lib.hid (holds_any a g n x 1 w hx (by omega) hst.c0)
  cases hi : inB n x 1 with
  | true =>
    obtain ⟨h1, h2, h3⟩ := inB_iff.1 hi
    obtain ⟨X, rfl⟩ := Int.eq_ofNat_of_zero_le h1
    rw [hi] at H1
    obtain ⟨B, hB⟩ : ∃ B, B = X / 2048 := ⟨_, rfl⟩
    obtain ⟨v, hv⟩ : ∃ v, v = (gt ks B).toNat := ⟨_, rfl⟩
    have HV : Hid (keyV n ks (X : Int) = (v : Int)) := Lib.hid (by unfold keyV; rw [if_pos hi, hv, hB]; rfl)
    rw [HV.out]
    have HBO := Lib.hid (fun W => blockOf_any X W (by omega))
    rw [← hB] at HBO
    have hBm : B < m := by omega
    have hBm' : (B : Int) < (m : Int) := by omega
    have hstd := hst.below (Below.refl w.heap.size w).drew
    have hc1 := hstd.c1
    have hc2 := hstd.lock B hBm
    rw [← hv] at hc2
    have HC : Hid (∀ W, W = w.drew → W.cell? ⟨a, 1, none⟩ = some (.slice (some ⟨h, 0, none⟩) m m)) := Lib.hid (fun W hW => by rw [hW]; exact hc1)
    have HC2 : Hid (∀ W, W = w.drew → W.cell? ⟨h, B, none⟩ = some (.int .u8 (v : Int))) := Lib.hid (fun W hW => by rw [hW]; exact hc2)
    have hw8 := i64wrap (k := v) (by rw [hv]; exact (gt ks B).toNat_lt)
    clear hnum hi h1 h2 h3 hB hv hstd hc1 hc2 hst
    go_enter Tryz.func22, Tryz.ntmps22
    go_wp2_with fail
    refine H1.out.mono ?_
    rintro e w1 ⟨rfl, rfl⟩
    go_upto_region 3 with fail
    refine wp_region_noPanic ?_
    refine wp_region_held_drew (S := fun W => W = w.drew) (by kernel_rfl) rfl (fun k0 => ?_)
    show wpAnyH _ _ _ _ _ 11 #[false, false, false, false, false, false, false, false, false, false, false] _ _
    refine wpAnyH_take (i := 0) (oi := ⟨some 10, _, _, _, _, _⟩) (v := .pointer (some ⟨a, 0, none⟩)) rfl (by kernel_rfl) (by kernel_rfl) (by kernel_rfl) (fun _ _ _ h => h) (Or.inl ⟨by rfl, fun W hSw => by (try dsimp only at hSw); go_simp⟩) k0 ?_
    try simp only [Act.put, List.setIfInBounds_toArray, List.set_cons_zero, List.set_cons_succ]
    refine wpAnyH_take (i := 1) (oi := ⟨some 11, _, _, _, _, _⟩) (v := .pointer (some ⟨a, 0, none⟩)) rfl (by kernel_rfl) (by kernel_rfl) (by kernel_rfl) (fun _ _ _ h => h) (Or.inl ⟨by rfl, fun W hSw => by (try dsimp only at hSw); go_simp⟩) k0 ?_
    try simp only [Act.put, List.setIfInBounds_toArray, List.set_cons_zero, List.set_cons_succ]
    refine wpAnyH_take (i := 2) (oi := ⟨some 12, _, _, _, _, _⟩) (v := .pointer (some ⟨a, 1, none⟩)) rfl (by kernel_rfl) (by kernel_rfl) (by kernel_rfl) (fun _ _ _ h => h) (Or.inl ⟨by rfl, fun W hSw => by (try dsimp only at hSw); go_simp⟩) k0 ?_
    try simp only [Act.put, List.setIfInBounds_toArray, List.set_cons_zero, List.set_cons_succ]
    refine wpAnyH_take (i := 3) (oi := ⟨some 13, _, _, _, _, _⟩) (v := .slice (some ⟨h, 0, none⟩) m m) rfl (by kernel_rfl) (by kernel_rfl) (by kernel_rfl) (fun _ _ _ h => h) (Or.inl ⟨by rfl, fun W hSw => by have cc := HC.out W hSw; clear hSw; go_simp⟩) k0 ?_
    try simp only [Act.put, List.setIfInBounds_toArray, List.set_cons_zero, List.set_cons_succ]
    refine wpAnyH_take (i := 4) (oi := ⟨some 14, _, _, _, _, _⟩) (v := .int .i64 (X : Int)) rfl (by kernel_rfl) (by kernel_rfl) (by kernel_rfl) (fun _ _ _ h => h) (Or.inl ⟨by rfl, fun W hSw => by (try dsimp only at hSw); go_simp⟩) k0 ?_
    try simp only [Act.put, List.setIfInBounds_toArray, List.set_cons_zero, List.set_cons_succ]
    refine wpAnyH_ready (rs := [5]) (by kernel_rfl) (by simp) ?_
    refine AllReadyH.cons (o := ⟨some 15, _, _, _, _, _⟩) rfl (fun K hK => ?_) AllReadyH.nil
    go_simp
    go_at_call 41
    refine (HBO.out _).mono ?_
    rintro e x1 ⟨rfl, rfl⟩
    go_wp2_with fail
    refine hK.out _ _ (rfl) (fun k1 => ?_)
    clear hK K
    try simp only [List.setIfInBounds_toArray, List.set_cons_zero, List.set_cons_succ]
    refine wpAnyH_take (i := 6) (oi := ⟨some 16, _, _, _, _, _⟩) (v := .pointer (some ⟨h, B, none⟩)) rfl (by kernel_rfl) (by kernel_rfl) (by kernel_rfl) (fun _ _ _ h => h) (Or.inl ⟨by rfl, fun W hSw => by (try dsimp only at hSw); go_simp⟩) k1 ?_
    try simp only [Act.put, List.setIfInBounds_toArray, List.set_cons_zero, List.set_cons_succ]
    refine wpAnyH_take (i := 7) (oi := ⟨some 17, _, _, _, _, _⟩) (v := .int .u8 (v : Int)) rfl (by kernel_rfl) (by kernel_rfl) (by kernel_rfl) (fun _ _ _ h => h) (Or.inl ⟨by rfl, fun W hSw => by have cc := HC2.out W hSw; clear hSw; go_simp⟩) k1 ?_
    try simp only [Act.put, List.setIfInBounds_toArray, List.set_cons_zero, List.set_cons_succ]
    refine wpAnyH_take (i := 8) (oi := ⟨some 18, _, _, _, _, _⟩) (v := .int .i64 (v : Int)) rfl (by kernel_rfl) (by kernel_rfl) (by kernel_rfl) (fun _ _ _ h => h) (Or.inl ⟨by rfl, fun W hSw => by (try dsimp only at hSw); go_simp⟩) k1 ?_
    try simp only [Act.put, List.setIfInBounds_toArray, List.set_cons_zero, List.set_cons_succ]
    refine wpAnyH_take (i := 9) (oi := ⟨some 4, _, _, _, _, _⟩) (v := .int .i64 (v : Int)) rfl (by kernel_rfl) (by kernel_rfl) (by kernel_rfl) (fun _ _ _ h => h) (Or.inl ⟨by rfl, fun W hSw => by (try dsimp only at hSw); go_simp⟩) k1 ?_
    try simp only [Act.put, List.setIfInBounds_toArray, List.set_cons_zero, List.set_cons_succ]
    refine wpAnyH_take (i := 10) (oi := ⟨some 5, _, _, _, _, _⟩) (v := .bool true) rfl (by kernel_rfl) (by kernel_rfl) (by kernel_rfl) (fun _ _ _ h => h) (Or.inl ⟨by rfl, fun W hSw => by (try dsimp only at hSw); go_simp⟩) k1 ?_
    try simp only [Act.put, List.setIfInBounds_toArray, List.set_cons_zero, List.set_cons_succ]
    refine wpAnyH_done (by kernel_rfl) ?_ _
    refine NoPanic.normal ?_
    go_wp2
    go_ret2
    exact ⟨rfl, (Below.refl _ w).drew⟩
  | false =>
    rw [hi] at H1
    have hk : keyV n ks x = 0 := by unfold keyV; rw [if_neg (by rw [hi]; simp)]
    rw [hk]
    clear hi hk
    go_enter Tryz.func22, Tryz.ntmps22
    go_wp2_with fail
    refine H1.out.mono ?_
    rintro e w1 ⟨rfl, rfl⟩
    go_wp2
    go_ret2
    exact ⟨rfl, Below.refl _ _⟩

end E
end Go.Proofs.YtbcncohjjnmdcaaGreatDoor
namespace Go.Proofs.YtbcncohjjnmdcaaGreatDoor
open Go.RowKit Go.Shelf
set_option linter.unusedVariables false
namespace E

theorem info68 : (Tryz.prog.info? 85).map (fun i => (i.zero, i.size, i.bytes)) = some (some (.int .u8 0), 1, 1) := by kernel_rfl
theorem info3 : (Tryz.prog.info? 3).map (fun i => (i.zero, i.size, i.bytes)) = some (some (.int .i64 0), 1, 8) := by kernel_rfl
/-- make, wherever it comes up. -/
theorem op_make {P : Program} {o : Oper} {a : Act} {w : World} {K : Act → World → Prop} {Q : Exit → Act → World → Prop} (l c : Operand) (t : TypeId) (hop : o.op = Op.makeSlice t l c)
    (e : TypeId) (i : TypeInfo) (z : Value) (h1 : P.underlying t = some (.slice e)) (h2 : P.info? e = some i) (h3 : i.zero = some z) (h4 : i.size = 1) (n : Nat)
    (hl : a.eval l = .int .i64 (n : Int)) (hc : a.eval c = .int .i64 (n : Int)) (b2 : i.bytes * n ≤ 281474976710656) (b3 : n ≤ maxLen)
    (hK : ∀ w', w'.ownsRow w.heap.size e 1 (.slice (some ⟨w.heap.size, 0, none⟩) n n) n (madeCells z.cells (n * 1)).toList → w.grownBy w' none → K (a.put o.dst (.slice (some ⟨w.heap.size, 0, none⟩) n n)) w') :
    Oper.wp P o a w K Q := by
  obtain ⟨w', hrun, r1, r2⟩ := run_make_full (P := P) w w.heap.size t e i z 1 h1 h2 h3 h4 .i64 .i64 n b2 b3 (Nat.le_refl _)
  unfold Oper.wp
  simp [execOp, hop, hl, hc, hrun, Result.andThen]
  exact hK w' r1 r2
theorem row_made {w w' : World} {g n : Nat} {k : IntKind} {t : TypeId} (h : w.ownsRow g t 1 (.slice (some ⟨g, 0, none⟩) n n) n (madeCells (Value.cells (.int k 0)) (n * 1)).toList) (hb : Below w.heap.size w w') : Row w' g t (List.replicate n (.int k 0)) n := by
  rw [Nat.mul_one, show (madeCells (Value.cells (.int k 0)) n).toList = List.replicate n (.int k 0) from toList_madeCells_one _ n] at h
  exact (own_row h (by simp)).below hb
theorem Row.rep {w w' : World} {g n : Nat} {t : TypeId} (h : Row w g t (List.replicate n (.int .u8 0)) n) (hb : Below w.heap.size w w') : Row w' g t (bsU (List.replicate n 0)) n := by
  rw [bsU_rep]
  exact h.below hb
theorem Row.repI {w w' : World} {g n : Nat} {t : TypeId} (h : Row w g t (List.replicate n (.int .i64 0)) n) (hb : Below w.heap.size w w') : Row w' g t (bsI (List.replicate n 0)) n := by
  rw [show bsI (List.replicate n 0) = List.replicate n (.int .i64 0) by simp [bsI]]
  exact h.below hb
/-- Is it a size? -/
def sizeOk (x : Int) : Bool := decide (2048 ≤ x ∧ x ≤ 65536 ∧ x % 2048 = 0)
/-- What New leaves. -/
def NewPost (w : World) (N M : Nat) (e : Ending) (w' : World) : Prop := ∃ a g h, e = .returned (.tuple #[.pointer (some ⟨a, 0, none⟩), .int .i64 0]) ∧ Sto w' a g h N M (List.replicate N 0) (List.replicate M 0) ∧ w.heap.size ≤ a ∧ w.heap.size ≤ g ∧ w.heap.size ≤ h ∧ Below w.heap.size w w'
def RNewPost (w : World) (N M : Nat) (e : Ending) (w' : World) : Prop := ∃ a g h, e = .returned (.pointer (some ⟨a, 0, none⟩)) ∧ Rfs w' a g h N M N M (List.replicate N 0) (List.replicate M 0) ∧ w.heap.size ≤ a ∧ w.heap.size ≤ g ∧ w.heap.size ≤ h ∧ Below w.heap.size w w'
set_option maxRecDepth 100000 in
set_option maxHeartbeats 1000000 in
theorem new_any (x : Int) (w : World) (h : sizeOk x = true) : Calls Tryz.prog 23 #[.int .i64 x] w (NewPost w x.toNat (x.toNat / 2048)) := by
  obtain ⟨h1, h2, h3⟩ := of_decide_eq_true h
  obtain ⟨N, rfl⟩ := Int.eq_ofNat_of_zero_le (show 0 ≤ x by omega)
  obtain ⟨M, hM⟩ : ∃ M, M = N / 2048 := ⟨_, rfl⟩
  have hNM : N = M * 2048 ∧ 1 ≤ M ∧ M ≤ 32 := by omega
  have HNM := Lib.hid hNM
  have hd1 : ¬ (N : Int) < 2048 := by omega
  have hd2 : ¬ (65536 : Int) < (N : Int) := by omega
  have hN : N ≤ 65536 := by omega
  have hM32 : M ≤ 32 := by omega
  have hr : (N : Int) % 2048 = 0 := by omega
  have hr' : Int.tmod (N : Int) 2048 = 0 := by rw [Int.tmod_eq_emod_of_nonneg (by omega)]; exact hr
  have hq : IntKind.i64.wrap ((N : Int) / 2048) = (M : Int) := by
    rw [show (N : Int) / 2048 = (M : Int) by omega]
    exact i64wrap (by omega)
  obtain ⟨iu0, iuh, iua, iub, iuc⟩ := info_parts info5
  obtain ⟨il0, ilh, ila, ilb, ilc⟩ := info_parts info68
  show Calls _ _ _ _ (NewPost w N (N / 2048))
  rw [← hM]
  clear h h1 h2 h3 hM hNM
  go_enter Tryz.func23, Tryz.ntmps23
  go_upto_region 3 with fail
  refine wp_region_noPanic ?_
  refine wp_region_held_drew (S := fun W => Below w.heap.size w W) (by kernel_rfl) ((Below.refl _ w).drew) (fun k0 => ?_)
  show wpAnyH _ _ _ _ _ 9 #[false, false, false, false, false, false, false, false, false] _ _
  refine wpAnyH_take (i := 0) (oi := ⟨some 15, _, _, _, _, _⟩) (v := .int .i64 (N : Int)) rfl (by kernel_rfl) (by kernel_rfl) (by kernel_rfl) (fun _ _ _ h => h) (Or.inl ⟨by rfl, fun W hSw => by (try dsimp only at hSw); go_simp⟩) k0 ?_
  try simp only [Act.put, List.setIfInBounds_toArray, List.set_cons_zero, List.set_cons_succ]
  refine wpAnyH_take (i := 2) (oi := ⟨some 17, _, _, _, _, _⟩) (v := .int .i64 (N : Int)) rfl (by kernel_rfl) (by kernel_rfl) (by kernel_rfl) (fun _ _ _ h => h) (Or.inl ⟨by rfl, fun W hSw => by (try dsimp only at hSw); go_simp⟩) k0 ?_
  try simp only [Act.put, List.setIfInBounds_toArray, List.set_cons_zero, List.set_cons_succ]
  refine wpAnyH_take (i := 3) (oi := ⟨some 18, _, _, _, _, _⟩) (v := .int .i64 (M : Int)) rfl (by kernel_rfl) (by kernel_rfl) (by kernel_rfl) (fun _ _ _ h => h) (Or.inl ⟨by rfl, fun W hSw => by (try dsimp only at hSw); go_simp⟩) k0 ?_
  try simp only [Act.put, List.setIfInBounds_toArray, List.set_cons_zero, List.set_cons_succ]
  refine wpAnyH_ready (rs := [1, 4]) (by kernel_rfl) (by simp) ?_
  refine AllReadyH.cons (o := ⟨some 16, _, _, _, _, _⟩) rfl (fun K hK => ?_) (AllReadyH.cons (o := ⟨some 19, _, _, _, _, _⟩) rfl (fun K hK => ?_) AllReadyH.nil)
  · rw [if_pos (by rfl)]
    refine op_make (.tmp 15) (.tmp 15) 31 rfl 5 iu0 (.int .u8 0) Tryz.underlying31 iuh iua iub N rfl rfl (by rw [iuc]; omega) (by unfold maxLen; omega) ?_
    intro w1 hr1 hg1
    have HRB := Lib.hid (row_made hr1 (Below.refl _ _))
    have HRBs := Lib.hid (Below.size (show Below w.heap.size w w.drew from k0))
    refine hK.out _ _ (bel0 k0 (below_of hg1)) (fun k1 => ?_)
    clear hr1 hg1
    clear hK K
    try simp only [List.setIfInBounds_toArray, List.set_cons_zero, List.set_cons_succ]
    refine wpAnyH_ready (rs := [4]) (by kernel_rfl) (by simp) ?_
    refine AllReadyH.cons (o := ⟨some 19, _, _, _, _, _⟩) rfl (fun K hK => ?_) AllReadyH.nil
    rw [if_pos (by rfl)]
    refine op_make (.tmp 18) (.tmp 18) 82 rfl 85 il0 (.int .u8 0) Tryz.underlying82 ilh ila ilb M rfl rfl (by rw [ilc]; omega) (by unfold maxLen; omega) ?_
    intro w2 hr2 hg2
    replace HRB := Lib.hid (HRB.out.below (below_of hg2))
    have HRL := Lib.hid (row_made hr2 (Below.refl _ _))
    have HRLs := Lib.hid (Below.size (show Below w.heap.size w w1 from k1))
    refine hK.out _ _ (bel0 k1 (below_of hg2)) (fun k2 => ?_)
    clear hr2 hg2
    clear hK K
    try simp only [List.setIfInBounds_toArray, List.set_cons_zero, List.set_cons_succ]
    refine wpAnyH_take (i := 5) (oi := ⟨some 20, _, _, _, _, _⟩) (v := .agg #[.slice (some ⟨w.drew.heap.size, 0, none⟩) N N, .slice (some ⟨w1.heap.size, 0, none⟩) M M]) rfl (by kernel_rfl) (by kernel_rfl) (by kernel_rfl) (fun _ _ _ h => h) (Or.inl ⟨by rfl, fun W hSw => by (try dsimp only at hSw); go_simp⟩) k2 ?_
    try simp only [Act.put, List.setIfInBounds_toArray, List.set_cons_zero, List.set_cons_succ]
    refine wpAnyH_ready (rs := [6]) (by kernel_rfl) (by simp) ?_
    refine AllReadyH.cons (o := ⟨some 21, _, _, _, _, _⟩) rfl (fun K hK => ?_) AllReadyH.nil
    go_simp
    refine hK.out _ _ (bel0 k2 (below_new _ _)) (fun k3 => ?_)
    clear hK K
    try simp only [List.setIfInBounds_toArray, List.set_cons_zero, List.set_cons_succ]
    refine wpAnyH_take (i := 7) (oi := ⟨some 2, _, _, _, _, _⟩) (v := .pointer (some ⟨w2.heap.size, 0, none⟩)) rfl (by kernel_rfl) (by kernel_rfl) (by kernel_rfl) (fun _ _ _ h => h) (Or.inl ⟨by rfl, fun W hSw => by (try dsimp only at hSw); go_simp⟩) k3 ?_
    try simp only [Act.put, List.setIfInBounds_toArray, List.set_cons_zero, List.set_cons_succ]
    refine wpAnyH_take (i := 8) (oi := ⟨some 3, _, _, _, _, _⟩) (v := .int .i64 0) rfl (by kernel_rfl) (by kernel_rfl) (by kernel_rfl) (fun _ _ _ h => h) (Or.inl ⟨by rfl, fun W hSw => by (try dsimp only at hSw); go_simp⟩) k3 ?_
    try simp only [Act.put, List.setIfInBounds_toArray, List.set_cons_zero, List.set_cons_succ]
    refine wpAnyH_done (by kernel_rfl) ?_ _
    refine NoPanic.normal ?_
    go_wp2
    go_ret2
    exact ⟨_, _, _, rfl, ⟨Bx.new _ _ _, Row.rep HRB.out (below_new _ _), Row.rep HRL.out (below_new _ _), by simp, by simp, HNM.out.1, HNM.out.2.1, HNM.out.2.2⟩, Below.size (show Below w.heap.size w w2 from k2), HRBs.out, HRLs.out, k3⟩
  · rw [if_pos (by rfl)]
    refine op_make (.tmp 18) (.tmp 18) 82 rfl 85 il0 (.int .u8 0) Tryz.underlying82 ilh ila ilb M rfl rfl (by rw [ilc]; omega) (by unfold maxLen; omega) ?_
    intro w1 hr1 hg1
    have HRL := Lib.hid (row_made hr1 (Below.refl _ _))
    have HRLs := Lib.hid (Below.size (show Below w.heap.size w w.drew from k0))
    refine hK.out _ _ (bel0 k0 (below_of hg1)) (fun k1 => ?_)
    clear hr1 hg1
    clear hK K
    try simp only [List.setIfInBounds_toArray, List.set_cons_zero, List.set_cons_succ]
    refine wpAnyH_ready (rs := [1]) (by kernel_rfl) (by simp) ?_
    refine AllReadyH.cons (o := ⟨some 16, _, _, _, _, _⟩) rfl (fun K hK => ?_) AllReadyH.nil
    rw [if_pos (by rfl)]
    refine op_make (.tmp 15) (.tmp 15) 31 rfl 5 iu0 (.int .u8 0) Tryz.underlying31 iuh iua iub N rfl rfl (by rw [iuc]; omega) (by unfold maxLen; omega) ?_
    intro w2 hr2 hg2
    replace HRL := Lib.hid (HRL.out.below (below_of hg2))
    have HRB := Lib.hid (row_made hr2 (Below.refl _ _))
    have HRBs := Lib.hid (Below.size (show Below w.heap.size w w1 from k1))
    refine hK.out _ _ (bel0 k1 (below_of hg2)) (fun k2 => ?_)
    clear hr2 hg2
    clear hK K
    try simp only [List.setIfInBounds_toArray, List.set_cons_zero, List.set_cons_succ]
    refine wpAnyH_take (i := 5) (oi := ⟨some 20, _, _, _, _, _⟩) (v := .agg #[.slice (some ⟨w1.heap.size, 0, none⟩) N N, .slice (some ⟨w.drew.heap.size, 0, none⟩) M M]) rfl (by kernel_rfl) (by kernel_rfl) (by kernel_rfl) (fun _ _ _ h => h) (Or.inl ⟨by rfl, fun W hSw => by (try dsimp only at hSw); go_simp⟩) k2 ?_
    try simp only [Act.put, List.setIfInBounds_toArray, List.set_cons_zero, List.set_cons_succ]
    refine wpAnyH_ready (rs := [6]) (by kernel_rfl) (by simp) ?_
    refine AllReadyH.cons (o := ⟨some 21, _, _, _, _, _⟩) rfl (fun K hK => ?_) AllReadyH.nil
    go_simp
    refine hK.out _ _ (bel0 k2 (below_new _ _)) (fun k3 => ?_)
    clear hK K
    try simp only [List.setIfInBounds_toArray, List.set_cons_zero, List.set_cons_succ]
    refine wpAnyH_take (i := 7) (oi := ⟨some 2, _, _, _, _, _⟩) (v := .pointer (some ⟨w2.heap.size, 0, none⟩)) rfl (by kernel_rfl) (by kernel_rfl) (by kernel_rfl) (fun _ _ _ h => h) (Or.inl ⟨by rfl, fun W hSw => by (try dsimp only at hSw); go_simp⟩) k3 ?_
    try simp only [Act.put, List.setIfInBounds_toArray, List.set_cons_zero, List.set_cons_succ]
    refine wpAnyH_take (i := 8) (oi := ⟨some 3, _, _, _, _, _⟩) (v := .int .i64 0) rfl (by kernel_rfl) (by kernel_rfl) (by kernel_rfl) (fun _ _ _ h => h) (Or.inl ⟨by rfl, fun W hSw => by (try dsimp only at hSw); go_simp⟩) k3 ?_
    try simp only [Act.put, List.setIfInBounds_toArray, List.set_cons_zero, List.set_cons_succ]
    refine wpAnyH_done (by kernel_rfl) ?_ _
    refine NoPanic.normal ?_
    go_wp2
    go_ret2
    exact ⟨_, _, _, rfl, ⟨Bx.new _ _ _, Row.rep HRB.out (below_new _ _), Row.rep HRL.out (below_new _ _), by simp, by simp, HNM.out.1, HNM.out.2.1, HNM.out.2.2⟩, Below.size (show Below w.heap.size w w2 from k2), HRBs.out, HRLs.out, k3⟩
set_option maxRecDepth 100000 in
set_option maxHeartbeats 1000000 in
theorem rnew_any (x : Int) (w : World) (h : sizeOk x = true) : Calls Tryz.prog 30 #[.int .i64 x] w (RNewPost w x.toNat (x.toNat / 2048)) := by
  obtain ⟨h1, h2, h3⟩ := of_decide_eq_true h
  obtain ⟨N, rfl⟩ := Int.eq_ofNat_of_zero_le (show 0 ≤ x by omega)
  obtain ⟨M, hM⟩ : ∃ M, M = N / 2048 := ⟨_, rfl⟩
  have hNM : N = M * 2048 ∧ 1 ≤ M ∧ M ≤ 32 := by omega
  have HNM := Lib.hid hNM
  have hd1 : ¬ (N : Int) < 2048 := by omega
  have hd2 : ¬ (65536 : Int) < (N : Int) := by omega
  have hN : N ≤ 65536 := by omega
  have hM32 : M ≤ 32 := by omega
  have hr : (N : Int) % 2048 = 0 := by omega
  have hr' : Int.tmod (N : Int) 2048 = 0 := by rw [Int.tmod_eq_emod_of_nonneg (by omega)]; exact hr
  have hq : IntKind.i64.wrap ((N : Int) / 2048) = (M : Int) := by
    rw [show (N : Int) / 2048 = (M : Int) by omega]
    exact i64wrap (by omega)
  obtain ⟨iu0, iuh, iua, iub, iuc⟩ := info_parts info5
  obtain ⟨il0, ilh, ila, ilb, ilc⟩ := info_parts info3
  show Calls _ _ _ _ (RNewPost w N (N / 2048))
  rw [← hM]
  clear h h1 h2 h3 hM hNM
  go_enter Tryz.func30, Tryz.ntmps30
  go_upto_region 3 with fail
  refine wp_region_noPanic ?_
  refine wp_region_held_drew (S := fun W => Below w.heap.size w W) (by kernel_rfl) ((Below.refl _ w).drew) (fun k0 => ?_)
  show wpAnyH _ _ _ _ _ 8 #[false, false, false, false, false, false, false, false] _ _
  refine wpAnyH_take (i := 0) (oi := ⟨some 14, _, _, _, _, _⟩) (v := .int .i64 (N : Int)) rfl (by kernel_rfl) (by kernel_rfl) (by kernel_rfl) (fun _ _ _ h => h) (Or.inl ⟨by rfl, fun W hSw => by (try dsimp only at hSw); go_simp⟩) k0 ?_
  try simp only [Act.put, List.setIfInBounds_toArray, List.set_cons_zero, List.set_cons_succ]
  refine wpAnyH_take (i := 2) (oi := ⟨some 16, _, _, _, _, _⟩) (v := .int .i64 (N : Int)) rfl (by kernel_rfl) (by kernel_rfl) (by kernel_rfl) (fun _ _ _ h => h) (Or.inl ⟨by rfl, fun W hSw => by (try dsimp only at hSw); go_simp⟩) k0 ?_
  try simp only [Act.put, List.setIfInBounds_toArray, List.set_cons_zero, List.set_cons_succ]
  refine wpAnyH_take (i := 3) (oi := ⟨some 17, _, _, _, _, _⟩) (v := .int .i64 (M : Int)) rfl (by kernel_rfl) (by kernel_rfl) (by kernel_rfl) (fun _ _ _ h => h) (Or.inl ⟨by rfl, fun W hSw => by (try dsimp only at hSw); go_simp⟩) k0 ?_
  try simp only [Act.put, List.setIfInBounds_toArray, List.set_cons_zero, List.set_cons_succ]
  refine wpAnyH_ready (rs := [1, 4]) (by kernel_rfl) (by simp) ?_
  refine AllReadyH.cons (o := ⟨some 15, _, _, _, _, _⟩) rfl (fun K hK => ?_) (AllReadyH.cons (o := ⟨some 18, _, _, _, _, _⟩) rfl (fun K hK => ?_) AllReadyH.nil)
  · rw [if_pos (by rfl)]
    refine op_make (.tmp 14) (.tmp 14) 31 rfl 5 iu0 (.int .u8 0) Tryz.underlying31 iuh iua iub N rfl rfl (by rw [iuc]; omega) (by unfold maxLen; omega) ?_
    intro w1 hr1 hg1
    have HRB := Lib.hid (row_made hr1 (Below.refl _ _))
    have HRBs := Lib.hid (Below.size (show Below w.heap.size w w.drew from k0))
    refine hK.out _ _ (bel0 k0 (below_of hg1)) (fun k1 => ?_)
    clear hr1 hg1
    clear hK K
    try simp only [List.setIfInBounds_toArray, List.set_cons_zero, List.set_cons_succ]
    refine wpAnyH_ready (rs := [4]) (by kernel_rfl) (by simp) ?_
    refine AllReadyH.cons (o := ⟨some 18, _, _, _, _, _⟩) rfl (fun K hK => ?_) AllReadyH.nil
    rw [if_pos (by rfl)]
    refine op_make (.tmp 17) (.tmp 17) 66 rfl 3 il0 (.int .i64 0) Tryz.underlying66 ilh ila ilb M rfl rfl (by rw [ilc]; omega) (by unfold maxLen; omega) ?_
    intro w2 hr2 hg2
    replace HRB := Lib.hid (HRB.out.below (below_of hg2))
    have HRL := Lib.hid (row_made hr2 (Below.refl _ _))
    have HRLs := Lib.hid (Below.size (show Below w.heap.size w w1 from k1))
    refine hK.out _ _ (bel0 k1 (below_of hg2)) (fun k2 => ?_)
    clear hr2 hg2
    clear hK K
    try simp only [List.setIfInBounds_toArray, List.set_cons_zero, List.set_cons_succ]
    refine wpAnyH_take (i := 5) (oi := ⟨some 19, _, _, _, _, _⟩) (v := .agg #[.slice (some ⟨w.drew.heap.size, 0, none⟩) N N, .slice (some ⟨w1.heap.size, 0, none⟩) M M]) rfl (by kernel_rfl) (by kernel_rfl) (by kernel_rfl) (fun _ _ _ h => h) (Or.inl ⟨by rfl, fun W hSw => by (try dsimp only at hSw); go_simp⟩) k2 ?_
    try simp only [Act.put, List.setIfInBounds_toArray, List.set_cons_zero, List.set_cons_succ]
    refine wpAnyH_ready (rs := [6]) (by kernel_rfl) (by simp) ?_
    refine AllReadyH.cons (o := ⟨some 20, _, _, _, _, _⟩) rfl (fun K hK => ?_) AllReadyH.nil
    go_simp
    refine hK.out _ _ (bel0 k2 (below_new _ _)) (fun k3 => ?_)
    clear hK K
    try simp only [List.setIfInBounds_toArray, List.set_cons_zero, List.set_cons_succ]
    refine wpAnyH_take (i := 7) (oi := ⟨some 2, _, _, _, _, _⟩) (v := .pointer (some ⟨w2.heap.size, 0, none⟩)) rfl (by kernel_rfl) (by kernel_rfl) (by kernel_rfl) (fun _ _ _ h => h) (Or.inl ⟨by rfl, fun W hSw => by (try dsimp only at hSw); go_simp⟩) k3 ?_
    try simp only [Act.put, List.setIfInBounds_toArray, List.set_cons_zero, List.set_cons_succ]
    refine wpAnyH_done (by kernel_rfl) ?_ _
    refine NoPanic.normal ?_
    go_wp2
    go_ret
    exact ⟨_, _, _, rfl, ⟨Bx.new _ _ _, Row.rep HRB.out (below_new _ _), Row.repI HRL.out (below_new _ _), by simp, by simp, HNM.out.1, HNM.out.2.1, HNM.out.2.2, by omega, by omega⟩, Below.size (show Below w.heap.size w w2 from k2), HRBs.out, HRLs.out, k3⟩
  · rw [if_pos (by rfl)]
    refine op_make (.tmp 17) (.tmp 17) 66 rfl 3 il0 (.int .i64 0) Tryz.underlying66 ilh ila ilb M rfl rfl (by rw [ilc]; omega) (by unfold maxLen; omega) ?_
    intro w1 hr1 hg1
    have HRL := Lib.hid (row_made hr1 (Below.refl _ _))
    have HRLs := Lib.hid (Below.size (show Below w.heap.size w w.drew from k0))
    refine hK.out _ _ (bel0 k0 (below_of hg1)) (fun k1 => ?_)
    clear hr1 hg1
    clear hK K
    try simp only [List.setIfInBounds_toArray, List.set_cons_zero, List.set_cons_succ]
    refine wpAnyH_ready (rs := [1]) (by kernel_rfl) (by simp) ?_
    refine AllReadyH.cons (o := ⟨some 15, _, _, _, _, _⟩) rfl (fun K hK => ?_) AllReadyH.nil
    rw [if_pos (by rfl)]
    refine op_make (.tmp 14) (.tmp 14) 31 rfl 5 iu0 (.int .u8 0) Tryz.underlying31 iuh iua iub N rfl rfl (by rw [iuc]; omega) (by unfold maxLen; omega) ?_
    intro w2 hr2 hg2
    replace HRL := Lib.hid (HRL.out.below (below_of hg2))
    have HRB := Lib.hid (row_made hr2 (Below.refl _ _))
    have HRBs := Lib.hid (Below.size (show Below w.heap.size w w1 from k1))
    refine hK.out _ _ (bel0 k1 (below_of hg2)) (fun k2 => ?_)
    clear hr2 hg2
    clear hK K
    try simp only [List.setIfInBounds_toArray, List.set_cons_zero, List.set_cons_succ]
    refine wpAnyH_take (i := 5) (oi := ⟨some 19, _, _, _, _, _⟩) (v := .agg #[.slice (some ⟨w1.heap.size, 0, none⟩) N N, .slice (some ⟨w.drew.heap.size, 0, none⟩) M M]) rfl (by kernel_rfl) (by kernel_rfl) (by kernel_rfl) (fun _ _ _ h => h) (Or.inl ⟨by rfl, fun W hSw => by (try dsimp only at hSw); go_simp⟩) k2 ?_
    try simp only [Act.put, List.setIfInBounds_toArray, List.set_cons_zero, List.set_cons_succ]
    refine wpAnyH_ready (rs := [6]) (by kernel_rfl) (by simp) ?_
    refine AllReadyH.cons (o := ⟨some 20, _, _, _, _, _⟩) rfl (fun K hK => ?_) AllReadyH.nil
    go_simp
    refine hK.out _ _ (bel0 k2 (below_new _ _)) (fun k3 => ?_)
    clear hK K
    try simp only [List.setIfInBounds_toArray, List.set_cons_zero, List.set_cons_succ]
    refine wpAnyH_take (i := 7) (oi := ⟨some 2, _, _, _, _, _⟩) (v := .pointer (some ⟨w2.heap.size, 0, none⟩)) rfl (by kernel_rfl) (by kernel_rfl) (by kernel_rfl) (fun _ _ _ h => h) (Or.inl ⟨by rfl, fun W hSw => by (try dsimp only at hSw); go_simp⟩) k3 ?_
    try simp only [Act.put, List.setIfInBounds_toArray, List.set_cons_zero, List.set_cons_succ]
    refine wpAnyH_done (by kernel_rfl) ?_ _
    refine NoPanic.normal ?_
    go_wp2
    go_ret
    exact ⟨_, _, _, rfl, ⟨Bx.new _ _ _, Row.rep HRB.out (below_new _ _), Row.repI HRL.out (below_new _ _), by simp, by simp, HNM.out.1, HNM.out.2.1, HNM.out.2.2, by omega, by omega⟩, Below.size (show Below w.heap.size w w2 from k2), HRBs.out, HRLs.out, k3⟩
end E
end Go.Proofs.YtbcncohjjnmdcaaGreatDoor
namespace Go.Proofs.YtbcncohjjnmdcaaGreatDoor
open Go.RowKit Go.Shelf
set_option linter.unusedVariables false
namespace E

end E
end Go.Proofs.YtbcncohjjnmdcaaGreatDoor

/- The code of an access: the contracts of refusal. -/
import Derived.Test.YtnnpnklbhghegaaStGrant
namespace Go.Proofs.Ytnnpnklbhghegaa
open Go.RowKit Go.Shelf
set_option linter.unusedVariables false
namespace E
attribute [local go_sem] Oper.semAt_some

set_option maxRecDepth 100000 in
theorem refusalS_no (a g nn : Nat) (x k : Int) (v : Value) (w : World) (hx : x ≤ 9223372036854775807) (hn : nn ≤ 65536) (hc : w.cell? ⟨a, 0, none⟩ = some (.slice (some ⟨g, 0, none⟩) nn nn)) (hi : inB nn x k = false) :
    Calls Try.prog 37 #[.pointer (some ⟨a, 0, none⟩), .int .i64 x, .int .i64 k, v] w (New w (.int .i64 5)) := by
  have H1 := Lib.hid (holds_any a g nn x k (w.alloc (.cells #[.int .i64 0] 3)) hx hn (Lib.cell?_alloc_some _ hc))
  rw [hi] at H1
  go_enter Try.func37, Try.ntmps37
  go_wp2_with fail
  refine H1.out.mono ?_
  rintro e w1 ⟨rfl, rfl⟩
  go_wp2
  refine bodyPost_ret (results_cell1 rfl rfl (v := .int .i64 5) (by simp [go_sem]) Try.underlying3 rfl) rfl ?_
  exact ⟨rfl, by simpa using below_new w _⟩
set_option maxRecDepth 100000 in
set_option maxHeartbeats 2000000 in
theorem refusalS_yes (a g h nn m K : Nat) (x k : Nat) (bs ks : List UInt8) (key : Int) (w : World) (hxk : x + k ≤ nn) (hst : Sto w a g h nn m bs ks) (hkey : Boxed w K 3 (.int .i64 key)) :
    Calls Try.prog 37 #[.pointer (some ⟨a, 0, none⟩), .int .i64 (x : Int), .int .i64 (k : Int), (storesV K)] w (New w (.int .i64 (if allB (stP key) ks x k = true then 0 else 4))) := by
  refine (callsIn_wide (n := 5)).1 ?_
  have hro : Fence.wide.round = none := rfl
  have hn : nn ≤ 65536 := by have := hst.nums; omega
  obtain ⟨c, hc⟩ : ∃ c : Int, c = if allB (stP key) ks x k = true then 0 else 4 := ⟨_, rfl⟩
  rw [← hc]
  have HC := Lib.hid hc
  clear hc
  have hin : inB nn (x : Int) (k : Int) = true := inB_iff.2 ⟨by omega, by omega, by omega⟩
  have hstA := hst.below (below_new w (.cells #[.int .i64 0] 3))
  have H1 := Lib.hid (holds_any a g nn (x : Int) (k : Int) (w.alloc (.cells #[.int .i64 0] 3)) (by omega) hn hstA.c0)
  rw [hin] at H1
  have HG := Lib.hid (grants_any a x k)
  have HXK := Lib.hid hxk
  have HST := Lib.hid hst
  have HGL := Lib.hid (grL_all (stP key) ks x k)
  have hgf := Lib.hid (enters_of Try.func47 (by kernel_rfl) rfl)
  have HKEY := Lib.hid hkey
  obtain ⟨ds, hds⟩ : ∃ ds, ds = grL (stP key) ks x (blkN x k) := ⟨_, rfl⟩
  have HDS := Lib.hid hds
  have hW0 := below_new w (.cells #[.int .i64 0] 3)
  have HW0 := Lib.hid hW0
  clear hxk hst hin hstA hkey hds hW0
  unfold storesV
  refine callsIn_of_wp_marks Try.func37 rfl trivial ?_ hro
  simp only [Try.ntmps37, List.size_toArray, List.length_cons, List.length_nil, Nat.reduceAdd, Nat.reduceSub, Array.replicate_succ, Array.replicate_zero, List.push_toArray, List.append_toArray, List.nil_append, List.cons_append]
  gi_wp2_with fail
  refine ⟨trivial, (callsIn_wide.2 H1.out).mono ?_⟩
  rintro e w1 ⟨rfl, rfl⟩
  gi_wp2_with fail
  refine ⟨trivial, (callsIn_wide.2 (HG.out _ _ _)).mono ?_⟩
  rintro e w2 ⟨Bs, Ba, Bn, Bm, rfl, ba, bn, bm, bp, hb2⟩
  have HBA := Lib.hid ba
  have HBN := Lib.hid bn
  have HBM := Lib.hid bm
  have HBP := Lib.hid bp
  have bD := (Boxed.new w 3 (.int .i64 0)).kept (grown_of hb2 none) (by simp)
  have HBD := Lib.hid bD
  have hB2 := bel0 HW0.out hb2
  have HBW := Lib.hid hB2
  have hsz : w.heap.size ≤ w2.heap.size := hB2.size
  clear ba bn bm bp hb2 bD hB2
  gi_wp2_with fail
  refine wpIn_rangeFunc_ownG hro (by omega) (gf := 47) (lb := #[.pointer (some ⟨Ba, 0, none⟩), .pointer (some ⟨Bn, 0, none⟩), .pointer (some ⟨Bm, 0, none⟩), .pointer (some ⟨Bs, 0, none⟩)]) rfl trivial hgf.out
    (grantsS_stops (5 - 1) (by omega) Ba Bn Bm Bs K x k a g h nn m bs ks key w2 HXK.out HBA.out HBN.out HBM.out HBP.out (HKEY.out.kept (grown_of HBW.out none) (by simp)) (HST.out.below HBW.out)) belowK_t (belowK_b (Nat.le_refl _)) (Below.refl _ w2) (fun _ => rfl)
    (fun pre W => RI w.heap.size pre W ∧ Below w.heap.size w W)
    (fun cd pre W => RX w.heap.size cd pre W ∧ Below w.heap.size w W)
    (OwnFrom.and (Own.from (RI.own _) _) (ownFrom_below (Nat.le_refl _) hsz))
    (fun cd => OwnFrom.and (Own.from (RX.own _ cd) _) (ownFrom_below (Nat.le_refl _) hsz))
    ⟨⟨HBD.out, rfl⟩, HBW.out⟩
    (fun b => { tmps := #[.pointer (some ⟨a, 0, none⟩), .int .i64 (x : Int), .int .i64 (k : Int), .func (.func 43) #[] #[.pointer (some ⟨K, 0, none⟩)], undef, undef, undef, undef, .pointer (some ⟨w.heap.size, 0, none⟩), .bool b,
        .pointer (some ⟨a, 0, none⟩), .int .i64 (x : Int), .int .i64 (k : Int), .bool true, .bool false, .pointer (some ⟨a, 0, none⟩), .int .i64 (x : Int), .int .i64 (k : Int), .func (.func 43) #[] #[.pointer (some ⟨K, 0, none⟩)],
        .func (.func 47) #[] #[.pointer (some ⟨Ba, 0, none⟩), .pointer (some ⟨Bn, 0, none⟩), .pointer (some ⟨Bm, 0, none⟩), .pointer (some ⟨Bs, 0, none⟩)], .bool b, undef, undef], defers := [] }) ?assign ?body ?done ?stop
  case assign =>
    intro l b W K hK
    unfold encB
    gi_wp2
    exact hK
  case body =>
    rintro l pre b W ⟨⟨hs, hk⟩, hB⟩ hlt
    cases b with
    | true =>
      have HS := Lib.hid hs
      have HK := Lib.hid hk
      have HB := Lib.hid hB
      clear hs hk hB
      gi_wp2
      exact ⟨KeepsFrom.refl _ _, Below.refl _ _, ⟨HS.out, by rw [List.all_append, HK.out]; rfl⟩, HB.out⟩
    | false =>
      have c1 := hs.cell
      have f1 := hs.frozen
      have HS := Lib.hid hs
      have HB := Lib.hid hB
      clear hs hk hB
      gi_wp2
      exact ⟨(KeepsOthers.setCell _ _ _).from _, ⟨rfl, HS.out.set _, by rw [List.all_append]; simp⟩, HB.out.setCell (p := ⟨w.heap.size, 0, none⟩) (Nat.le_refl _) _⟩
  case done =>
    rintro D ys W hD rfl ⟨⟨hs, hk⟩, hB⟩ hK
    have hc0 : c = 0 := by
      have h1 := HGL.out
      rw [hk] at h1
      rw [HC.out, if_pos h1.symm]
    subst hc0
    have c1 := hs.cell
    have f1 := hs.frozen
    have HS := Lib.hid hs
    have HB := Lib.hid hB
    have HK := Lib.hid hK
    clear hs hk hB hK
    gi_wp2
    have hK2 := (KeepsOthers.setCell W ⟨w.heap.size, 0, none⟩ (.int .i64 0)).same D _ HK.out rfl
    have hnr : ∀ r, some D = some r → ∃ o : Obj, (W.setCell ⟨w.heap.size, 0, none⟩ (.int .i64 0)).heap[r]? = some o ∧ o.isCells = false := fun r e => by cases e; exact ⟨_, hK2, rfl⟩
    have b1' := Boxed.ab (HS.out.set (.int .i64 0)) (grownBy_putObj' _ D (.deferred none)) hnr
    have hB2 := HB.out.setCell (p := ⟨w.heap.size, 0, none⟩) (Nat.le_refl _) (.int .i64 0)
    refine ⟨by simp, .inl ⟨_, _, rfl, run_takeDeferred hK2, ?_⟩⟩
    exact ⟨_, results_cell1 rfl rfl b1'.cell Try.underlying3 rfl, rfl, hB2.trans (belowK_b (w := w) (Nat.le_refl _) _ D _ _ (by omega) hK2 rfl rfl)⟩
  case stop =>
    rintro D cd pre W hD hp ⟨⟨rfl, hs, hk⟩, hB⟩ hK
    have hc4 : c = 4 := by
      have h1 := HGL.out
      obtain ⟨t, ht⟩ := hp
      rw [← ht, List.all_append, hk] at h1
      have h2 : allB (stP key) ks x k = false := h1.symm
      rw [HC.out, h2]
      rfl
    subst hc4
    gi_wp2
    have hnr : ∀ r, some D = some r → ∃ o : Obj, W.heap[r]? = some o ∧ o.isCells = false := fun r e => by cases e; exact ⟨_, hK, rfl⟩
    have b1' := Boxed.ab hs (grownBy_putObj' _ D (.deferred none)) hnr
    refine ⟨by simp, .inl ⟨_, _, rfl, run_takeDeferred hK, ?_⟩⟩
    exact ⟨_, results_cell1 rfl rfl b1'.cell Try.underlying3 rfl, rfl, hB.trans (belowK_b (w := w) (Nat.le_refl _) _ D _ _ (by omega) hK rfl rfl)⟩
set_option maxRecDepth 100000 in
theorem refusalF_no (a g nn : Nat) (x k : Int) (v : Value) (w : World) (hx : x ≤ 9223372036854775807) (hn : nn ≤ 65536) (hc : w.cell? ⟨a, 0, none⟩ = some (.slice (some ⟨g, 0, none⟩) nn nn)) (hi : inB nn x k = false) :
    Calls Try.prog 37 #[.pointer (some ⟨a, 0, none⟩), .int .i64 x, .int .i64 k, v] w (New w (.int .i64 5)) := by
  have H1 := Lib.hid (holds_any a g nn x k (w.alloc (.cells #[.int .i64 0] 3)) hx hn (Lib.cell?_alloc_some _ hc))
  rw [hi] at H1
  go_enter Try.func37, Try.ntmps37
  go_wp2_with fail
  refine H1.out.mono ?_
  rintro e w1 ⟨rfl, rfl⟩
  go_wp2
  refine bodyPost_ret (results_cell1 rfl rfl (v := .int .i64 5) (by simp [go_sem]) Try.underlying3 rfl) rfl ?_
  exact ⟨rfl, by simpa using below_new w _⟩
set_option maxRecDepth 100000 in
set_option maxHeartbeats 2000000 in
theorem refusalF_yes (a g h nn m K L : Nat) (x k : Nat) (bs ks : List UInt8) (key : Int) (w : World) (hxk : x + k ≤ nn) (hst : Sto w a g h nn m bs ks) (hkey : Boxed w K 3 (.int .i64 key) ∧ Boxed w L 71 (storesV K)) :
    Calls Try.prog 37 #[.pointer (some ⟨a, 0, none⟩), .int .i64 (x : Int), .int .i64 (k : Int), (fetchesV L)] w (New w (.int .i64 (if allB (ftP key) ks x k = true then 0 else 4))) := by
  refine (callsIn_wide (n := 5)).1 ?_
  have hro : Fence.wide.round = none := rfl
  have hn : nn ≤ 65536 := by have := hst.nums; omega
  obtain ⟨c, hc⟩ : ∃ c : Int, c = if allB (ftP key) ks x k = true then 0 else 4 := ⟨_, rfl⟩
  rw [← hc]
  have HC := Lib.hid hc
  clear hc
  have hin : inB nn (x : Int) (k : Int) = true := inB_iff.2 ⟨by omega, by omega, by omega⟩
  have hstA := hst.below (below_new w (.cells #[.int .i64 0] 3))
  have H1 := Lib.hid (holds_any a g nn (x : Int) (k : Int) (w.alloc (.cells #[.int .i64 0] 3)) (by omega) hn hstA.c0)
  rw [hin] at H1
  have HG := Lib.hid (grants_any a x k)
  have HXK := Lib.hid hxk
  have HST := Lib.hid hst
  have HGL := Lib.hid (grL_all (ftP key) ks x k)
  have hgf := Lib.hid (enters_of Try.func47 (by kernel_rfl) rfl)
  have HKEY := Lib.hid hkey
  obtain ⟨ds, hds⟩ : ∃ ds, ds = grL (ftP key) ks x (blkN x k) := ⟨_, rfl⟩
  have HDS := Lib.hid hds
  have hW0 := below_new w (.cells #[.int .i64 0] 3)
  have HW0 := Lib.hid hW0
  clear hxk hst hin hstA hkey hds hW0
  unfold fetchesV
  refine callsIn_of_wp_marks Try.func37 rfl trivial ?_ hro
  simp only [Try.ntmps37, List.size_toArray, List.length_cons, List.length_nil, Nat.reduceAdd, Nat.reduceSub, Array.replicate_succ, Array.replicate_zero, List.push_toArray, List.append_toArray, List.nil_append, List.cons_append]
  gi_wp2_with fail
  refine ⟨trivial, (callsIn_wide.2 H1.out).mono ?_⟩
  rintro e w1 ⟨rfl, rfl⟩
  gi_wp2_with fail
  refine ⟨trivial, (callsIn_wide.2 (HG.out _ _ _)).mono ?_⟩
  rintro e w2 ⟨Bs, Ba, Bn, Bm, rfl, ba, bn, bm, bp, hb2⟩
  have HBA := Lib.hid ba
  have HBN := Lib.hid bn
  have HBM := Lib.hid bm
  have HBP := Lib.hid bp
  have bD := (Boxed.new w 3 (.int .i64 0)).kept (grown_of hb2 none) (by simp)
  have HBD := Lib.hid bD
  have hB2 := bel0 HW0.out hb2
  have HBW := Lib.hid hB2
  have hsz : w.heap.size ≤ w2.heap.size := hB2.size
  clear ba bn bm bp hb2 bD hB2
  gi_wp2_with fail
  refine wpIn_rangeFunc_ownG hro (by omega) (gf := 47) (lb := #[.pointer (some ⟨Ba, 0, none⟩), .pointer (some ⟨Bn, 0, none⟩), .pointer (some ⟨Bm, 0, none⟩), .pointer (some ⟨Bs, 0, none⟩)]) rfl trivial hgf.out
    (grantsF_stops (5 - 1) (by omega) Ba Bn Bm Bs K L x k a g h nn m bs ks key w2 HXK.out HBA.out HBN.out HBM.out HBP.out (⟨HKEY.out.1.kept (grown_of HBW.out none) (by simp), HKEY.out.2.kept (grown_of HBW.out none) (by simp)⟩) (HST.out.below HBW.out)) belowK_t (belowK_b (Nat.le_refl _)) (Below.refl _ w2) (fun _ => rfl)
    (fun pre W => RI w.heap.size pre W ∧ Below w.heap.size w W)
    (fun cd pre W => RX w.heap.size cd pre W ∧ Below w.heap.size w W)
    (OwnFrom.and (Own.from (RI.own _) _) (ownFrom_below (Nat.le_refl _) hsz))
    (fun cd => OwnFrom.and (Own.from (RX.own _ cd) _) (ownFrom_below (Nat.le_refl _) hsz))
    ⟨⟨HBD.out, rfl⟩, HBW.out⟩
    (fun b => { tmps := #[.pointer (some ⟨a, 0, none⟩), .int .i64 (x : Int), .int .i64 (k : Int), .func (.func 45) #[] #[.pointer (some ⟨L, 0, none⟩)], undef, undef, undef, undef, .pointer (some ⟨w.heap.size, 0, none⟩), .bool b,
        .pointer (some ⟨a, 0, none⟩), .int .i64 (x : Int), .int .i64 (k : Int), .bool true, .bool false, .pointer (some ⟨a, 0, none⟩), .int .i64 (x : Int), .int .i64 (k : Int), .func (.func 45) #[] #[.pointer (some ⟨L, 0, none⟩)],
        .func (.func 47) #[] #[.pointer (some ⟨Ba, 0, none⟩), .pointer (some ⟨Bn, 0, none⟩), .pointer (some ⟨Bm, 0, none⟩), .pointer (some ⟨Bs, 0, none⟩)], .bool b, undef, undef], defers := [] }) ?assign ?body ?done ?stop
  case assign =>
    intro l b W K hK
    unfold encB
    gi_wp2
    exact hK
  case body =>
    rintro l pre b W ⟨⟨hs, hk⟩, hB⟩ hlt
    cases b with
    | true =>
      have HS := Lib.hid hs
      have HK := Lib.hid hk
      have HB := Lib.hid hB
      clear hs hk hB
      gi_wp2
      exact ⟨KeepsFrom.refl _ _, Below.refl _ _, ⟨HS.out, by rw [List.all_append, HK.out]; rfl⟩, HB.out⟩
    | false =>
      have c1 := hs.cell
      have f1 := hs.frozen
      have HS := Lib.hid hs
      have HB := Lib.hid hB
      clear hs hk hB
      gi_wp2
      exact ⟨(KeepsOthers.setCell _ _ _).from _, ⟨rfl, HS.out.set _, by rw [List.all_append]; simp⟩, HB.out.setCell (p := ⟨w.heap.size, 0, none⟩) (Nat.le_refl _) _⟩
  case done =>
    rintro D ys W hD rfl ⟨⟨hs, hk⟩, hB⟩ hK
    have hc0 : c = 0 := by
      have h1 := HGL.out
      rw [hk] at h1
      rw [HC.out, if_pos h1.symm]
    subst hc0
    have c1 := hs.cell
    have f1 := hs.frozen
    have HS := Lib.hid hs
    have HB := Lib.hid hB
    have HK := Lib.hid hK
    clear hs hk hB hK
    gi_wp2
    have hK2 := (KeepsOthers.setCell W ⟨w.heap.size, 0, none⟩ (.int .i64 0)).same D _ HK.out rfl
    have hnr : ∀ r, some D = some r → ∃ o : Obj, (W.setCell ⟨w.heap.size, 0, none⟩ (.int .i64 0)).heap[r]? = some o ∧ o.isCells = false := fun r e => by cases e; exact ⟨_, hK2, rfl⟩
    have b1' := Boxed.ab (HS.out.set (.int .i64 0)) (grownBy_putObj' _ D (.deferred none)) hnr
    have hB2 := HB.out.setCell (p := ⟨w.heap.size, 0, none⟩) (Nat.le_refl _) (.int .i64 0)
    refine ⟨by simp, .inl ⟨_, _, rfl, run_takeDeferred hK2, ?_⟩⟩
    exact ⟨_, results_cell1 rfl rfl b1'.cell Try.underlying3 rfl, rfl, hB2.trans (belowK_b (w := w) (Nat.le_refl _) _ D _ _ (by omega) hK2 rfl rfl)⟩
  case stop =>
    rintro D cd pre W hD hp ⟨⟨rfl, hs, hk⟩, hB⟩ hK
    have hc4 : c = 4 := by
      have h1 := HGL.out
      obtain ⟨t, ht⟩ := hp
      rw [← ht, List.all_append, hk] at h1
      have h2 : allB (ftP key) ks x k = false := h1.symm
      rw [HC.out, h2]
      rfl
    subst hc4
    gi_wp2
    have hnr : ∀ r, some D = some r → ∃ o : Obj, W.heap[r]? = some o ∧ o.isCells = false := fun r e => by cases e; exact ⟨_, hK, rfl⟩
    have b1' := Boxed.ab hs (grownBy_putObj' _ D (.deferred none)) hnr
    refine ⟨by simp, .inl ⟨_, _, rfl, run_takeDeferred hK, ?_⟩⟩
    exact ⟨_, results_cell1 rfl rfl b1'.cell Try.underlying3 rfl, rfl, hB.trans (belowK_b (w := w) (Nat.le_refl _) _ D _ _ (by omega) hK rfl rfl)⟩

end E
end Go.Proofs.Ytnnpnklbhghegaa

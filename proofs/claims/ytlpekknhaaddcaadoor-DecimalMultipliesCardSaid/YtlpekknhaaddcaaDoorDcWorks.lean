/- The examples that each statement asks for; equal. -/
import Derived.Test.YtlpekknhaaddcaaDoorDcDvd
import Derived.Test.YtlpekknhaaddcaaDoorDcSh
import Derived.Test.YtlpekknhaaddcaaDoorPkRef6
namespace Go.Proofs.YtlpekknhaaddcaaDoor
open Go.RowKit Go.Shelf
set_option linter.unusedVariables false
namespace E

theorem SvB.sv {W : World} {v : Value} {l : List UInt8} (h : SvB W v l) : SvRd W v l := by
  obtain ⟨p, c, h1, h2, _⟩ := h
  exact ⟨p, c, h1, h2⟩
theorem same_svb {w : World} {u v : Value} {l : List UInt8} (h1 : SvB w u l) (h2 : SvB w v l) : Calls Tryd.prog 19 #[u, v] w fun e w' => e = .returned (.bool true) ∧ w = w' := same_sv h1.sv h2.sv
theorem svb_new (w : World) (l : List UInt8) (hl : l.length ≤ 1000) : SvB (w.alloc (.cells (bsU l).toArray 5)) (.slice (some ⟨w.heap.size, 0, none⟩) l.length l.length) l := ⟨_, _, rfl, rd_new w l _, Nat.le_refl _, by omega, fun h => by cases h⟩
theorem rd_second (w : World) (o : Obj) (l : List UInt8) : Rd ((w.alloc o).alloc (.cells (bsU l).toArray 5)) (some ⟨w.heap.size + 1, 0, none⟩) l := by
  have h := rd_new (w.alloc o) l 5
  rw [World.size_alloc] at h
  exact h
theorem svb_second (w : World) (o : Obj) (l : List UInt8) (hl : l.length ≤ 1000) : SvB ((w.alloc o).alloc (.cells (bsU l).toArray 5)) (.slice (some ⟨w.heap.size + 1, 0, none⟩) l.length l.length) l := ⟨_, _, rfl, rd_second w o l, Nat.le_refl _, by omega, fun h => by cases h⟩
theorem wk_add (w : World) (hg : Sg w) : Calls Tryd.prog 13 #[.slice (some ⟨w.heap.size, 0, none⟩) 2 2, .slice (some ⟨w.heap.size + 1, 0, none⟩) 2 2] ((w.alloc (.cells (bsU [1, 44]).toArray 5)).alloc (.cells (bsU [0, 60]).toArray 5)) (R3Post ((w.alloc (.cells (bsU [1, 44]).toArray 5)).alloc (.cells (bsU [0, 60]).toArray 5)) ([1, 92], 2, 0)) := by
  have h := padd_any (some ⟨w.heap.size, 0, none⟩) (some ⟨w.heap.size + 1, 0, none⟩) 2 2 [1, 44] [0, 60] _ ((rd_new w [1, 44] 5).below (below_new _ _)) (rd_second w (.cells (bsU [1, 44]).toArray 5) [0, 60]) (hg.below (below2 w _ _))
  rw [show addL [1, 44] [0, 60] = ([1, 92], 2, 0) by decide +kernel] at h
  exact h
theorem wk_div (w : World) (hg : Sg w) : Calls Tryd.prog 25 #[.slice (some ⟨w.heap.size, 0, none⟩) 3 3, .slice (some ⟨w.heap.size + 1, 0, none⟩) 1 1] ((w.alloc (.cells (bsU [0, 1, 125]).toArray 5)).alloc (.cells (bsU [92]).toArray 5)) (R2Post ((w.alloc (.cells (bsU [0, 1, 125]).toArray 5)).alloc (.cells (bsU [92]).toArray 5)) ([0, 61, 45], 0)) := by
  have h := pdiv4_any (some ⟨w.heap.size, 0, none⟩) (some ⟨w.heap.size + 1, 0, none⟩) 3 1 [0, 1, 125] [92] _ (by simp) (by omega) (by simp) ((rd_new w [0, 1, 125] 5).below (below_new _ _)) (rd_second w (.cells (bsU [0, 1, 125]).toArray 5) [92]) (hg.below (below2 w _ _))
  rw [show divL [0, 1, 125] [92] = ([0, 61, 45], 0) by decide +kernel] at h
  exact h
set_option maxRecDepth 100000 in
set_option maxHeartbeats 4000000 in
theorem works_any (w : World) (hg : Sg w) : Calls Tryd.prog 20 #[] w (New w (.bool true)) := by
  have HG := Lib.hid hg
  clear hg
  go_enter Tryd.func20, Tryd.ntmps20
  go_wp2_with fail
  refine (wk_add w HG.out).mono ?_
  rintro e w1 ⟨sv, rfl, hsv, hb⟩
  have HB1 := Lib.hid (bel0 (below2 w _ _) hb)
  have HSV1 := Lib.hid hsv
  clear hb hsv
  go_wp2_with fail
  refine (wk_div w1 (HG.out.below HB1.out)).mono ?_
  rintro e w2 ⟨qv, rfl, hqv, hb⟩
  have HB2 := Lib.hid (bel0 (bel0 HB1.out (below2 w1 _ _)) hb)
  have HSV2 := Lib.hid (HSV1.out.below (bel0 (below2 w1 _ _) hb))
  have HQV2 := Lib.hid hqv
  clear hb hqv HB1 HSV1
  go_wp2_with fail
  refine (same_svb (HSV2.out.below (below_new _ _)) (svb_new w2 [1, 92] (by simp))).mono ?_
  rintro e w3 ⟨rfl, rfl⟩
  have HB3 := Lib.hid (bel0 HB2.out (below_new w2 (.cells (bsU [1, 92]).toArray 5)))
  have HQV3 := Lib.hid (HQV2.out.below (below_new w2 (.cells (bsU [1, 92]).toArray 5)))
  go_wp2_with fail
  refine (same_svb (HQV3.out.below (below_new _ _)) (svb_second w2 _ [0, 61, 45] (by simp))).mono ?_
  rintro e w4 ⟨rfl, rfl⟩
  have HB4 := Lib.hid (bel0 HB3.out (below_new (w2.alloc (.cells (bsU [1, 92]).toArray 5)) (.cells (bsU [0, 61, 45]).toArray 5)))
  go_wp2
  go_ret
  exact ⟨rfl, HB4.out⟩
/-- Compare answers 0 for two fields with equal numbers. -/
def eqB (la lb : List UInt8) : Bool := decide ((cmpL la lb).1 = 0 ∧ (cmpL la lb).2 = 0)
set_option maxRecDepth 100000 in
theorem equal_any (p q : Option Addr) (cp cq : Nat) (la lb : List UInt8) (w : World) (hr : Rd w p la) (hq : Rd w q lb) (hg : Sg w) (h : cmpL la lb = (0, 0)) :
    Calls Tryd.prog 33 #[.slice p la.length cp, .slice q lb.length cq] w (New w (.bool true)) := by
  have HC0 := pcmp_any p q cp cq la lb w hr hq hg
  rw [h] at HC0
  have HC := Lib.hid HC0
  clear HC0 h hr hq hg
  go_enter Tryd.func33, Tryd.ntmps33
  go_wp2_with fail
  refine (HC.out).mono ?_
  rintro e w1 ⟨rfl, hb⟩
  have HB := Lib.hid hb
  clear hb
  go_wp2
  go_ret
  exact ⟨rfl, HB.out⟩

end E
end Go.Proofs.YtlpekknhaaddcaaDoor

/- The program: branches and the program mask. -/
import Derived.Test.YtfopjnfphlkcgaaGreatRows
import Derived.Test.YtfopjnfphlkcgaaGreatGnOpd
namespace Go.Proofs.YtfopjnfphlkcgaaGreat
namespace E
end E
open Go.RowKit Go.Shelf E
set_option linter.unusedVariables false
namespace M

/-- Where a branch goes to, and whether it may. -/
def tgA (q : Qn) (R : Nat → Int) : Nat := if q.fo = 1 then adr R 0 q.r2 0 else adT q R
def tgB (q : Qn) : Bool := if q.fo = 1 then decide (q.r2 ≠ 0) else true
set_option maxRecDepth 100000 in
set_option maxHeartbeats 1000000 in
theorem target_rr (E A : Nat) (q : Qn) (R : Nat → Int) (p : Psw) (c : Int) (w : World) (h : Ex w E A q R p c) (hR : RegOk R) (hr : q.r2 < 16) (hfo : q.fo = 1) : Calls Tryz.prog 167 #[.pointer (some ⟨E, 0, none⟩)] w (New w (.tuple #[.int .i64 (adr R 0 q.r2 0 : Int), .bool (decide (q.r2 ≠ 0))])) := by
  have HA : Hid (ES E A q R p c w w.drew → ∀ {x1 : World}, x1 = w.drew.alloc (.cells #[.int .i64 (q.r2 : Int)] 3) → ES E A q R p c w x1 → Calls Tryz.prog 205 #[.pointer (some ⟨E, 0, none⟩), .int .i64 0, .slice (some ⟨w.drew.heap.size, 0, none⟩) 1 1] x1 (New x1 (.int .i64 (adr R 0 q.r2 0 : Int)))) := Lib.hid (fun _ x1 hx1 h1 => by
    have h2 := address_any E A q R p c 0 w.drew.heap.size 1 [q.r2] x1 h1.2 hR (by omega) rfl (by decide) (fun k hk => by
      match k, hk with
      | 0, _ => exact hr) (fun k hk => by
      subst hx1
      match k, hk with
      | 0, _ => exact Bx.cell (Bx.new w.drew 3 #[.int .i64 (q.r2 : Int)]) 0)
    rw [adr_of1 hR (by omega)] at h2
    exact h2)
  have H0 := Lib.hid (ES.of h)
  have c1 := h.fo
  rw [hfo] at c1
  obtain ⟨B, hB⟩ : ∃ B, B = decide (q.r2 ≠ 0) := ⟨_, rfl⟩
  have hbn : ((q.r2 : Int) != 0) = B := by rw [hB, Bool.eq_iff_iff]; simp
  rw [← hB]
  clear h hR hr hB hfo
  go_enter Tryz.func167, Tryz.ntmps167
  go_wp2_with fail
  clear c1
  refine wp_region_held_drew (S := ES E A q R p c w) (by kernel_rfl) H0.out (fun k0 => ?_)
  show wpAnyH _ _ _ _ _ 16 #[false, false, false, false, false, false, false, false, false, false, false, false, false, false, false, false] _ _
  refine wpAnyH_take (i := 0) (oi := ⟨some 10, _, _, _, _, _⟩) (v := .pointer (some ⟨E, 0, none⟩)) rfl (by kernel_rfl) (by kernel_rfl) (by kernel_rfl) (fun _ _ _ h => h) (Or.inl ⟨by rfl, fun W hSw => by (try dsimp only at hSw); go_simp⟩) k0 ?_
  try simp only [Act.put, List.setIfInBounds_toArray, List.set_cons_zero, List.set_cons_succ]
  refine wpAnyH_take (i := 1) (oi := ⟨some 11, _, _, _, _, _⟩) (v := .pointer (some ⟨E, 0, none⟩)) rfl (by kernel_rfl) (by kernel_rfl) (by kernel_rfl) (fun _ _ _ h => h) (Or.inl ⟨by rfl, fun W hSw => by (try dsimp only at hSw); go_simp⟩) k0 ?_
  try simp only [Act.put, List.setIfInBounds_toArray, List.set_cons_zero, List.set_cons_succ]
  refine wpAnyH_take (i := 2) (oi := ⟨some 12, _, _, _, _, _⟩) (v := .pointer (some ⟨E, 0, none⟩)) rfl (by kernel_rfl) (by kernel_rfl) (by kernel_rfl) (fun _ _ _ h => h) (Or.inl ⟨by rfl, fun W hSw => by (try dsimp only at hSw); go_simp⟩) k0 ?_
  try simp only [Act.put, List.setIfInBounds_toArray, List.set_cons_zero, List.set_cons_succ]
  refine wpAnyH_take (i := 3) (oi := ⟨some 13, _, _, _, _, _⟩) (v := .pointer (some ⟨E, 0, none⟩)) rfl (by kernel_rfl) (by kernel_rfl) (by kernel_rfl) (fun _ _ _ h => h) (Or.inl ⟨by rfl, fun W hSw => by (try dsimp only at hSw); go_simp⟩) k0 ?_
  try simp only [Act.put, List.setIfInBounds_toArray, List.set_cons_zero, List.set_cons_succ]
  refine wpAnyH_take (i := 4) (oi := ⟨some 14, _, _, _, _, _⟩) (v := .pointer (some ⟨E, 3, none⟩)) rfl (by kernel_rfl) (by kernel_rfl) (by kernel_rfl) (fun _ _ _ h => h) (Or.inl ⟨by rfl, fun W hSw => by (try dsimp only at hSw); go_simp⟩) k0 ?_
  try simp only [Act.put, List.setIfInBounds_toArray, List.set_cons_zero, List.set_cons_succ]
  refine wpAnyH_take (i := 5) (oi := ⟨some 15, _, _, _, _, _⟩) (v := .int .i64 (q.r2 : Int)) rfl (by kernel_rfl) (by kernel_rfl) (by kernel_rfl) (fun _ _ _ h => h) (Or.inl ⟨by rfl, fun W hSw => by have cq := hSw.2.r2; clear hSw; go_simp⟩) k0 ?_
  try simp only [Act.put, List.setIfInBounds_toArray, List.set_cons_zero, List.set_cons_succ]
  refine wpAnyH_take (i := 8) (oi := ⟨some 18, _, _, _, _, _⟩) (v := .pointer (some ⟨E, 0, none⟩)) rfl (by kernel_rfl) (by kernel_rfl) (by kernel_rfl) (fun _ _ _ h => h) (Or.inl ⟨by rfl, fun W hSw => by (try dsimp only at hSw); go_simp⟩) k0 ?_
  try simp only [Act.put, List.setIfInBounds_toArray, List.set_cons_zero, List.set_cons_succ]
  refine wpAnyH_take (i := 9) (oi := ⟨some 19, _, _, _, _, _⟩) (v := .pointer (some ⟨E, 0, none⟩)) rfl (by kernel_rfl) (by kernel_rfl) (by kernel_rfl) (fun _ _ _ h => h) (Or.inl ⟨by rfl, fun W hSw => by (try dsimp only at hSw); go_simp⟩) k0 ?_
  try simp only [Act.put, List.setIfInBounds_toArray, List.set_cons_zero, List.set_cons_succ]
  refine wpAnyH_take (i := 10) (oi := ⟨some 20, _, _, _, _, _⟩) (v := .pointer (some ⟨E, 0, none⟩)) rfl (by kernel_rfl) (by kernel_rfl) (by kernel_rfl) (fun _ _ _ h => h) (Or.inl ⟨by rfl, fun W hSw => by (try dsimp only at hSw); go_simp⟩) k0 ?_
  try simp only [Act.put, List.setIfInBounds_toArray, List.set_cons_zero, List.set_cons_succ]
  refine wpAnyH_take (i := 11) (oi := ⟨some 21, _, _, _, _, _⟩) (v := .pointer (some ⟨E, 3, none⟩)) rfl (by kernel_rfl) (by kernel_rfl) (by kernel_rfl) (fun _ _ _ h => h) (Or.inl ⟨by rfl, fun W hSw => by (try dsimp only at hSw); go_simp⟩) k0 ?_
  try simp only [Act.put, List.setIfInBounds_toArray, List.set_cons_zero, List.set_cons_succ]
  refine wpAnyH_take (i := 12) (oi := ⟨some 22, _, _, _, _, _⟩) (v := .int .i64 (q.r2 : Int)) rfl (by kernel_rfl) (by kernel_rfl) (by kernel_rfl) (fun _ _ _ h => h) (Or.inl ⟨by rfl, fun W hSw => by have cq := hSw.2.r2; clear hSw; go_simp⟩) k0 ?_
  try simp only [Act.put, List.setIfInBounds_toArray, List.set_cons_zero, List.set_cons_succ]
  refine wpAnyH_take (i := 13) (oi := ⟨some 23, _, _, _, _, _⟩) (v := .bool B) rfl (by kernel_rfl) (by kernel_rfl) (by kernel_rfl) (fun _ _ _ h => h) (Or.inl ⟨by rfl, fun W hSw => by (try dsimp only at hSw); go_simp⟩) k0 ?_
  try simp only [Act.put, List.setIfInBounds_toArray, List.set_cons_zero, List.set_cons_succ]
  refine wpAnyH_ready (rs := [6]) (by kernel_rfl) (by simp) ?_
  refine AllReadyH.cons (o := ⟨some 16, _, _, _, _, _⟩) rfl (fun K hK => ?_) AllReadyH.nil
  go_simp
  refine hK.out _ _ (k0.next (below_new _ _)) (fun k1 => ?_)
  clear hK K
  try simp only [List.setIfInBounds_toArray, List.set_cons_zero, List.set_cons_succ]
  refine wpAnyH_ready (rs := [7]) (by kernel_rfl) (by simp) ?_
  refine AllReadyH.cons (o := ⟨some 17, _, _, _, _, _⟩) rfl (fun K hK => ?_) AllReadyH.nil
  go_simp
  go_at_call 205
  refine (HA.out k0 rfl k1).mono ?_
  rintro e x2 ⟨rfl, hb⟩
  have k3 := k1.next hb
  clear hb
  go_wp2_with fail
  refine hK.out _ _ k3 (fun k2 => ?_)
  clear k3
  clear hK K
  try simp only [List.setIfInBounds_toArray, List.set_cons_zero, List.set_cons_succ]
  refine wpAnyH_take (i := 14) (oi := ⟨some 2, _, _, _, _, _⟩) (v := .int .i64 (adr R 0 q.r2 0 : Int)) rfl (by kernel_rfl) (by kernel_rfl) (by kernel_rfl) (fun _ _ _ h => h) (Or.inl ⟨by rfl, fun W hSw => by (try dsimp only at hSw); go_simp⟩) k2 ?_
  try simp only [Act.put, List.setIfInBounds_toArray, List.set_cons_zero, List.set_cons_succ]
  refine wpAnyH_take (i := 15) (oi := ⟨some 3, _, _, _, _, _⟩) (v := .bool B) rfl (by kernel_rfl) (by kernel_rfl) (by kernel_rfl) (fun _ _ _ h => h) (Or.inl ⟨by rfl, fun W hSw => by (try dsimp only at hSw); go_simp⟩) k2 ?_
  try simp only [Act.put, List.setIfInBounds_toArray, List.set_cons_zero, List.set_cons_succ]
  refine wpAnyH_done (by kernel_rfl) ?_ _
  refine id ?_
  clear hbn
  go_wp2
  refine bodyPost_ret (results_tt rfl rfl rfl) rfl ?_
  exact ⟨rfl, k2.1⟩
set_option maxRecDepth 100000 in
theorem target_mem (E A : Nat) (q : Qn) (R : Nat → Int) (p : Psw) (c : Int) (w : World) (h : Ex w E A q R p c) (hR : RegOk R) (hq : QOk q) (hfo : q.fo ≠ 1) : Calls Tryz.prog 167 #[.pointer (some ⟨E, 0, none⟩)] w (New w (.tuple #[.int .i64 (adT q R : Int), .bool true])) := by
  have HA := Lib.hid (sec_any E A q R p c w h hR hq)
  have c1 := h.fo
  have n1 : ((q.fo : Int) == 1) = false := by simp; omega
  generalize q.fo = fo at c1 n1
  clear h hR hq hfo
  go_enter Tryz.func167, Tryz.ntmps167
  go_wp2_with fail
  refine HA.out.mono ?_
  rintro e w1 ⟨rfl, hb⟩
  have HB := Lib.hid hb
  clear hb HA
  go_wp2
  refine bodyPost_ret (results_tt rfl rfl rfl) rfl ?_
  exact ⟨rfl, HB.out⟩
theorem target_any (E A : Nat) (q : Qn) (R : Nat → Int) (p : Psw) (c : Int) (w : World) (h : Ex w E A q R p c) (hR : RegOk R) (hq : QOk q) : Calls Tryz.prog 167 #[.pointer (some ⟨E, 0, none⟩)] w (New w (.tuple #[.int .i64 (tgA q R : Int), .bool (tgB q)])) := by
  unfold tgA tgB
  by_cases hfo : q.fo = 1
  · rw [if_pos hfo, if_pos hfo]
    exact target_rr E A q R p c w h hR hq.r2 hfo
  · rw [if_neg hfo, if_neg hfo]
    exact target_mem E A q R p c w h hR hq hfo
/-- What is done before a branch. -/
def Turn (w : World) (E A : Nat) (q : Qn) (R : Nat → Int) (p : Psw) (c : Int) (b : Bool) (e : Ending) (w' : World) : Prop := e = .returned (.bool b) ∧ Ex w' E A q R p c ∧ Kp w w' [E]
set_option maxRecDepth 100000 in
set_option maxHeartbeats 1000000 in
theorem countDown_any (E A : Nat) (q : Qn) (R : Nat → Int) (p : Psw) (c : Int) (w : World) (h : Ex w E A q R p c) (hR : RegOk R) (hr : q.r1 < 16) : Calls Tryz.prog 218 #[.pointer (some ⟨E, 0, none⟩)] w (Turn w E A q (upd R q.r1 ((R q.r1 - 1) % 4294967296)) p c (decide (R q.r1 ≠ 1))) := by
  have c2 := h.r1
  have cr := h.reg hr
  have hbd := hR q.r1
  have HS : Hid (∀ X, Below w.heap.size w X → Calls Tryz.prog 123 #[.pointer (some ⟨E, 0, none⟩), .int .u32 ((R q.r1 - 1) % 4294967296)] X fun e X' => e = .returned (.tuple #[]) ∧ (Ex X' E A q (upd R q.r1 ((R q.r1 - 1) % 4294967296)) p c ∧ X'.cell? ⟨E, 2, none⟩ = some (.int .i64 (q.r1 : Int)) ∧ X'.cell? ⟨E, 12 + q.r1, none⟩ = some (.int .u32 ((R q.r1 - 1) % 4294967296))) ∧ Kp X X' [E]) := Lib.hid (fun X hX => by
    refine (set_any E A q R p c ((R q.r1 - 1) % 4294967296) X (h.below hX) hr).mono ?_
    rintro e X' ⟨he, hx, hk⟩
    have h2 := hx.reg hr
    rw [upd_same] at h2
    exact ⟨he, ⟨hx, hx.r1, h2⟩, hk⟩)
  have hn : (q.r1 : Int) < 16 := by omega
  obtain ⟨y, hy⟩ : ∃ y, y = (R q.r1 - 1) % 4294967296 := ⟨_, rfl⟩
  obtain ⟨B, hB⟩ : ∃ B, B = decide (R q.r1 ≠ 1) := ⟨_, rfl⟩
  have hyB : (y != 0) = B := by
    rw [hB, Bool.eq_iff_iff]
    simp
    omega
  rw [← hy] at HS ⊢
  rw [← hB]
  have hy2 : (R q.r1 - 1) % 4294967296 = y := hy.symm
  have HYB := Lib.hid hyB
  clear hyB
  generalize upd R q.r1 y = R' at HS ⊢
  generalize R q.r1 = v at cr hy2
  generalize q.r1 = r at c2 cr HS hn
  clear h hR hr hbd hy hB
  go_enter Tryz.func218, Tryz.ntmps218
  go_wp2_with fail
  go_still_tail 12, (by kernel_rfl)
  change wpList _ _ _ _ _ w.drew
  go_wp2_with fail
  rw [hy2]
  refine (HS.out _ (bel_drew w)).mono ?_
  rintro e w2 ⟨rfl, ⟨h2, d2, dr⟩, k2⟩
  have H2 := Lib.hid h2
  have K2 := Lib.hid ((kp_drew w _).trans k2)
  clear h2 k2 HS c2 cr hy2
  go_wp2_with fail
  go_quiet (fail)
  go_wp2
  go_ret
  exact ⟨by rw [← HYB.out]; rfl, H2.out.below (belowDraw _ _), K2.out.trans (Kp.bel (belowDraw _ _))⟩
theorem or_one (r : Nat) (h : r < 16) : bits .or .i64 (r : Int) 1 = ((r / 2 * 2 + 1 : Nat) : Int) := by
  rcases lt16 h with rfl | rfl | rfl | rfl | rfl | rfl | rfl | rfl | rfl | rfl | rfl | rfl | rfl | rfl | rfl | rfl <;> rfl
set_option maxRecDepth 100000 in
set_option maxHeartbeats 1000000 in
theorem step_any (E A : Nat) (q : Qn) (R : Nat → Int) (p : Psw) (c : Int) (w : World) (h : Ex w E A q R p c) (hR : RegOk R) (hr : q.r1 < 16) (hr2 : q.r2 < 16) : Calls Tryz.prog 219 #[.pointer (some ⟨E, 0, none⟩)] w (Turn w E A q (upd R q.r1 ((R q.r1 + R q.r2) % 4294967296)) p c (W.ord (W.sg ((R q.r1 + R q.r2) % 4294967296)) (W.sg (R (q.r2 / 2 * 2 + 1))) == 2)) := by
  have c2 := h.r1
  have c3 := h.r2
  have cr := h.reg hr
  have cs := h.reg hr2
  have hr3 : q.r2 / 2 * 2 + 1 < 16 := by omega
  have ct := h.reg hr3
  have hor := or_one q.r2 hr2
  have HW : Hid (∀ X, Calls Tryz.prog 132 #[.int .u32 (R q.r1), .int .u32 (R q.r2)] X fun e X' => e = .returned (.tuple #[.int .u32 ((R q.r1 + R q.r2) % 4294967296), .int .i64 (W.lcc ((R q.r1 + R q.r2) % 4294967296) (decide (4294967296 ≤ R q.r1 + R q.r2)))]) ∧ X' = X) := Lib.hid (fun X => (W.wAddLogical_any _ _ (hR _).1 (hR _).2 (hR _).1 (hR _).2 X).mono (fun _ _ hh => ⟨hh.1, hh.2.symm⟩))
  have HC := Lib.hid (fun X => W.wCompare_any ((R q.r1 + R q.r2) % 4294967296) (R (q.r2 / 2 * 2 + 1)) (by omega) (by omega) (hR _).1 (hR _).2 X)
  have HS := Lib.hid (fun X (hX : Below w.heap.size w X) => set_any E A q R p c ((R q.r1 + R q.r2) % 4294967296) X (h.below hX) hr)
  have hn : (q.r1 : Int) < 16 := by omega
  have hn2 : (q.r2 : Int) < 16 := by omega
  have hn3 : ((q.r2 / 2 * 2 + 1 : Nat) : Int) < 16 := by omega
  have hnn : 0 ≤ ((q.r2 / 2 * 2 + 1 : Nat) : Int) := by omega
  generalize upd R q.r1 ((R q.r1 + R q.r2) % 4294967296) = R' at HS ⊢
  generalize W.lcc ((R q.r1 + R q.r2) % 4294967296) (decide (4294967296 ≤ R q.r1 + R q.r2)) = lc at HW
  generalize (R q.r1 + R q.r2) % 4294967296 = S at HW HC HS ⊢
  generalize W.ord (W.sg S) (W.sg (R (q.r2 / 2 * 2 + 1))) = od at HC ⊢
  generalize R (q.r2 / 2 * 2 + 1) = z at ct HC
  generalize q.r2 / 2 * 2 + 1 = r3 at ct hor hn3 hnn
  have HX := Lib.hid h
  have HR1 := Lib.hid hr
  have HR2 := Lib.hid hr2
  clear h hR hr hr2 hr3 c2 cr cs
  go_enter Tryz.func219, Tryz.ntmps219
  go_wp2_with fail
  go_quiet (fail)
  go_wp2_with fail
  clear hor ct c3 hn3 hnn
  refine wp_region_held_drew (S := ES E A q R p c w) (by kernel_rfl) (ES.next ⟨belowDraw _ _, HX.out.below (belowDraw _ _)⟩ (bel_drew _)) (fun k0 => ?_)
  show wpAnyH _ _ _ _ _ 26 #[false, false, false, false, false, false, false, false, false, false, false, false, false, false, false, false, false, false, false, false, false, false, false, false, false, false] _ _
  refine wpAnyH_take (i := 0) (oi := ⟨some 18, _, _, _, _, _⟩) (v := .pointer (some ⟨E, 0, none⟩)) rfl (by kernel_rfl) (by kernel_rfl) (by kernel_rfl) (fun _ _ _ h => h) (Or.inl ⟨by rfl, fun W hSw => by (try dsimp only at hSw); go_simp⟩) k0 ?_
  try simp only [Act.put, List.setIfInBounds_toArray, List.set_cons_zero, List.set_cons_succ]
  refine wpAnyH_take (i := 1) (oi := ⟨some 19, _, _, _, _, _⟩) (v := .pointer (some ⟨E, 0, none⟩)) rfl (by kernel_rfl) (by kernel_rfl) (by kernel_rfl) (fun _ _ _ h => h) (Or.inl ⟨by rfl, fun W hSw => by (try dsimp only at hSw); go_simp⟩) k0 ?_
  try simp only [Act.put, List.setIfInBounds_toArray, List.set_cons_zero, List.set_cons_succ]
  refine wpAnyH_take (i := 2) (oi := ⟨some 20, _, _, _, _, _⟩) (v := .pointer (some ⟨E, 0, none⟩)) rfl (by kernel_rfl) (by kernel_rfl) (by kernel_rfl) (fun _ _ _ h => h) (Or.inl ⟨by rfl, fun W hSw => by (try dsimp only at hSw); go_simp⟩) k0 ?_
  try simp only [Act.put, List.setIfInBounds_toArray, List.set_cons_zero, List.set_cons_succ]
  refine wpAnyH_take (i := 3) (oi := ⟨some 21, _, _, _, _, _⟩) (v := .pointer (some ⟨E, 0, none⟩)) rfl (by kernel_rfl) (by kernel_rfl) (by kernel_rfl) (fun _ _ _ h => h) (Or.inl ⟨by rfl, fun W hSw => by (try dsimp only at hSw); go_simp⟩) k0 ?_
  try simp only [Act.put, List.setIfInBounds_toArray, List.set_cons_zero, List.set_cons_succ]
  refine wpAnyH_take (i := 4) (oi := ⟨some 22, _, _, _, _, _⟩) (v := .pointer (some ⟨E, 2, none⟩)) rfl (by kernel_rfl) (by kernel_rfl) (by kernel_rfl) (fun _ _ _ h => h) (Or.inl ⟨by rfl, fun W hSw => by (try dsimp only at hSw); go_simp⟩) k0 ?_
  try simp only [Act.put, List.setIfInBounds_toArray, List.set_cons_zero, List.set_cons_succ]
  refine wpAnyH_take (i := 5) (oi := ⟨some 23, _, _, _, _, _⟩) (v := .int .i64 (q.r1 : Int)) rfl (by kernel_rfl) (by kernel_rfl) (by kernel_rfl) (fun _ _ _ h => h) (Or.inl ⟨by rfl, fun W hSw => by have cq := hSw.2.r1; clear hSw; go_simp⟩) k0 ?_
  try simp only [Act.put, List.setIfInBounds_toArray, List.set_cons_zero, List.set_cons_succ]
  refine wpAnyH_take (i := 6) (oi := ⟨some 24, _, _, _, _, _⟩) (v := .pointer (some ⟨E, 0, none⟩)) rfl (by kernel_rfl) (by kernel_rfl) (by kernel_rfl) (fun _ _ _ h => h) (Or.inl ⟨by rfl, fun W hSw => by (try dsimp only at hSw); go_simp⟩) k0 ?_
  try simp only [Act.put, List.setIfInBounds_toArray, List.set_cons_zero, List.set_cons_succ]
  refine wpAnyH_take (i := 7) (oi := ⟨some 25, _, _, _, _, _⟩) (v := .pointer (some ⟨E, 12, none⟩)) rfl (by kernel_rfl) (by kernel_rfl) (by kernel_rfl) (fun _ _ _ h => h) (Or.inl ⟨by rfl, fun W hSw => by (try dsimp only at hSw); go_simp⟩) k0 ?_
  try simp only [Act.put, List.setIfInBounds_toArray, List.set_cons_zero, List.set_cons_succ]
  refine wpAnyH_take (i := 8) (oi := ⟨some 26, _, _, _, _, _⟩) (v := .pointer (some ⟨E, 12 + q.r1, none⟩)) rfl (by kernel_rfl) (by kernel_rfl) (by kernel_rfl) (fun _ _ _ h => h) (Or.inl ⟨by rfl, fun W hSw => by clear hSw; go_simp⟩) k0 ?_
  try simp only [Act.put, List.setIfInBounds_toArray, List.set_cons_zero, List.set_cons_succ]
  refine wpAnyH_take (i := 9) (oi := ⟨some 27, _, _, _, _, _⟩) (v := .int .u32 (R q.r1)) rfl (by kernel_rfl) (by kernel_rfl) (by kernel_rfl) (fun _ _ _ h => h) (Or.inl ⟨by rfl, fun W hSw => by have cq := hSw.2.reg HR1.out; clear hSw; go_simp⟩) k0 ?_
  try simp only [Act.put, List.setIfInBounds_toArray, List.set_cons_zero, List.set_cons_succ]
  refine wpAnyH_take (i := 10) (oi := ⟨some 28, _, _, _, _, _⟩) (v := .pointer (some ⟨E, 0, none⟩)) rfl (by kernel_rfl) (by kernel_rfl) (by kernel_rfl) (fun _ _ _ h => h) (Or.inl ⟨by rfl, fun W hSw => by (try dsimp only at hSw); go_simp⟩) k0 ?_
  try simp only [Act.put, List.setIfInBounds_toArray, List.set_cons_zero, List.set_cons_succ]
  refine wpAnyH_take (i := 11) (oi := ⟨some 29, _, _, _, _, _⟩) (v := .pointer (some ⟨E, 0, none⟩)) rfl (by kernel_rfl) (by kernel_rfl) (by kernel_rfl) (fun _ _ _ h => h) (Or.inl ⟨by rfl, fun W hSw => by (try dsimp only at hSw); go_simp⟩) k0 ?_
  try simp only [Act.put, List.setIfInBounds_toArray, List.set_cons_zero, List.set_cons_succ]
  refine wpAnyH_take (i := 12) (oi := ⟨some 30, _, _, _, _, _⟩) (v := .pointer (some ⟨E, 0, none⟩)) rfl (by kernel_rfl) (by kernel_rfl) (by kernel_rfl) (fun _ _ _ h => h) (Or.inl ⟨by rfl, fun W hSw => by (try dsimp only at hSw); go_simp⟩) k0 ?_
  try simp only [Act.put, List.setIfInBounds_toArray, List.set_cons_zero, List.set_cons_succ]
  refine wpAnyH_take (i := 13) (oi := ⟨some 31, _, _, _, _, _⟩) (v := .pointer (some ⟨E, 0, none⟩)) rfl (by kernel_rfl) (by kernel_rfl) (by kernel_rfl) (fun _ _ _ h => h) (Or.inl ⟨by rfl, fun W hSw => by (try dsimp only at hSw); go_simp⟩) k0 ?_
  try simp only [Act.put, List.setIfInBounds_toArray, List.set_cons_zero, List.set_cons_succ]
  refine wpAnyH_take (i := 14) (oi := ⟨some 32, _, _, _, _, _⟩) (v := .pointer (some ⟨E, 3, none⟩)) rfl (by kernel_rfl) (by kernel_rfl) (by kernel_rfl) (fun _ _ _ h => h) (Or.inl ⟨by rfl, fun W hSw => by (try dsimp only at hSw); go_simp⟩) k0 ?_
  try simp only [Act.put, List.setIfInBounds_toArray, List.set_cons_zero, List.set_cons_succ]
  refine wpAnyH_take (i := 15) (oi := ⟨some 33, _, _, _, _, _⟩) (v := .int .i64 (q.r2 : Int)) rfl (by kernel_rfl) (by kernel_rfl) (by kernel_rfl) (fun _ _ _ h => h) (Or.inl ⟨by rfl, fun W hSw => by have cq := hSw.2.r2; clear hSw; go_simp⟩) k0 ?_
  try simp only [Act.put, List.setIfInBounds_toArray, List.set_cons_zero, List.set_cons_succ]
  refine wpAnyH_take (i := 16) (oi := ⟨some 34, _, _, _, _, _⟩) (v := .pointer (some ⟨E, 0, none⟩)) rfl (by kernel_rfl) (by kernel_rfl) (by kernel_rfl) (fun _ _ _ h => h) (Or.inl ⟨by rfl, fun W hSw => by (try dsimp only at hSw); go_simp⟩) k0 ?_
  try simp only [Act.put, List.setIfInBounds_toArray, List.set_cons_zero, List.set_cons_succ]
  refine wpAnyH_take (i := 17) (oi := ⟨some 35, _, _, _, _, _⟩) (v := .pointer (some ⟨E, 12, none⟩)) rfl (by kernel_rfl) (by kernel_rfl) (by kernel_rfl) (fun _ _ _ h => h) (Or.inl ⟨by rfl, fun W hSw => by (try dsimp only at hSw); go_simp⟩) k0 ?_
  try simp only [Act.put, List.setIfInBounds_toArray, List.set_cons_zero, List.set_cons_succ]
  refine wpAnyH_take (i := 18) (oi := ⟨some 36, _, _, _, _, _⟩) (v := .pointer (some ⟨E, 12 + q.r2, none⟩)) rfl (by kernel_rfl) (by kernel_rfl) (by kernel_rfl) (fun _ _ _ h => h) (Or.inl ⟨by rfl, fun W hSw => by clear hSw; go_simp⟩) k0 ?_
  try simp only [Act.put, List.setIfInBounds_toArray, List.set_cons_zero, List.set_cons_succ]
  refine wpAnyH_take (i := 19) (oi := ⟨some 37, _, _, _, _, _⟩) (v := .int .u32 (R q.r2)) rfl (by kernel_rfl) (by kernel_rfl) (by kernel_rfl) (fun _ _ _ h => h) (Or.inl ⟨by rfl, fun W hSw => by have cq := hSw.2.reg HR2.out; clear hSw; go_simp⟩) k0 ?_
  try simp only [Act.put, List.setIfInBounds_toArray, List.set_cons_zero, List.set_cons_succ]
  refine wpAnyH_ready (rs := [20]) (by kernel_rfl) (by simp) ?_
  refine AllReadyH.cons (o := ⟨some 38, _, _, _, _, _⟩) rfl (fun K hK => ?_) AllReadyH.nil
  go_simp
  go_at_call 132
  refine (HW.out _).mono ?_
  rintro e x2 ⟨rfl, rfl⟩
  go_wp2_with fail
  refine hK.out _ _ k0 (fun k1 => ?_)
  clear hK K
  try simp only [List.setIfInBounds_toArray, List.set_cons_zero, List.set_cons_succ]
  refine wpAnyH_take (i := 21) (oi := ⟨some 17, _, _, _, _, _⟩) (v := .tuple #[.int .u32 S, .int .i64 lc]) rfl (by kernel_rfl) (by kernel_rfl) (by kernel_rfl) (fun _ _ _ h => h) (Or.inl ⟨by rfl, fun W hSw => by (try dsimp only at hSw); go_simp⟩) k1 ?_
  try simp only [Act.put, List.setIfInBounds_toArray, List.set_cons_zero, List.set_cons_succ]
  refine wpAnyH_take (i := 22) (oi := ⟨some 39, _, _, _, _, _⟩) (v := .int .u32 S) rfl (by kernel_rfl) (by kernel_rfl) (by kernel_rfl) (fun _ _ _ h => h) (Or.inl ⟨by rfl, fun W hSw => by (try dsimp only at hSw); go_simp⟩) k1 ?_
  try simp only [Act.put, List.setIfInBounds_toArray, List.set_cons_zero, List.set_cons_succ]
  refine wpAnyH_take (i := 23) (oi := ⟨some 40, _, _, _, _, _⟩) (v := .int .i64 lc) rfl (by kernel_rfl) (by kernel_rfl) (by kernel_rfl) (fun _ _ _ h => h) (Or.inl ⟨by rfl, fun W hSw => by (try dsimp only at hSw); go_simp⟩) k1 ?_
  try simp only [Act.put, List.setIfInBounds_toArray, List.set_cons_zero, List.set_cons_succ]
  refine wpAnyH_take (i := 24) (oi := ⟨some 4, _, _, _, _, _⟩) (v := .int .u32 S) rfl (by kernel_rfl) (by kernel_rfl) (by kernel_rfl) (fun _ _ _ h => h) (Or.inl ⟨by rfl, fun W hSw => by (try dsimp only at hSw); go_simp⟩) k1 ?_
  try simp only [Act.put, List.setIfInBounds_toArray, List.set_cons_zero, List.set_cons_succ]
  refine wpAnyH_take (i := 25) (oi := ⟨some 5, _, _, _, _, _⟩) (v := .int .i64 lc) rfl (by kernel_rfl) (by kernel_rfl) (by kernel_rfl) (fun _ _ _ h => h) (Or.inl ⟨by rfl, fun W hSw => by (try dsimp only at hSw); go_simp⟩) k1 ?_
  try simp only [Act.put, List.setIfInBounds_toArray, List.set_cons_zero, List.set_cons_succ]
  refine wpAnyH_done (by kernel_rfl) ?_ _
  refine id ?_
  have HB := Lib.hid k1.1
  clear k0 k1
  clear HW
  go_wp2_with fail
  refine (HS.out _ HB.out).mono ?_
  rintro e w2 ⟨rfl, h2, k2⟩
  have H2 := Lib.hid h2
  have K2 := Lib.hid ((Kp.bel HB.out).trans k2)
  clear h2 k2 HS
  go_wp2_with fail
  refine (HC.out _).mono ?_
  rintro e w3 ⟨rfl, rfl⟩
  go_wp2
  go_ret
  exact ⟨rfl, H2.out, K2.out⟩

end M
end Go.Proofs.YtfopjnfphlkcgaaGreat

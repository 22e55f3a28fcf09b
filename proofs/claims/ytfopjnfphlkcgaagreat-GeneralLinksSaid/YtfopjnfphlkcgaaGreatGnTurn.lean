/- The program: branches and the program mask. -/
import Derived.Test.YtfopjnfphlkcgaaGreatGnLink
import Derived.BigQuiet
namespace Go.Proofs.YtfopjnfphlkcgaaGreat
open Go.RowKit Go.Shelf E
set_option linter.unusedVariables false
namespace M

/-- Where a branch goes to, and whether it may. -/
def tgA (q : Qn) (R : Nat → Int) : Nat := if q.fo = 1 then adr R 0 q.r2 0 else adT q R
def tgB (q : Qn) : Bool := if q.fo = 1 then decide (q.r2 ≠ 0) else true
set_option maxRecDepth 100000 in
set_option maxHeartbeats 1000000 in
theorem target_rr (E A : Nat) (q : Qn) (R : Nat → Int) (p : Psw) (c : Int) (w : World) (h : Ex w E A q R p c) (hR : RegOk R) (hr : q.r2 < 16) (hfo : q.fo = 1) : Calls Tryz.prog 167 #[.pointer (some ⟨E, 0, none⟩)] w (New w (.tuple #[.int .i64 (adr R 0 q.r2 0 : Int), .bool (decide (q.r2 ≠ 0))])) := by
  have HA : Hid (ES E A q R p c w w.drew → ∀ {x1 : World}, x1 = w.drew.alloc (.cells #[.int .i64 (q.r2 : Int)] 3) → ES E A q R p c w x1 → Calls Tryz.prog 205 #[.pointer (some ⟨E, 0, none⟩), .int .i64 0, .slice (some ⟨w.drew.heap.size, 0, none⟩) 1 1] x1 (New x1 (.int .i64 (adr R 0 q.r2 0 : Int)))) := Lib.hid (fun _ x1 hx1 h1 => by
    have h2 := address_any E A q R p c 0 w.drew.heap.size 1 [q.r2] x1 h1.2 hR (by omega) rfl (by decide) (fun k hk => by
      match k, hk with
      | 0, _ => exact hr) (fun k hk => by
      subst hx1
      match k, hk with
      | 0, _ => exact Bx.cell (Bx.new w.drew 3 #[.int .i64 (q.r2 : Int)]) 0)
    rw [adr_of1 hR (by omega)] at h2
    exact h2)
  have H0 := Lib.hid (ES.of h)
  have c1 := h.fo
  rw [hfo] at c1
  obtain ⟨B, hB⟩ : ∃ B, B = decide (q.r2 ≠ 0) := ⟨_, rfl⟩
  have hbn : ((q.r2 : Int) != 0) = B := by rw [hB, Bool.eq_iff_iff]; simp
  rw [← hB]
  clear h hR hr hB hfo
  go_enter Tryz.func167, Tryz.ntmps167
  go_wp2_with fail
  clear c1
  refine wp_region_held_drew (S := ES E A q R p c w) (by kernel_rfl) H0.out (fun k0 => ?_)
  show wpAnyH _ _ _ _ _ 16 #[false, false, false, false, false, false, false, false, false, false, false, false, false, false, false, false] _ _
  refine wpAnyH_take (i := 0) (oi := { dst := some 10, op := Go.Op.move (Go.Operand.tmp 0), type := 92, pos := "branch.go:27", after := #[], guard := none }) (v := .pointer (some ⟨E, 0, none⟩)) rfl (by kernel_rfl) (by kernel_rfl) (by kernel_rfl) (fun _ _ _ h => h) (Or.inl ⟨by rfl, fun W hSw => by (try dsimp only at hSw); go_simp⟩) k0 ?_
  try simp only [Act.put, List.setIfInBounds_toArray, List.set_cons_zero, List.set_cons_succ]
  refine wpAnyH_take (i := 1) (oi := { dst := some 11, op := Go.Op.move (Go.Operand.tmp 0), type := 92, pos := "branch.go:27", after := #[], guard := none }) (v := .pointer (some ⟨E, 0, none⟩)) rfl (by kernel_rfl) (by kernel_rfl) (by kernel_rfl) (fun _ _ _ h => h) (Or.inl ⟨by rfl, fun W hSw => by (try dsimp only at hSw); go_simp⟩) k0 ?_
  try simp only [Act.put, List.setIfInBounds_toArray, List.set_cons_zero, List.set_cons_succ]
  refine wpAnyH_take (i := 2) (oi := { dst := some 12, op := Go.Op.nilCheck (Go.Operand.tmp 11), type := 0, pos := "branch.go:27", after := #[{ on := 1, ground := Go.Ground.data }], guard := none }) (v := .pointer (some ⟨E, 0, none⟩)) rfl (by kernel_rfl) (by kernel_rfl) (by kernel_rfl) (fun _ _ _ h => h) (Or.inl ⟨by rfl, fun W hSw => by (try dsimp only at hSw); go_simp⟩) k0 ?_
  try simp only [Act.put, List.setIfInBounds_toArray, List.set_cons_zero, List.set_cons_succ]
  refine wpAnyH_take (i := 3) (oi := { dst := some 13, op := Go.Op.fieldAddr 77 (Go.Operand.tmp 12) 0, type := 0, pos := "branch.go:27", after := #[{ on := 2, ground := Go.Ground.data }], guard := none }) (v := .pointer (some ⟨E, 0, none⟩)) rfl (by kernel_rfl) (by kernel_rfl) (by kernel_rfl) (fun _ _ _ h => h) (Or.inl ⟨by rfl, fun W hSw => by (try dsimp only at hSw); go_simp⟩) k0 ?_
  try simp only [Act.put, List.setIfInBounds_toArray, List.set_cons_zero, List.set_cons_succ]
  refine wpAnyH_take (i := 4) (oi := { dst := some 14, op := Go.Op.fieldAddr 25 (Go.Operand.tmp 13) 3, type := 0, pos := "branch.go:27", after := #[{ on := 3, ground := Go.Ground.data }], guard := none }) (v := .pointer (some ⟨E, 3, none⟩)) rfl (by kernel_rfl) (by kernel_rfl) (by kernel_rfl) (fun _ _ _ h => h) (Or.inl ⟨by rfl, fun W hSw => by (try dsimp only at hSw); go_simp⟩) k0 ?_
  try simp only [Act.put, List.setIfInBounds_toArray, List.set_cons_zero, List.set_cons_succ]
  refine wpAnyH_take (i := 5) (oi := { dst := some 15, op := Go.Op.load 3 (Go.Operand.tmp 14), type := 3, pos := "branch.go:27", after := #[{ on := 4, ground := Go.Ground.data }], guard := none }) (v := .int .i64 (q.r2 : Int)) rfl (by kernel_rfl) (by kernel_rfl) (by kernel_rfl) (fun _ _ _ h => h) (Or.inl ⟨by rfl, fun W hSw => by have cq := hSw.2.r2; clear hSw; go_simp⟩) k0 ?_
  try simp only [Act.put, List.setIfInBounds_toArray, List.set_cons_zero, List.set_cons_succ]
  refine wpAnyH_take (i := 8) (oi := { dst := some 18, op := Go.Op.move (Go.Operand.tmp 0), type := 92, pos := "branch.go:27", after := #[{ on := 14, ground := Go.Ground.gcOnly Go.Departure.lateStores }], guard := none }) (v := .pointer (some ⟨E, 0, none⟩)) rfl (by kernel_rfl) (by kernel_rfl) (by kernel_rfl) (fun _ _ _ h => h) (Or.inl ⟨by rfl, fun W hSw => by (try dsimp only at hSw); go_simp⟩) k0 ?_
  try simp only [Act.put, List.setIfInBounds_toArray, List.set_cons_zero, List.set_cons_succ]
  refine wpAnyH_take (i := 9) (oi := { dst := some 19, op := Go.Op.nilCheck (Go.Operand.tmp 18), type := 0, pos := "branch.go:27", after := #[{ on := 8, ground := Go.Ground.data }, { on := 14, ground := Go.Ground.gcOnly Go.Departure.lateStores }], guard := none }) (v := .pointer (some ⟨E, 0, none⟩)) rfl (by kernel_rfl) (by kernel_rfl) (by kernel_rfl) (fun _ _ _ h => h) (Or.inl ⟨by rfl, fun W hSw => by (try dsimp only at hSw); go_simp⟩) k0 ?_
  try simp only [Act.put, List.setIfInBounds_toArray, List.set_cons_zero, List.set_cons_succ]
  refine wpAnyH_take (i := 10) (oi := { dst := some 20, op := Go.Op.fieldAddr 77 (Go.Operand.tmp 19) 0, type := 0, pos := "branch.go:27", after := #[{ on := 9, ground := Go.Ground.data }, { on := 14, ground := Go.Ground.gcOnly Go.Departure.lateStores }], guard := none }) (v := .pointer (some ⟨E, 0, none⟩)) rfl (by kernel_rfl) (by kernel_rfl) (by kernel_rfl) (fun _ _ _ h => h) (Or.inl ⟨by rfl, fun W hSw => by (try dsimp only at hSw); go_simp⟩) k0 ?_
  try simp only [Act.put, List.setIfInBounds_toArray, List.set_cons_zero, List.set_cons_succ]
  refine wpAnyH_take (i := 11) (oi := { dst := some 21, op := Go.Op.fieldAddr 25 (Go.Operand.tmp 20) 3, type := 0, pos := "branch.go:27", after := #[{ on := 10, ground := Go.Ground.data }, { on := 14, ground := Go.Ground.gcOnly Go.Departure.lateStores }], guard := none }) (v := .pointer (some ⟨E, 3, none⟩)) rfl (by kernel_rfl) (by kernel_rfl) (by kernel_rfl) (fun _ _ _ h => h) (Or.inl ⟨by rfl, fun W hSw => by (try dsimp only at hSw); go_simp⟩) k0 ?_
  try simp only [Act.put, List.setIfInBounds_toArray, List.set_cons_zero, List.set_cons_succ]
  refine wpAnyH_take (i := 12) (oi := { dst := some 22, op := Go.Op.load 3 (Go.Operand.tmp 21), type := 3, pos := "branch.go:27", after := #[{ on := 11, ground := Go.Ground.data }, { on := 14, ground := Go.Ground.gcOnly Go.Departure.lateStores }], guard := none }) (v := .int .i64 (q.r2 : Int)) rfl (by kernel_rfl) (by kernel_rfl) (by kernel_rfl) (fun _ _ _ h => h) (Or.inl ⟨by rfl, fun W hSw => by have cq := hSw.2.r2; clear hSw; go_simp⟩) k0 ?_
  try simp only [Act.put, List.setIfInBounds_toArray, List.set_cons_zero, List.set_cons_succ]
  refine wpAnyH_take (i := 13) (oi := { dst := some 23, op := Go.Op.binOp Go.BinOp.neq 3 (Go.Operand.tmp 22) (Go.Operand.const (Go.Value.int Go.IntKind.i64 0)) 3, type := 4, pos := "branch.go:27", after := #[{ on := 12, ground := Go.Ground.data }, { on := 14, ground := Go.Ground.gcOnly Go.Departure.lateStores }], guard := none }) (v := .bool B) rfl (by kernel_rfl) (by kernel_rfl) (by kernel_rfl) (fun _ _ _ h => h) (Or.inl ⟨by rfl, fun W hSw => by (try dsimp only at hSw); go_simp⟩) k0 ?_
  try simp only [Act.put, List.setIfInBounds_toArray, List.set_cons_zero, List.set_cons_succ]
  refine wpAnyH_ready (rs := [6]) (by kernel_rfl) (by simp) ?_
  refine AllReadyH.cons (o := { dst := some 16, op := Go.Op.buildSlice 67 1 #[(0, Go.Operand.tmp 15)], type := 67, pos := "branch.go:27", after := #[{ on := 5, ground := Go.Ground.data }], guard := none }) rfl (fun K hK => ?_) AllReadyH.nil
  go_simp
  refine hK.out _ _ (k0.next (below_new _ _)) (fun k1 => ?_)
  clear hK K
  try simp only [List.setIfInBounds_toArray, List.set_cons_zero, List.set_cons_succ]
  refine wpAnyH_ready (rs := [7]) (by kernel_rfl) (by simp) ?_
  refine AllReadyH.cons (o := { dst := some 17, op := Go.Op.call { callee := Go.Callee.value (Go.Operand.func 205), args := #[Go.Operand.tmp 10, Go.Operand.const (Go.Value.int Go.IntKind.i64 0), Go.Operand.tmp 16], argTypes := #[92, 3, 67] }, type := 3, pos := "branch.go:27", after := #[{ on := 0, ground := Go.Ground.data }, { on := 6, ground := Go.Ground.data }], guard := none }) rfl (fun K hK => ?_) AllReadyH.nil
  go_simp
  go_at_call 205
  refine (HA.out k0 rfl k1).mono ?_
  rintro e x2 ⟨rfl, hb⟩
  have k3 := k1.next hb
  clear hb
  go_wp2_with fail
  refine hK.out _ _ k3 (fun k2 => ?_)
  clear k3
  clear hK K
  try simp only [List.setIfInBounds_toArray, List.set_cons_zero, List.set_cons_succ]
  refine wpAnyH_take (i := 14) (oi := { dst := some 2, op := Go.Op.assign (Go.Operand.tmp 17), type := 3, pos := "branch.go:27", after := #[{ on := 7, ground := Go.Ground.data }, { on := 7, ground := Go.Ground.chain }, { on := 0, ground := Go.Ground.phase }, { on := 1, ground := Go.Ground.phase }, { on := 2, ground := Go.Ground.phase }, { on := 3, ground := Go.Ground.phase }, { on := 4, ground := Go.Ground.phase }, { on := 5, ground := Go.Ground.phase }, { on := 6, ground := Go.Ground.phase }, { on := 7, ground := Go.Ground.phase }, { on := 8, ground := Go.Ground.textOnly Go.Departure.lateStores }, { on := 9, ground := Go.Ground.textOnly Go.Departure.lateStores }, { on := 10, ground := Go.Ground.textOnly Go.Departure.lateStores }, { on := 11, ground := Go.Ground.textOnly Go.Departure.lateStores }, { on := 12, ground := Go.Ground.textOnly Go.Departure.lateStores }, { on := 13, ground := Go.Ground.textOnly Go.Departure.lateStores }], guard := none }) (v := .int .i64 (adr R 0 q.r2 0 : Int)) rfl (by kernel_rfl) (by kernel_rfl) (by kernel_rfl) (fun _ _ _ h => h) (Or.inl ⟨by rfl, fun W hSw => by (try dsimp only at hSw); go_simp⟩) k2 ?_
  try simp only [Act.put, List.setIfInBounds_toArray, List.set_cons_zero, List.set_cons_succ]
  refine wpAnyH_take (i := 15) (oi := { dst := some 3, op := Go.Op.assign (Go.Operand.tmp 23), type := 4, pos := "branch.go:27", after := #[{ on := 13, ground := Go.Ground.data }, { on := 14, ground := Go.Ground.chain }, { on := 0, ground := Go.Ground.phase }, { on := 1, ground := Go.Ground.phase }, { on := 2, ground := Go.Ground.phase }, { on := 3, ground := Go.Ground.phase }, { on := 4, ground := Go.Ground.phase }, { on := 5, ground := Go.Ground.phase }, { on := 6, ground := Go.Ground.phase }, { on := 7, ground := Go.Ground.phase }, { on := 8, ground := Go.Ground.phase }, { on := 9, ground := Go.Ground.phase }, { on := 10, ground := Go.Ground.phase }, { on := 11, ground := Go.Ground.phase }, { on := 12, ground := Go.Ground.phase }, { on := 13, ground := Go.Ground.phase }, { on := 14, ground := Go.Ground.phase }], guard := none }) (v := .bool B) rfl (by kernel_rfl) (by kernel_rfl) (by kernel_rfl) (fun _ _ _ h => h) (Or.inl ⟨by rfl, fun W hSw => by (try dsimp only at hSw); go_simp⟩) k2 ?_
  try simp only [Act.put, List.setIfInBounds_toArray, List.set_cons_zero, List.set_cons_succ]
  refine wpAnyH_done (by kernel_rfl) ?_ _
  refine id ?_
  clear hbn
  go_wp2
  refine bodyPost_ret (results_tt rfl rfl rfl) rfl ?_
  exact ⟨rfl, k2.1⟩
set_option maxRecDepth 100000 in
theorem target_mem (E A : Nat) (q : Qn) (R : Nat → Int) (p : Psw) (c : Int) (w : World) (h : Ex w E A q R p c) (hR : RegOk R) (hq : QOk q) (hfo : q.fo ≠ 1) : Calls Tryz.prog 167 #[.pointer (some ⟨E, 0, none⟩)] w (New w (.tuple #[.int .i64 (adT q R : Int), .bool true])) := by
  have HA := Lib.hid (sec_any E A q R p c w h hR hq)
  have c1 := h.fo
  have n1 : ((q.fo : Int) == 1) = false := by simp; omega
  generalize q.fo = fo at c1 n1
  clear h hR hq hfo
  go_enter Tryz.func167, Tryz.ntmps167
  go_wp2_with fail
  refine HA.out.mono ?_
  rintro e w1 ⟨rfl, hb⟩
  have HB := Lib.hid hb
  clear hb HA
  go_wp2
  refine bodyPost_ret (results_tt rfl rfl rfl) rfl ?_
  exact ⟨rfl, HB.out⟩
theorem target_any (E A : Nat) (q : Qn) (R : Nat → Int) (p : Psw) (c : Int) (w : World) (h : Ex w E A q R p c) (hR : RegOk R) (hq : QOk q) : Calls Tryz.prog 167 #[.pointer (some ⟨E, 0, none⟩)] w (New w (.tuple #[.int .i64 (tgA q R : Int), .bool (tgB q)])) := by
  unfold tgA tgB
  by_cases hfo : q.fo = 1
  · rw [if_pos hfo, if_pos hfo]
    exact target_rr E A q R p c w h hR hq.r2 hfo
  · rw [if_neg hfo, if_neg hfo]
    exact target_mem E A q R p c w h hR hq hfo
/-- What is done before a branch. -/
def Turn (w : World) (E A : Nat) (q : Qn) (R : Nat → Int) (p : Psw) (c : Int) (b : Bool) (e : Ending) (w' : World) : Prop := e = .returned (.bool b) ∧ Ex w' E A q R p c ∧ Kp w w' [E]
set_option maxRecDepth 100000 in
set_option maxHeartbeats 1000000 in
theorem countDown_any (E A : Nat) (q : Qn) (R : Nat → Int) (p : Psw) (c : Int) (w : World) (h : Ex w E A q R p c) (hR : RegOk R) (hr : q.r1 < 16) : Calls Tryz.prog 218 #[.pointer (some ⟨E, 0, none⟩)] w (Turn w E A q (upd R q.r1 ((R q.r1 - 1) % 4294967296)) p c (decide (R q.r1 ≠ 1))) := by
  have c2 := h.r1
  have cr := h.reg hr
  have hbd := hR q.r1
  have HS : Hid (∀ X, Below w.heap.size w X → Calls Tryz.prog 123 #[.pointer (some ⟨E, 0, none⟩), .int .u32 ((R q.r1 - 1) % 4294967296)] X fun e X' => e = .returned (.tuple #[]) ∧ (Ex X' E A q (upd R q.r1 ((R q.r1 - 1) % 4294967296)) p c ∧ X'.cell? ⟨E, 2, none⟩ = some (.int .i64 (q.r1 : Int)) ∧ X'.cell? ⟨E, 12 + q.r1, none⟩ = some (.int .u32 ((R q.r1 - 1) % 4294967296))) ∧ Kp X X' [E]) := Lib.hid (fun X hX => by
    refine (set_any E A q R p c ((R q.r1 - 1) % 4294967296) X (h.below hX) hr).mono ?_
    rintro e X' ⟨he, hx, hk⟩
    have h2 := hx.reg hr
    rw [upd_same] at h2
    exact ⟨he, ⟨hx, hx.r1, h2⟩, hk⟩)
  have hn : (q.r1 : Int) < 16 := by omega
  obtain ⟨y, hy⟩ : ∃ y, y = (R q.r1 - 1) % 4294967296 := ⟨_, rfl⟩
  obtain ⟨B, hB⟩ : ∃ B, B = decide (R q.r1 ≠ 1) := ⟨_, rfl⟩
  have hyB : (y != 0) = B := by
    rw [hB, Bool.eq_iff_iff]
    simp
    omega
  rw [← hy] at HS ⊢
  rw [← hB]
  have hy2 : (R q.r1 - 1) % 4294967296 = y := hy.symm
  have HYB := Lib.hid hyB
  clear hyB
  generalize upd R q.r1 y = R' at HS ⊢
  generalize R q.r1 = v at cr hy2
  generalize q.r1 = r at c2 cr HS hn
  clear h hR hr hbd hy hB
  go_enter Tryz.func218, Tryz.ntmps218
  go_wp2_with fail
  go_still_tail 12, (by kernel_rfl)
  change wpList _ _ _ _ _ w.drew
  go_wp2_with fail
  rw [hy2]
  refine (HS.out _ (bel_drew w)).mono ?_
  rintro e w2 ⟨rfl, ⟨h2, d2, dr⟩, k2⟩
  have H2 := Lib.hid h2
  have K2 := Lib.hid ((kp_drew w _).trans k2)
  clear h2 k2 HS c2 cr hy2
  go_wp2_with fail
  go_quiet (fail)
  go_wp2
  go_ret
  exact ⟨by rw [← HYB.out]; rfl, H2.out.below (belowDraw _ _), K2.out.trans (Kp.bel (belowDraw _ _))⟩
theorem or_one (r : Nat) (h : r < 16) : bits .or .i64 (r : Int) 1 = ((r / 2 * 2 + 1 : Nat) : Int) := by
  rcases lt16 h with rfl | rfl | rfl | rfl | rfl | rfl | rfl | rfl | rfl | rfl | rfl | rfl | rfl | rfl | rfl | rfl <;> rfl
set_option maxRecDepth 100000 in
set_option maxHeartbeats 1000000 in
theorem step_any (E A : Nat) (q : Qn) (R : Nat → Int) (p : Psw) (c : Int) (w : World) (h : Ex w E A q R p c) (hR : RegOk R) (hr : q.r1 < 16) (hr2 : q.r2 < 16) : Calls Tryz.prog 219 #[.pointer (some ⟨E, 0, none⟩)] w (Turn w E A q (upd R q.r1 ((R q.r1 + R q.r2) % 4294967296)) p c (W.ord (W.sg ((R q.r1 + R q.r2) % 4294967296)) (W.sg (R (q.r2 / 2 * 2 + 1))) == 2)) := by
  have c2 := h.r1
  have c3 := h.r2
  have cr := h.reg hr
  have cs := h.reg hr2
  have hr3 : q.r2 / 2 * 2 + 1 < 16 := by omega
  have ct := h.reg hr3
  have hor := or_one q.r2 hr2
  have HW : Hid (∀ X, Calls Tryz.prog 132 #[.int .u32 (R q.r1), .int .u32 (R q.r2)] X fun e X' => e = .returned (.tuple #[.int .u32 ((R q.r1 + R q.r2) % 4294967296), .int .i64 (W.lcc ((R q.r1 + R q.r2) % 4294967296) (decide (4294967296 ≤ R q.r1 + R q.r2)))]) ∧ X' = X) := Lib.hid (fun X => (W.wAddLogical_any _ _ (hR _).1 (hR _).2 (hR _).1 (hR _).2 X).mono (fun _ _ hh => ⟨hh.1, hh.2.symm⟩))
  have HC := Lib.hid (fun X => W.wCompare_any ((R q.r1 + R q.r2) % 4294967296) (R (q.r2 / 2 * 2 + 1)) (by omega) (by omega) (hR _).1 (hR _).2 X)
  have HS := Lib.hid (fun X (hX : Below w.heap.size w X) => set_any E A q R p c ((R q.r1 + R q.r2) % 4294967296) X (h.below hX) hr)
  have hn : (q.r1 : Int) < 16 := by omega
  have hn2 : (q.r2 : Int) < 16 := by omega
  have hn3 : ((q.r2 / 2 * 2 + 1 : Nat) : Int) < 16 := by omega
  have hnn : 0 ≤ ((q.r2 / 2 * 2 + 1 : Nat) : Int) := by omega
  generalize upd R q.r1 ((R q.r1 + R q.r2) % 4294967296) = R' at HS ⊢
  generalize W.lcc ((R q.r1 + R q.r2) % 4294967296) (decide (4294967296 ≤ R q.r1 + R q.r2)) = lc at HW
  generalize (R q.r1 + R q.r2) % 4294967296 = S at HW HC HS ⊢
  generalize W.ord (W.sg S) (W.sg (R (q.r2 / 2 * 2 + 1))) = od at HC ⊢
  generalize R (q.r2 / 2 * 2 + 1) = z at ct HC
  generalize q.r2 / 2 * 2 + 1 = r3 at ct hor hn3 hnn
  have HX := Lib.hid h
  have HR1 := Lib.hid hr
  have HR2 := Lib.hid hr2
  clear h hR hr hr2 hr3 c2 cr cs
  go_enter Tryz.func219, Tryz.ntmps219
  go_wp2_with fail
  go_quiet (fail)
  go_wp2_with fail
  clear hor ct c3 hn3 hnn
  refine wp_region_held_drew (S := ES E A q R p c w) (by kernel_rfl) (ES.next ⟨belowDraw _ _, HX.out.below (belowDraw _ _)⟩ (bel_drew _)) (fun k0 => ?_)
  show wpAnyH _ _ _ _ _ 26 #[false, false, false, false, false, false, false, false, false, false, false, false, false, false, false, false, false, false, false, false, false, false, false, false, false, false] _ _
  refine wpAnyH_take (i := 0) (oi := { dst := some 18, op := Go.Op.move (Go.Operand.tmp 0), type := 92, pos := "branch.go:60", after := #[], guard := none }) (v := .pointer (some ⟨E, 0, none⟩)) rfl (by kernel_rfl) (by kernel_rfl) (by kernel_rfl) (fun _ _ _ h => h) (Or.inl ⟨by rfl, fun W hSw => by (try dsimp only at hSw); go_simp⟩) k0 ?_
  try simp only [Act.put, List.setIfInBounds_toArray, List.set_cons_zero, List.set_cons_succ]
  refine wpAnyH_take (i := 1) (oi := { dst := some 19, op := Go.Op.move (Go.Operand.tmp 0), type := 92, pos := "branch.go:60", after := #[], guard := none }) (v := .pointer (some ⟨E, 0, none⟩)) rfl (by kernel_rfl) (by kernel_rfl) (by kernel_rfl) (fun _ _ _ h => h) (Or.inl ⟨by rfl, fun W hSw => by (try dsimp only at hSw); go_simp⟩) k0 ?_
  try simp only [Act.put, List.setIfInBounds_toArray, List.set_cons_zero, List.set_cons_succ]
  refine wpAnyH_take (i := 2) (oi := { dst := some 20, op := Go.Op.nilCheck (Go.Operand.tmp 19), type := 0, pos := "branch.go:60", after := #[{ on := 1, ground := Go.Ground.data }], guard := none }) (v := .pointer (some ⟨E, 0, none⟩)) rfl (by kernel_rfl) (by kernel_rfl) (by kernel_rfl) (fun _ _ _ h => h) (Or.inl ⟨by rfl, fun W hSw => by (try dsimp only at hSw); go_simp⟩) k0 ?_
  try simp only [Act.put, List.setIfInBounds_toArray, List.set_cons_zero, List.set_cons_succ]
  refine wpAnyH_take (i := 3) (oi := { dst := some 21, op := Go.Op.fieldAddr 77 (Go.Operand.tmp 20) 0, type := 0, pos := "branch.go:60", after := #[{ on := 2, ground := Go.Ground.data }], guard := none }) (v := .pointer (some ⟨E, 0, none⟩)) rfl (by kernel_rfl) (by kernel_rfl) (by kernel_rfl) (fun _ _ _ h => h) (Or.inl ⟨by rfl, fun W hSw => by (try dsimp only at hSw); go_simp⟩) k0 ?_
  try simp only [Act.put, List.setIfInBounds_toArray, List.set_cons_zero, List.set_cons_succ]
  refine wpAnyH_take (i := 4) (oi := { dst := some 22, op := Go.Op.fieldAddr 25 (Go.Operand.tmp 21) 2, type := 0, pos := "branch.go:60", after := #[{ on := 3, ground := Go.Ground.data }], guard := none }) (v := .pointer (some ⟨E, 2, none⟩)) rfl (by kernel_rfl) (by kernel_rfl) (by kernel_rfl) (fun _ _ _ h => h) (Or.inl ⟨by rfl, fun W hSw => by (try dsimp only at hSw); go_simp⟩) k0 ?_
  try simp only [Act.put, List.setIfInBounds_toArray, List.set_cons_zero, List.set_cons_succ]
  refine wpAnyH_take (i := 5) (oi := { dst := some 23, op := Go.Op.load 3 (Go.Operand.tmp 22), type := 3, pos := "branch.go:60", after := #[{ on := 4, ground := Go.Ground.data }], guard := none }) (v := .int .i64 (q.r1 : Int)) rfl (by kernel_rfl) (by kernel_rfl) (by kernel_rfl) (fun _ _ _ h => h) (Or.inl ⟨by rfl, fun W hSw => by have cq := hSw.2.r1; clear hSw; go_simp⟩) k0 ?_
  try simp only [Act.put, List.setIfInBounds_toArray, List.set_cons_zero, List.set_cons_succ]
  refine wpAnyH_take (i := 6) (oi := { dst := some 24, op := Go.Op.nilCheck (Go.Operand.tmp 18), type := 0, pos := "branch.go:60", after := #[{ on := 0, ground := Go.Ground.data }], guard := none }) (v := .pointer (some ⟨E, 0, none⟩)) rfl (by kernel_rfl) (by kernel_rfl) (by kernel_rfl) (fun _ _ _ h => h) (Or.inl ⟨by rfl, fun W hSw => by (try dsimp only at hSw); go_simp⟩) k0 ?_
  try simp only [Act.put, List.setIfInBounds_toArray, List.set_cons_zero, List.set_cons_succ]
  refine wpAnyH_take (i := 7) (oi := { dst := some 25, op := Go.Op.fieldAddr 77 (Go.Operand.tmp 24) 1, type := 0, pos := "branch.go:60", after := #[{ on := 6, ground := Go.Ground.data }], guard := none }) (v := .pointer (some ⟨E, 12, none⟩)) rfl (by kernel_rfl) (by kernel_rfl) (by kernel_rfl) (fun _ _ _ h => h) (Or.inl ⟨by rfl, fun W hSw => by (try dsimp only at hSw); go_simp⟩) k0 ?_
  try simp only [Act.put, List.setIfInBounds_toArray, List.set_cons_zero, List.set_cons_succ]
  refine wpAnyH_take (i := 8) (oi := { dst := some 26, op := Go.Op.indexAddr 28 (Go.Operand.tmp 25) (Go.Operand.tmp 23), type := 0, pos := "branch.go:60", after := #[{ on := 7, ground := Go.Ground.data }, { on := 5, ground := Go.Ground.data }], guard := none }) (v := .pointer (some ⟨E, 12 + q.r1, none⟩)) rfl (by kernel_rfl) (by kernel_rfl) (by kernel_rfl) (fun _ _ _ h => h) (Or.inl ⟨by rfl, fun W hSw => by clear hSw; go_simp⟩) k0 ?_
  try simp only [Act.put, List.setIfInBounds_toArray, List.set_cons_zero, List.set_cons_succ]
  refine wpAnyH_take (i := 9) (oi := { dst := some 27, op := Go.Op.load 26 (Go.Operand.tmp 26), type := 26, pos := "branch.go:60", after := #[{ on := 8, ground := Go.Ground.data }], guard := none }) (v := .int .u32 (R q.r1)) rfl (by kernel_rfl) (by kernel_rfl) (by kernel_rfl) (fun _ _ _ h => h) (Or.inl ⟨by rfl, fun W hSw => by have cq := hSw.2.reg HR1.out; clear hSw; go_simp⟩) k0 ?_
  try simp only [Act.put, List.setIfInBounds_toArray, List.set_cons_zero, List.set_cons_succ]
  refine wpAnyH_take (i := 10) (oi := { dst := some 28, op := Go.Op.move (Go.Operand.tmp 0), type := 92, pos := "branch.go:60", after := #[], guard := none }) (v := .pointer (some ⟨E, 0, none⟩)) rfl (by kernel_rfl) (by kernel_rfl) (by kernel_rfl) (fun _ _ _ h => h) (Or.inl ⟨by rfl, fun W hSw => by (try dsimp only at hSw); go_simp⟩) k0 ?_
  try simp only [Act.put, List.setIfInBounds_toArray, List.set_cons_zero, List.set_cons_succ]
  refine wpAnyH_take (i := 11) (oi := { dst := some 29, op := Go.Op.move (Go.Operand.tmp 0), type := 92, pos := "branch.go:60", after := #[], guard := none }) (v := .pointer (some ⟨E, 0, none⟩)) rfl (by kernel_rfl) (by kernel_rfl) (by kernel_rfl) (fun _ _ _ h => h) (Or.inl ⟨by rfl, fun W hSw => by (try dsimp only at hSw); go_simp⟩) k0 ?_
  try simp only [Act.put, List.setIfInBounds_toArray, List.set_cons_zero, List.set_cons_succ]
  refine wpAnyH_take (i := 12) (oi := { dst := some 30, op := Go.Op.nilCheck (Go.Operand.tmp 29), type := 0, pos := "branch.go:60", after := #[{ on := 11, ground := Go.Ground.data }], guard := none }) (v := .pointer (some ⟨E, 0, none⟩)) rfl (by kernel_rfl) (by kernel_rfl) (by kernel_rfl) (fun _ _ _ h => h) (Or.inl ⟨by rfl, fun W hSw => by (try dsimp only at hSw); go_simp⟩) k0 ?_
  try simp only [Act.put, List.setIfInBounds_toArray, List.set_cons_zero, List.set_cons_succ]
  refine wpAnyH_take (i := 13) (oi := { dst := some 31, op := Go.Op.fieldAddr 77 (Go.Operand.tmp 30) 0, type := 0, pos := "branch.go:60", after := #[{ on := 12, ground := Go.Ground.data }], guard := none }) (v := .pointer (some ⟨E, 0, none⟩)) rfl (by kernel_rfl) (by kernel_rfl) (by kernel_rfl) (fun _ _ _ h => h) (Or.inl ⟨by rfl, fun W hSw => by (try dsimp only at hSw); go_simp⟩) k0 ?_
  try simp only [Act.put, List.setIfInBounds_toArray, List.set_cons_zero, List.set_cons_succ]
  refine wpAnyH_take (i := 14) (oi := { dst := some 32, op := Go.Op.fieldAddr 25 (Go.Operand.tmp 31) 3, type := 0, pos := "branch.go:60", after := #[{ on := 13, ground := Go.Ground.data }], guard := none }) (v := .pointer (some ⟨E, 3, none⟩)) rfl (by kernel_rfl) (by kernel_rfl) (by kernel_rfl) (fun _ _ _ h => h) (Or.inl ⟨by rfl, fun W hSw => by (try dsimp only at hSw); go_simp⟩) k0 ?_
  try simp only [Act.put, List.setIfInBounds_toArray, List.set_cons_zero, List.set_cons_succ]
  refine wpAnyH_take (i := 15) (oi := { dst := some 33, op := Go.Op.load 3 (Go.Operand.tmp 32), type := 3, pos := "branch.go:60", after := #[{ on := 14, ground := Go.Ground.data }], guard := none }) (v := .int .i64 (q.r2 : Int)) rfl (by kernel_rfl) (by kernel_rfl) (by kernel_rfl) (fun _ _ _ h => h) (Or.inl ⟨by rfl, fun W hSw => by have cq := hSw.2.r2; clear hSw; go_simp⟩) k0 ?_
  try simp only [Act.put, List.setIfInBounds_toArray, List.set_cons_zero, List.set_cons_succ]
  refine wpAnyH_take (i := 16) (oi := { dst := some 34, op := Go.Op.nilCheck (Go.Operand.tmp 28), type := 0, pos := "branch.go:60", after := #[{ on := 10, ground := Go.Ground.data }], guard := none }) (v := .pointer (some ⟨E, 0, none⟩)) rfl (by kernel_rfl) (by kernel_rfl) (by kernel_rfl) (fun _ _ _ h => h) (Or.inl ⟨by rfl, fun W hSw => by (try dsimp only at hSw); go_simp⟩) k0 ?_
  try simp only [Act.put, List.setIfInBounds_toArray, List.set_cons_zero, List.set_cons_succ]
  refine wpAnyH_take (i := 17) (oi := { dst := some 35, op := Go.Op.fieldAddr 77 (Go.Operand.tmp 34) 1, type := 0, pos := "branch.go:60", after := #[{ on := 16, ground := Go.Ground.data }], guard := none }) (v := .pointer (some ⟨E, 12, none⟩)) rfl (by kernel_rfl) (by kernel_rfl) (by kernel_rfl) (fun _ _ _ h => h) (Or.inl ⟨by rfl, fun W hSw => by (try dsimp only at hSw); go_simp⟩) k0 ?_
  try simp only [Act.put, List.setIfInBounds_toArray, List.set_cons_zero, List.set_cons_succ]
  refine wpAnyH_take (i := 18) (oi := { dst := some 36, op := Go.Op.indexAddr 28 (Go.Operand.tmp 35) (Go.Operand.tmp 33), type := 0, pos := "branch.go:60", after := #[{ on := 17, ground := Go.Ground.data }, { on := 15, ground := Go.Ground.data }], guard := none }) (v := .pointer (some ⟨E, 12 + q.r2, none⟩)) rfl (by kernel_rfl) (by kernel_rfl) (by kernel_rfl) (fun _ _ _ h => h) (Or.inl ⟨by rfl, fun W hSw => by clear hSw; go_simp⟩) k0 ?_
  try simp only [Act.put, List.setIfInBounds_toArray, List.set_cons_zero, List.set_cons_succ]
  refine wpAnyH_take (i := 19) (oi := { dst := some 37, op := Go.Op.load 26 (Go.Operand.tmp 36), type := 26, pos := "branch.go:60", after := #[{ on := 18, ground := Go.Ground.data }], guard := none }) (v := .int .u32 (R q.r2)) rfl (by kernel_rfl) (by kernel_rfl) (by kernel_rfl) (fun _ _ _ h => h) (Or.inl ⟨by rfl, fun W hSw => by have cq := hSw.2.reg HR2.out; clear hSw; go_simp⟩) k0 ?_
  try simp only [Act.put, List.setIfInBounds_toArray, List.set_cons_zero, List.set_cons_succ]
  refine wpAnyH_ready (rs := [20]) (by kernel_rfl) (by simp) ?_
  refine AllReadyH.cons (o := { dst := some 38, op := Go.Op.call { callee := Go.Callee.value (Go.Operand.func 132), args := #[Go.Operand.tmp 27, Go.Operand.tmp 37], argTypes := #[26, 26] }, type := 109, pos := "branch.go:60", after := #[{ on := 9, ground := Go.Ground.data }, { on := 19, ground := Go.Ground.data }], guard := none }) rfl (fun K hK => ?_) AllReadyH.nil
  go_simp
  go_at_call 132
  refine (HW.out _).mono ?_
  rintro e x2 ⟨rfl, rfl⟩
  go_wp2_with fail
  refine hK.out _ _ k0 (fun k1 => ?_)
  clear hK K
  try simp only [List.setIfInBounds_toArray, List.set_cons_zero, List.set_cons_succ]
  refine wpAnyH_take (i := 21) (oi := { dst := some 17, op := Go.Op.move (Go.Operand.tmp 38), type := 109, pos := "branch.go:60", after := #[{ on := 20, ground := Go.Ground.data }], guard := none }) (v := .tuple #[.int .u32 S, .int .i64 lc]) rfl (by kernel_rfl) (by kernel_rfl) (by kernel_rfl) (fun _ _ _ h => h) (Or.inl ⟨by rfl, fun W hSw => by (try dsimp only at hSw); go_simp⟩) k1 ?_
  try simp only [Act.put, List.setIfInBounds_toArray, List.set_cons_zero, List.set_cons_succ]
  refine wpAnyH_take (i := 22) (oi := { dst := some 39, op := Go.Op.extract (Go.Operand.tmp 17) 0, type := 26, pos := "branch.go:60", after := #[{ on := 21, ground := Go.Ground.data }], guard := none }) (v := .int .u32 S) rfl (by kernel_rfl) (by kernel_rfl) (by kernel_rfl) (fun _ _ _ h => h) (Or.inl ⟨by rfl, fun W hSw => by (try dsimp only at hSw); go_simp⟩) k1 ?_
  try simp only [Act.put, List.setIfInBounds_toArray, List.set_cons_zero, List.set_cons_succ]
  refine wpAnyH_take (i := 23) (oi := { dst := some 40, op := Go.Op.extract (Go.Operand.tmp 17) 1, type := 3, pos := "branch.go:60", after := #[{ on := 21, ground := Go.Ground.data }, { on := 24, ground := Go.Ground.gcOnly Go.Departure.lateStores }], guard := none }) (v := .int .i64 lc) rfl (by kernel_rfl) (by kernel_rfl) (by kernel_rfl) (fun _ _ _ h => h) (Or.inl ⟨by rfl, fun W hSw => by (try dsimp only at hSw); go_simp⟩) k1 ?_
  try simp only [Act.put, List.setIfInBounds_toArray, List.set_cons_zero, List.set_cons_succ]
  refine wpAnyH_take (i := 24) (oi := { dst := some 4, op := Go.Op.assign (Go.Operand.tmp 39), type := 26, pos := "branch.go:60", after := #[{ on := 22, ground := Go.Ground.data }, { on := 20, ground := Go.Ground.chain }, { on := 0, ground := Go.Ground.phase }, { on := 1, ground := Go.Ground.phase }, { on := 2, ground := Go.Ground.phase }, { on := 3, ground := Go.Ground.phase }, { on := 4, ground := Go.Ground.phase }, { on := 5, ground := Go.Ground.phase }, { on := 6, ground := Go.Ground.phase }, { on := 7, ground := Go.Ground.phase }, { on := 8, ground := Go.Ground.phase }, { on := 9, ground := Go.Ground.phase }, { on := 10, ground := Go.Ground.phase }, { on := 11, ground := Go.Ground.phase }, { on := 12, ground := Go.Ground.phase }, { on := 13, ground := Go.Ground.phase }, { on := 14, ground := Go.Ground.phase }, { on := 15, ground := Go.Ground.phase }, { on := 16, ground := Go.Ground.phase }, { on := 17, ground := Go.Ground.phase }, { on := 18, ground := Go.Ground.phase }, { on := 19, ground := Go.Ground.phase }, { on := 20, ground := Go.Ground.phase }, { on := 21, ground := Go.Ground.phase }, { on := 22, ground := Go.Ground.phase }, { on := 23, ground := Go.Ground.textOnly Go.Departure.lateStores }], guard := none }) (v := .int .u32 S) rfl (by kernel_rfl) (by kernel_rfl) (by kernel_rfl) (fun _ _ _ h => h) (Or.inl ⟨by rfl, fun W hSw => by (try dsimp only at hSw); go_simp⟩) k1 ?_
  try simp only [Act.put, List.setIfInBounds_toArray, List.set_cons_zero, List.set_cons_succ]
  refine wpAnyH_take (i := 25) (oi := { dst := some 5, op := Go.Op.assign (Go.Operand.tmp 40), type := 3, pos := "branch.go:60", after := #[{ on := 23, ground := Go.Ground.data }, { on := 24, ground := Go.Ground.chain }, { on := 0, ground := Go.Ground.phase }, { on := 1, ground := Go.Ground.phase }, { on := 2, ground := Go.Ground.phase }, { on := 3, ground := Go.Ground.phase }, { on := 4, ground := Go.Ground.phase }, { on := 5, ground := Go.Ground.phase }, { on := 6, ground := Go.Ground.phase }, { on := 7, ground := Go.Ground.phase }, { on := 8, ground := Go.Ground.phase }, { on := 9, ground := Go.Ground.phase }, { on := 10, ground := Go.Ground.phase }, { on := 11, ground := Go.Ground.phase }, { on := 12, ground := Go.Ground.phase }, { on := 13, ground := Go.Ground.phase }, { on := 14, ground := Go.Ground.phase }, { on := 15, ground := Go.Ground.phase }, { on := 16, ground := Go.Ground.phase }, { on := 17, ground := Go.Ground.phase }, { on := 18, ground := Go.Ground.phase }, { on := 19, ground := Go.Ground.phase }, { on := 20, ground := Go.Ground.phase }, { on := 21, ground := Go.Ground.phase }, { on := 22, ground := Go.Ground.phase }, { on := 23, ground := Go.Ground.phase }, { on := 24, ground := Go.Ground.phase }], guard := none }) (v := .int .i64 lc) rfl (by kernel_rfl) (by kernel_rfl) (by kernel_rfl) (fun _ _ _ h => h) (Or.inl ⟨by rfl, fun W hSw => by (try dsimp only at hSw); go_simp⟩) k1 ?_
  try simp only [Act.put, List.setIfInBounds_toArray, List.set_cons_zero, List.set_cons_succ]
  refine wpAnyH_done (by kernel_rfl) ?_ _
  refine id ?_
  have HB := Lib.hid k1.1
  clear k0 k1
  clear HW
  go_wp2_with fail
  refine (HS.out _ HB.out).mono ?_
  rintro e w2 ⟨rfl, h2, k2⟩
  have H2 := Lib.hid h2
  have K2 := Lib.hid ((Kp.bel HB.out).trans k2)
  clear h2 k2 HS
  go_wp2_with fail
  refine (HC.out _).mono ?_
  rintro e w3 ⟨rfl, rfl⟩
  go_wp2
  go_ret
  exact ⟨rfl, H2.out, K2.out⟩

end M
end Go.Proofs.YtfopjnfphlkcgaaGreat

/- The program: branches and the program mask, instruction by instruction. -/
import Derived.Test.YtfopjnfphlkcgaaGreatRows
import Derived.Test.YtfopjnfphlkcgaaGreatGnSum
import Derived.Test.YtfopjnfphlkcgaaGreatGnTurn
namespace Go.Proofs.YtfopjnfphlkcgaaGreat
namespace E
end E
open Go.RowKit Go.Shelf E
set_option linter.unusedVariables false
namespace M

set_option maxRecDepth 100000 in
set_option maxHeartbeats 1000000 in
theorem branch_of (E A : Nat) (q : Qn) (R : Nat → Int) (p : Psw) (c : Int) (R' : Nat → Int) (b : Bool) (w : World) (h : Ex w E A q R p c) (hR : RegOk R) (hq : QOk q) (HT : ∀ X, Ex X E A q R p c → Calls Tryz.prog 168 #[.pointer (some ⟨E, 0, none⟩)] X (Turn X E A q R' p c b)) : Calls Tryz.prog 75 #[.pointer (some ⟨E, 0, none⟩)] w (RegPost w E A q 0 R' (if (b && tgB q) = true then { p with ad := (tgA q R : Int) } else p) c) := by
  have HA := Lib.hid (target_any E A q R p c w h hR hq)
  have HTT := Lib.hid (fun X (hX : Below w.heap.size w X) => HT X (h.below hX))
  generalize tgA q R = a at HA ⊢
  generalize tgB q = t at HA ⊢
  clear h hR hq HT
  have HN := Lib.hid (fun (X : World) (hX : Ex X E A q R' p c) => And.intro hX.pad (And.intro (hX.fz 37) (hX.setAd (a : Int))))
  cases b with
  | false =>
    rw [if_neg (by simp)]
    go_enter Tryz.func75, Tryz.ntmps75
    go_wp2_with fail
    refine HA.out.mono ?_
    rintro e w1 ⟨rfl, hb⟩
    have HB := Lib.hid hb
    clear hb HA
    go_wp2_with fail
    refine (HTT.out _ HB.out).mono ?_
    rintro e w2 ⟨rfl, h2, k2⟩
    have H2 := Lib.hid h2
    have K2 := Lib.hid ((Kp.bel HB.out).trans k2)
    clear h2 k2 HTT HB HN
    go_wp2
    go_end0
    exact .inr ⟨rfl, rfl, H2.out, K2.out⟩
  | true =>
    cases t with
    | false =>
      rw [if_neg (by simp)]
      go_enter Tryz.func75, Tryz.ntmps75
      go_wp2_with fail
      refine HA.out.mono ?_
      rintro e w1 ⟨rfl, hb⟩
      have HB := Lib.hid hb
      clear hb HA
      go_wp2_with fail
      refine (HTT.out _ HB.out).mono ?_
      rintro e w2 ⟨rfl, h2, k2⟩
      have H2 := Lib.hid h2
      have K2 := Lib.hid ((Kp.bel HB.out).trans k2)
      clear h2 k2 HTT HB HN
      go_wp2
      go_end0
      exact .inr ⟨rfl, rfl, H2.out, K2.out⟩
    | true =>
      rw [if_pos (by simp)]
      go_enter Tryz.func75, Tryz.ntmps75
      go_wp2_with fail
      refine HA.out.mono ?_
      rintro e w1 ⟨rfl, hb⟩
      have HB := Lib.hid hb
      clear hb HA
      go_wp2_with fail
      refine (HTT.out _ HB.out).mono ?_
      rintro e w2 ⟨rfl, h2, k2⟩
      obtain ⟨n1, n2, n3⟩ := HN.out w2 h2
      have H2 := Lib.hid n3
      have K2 := Lib.hid ((Kp.bel HB.out).trans k2)
      clear h2 k2 HTT HB HN n3
      go_wp2
      go_end0
      exact .inr ⟨rfl, rfl, H2.out, K2.out.trans (kp_set _ _ _ _ _ (by simp))⟩
set_option maxRecDepth 100000 in
set_option maxHeartbeats 1000000 in
theorem turns_6 (E A : Nat) (q : Qn) (R : Nat → Int) (p : Psw) (c : Int) (w : World) (h : Ex w E A q R p c) (hR : RegOk R) (hq : QOk q) (ho : okB p = true) (hop : q.op = 6) : Calls Tryz.prog 168 #[.pointer (some ⟨E, 0, none⟩)] w (Turn w E A q (upd R q.r1 ((R q.r1 - 1) % 4294967296)) p c (decide (R q.r1 ≠ 1))) := by
  have c0 := h.op
  rw [hop] at c0
  have HC := Lib.hid (countDown_any E A q R p c w h hR hq.r1)
  generalize upd R q.r1 ((R q.r1 - 1) % 4294967296) = R' at HC ⊢
  generalize decide (R q.r1 ≠ 1) = b at HC ⊢
  clear h hR hq ho hop
  go_enter Tryz.func168, Tryz.ntmps168
  go_wp2_with fail
  refine HC.out.mono ?_
  rintro e w2 ⟨rfl, h2, k2⟩
  have H2 := Lib.hid h2
  have K2 := Lib.hid k2
  clear h2 k2 HC
  go_wp2
  go_ret
  exact ⟨rfl, H2.out, K2.out⟩
set_option maxRecDepth 100000 in
set_option maxHeartbeats 1000000 in
theorem turns_135 (E A : Nat) (q : Qn) (R : Nat → Int) (p : Psw) (c : Int) (w : World) (h : Ex w E A q R p c) (hR : RegOk R) (hq : QOk q) (ho : okB p = true) (hop : q.op = 135) : Calls Tryz.prog 168 #[.pointer (some ⟨E, 0, none⟩)] w (Turn w E A q (upd R q.r1 ((R q.r1 + R q.r2) % 4294967296)) p c (!(W.ord (W.sg ((R q.r1 + R q.r2) % 4294967296)) (W.sg (R (q.r2 / 2 * 2 + 1))) == 2))) := by
  have c0 := h.op
  rw [hop] at c0
  have HC := Lib.hid (step_any E A q R p c w.drew h.drew hR hq.r1 hq.r2)
  have HOP := Lib.hid hop
  have HE := Lib.hid (show w.drew.cell? ⟨E, 0, none⟩ = some (.int .i64 135) by have := h.drew.op; rw [hop] at this; exact this)
  generalize upd R q.r1 ((R q.r1 + R q.r2) % 4294967296) = R' at HC ⊢
  generalize (W.ord (W.sg ((R q.r1 + R q.r2) % 4294967296)) (W.sg (R (q.r2 / 2 * 2 + 1))) == 2) = b at HC ⊢
  clear h hR hq ho hop
  cases b with
  | true =>
    go_enter Tryz.func168, Tryz.ntmps168
    go_wp2_with fail
    clear c0
    refine wp_region_held_drew (S := fun W => W.cell? ⟨E, 0, none⟩ = some (.int .i64 135)) (by kernel_rfl) HE.out (fun k0 => ?_)
    show wpAnyH _ _ _ _ _ 10 #[false, false, false, false, false, false, false, false, false, false] _ _
    refine wpAnyH_take (i := 0) (oi := ⟨some 26, _, _, _, _, _⟩) (v := .pointer (some ⟨E, 0, none⟩)) rfl (by kernel_rfl) (by kernel_rfl) (by kernel_rfl) (fun _ _ _ h => h) (Or.inl ⟨by rfl, fun W hSw => by (try dsimp only at hSw); go_simp⟩) k0 ?_
    try simp only [Act.put, List.setIfInBounds_toArray, List.set_cons_zero, List.set_cons_succ]
    refine wpAnyH_take (i := 2) (oi := ⟨some 28, _, _, _, _, _⟩) (v := .pointer (some ⟨E, 0, none⟩)) rfl (by kernel_rfl) (by kernel_rfl) (by kernel_rfl) (fun _ _ _ h => h) (Or.inl ⟨by rfl, fun W hSw => by (try dsimp only at hSw); go_simp⟩) k0 ?_
    try simp only [Act.put, List.setIfInBounds_toArray, List.set_cons_zero, List.set_cons_succ]
    refine wpAnyH_take (i := 3) (oi := ⟨some 29, _, _, _, _, _⟩) (v := .pointer (some ⟨E, 0, none⟩)) rfl (by kernel_rfl) (by kernel_rfl) (by kernel_rfl) (fun _ _ _ h => h) (Or.inl ⟨by rfl, fun W hSw => by (try dsimp only at hSw); go_simp⟩) k0 ?_
    try simp only [Act.put, List.setIfInBounds_toArray, List.set_cons_zero, List.set_cons_succ]
    refine wpAnyH_take (i := 4) (oi := ⟨some 30, _, _, _, _, _⟩) (v := .pointer (some ⟨E, 0, none⟩)) rfl (by kernel_rfl) (by kernel_rfl) (by kernel_rfl) (fun _ _ _ h => h) (Or.inl ⟨by rfl, fun W hSw => by (try dsimp only at hSw); go_simp⟩) k0 ?_
    try simp only [Act.put, List.setIfInBounds_toArray, List.set_cons_zero, List.set_cons_succ]
    refine wpAnyH_take (i := 5) (oi := ⟨some 31, _, _, _, _, _⟩) (v := .pointer (some ⟨E, 0, none⟩)) rfl (by kernel_rfl) (by kernel_rfl) (by kernel_rfl) (fun _ _ _ h => h) (Or.inl ⟨by rfl, fun W hSw => by (try dsimp only at hSw); go_simp⟩) k0 ?_
    try simp only [Act.put, List.setIfInBounds_toArray, List.set_cons_zero, List.set_cons_succ]
    refine wpAnyH_take (i := 6) (oi := ⟨some 32, _, _, _, _, _⟩) (v := .int .i64 135) rfl (by kernel_rfl) (by kernel_rfl) (by kernel_rfl) (fun _ _ _ h => h) (Or.inl ⟨by rfl, fun W hSw => by have cq : W.cell? ⟨E, 0, none⟩ = _ := hSw; clear hSw; go_simp⟩) k0 ?_
    try simp only [Act.put, List.setIfInBounds_toArray, List.set_cons_zero, List.set_cons_succ]
    refine wpAnyH_take (i := 7) (oi := ⟨some 33, _, _, _, _, _⟩) (v := .bool false) rfl (by kernel_rfl) (by kernel_rfl) (by kernel_rfl) (fun _ _ _ h => h) (Or.inl ⟨by rfl, fun W hSw => by (try dsimp only at hSw); go_simp⟩) k0 ?_
    try simp only [Act.put, List.setIfInBounds_toArray, List.set_cons_zero, List.set_cons_succ]
    refine wpAnyH_ready (rs := [1]) (by kernel_rfl) (by simp) ?_
    refine AllReadyH.cons (o := ⟨some 27, _, _, _, _, _⟩) rfl (fun K hK => ?_) AllReadyH.nil
    go_simp
    go_at_call 219
    refine (HC.out).mono ?_
    rintro e x2 ⟨rfl, h2, k2⟩
    have H2 := Lib.hid h2
    have K2 := Lib.hid ((kp_drew w _).trans k2)
    have c1 := h2.op
    rw [HOP.out] at c1
    have c2 : (fun W : World => W.cell? ⟨E, 0, none⟩ = some (.int .i64 135)) x2 := c1
    clear h2 k2 c1
    go_wp2_with fail
    refine hK.out _ _ c2 (fun k1 => ?_)
    clear c2
    clear hK K
    try simp only [List.setIfInBounds_toArray, List.set_cons_zero, List.set_cons_succ]
    refine wpAnyH_take (i := 8) (oi := ⟨some 34, _, _, _, _, _⟩) (v := .bool false) rfl (by kernel_rfl) (by kernel_rfl) (by kernel_rfl) (fun _ _ _ h => h) (Or.inl ⟨by rfl, fun W hSw => by (try dsimp only at hSw); go_simp⟩) k1 ?_
    try simp only [Act.put, List.setIfInBounds_toArray, List.set_cons_zero, List.set_cons_succ]
    refine wpAnyH_take (i := 9) (oi := ⟨some 2, _, _, _, _, _⟩) (v := .bool false) rfl (by kernel_rfl) (by kernel_rfl) (by kernel_rfl) (fun _ _ _ h => h) (Or.inl ⟨by rfl, fun W hSw => by (try dsimp only at hSw); go_simp⟩) k1 ?_
    try simp only [Act.put, List.setIfInBounds_toArray, List.set_cons_zero, List.set_cons_succ]
    refine wpAnyH_done (by kernel_rfl) ?_ _
    refine id ?_
    clear k0 k1
    go_wp2
    go_ret
    exact ⟨rfl, H2.out, K2.out⟩
  | false =>
    go_enter Tryz.func168, Tryz.ntmps168
    go_wp2_with fail
    clear c0
    refine wp_region_held_drew (S := fun W => W.cell? ⟨E, 0, none⟩ = some (.int .i64 135)) (by kernel_rfl) HE.out (fun k0 => ?_)
    show wpAnyH _ _ _ _ _ 10 #[false, false, false, false, false, false, false, false, false, false] _ _
    refine wpAnyH_take (i := 0) (oi := ⟨some 26, _, _, _, _, _⟩) (v := .pointer (some ⟨E, 0, none⟩)) rfl (by kernel_rfl) (by kernel_rfl) (by kernel_rfl) (fun _ _ _ h => h) (Or.inl ⟨by rfl, fun W hSw => by (try dsimp only at hSw); go_simp⟩) k0 ?_
    try simp only [Act.put, List.setIfInBounds_toArray, List.set_cons_zero, List.set_cons_succ]
    refine wpAnyH_take (i := 2) (oi := ⟨some 28, _, _, _, _, _⟩) (v := .pointer (some ⟨E, 0, none⟩)) rfl (by kernel_rfl) (by kernel_rfl) (by kernel_rfl) (fun _ _ _ h => h) (Or.inl ⟨by rfl, fun W hSw => by (try dsimp only at hSw); go_simp⟩) k0 ?_
    try simp only [Act.put, List.setIfInBounds_toArray, List.set_cons_zero, List.set_cons_succ]
    refine wpAnyH_take (i := 3) (oi := ⟨some 29, _, _, _, _, _⟩) (v := .pointer (some ⟨E, 0, none⟩)) rfl (by kernel_rfl) (by kernel_rfl) (by kernel_rfl) (fun _ _ _ h => h) (Or.inl ⟨by rfl, fun W hSw => by (try dsimp only at hSw); go_simp⟩) k0 ?_
    try simp only [Act.put, List.setIfInBounds_toArray, List.set_cons_zero, List.set_cons_succ]
    refine wpAnyH_take (i := 4) (oi := ⟨some 30, _, _, _, _, _⟩) (v := .pointer (some ⟨E, 0, none⟩)) rfl (by kernel_rfl) (by kernel_rfl) (by kernel_rfl) (fun _ _ _ h => h) (Or.inl ⟨by rfl, fun W hSw => by (try dsimp only at hSw); go_simp⟩) k0 ?_
    try simp only [Act.put, List.setIfInBounds_toArray, List.set_cons_zero, List.set_cons_succ]
    refine wpAnyH_take (i := 5) (oi := ⟨some 31, _, _, _, _, _⟩) (v := .pointer (some ⟨E, 0, none⟩)) rfl (by kernel_rfl) (by kernel_rfl) (by kernel_rfl) (fun _ _ _ h => h) (Or.inl ⟨by rfl, fun W hSw => by (try dsimp only at hSw); go_simp⟩) k0 ?_
    try simp only [Act.put, List.setIfInBounds_toArray, List.set_cons_zero, List.set_cons_succ]
    refine wpAnyH_take (i := 6) (oi := ⟨some 32, _, _, _, _, _⟩) (v := .int .i64 135) rfl (by kernel_rfl) (by kernel_rfl) (by kernel_rfl) (fun _ _ _ h => h) (Or.inl ⟨by rfl, fun W hSw => by have cq : W.cell? ⟨E, 0, none⟩ = _ := hSw; clear hSw; go_simp⟩) k0 ?_
    try simp only [Act.put, List.setIfInBounds_toArray, List.set_cons_zero, List.set_cons_succ]
    refine wpAnyH_take (i := 7) (oi := ⟨some 33, _, _, _, _, _⟩) (v := .bool false) rfl (by kernel_rfl) (by kernel_rfl) (by kernel_rfl) (fun _ _ _ h => h) (Or.inl ⟨by rfl, fun W hSw => by (try dsimp only at hSw); go_simp⟩) k0 ?_
    try simp only [Act.put, List.setIfInBounds_toArray, List.set_cons_zero, List.set_cons_succ]
    refine wpAnyH_ready (rs := [1]) (by kernel_rfl) (by simp) ?_
    refine AllReadyH.cons (o := ⟨some 27, _, _, _, _, _⟩) rfl (fun K hK => ?_) AllReadyH.nil
    go_simp
    go_at_call 219
    refine (HC.out).mono ?_
    rintro e x2 ⟨rfl, h2, k2⟩
    have H2 := Lib.hid h2
    have K2 := Lib.hid ((kp_drew w _).trans k2)
    have c1 := h2.op
    rw [HOP.out] at c1
    have c2 : (fun W : World => W.cell? ⟨E, 0, none⟩ = some (.int .i64 135)) x2 := c1
    clear h2 k2 c1
    go_wp2_with fail
    refine hK.out _ _ c2 (fun k1 => ?_)
    clear c2
    clear hK K
    try simp only [List.setIfInBounds_toArray, List.set_cons_zero, List.set_cons_succ]
    refine wpAnyH_take (i := 8) (oi := ⟨some 34, _, _, _, _, _⟩) (v := .bool true) rfl (by kernel_rfl) (by kernel_rfl) (by kernel_rfl) (fun _ _ _ h => h) (Or.inl ⟨by rfl, fun W hSw => by (try dsimp only at hSw); go_simp⟩) k1 ?_
    try simp only [Act.put, List.setIfInBounds_toArray, List.set_cons_zero, List.set_cons_succ]
    refine wpAnyH_take (i := 9) (oi := ⟨some 2, _, _, _, _, _⟩) (v := .bool true) rfl (by kernel_rfl) (by kernel_rfl) (by kernel_rfl) (fun _ _ _ h => h) (Or.inl ⟨by rfl, fun W hSw => by (try dsimp only at hSw); go_simp⟩) k1 ?_
    try simp only [Act.put, List.setIfInBounds_toArray, List.set_cons_zero, List.set_cons_succ]
    refine wpAnyH_done (by kernel_rfl) ?_ _
    refine id ?_
    clear k0 k1
    go_wp2
    go_ret
    exact ⟨rfl, H2.out, K2.out⟩
end M
end Go.Proofs.YtfopjnfphlkcgaaGreat

/- The program: branches and the program mask, instruction by instruction. -/
import Derived.Test.YtfopjnfphlkcgaaGreatRows
import Derived.Test.YtfopjnfphlkcgaaGreatGnLink
import Derived.Test.YtfopjnfphlkcgaaGreatGnTest
import Derived.Test.YtfopjnfphlkcgaaGreatGnTurn
namespace Go.Proofs.YtfopjnfphlkcgaaGreat
open Go.RowKit Go.Shelf E
set_option linter.unusedVariables false
namespace M

set_option maxRecDepth 100000 in
set_option maxHeartbeats 1000000 in
theorem branch_of (E A : Nat) (q : Qn) (R : Nat → Int) (p : Psw) (c : Int) (R' : Nat → Int) (b : Bool) (w : World) (h : Ex w E A q R p c) (hR : RegOk R) (hq : QOk q) (HT : ∀ X, Ex X E A q R p c → Calls Tryz.prog 168 #[.pointer (some ⟨E, 0, none⟩)] X (Turn X E A q R' p c b)) : Calls Tryz.prog 75 #[.pointer (some ⟨E, 0, none⟩)] w (RegPost w E A q 0 R' (if (b && tgB q) = true then { p with ad := (tgA q R : Int) } else p) c) := by
  have HA := Lib.hid (target_any E A q R p c w h hR hq)
  have HTT := Lib.hid (fun X (hX : Below w.heap.size w X) => HT X (h.below hX))
  generalize tgA q R = a at HA ⊢
  generalize tgB q = t at HA ⊢
  clear h hR hq HT
  have HN := Lib.hid (fun (X : World) (hX : Ex X E A q R' p c) => And.intro hX.pad (And.intro (hX.fz 37) (hX.setAd (a : Int))))
  cases b with
  | false =>
    rw [if_neg (by simp)]
    go_enter Tryz.func75, Tryz.ntmps75
    go_wp2_with fail
    refine HA.out.mono ?_
    rintro e w1 ⟨rfl, hb⟩
    have HB := Lib.hid hb
    clear hb HA
    go_wp2_with fail
    refine (HTT.out _ HB.out).mono ?_
    rintro e w2 ⟨rfl, h2, k2⟩
    have H2 := Lib.hid h2
    have K2 := Lib.hid ((Kp.bel HB.out).trans k2)
    clear h2 k2 HTT HB HN
    go_wp2
    go_end0
    exact .inr ⟨rfl, rfl, H2.out, K2.out⟩
  | true =>
    cases t with
    | false =>
      rw [if_neg (by simp)]
      go_enter Tryz.func75, Tryz.ntmps75
      go_wp2_with fail
      refine HA.out.mono ?_
      rintro e w1 ⟨rfl, hb⟩
      have HB := Lib.hid hb
      clear hb HA
      go_wp2_with fail
      refine (HTT.out _ HB.out).mono ?_
      rintro e w2 ⟨rfl, h2, k2⟩
      have H2 := Lib.hid h2
      have K2 := Lib.hid ((Kp.bel HB.out).trans k2)
      clear h2 k2 HTT HB HN
      go_wp2
      go_end0
      exact .inr ⟨rfl, rfl, H2.out, K2.out⟩
    | true =>
      rw [if_pos (by simp)]
      go_enter Tryz.func75, Tryz.ntmps75
      go_wp2_with fail
      refine HA.out.mono ?_
      rintro e w1 ⟨rfl, hb⟩
      have HB := Lib.hid hb
      clear hb HA
      go_wp2_with fail
      refine (HTT.out _ HB.out).mono ?_
      rintro e w2 ⟨rfl, h2, k2⟩
      obtain ⟨n1, n2, n3⟩ := HN.out w2 h2
      have H2 := Lib.hid n3
      have K2 := Lib.hid ((Kp.bel HB.out).trans k2)
      clear h2 k2 HTT HB HN n3
      go_wp2
      go_end0
      exact .inr ⟨rfl, rfl, H2.out, K2.out.trans (kp_set _ _ _ _ _ (by simp))⟩
set_option maxRecDepth 100000 in
set_option maxHeartbeats 1000000 in
theorem turns_5 (E A : Nat) (q : Qn) (R : Nat → Int) (p : Psw) (c : Int) (w : World) (h : Ex w E A q R p c) (hR : RegOk R) (hq : QOk q) (ho : okB p = true) (hop : q.op = 5) : Calls Tryz.prog 168 #[.pointer (some ⟨E, 0, none⟩)] w (Turn w E A q (upd R q.r1 (lnkV p)) p c true) := by
  have c0 := h.op
  rw [hop] at c0
  have c1 := h.pm
  have c2 := h.pk
  have c3 := h.pma
  have c4 := h.pwa
  have c5 := h.ppr
  have c6 := h.pco
  have c7 := h.pil
  have c8 := h.pcc
  have c9 := h.ppg
  have c10 := h.pad
  have HL := Lib.hid (fun X => link_any p X ho)
  have HS := Lib.hid (fun X (hX : Below w.heap.size w X) => set_any E A q R p c (lnkV p) X (h.below hX) hq.r1)
  generalize upd R q.r1 (lnkV p) = R' at HS ⊢
  generalize lnkV p = v at HL HS
  clear h hR hq ho hop
  go_enter Tryz.func168, Tryz.ntmps168
  go_wp2_with fail
  refine (HL.out _).mono ?_
  rintro e w1 ⟨rfl, hb⟩
  have HB := Lib.hid hb
  clear hb HL c0 c1 c2 c3 c4 c5 c6 c7 c8 c9 c10
  go_wp2_with fail
  refine (HS.out _ HB.out).mono ?_
  rintro e w2 ⟨rfl, h2, k2⟩
  have H2 := Lib.hid h2
  have K2 := Lib.hid ((Kp.bel HB.out).trans k2)
  clear h2 k2 HS HB
  go_wp2
  go_ret
  exact ⟨rfl, H2.out, K2.out⟩
set_option maxRecDepth 100000 in
set_option maxHeartbeats 1000000 in
theorem turns_69 (E A : Nat) (q : Qn) (R : Nat → Int) (p : Psw) (c : Int) (w : World) (h : Ex w E A q R p c) (hR : RegOk R) (hq : QOk q) (ho : okB p = true) (hop : q.op = 69) : Calls Tryz.prog 168 #[.pointer (some ⟨E, 0, none⟩)] w (Turn w E A q (upd R q.r1 (lnkV p)) p c true) := by
  have c0 := h.op
  rw [hop] at c0
  have c1 := h.pm
  have c2 := h.pk
  have c3 := h.pma
  have c4 := h.pwa
  have c5 := h.ppr
  have c6 := h.pco
  have c7 := h.pil
  have c8 := h.pcc
  have c9 := h.ppg
  have c10 := h.pad
  have HL := Lib.hid (fun X => link_any p X ho)
  have HS := Lib.hid (fun X (hX : Below w.heap.size w X) => set_any E A q R p c (lnkV p) X (h.below hX) hq.r1)
  generalize upd R q.r1 (lnkV p) = R' at HS ⊢
  generalize lnkV p = v at HL HS
  clear h hR hq ho hop
  go_enter Tryz.func168, Tryz.ntmps168
  go_wp2_with fail
  refine (HL.out _).mono ?_
  rintro e w1 ⟨rfl, hb⟩
  have HB := Lib.hid hb
  clear hb HL c0 c1 c2 c3 c4 c5 c6 c7 c8 c9 c10
  go_wp2_with fail
  refine (HS.out _ HB.out).mono ?_
  rintro e w2 ⟨rfl, h2, k2⟩
  have H2 := Lib.hid h2
  have K2 := Lib.hid ((Kp.bel HB.out).trans k2)
  clear h2 k2 HS HB
  go_wp2
  go_ret
  exact ⟨rfl, H2.out, K2.out⟩
set_option maxRecDepth 100000 in
set_option maxHeartbeats 1000000 in
theorem turns_6 (E A : Nat) (q : Qn) (R : Nat → Int) (p : Psw) (c : Int) (w : World) (h : Ex w E A q R p c) (hR : RegOk R) (hq : QOk q) (ho : okB p = true) (hop : q.op = 6) : Calls Tryz.prog 168 #[.pointer (some ⟨E, 0, none⟩)] w (Turn w E A q (upd R q.r1 ((R q.r1 - 1) % 4294967296)) p c (decide (R q.r1 ≠ 1))) := by
  have c0 := h.op
  rw [hop] at c0
  have HC := Lib.hid (countDown_any E A q R p c w h hR hq.r1)
  generalize upd R q.r1 ((R q.r1 - 1) % 4294967296) = R' at HC ⊢
  generalize decide (R q.r1 ≠ 1) = b at HC ⊢
  clear h hR hq ho hop
  go_enter Tryz.func168, Tryz.ntmps168
  go_wp2_with fail
  refine HC.out.mono ?_
  rintro e w2 ⟨rfl, h2, k2⟩
  have H2 := Lib.hid h2
  have K2 := Lib.hid k2
  clear h2 k2 HC
  go_wp2
  go_ret
  exact ⟨rfl, H2.out, K2.out⟩
set_option maxRecDepth 100000 in
set_option maxHeartbeats 1000000 in
theorem turns_70 (E A : Nat) (q : Qn) (R : Nat → Int) (p : Psw) (c : Int) (w : World) (h : Ex w E A q R p c) (hR : RegOk R) (hq : QOk q) (ho : okB p = true) (hop : q.op = 70) : Calls Tryz.prog 168 #[.pointer (some ⟨E, 0, none⟩)] w (Turn w E A q (upd R q.r1 ((R q.r1 - 1) % 4294967296)) p c (decide (R q.r1 ≠ 1))) := by
  have c0 := h.op
  rw [hop] at c0
  have HC := Lib.hid (countDown_any E A q R p c w h hR hq.r1)
  generalize upd R q.r1 ((R q.r1 - 1) % 4294967296) = R' at HC ⊢
  generalize decide (R q.r1 ≠ 1) = b at HC ⊢
  clear h hR hq ho hop
  go_enter Tryz.func168, Tryz.ntmps168
  go_wp2_with fail
  refine HC.out.mono ?_
  rintro e w2 ⟨rfl, h2, k2⟩
  have H2 := Lib.hid h2
  have K2 := Lib.hid k2
  clear h2 k2 HC
  go_wp2
  go_ret
  exact ⟨rfl, H2.out, K2.out⟩
set_option maxRecDepth 100000 in
set_option maxHeartbeats 1000000 in
theorem turns_7 (E A : Nat) (q : Qn) (R : Nat → Int) (p : Psw) (c : Int) (w : World) (h : Ex w E A q R p c) (hR : RegOk R) (hq : QOk q) (ho : okB p = true) (hop : q.op = 7) : Calls Tryz.prog 168 #[.pointer (some ⟨E, 0, none⟩)] w (Turn w E A q R p c (brB (q.r1 : Int) p.cc)) := by
  have c0 := h.op
  rw [hop] at c0
  have c2 := h.r1
  have c8 := h.pcc
  have HBR := Lib.hid (branch_any (q.r1 : Int) p.cc w.drew)
  have HX := Lib.hid h
  generalize brB (q.r1 : Int) p.cc = b at HBR ⊢
  generalize q.r1 = r at c2 HBR
  generalize p.cc = cc at c8 HBR
  clear h hR hq ho hop
  go_enter Tryz.func168, Tryz.ntmps168
  go_wp2_with fail
  go_still_tail 10, (by kernel_rfl)
  change wpList _ _ _ _ _ w.drew
  go_wp2_with fail
  refine HBR.out.mono ?_
  rintro e w2 ⟨rfl, hb⟩
  have HB := Lib.hid (bel0 (bel_drew w) hb)
  clear hb HBR c0 c2 c8
  go_wp2
  go_ret
  exact ⟨rfl, HX.out.below HB.out, Kp.bel HB.out⟩
set_option maxRecDepth 100000 in
set_option maxHeartbeats 1000000 in
theorem turns_71 (E A : Nat) (q : Qn) (R : Nat → Int) (p : Psw) (c : Int) (w : World) (h : Ex w E A q R p c) (hR : RegOk R) (hq : QOk q) (ho : okB p = true) (hop : q.op = 71) : Calls Tryz.prog 168 #[.pointer (some ⟨E, 0, none⟩)] w (Turn w E A q R p c (brB (q.r1 : Int) p.cc)) := by
  have c0 := h.op
  rw [hop] at c0
  have c2 := h.r1
  have c8 := h.pcc
  have HBR := Lib.hid (branch_any (q.r1 : Int) p.cc w.drew)
  have HX := Lib.hid h
  generalize brB (q.r1 : Int) p.cc = b at HBR ⊢
  generalize q.r1 = r at c2 HBR
  generalize p.cc = cc at c8 HBR
  clear h hR hq ho hop
  go_enter Tryz.func168, Tryz.ntmps168
  go_wp2_with fail
  go_still_tail 10, (by kernel_rfl)
  change wpList _ _ _ _ _ w.drew
  go_wp2_with fail
  refine HBR.out.mono ?_
  rintro e w2 ⟨rfl, hb⟩
  have HB := Lib.hid (bel0 (bel_drew w) hb)
  clear hb HBR c0 c2 c8
  go_wp2
  go_ret
  exact ⟨rfl, HX.out.below HB.out, Kp.bel HB.out⟩
set_option maxRecDepth 100000 in
set_option maxHeartbeats 1000000 in
theorem turns_134 (E A : Nat) (q : Qn) (R : Nat → Int) (p : Psw) (c : Int) (w : World) (h : Ex w E A q R p c) (hR : RegOk R) (hq : QOk q) (ho : okB p = true) (hop : q.op = 134) : Calls Tryz.prog 168 #[.pointer (some ⟨E, 0, none⟩)] w (Turn w E A q (upd R q.r1 ((R q.r1 + R q.r2) % 4294967296)) p c (W.ord (W.sg ((R q.r1 + R q.r2) % 4294967296)) (W.sg (R (q.r2 / 2 * 2 + 1))) == 2)) := by
  have c0 := h.op
  rw [hop] at c0
  have HC := Lib.hid (step_any E A q R p c w.drew h.drew hR hq.r1 hq.r2)
  have HOP := Lib.hid hop
  have HE := Lib.hid (show w.drew.cell? ⟨E, 0, none⟩ = some (.int .i64 134) by have := h.drew.op; rw [hop] at this; exact this)
  generalize upd R q.r1 ((R q.r1 + R q.r2) % 4294967296) = R' at HC ⊢
  generalize (W.ord (W.sg ((R q.r1 + R q.r2) % 4294967296)) (W.sg (R (q.r2 / 2 * 2 + 1))) == 2) = b at HC ⊢
  clear h hR hq ho hop
  cases b with
  | true =>
    go_enter Tryz.func168, Tryz.ntmps168
    go_wp2_with fail
    clear c0
    refine wp_region_held_drew (S := fun W => W.cell? ⟨E, 0, none⟩ = some (.int .i64 134)) (by kernel_rfl) HE.out (fun k0 => ?_)
    show wpAnyH _ _ _ _ _ 10 #[false, false, false, false, false, false, false, false, false, false] _ _
    refine wpAnyH_take (i := 0) (oi := ⟨some 26, _, _, _, _, _⟩) (v := .pointer (some ⟨E, 0, none⟩)) rfl (by kernel_rfl) (by kernel_rfl) (by kernel_rfl) (fun _ _ _ h => h) (Or.inl ⟨by rfl, fun W hSw => by (try dsimp only at hSw); go_simp⟩) k0 ?_
    try simp only [Act.put, List.setIfInBounds_toArray, List.set_cons_zero, List.set_cons_succ]
    refine wpAnyH_take (i := 2) (oi := ⟨some 28, _, _, _, _, _⟩) (v := .pointer (some ⟨E, 0, none⟩)) rfl (by kernel_rfl) (by kernel_rfl) (by kernel_rfl) (fun _ _ _ h => h) (Or.inl ⟨by rfl, fun W hSw => by (try dsimp only at hSw); go_simp⟩) k0 ?_
    try simp only [Act.put, List.setIfInBounds_toArray, List.set_cons_zero, List.set_cons_succ]
    refine wpAnyH_take (i := 3) (oi := ⟨some 29, _, _, _, _, _⟩) (v := .pointer (some ⟨E, 0, none⟩)) rfl (by kernel_rfl) (by kernel_rfl) (by kernel_rfl) (fun _ _ _ h => h) (Or.inl ⟨by rfl, fun W hSw => by (try dsimp only at hSw); go_simp⟩) k0 ?_
    try simp only [Act.put, List.setIfInBounds_toArray, List.set_cons_zero, List.set_cons_succ]
    refine wpAnyH_take (i := 4) (oi := ⟨some 30, _, _, _, _, _⟩) (v := .pointer (some ⟨E, 0, none⟩)) rfl (by kernel_rfl) (by kernel_rfl) (by kernel_rfl) (fun _ _ _ h => h) (Or.inl ⟨by rfl, fun W hSw => by (try dsimp only at hSw); go_simp⟩) k0 ?_
    try simp only [Act.put, List.setIfInBounds_toArray, List.set_cons_zero, List.set_cons_succ]
    refine wpAnyH_take (i := 5) (oi := ⟨some 31, _, _, _, _, _⟩) (v := .pointer (some ⟨E, 0, none⟩)) rfl (by kernel_rfl) (by kernel_rfl) (by kernel_rfl) (fun _ _ _ h => h) (Or.inl ⟨by rfl, fun W hSw => by (try dsimp only at hSw); go_simp⟩) k0 ?_
    try simp only [Act.put, List.setIfInBounds_toArray, List.set_cons_zero, List.set_cons_succ]
    refine wpAnyH_take (i := 6) (oi := ⟨some 32, _, _, _, _, _⟩) (v := .int .i64 134) rfl (by kernel_rfl) (by kernel_rfl) (by kernel_rfl) (fun _ _ _ h => h) (Or.inl ⟨by rfl, fun W hSw => by have cq : W.cell? ⟨E, 0, none⟩ = _ := hSw; clear hSw; go_simp⟩) k0 ?_
    try simp only [Act.put, List.setIfInBounds_toArray, List.set_cons_zero, List.set_cons_succ]
    refine wpAnyH_take (i := 7) (oi := ⟨some 33, _, _, _, _, _⟩) (v := .bool true) rfl (by kernel_rfl) (by kernel_rfl) (by kernel_rfl) (fun _ _ _ h => h) (Or.inl ⟨by rfl, fun W hSw => by (try dsimp only at hSw); go_simp⟩) k0 ?_
    try simp only [Act.put, List.setIfInBounds_toArray, List.set_cons_zero, List.set_cons_succ]
    refine wpAnyH_ready (rs := [1]) (by kernel_rfl) (by simp) ?_
    refine AllReadyH.cons (o := ⟨some 27, _, _, _, _, _⟩) rfl (fun K hK => ?_) AllReadyH.nil
    go_simp
    go_at_call 219
    refine (HC.out).mono ?_
    rintro e x2 ⟨rfl, h2, k2⟩
    have H2 := Lib.hid h2
    have K2 := Lib.hid ((kp_drew w _).trans k2)
    have c1 := h2.op
    rw [HOP.out] at c1
    have c2 : (fun W : World => W.cell? ⟨E, 0, none⟩ = some (.int .i64 134)) x2 := c1
    clear h2 k2 c1
    go_wp2_with fail
    refine hK.out _ _ c2 (fun k1 => ?_)
    clear c2
    clear hK K
    try simp only [List.setIfInBounds_toArray, List.set_cons_zero, List.set_cons_succ]
    refine wpAnyH_take (i := 8) (oi := ⟨some 34, _, _, _, _, _⟩) (v := .bool true) rfl (by kernel_rfl) (by kernel_rfl) (by kernel_rfl) (fun _ _ _ h => h) (Or.inl ⟨by rfl, fun W hSw => by (try dsimp only at hSw); go_simp⟩) k1 ?_
    try simp only [Act.put, List.setIfInBounds_toArray, List.set_cons_zero, List.set_cons_succ]
    refine wpAnyH_take (i := 9) (oi := ⟨some 2, _, _, _, _, _⟩) (v := .bool true) rfl (by kernel_rfl) (by kernel_rfl) (by kernel_rfl) (fun _ _ _ h => h) (Or.inl ⟨by rfl, fun W hSw => by (try dsimp only at hSw); go_simp⟩) k1 ?_
    try simp only [Act.put, List.setIfInBounds_toArray, List.set_cons_zero, List.set_cons_succ]
    refine wpAnyH_done (by kernel_rfl) ?_ _
    refine id ?_
    clear k0 k1
    go_wp2
    go_ret
    exact ⟨rfl, H2.out, K2.out⟩
  | false =>
    go_enter Tryz.func168, Tryz.ntmps168
    go_wp2_with fail
    clear c0
    refine wp_region_held_drew (S := fun W => W.cell? ⟨E, 0, none⟩ = some (.int .i64 134)) (by kernel_rfl) HE.out (fun k0 => ?_)
    show wpAnyH _ _ _ _ _ 10 #[false, false, false, false, false, false, false, false, false, false] _ _
    refine wpAnyH_take (i := 0) (oi := ⟨some 26, _, _, _, _, _⟩) (v := .pointer (some ⟨E, 0, none⟩)) rfl (by kernel_rfl) (by kernel_rfl) (by kernel_rfl) (fun _ _ _ h => h) (Or.inl ⟨by rfl, fun W hSw => by (try dsimp only at hSw); go_simp⟩) k0 ?_
    try simp only [Act.put, List.setIfInBounds_toArray, List.set_cons_zero, List.set_cons_succ]
    refine wpAnyH_take (i := 2) (oi := ⟨some 28, _, _, _, _, _⟩) (v := .pointer (some ⟨E, 0, none⟩)) rfl (by kernel_rfl) (by kernel_rfl) (by kernel_rfl) (fun _ _ _ h => h) (Or.inl ⟨by rfl, fun W hSw => by (try dsimp only at hSw); go_simp⟩) k0 ?_
    try simp only [Act.put, List.setIfInBounds_toArray, List.set_cons_zero, List.set_cons_succ]
    refine wpAnyH_take (i := 3) (oi := ⟨some 29, _, _, _, _, _⟩) (v := .pointer (some ⟨E, 0, none⟩)) rfl (by kernel_rfl) (by kernel_rfl) (by kernel_rfl) (fun _ _ _ h => h) (Or.inl ⟨by rfl, fun W hSw => by (try dsimp only at hSw); go_simp⟩) k0 ?_
    try simp only [Act.put, List.setIfInBounds_toArray, List.set_cons_zero, List.set_cons_succ]
    refine wpAnyH_take (i := 4) (oi := ⟨some 30, _, _, _, _, _⟩) (v := .pointer (some ⟨E, 0, none⟩)) rfl (by kernel_rfl) (by kernel_rfl) (by kernel_rfl) (fun _ _ _ h => h) (Or.inl ⟨by rfl, fun W hSw => by (try dsimp only at hSw); go_simp⟩) k0 ?_
    try simp only [Act.put, List.setIfInBounds_toArray, List.set_cons_zero, List.set_cons_succ]
    refine wpAnyH_take (i := 5) (oi := ⟨some 31, _, _, _, _, _⟩) (v := .pointer (some ⟨E, 0, none⟩)) rfl (by kernel_rfl) (by kernel_rfl) (by kernel_rfl) (fun _ _ _ h => h) (Or.inl ⟨by rfl, fun W hSw => by (try dsimp only at hSw); go_simp⟩) k0 ?_
    try simp only [Act.put, List.setIfInBounds_toArray, List.set_cons_zero, List.set_cons_succ]
    refine wpAnyH_take (i := 6) (oi := ⟨some 32, _, _, _, _, _⟩) (v := .int .i64 134) rfl (by kernel_rfl) (by kernel_rfl) (by kernel_rfl) (fun _ _ _ h => h) (Or.inl ⟨by rfl, fun W hSw => by have cq : W.cell? ⟨E, 0, none⟩ = _ := hSw; clear hSw; go_simp⟩) k0 ?_
    try simp only [Act.put, List.setIfInBounds_toArray, List.set_cons_zero, List.set_cons_succ]
    refine wpAnyH_take (i := 7) (oi := ⟨some 33, _, _, _, _, _⟩) (v := .bool true) rfl (by kernel_rfl) (by kernel_rfl) (by kernel_rfl) (fun _ _ _ h => h) (Or.inl ⟨by rfl, fun W hSw => by (try dsimp only at hSw); go_simp⟩) k0 ?_
    try simp only [Act.put, List.setIfInBounds_toArray, List.set_cons_zero, List.set_cons_succ]
    refine wpAnyH_ready (rs := [1]) (by kernel_rfl) (by simp) ?_
    refine AllReadyH.cons (o := ⟨some 27, _, _, _, _, _⟩) rfl (fun K hK => ?_) AllReadyH.nil
    go_simp
    go_at_call 219
    refine (HC.out).mono ?_
    rintro e x2 ⟨rfl, h2, k2⟩
    have H2 := Lib.hid h2
    have K2 := Lib.hid ((kp_drew w _).trans k2)
    have c1 := h2.op
    rw [HOP.out] at c1
    have c2 : (fun W : World => W.cell? ⟨E, 0, none⟩ = some (.int .i64 134)) x2 := c1
    clear h2 k2 c1
    go_wp2_with fail
    refine hK.out _ _ c2 (fun k1 => ?_)
    clear c2
    clear hK K
    try simp only [List.setIfInBounds_toArray, List.set_cons_zero, List.set_cons_succ]
    refine wpAnyH_take (i := 8) (oi := ⟨some 34, _, _, _, _, _⟩) (v := .bool false) rfl (by kernel_rfl) (by kernel_rfl) (by kernel_rfl) (fun _ _ _ h => h) (Or.inl ⟨by rfl, fun W hSw => by (try dsimp only at hSw); go_simp⟩) k1 ?_
    try simp only [Act.put, List.setIfInBounds_toArray, List.set_cons_zero, List.set_cons_succ]
    refine wpAnyH_take (i := 9) (oi := ⟨some 2, _, _, _, _, _⟩) (v := .bool false) rfl (by kernel_rfl) (by kernel_rfl) (by kernel_rfl) (fun _ _ _ h => h) (Or.inl ⟨by rfl, fun W hSw => by (try dsimp only at hSw); go_simp⟩) k1 ?_
    try simp only [Act.put, List.setIfInBounds_toArray, List.set_cons_zero, List.set_cons_succ]
    refine wpAnyH_done (by kernel_rfl) ?_ _
    refine id ?_
    clear k0 k1
    go_wp2
    go_ret
    exact ⟨rfl, H2.out, K2.out⟩
set_option maxRecDepth 100000 in
set_option maxHeartbeats 1000000 in
theorem turns_135 (E A : Nat) (q : Qn) (R : Nat → Int) (p : Psw) (c : Int) (w : World) (h : Ex w E A q R p c) (hR : RegOk R) (hq : QOk q) (ho : okB p = true) (hop : q.op = 135) : Calls Tryz.prog 168 #[.pointer (some ⟨E, 0, none⟩)] w (Turn w E A q (upd R q.r1 ((R q.r1 + R q.r2) % 4294967296)) p c (!(W.ord (W.sg ((R q.r1 + R q.r2) % 4294967296)) (W.sg (R (q.r2 / 2 * 2 + 1))) == 2))) := by
  have c0 := h.op
  rw [hop] at c0
  have HC := Lib.hid (step_any E A q R p c w.drew h.drew hR hq.r1 hq.r2)
  have HOP := Lib.hid hop
  have HE := Lib.hid (show w.drew.cell? ⟨E, 0, none⟩ = some (.int .i64 135) by have := h.drew.op; rw [hop] at this; exact this)
  generalize upd R q.r1 ((R q.r1 + R q.r2) % 4294967296) = R' at HC ⊢
  generalize (W.ord (W.sg ((R q.r1 + R q.r2) % 4294967296)) (W.sg (R (q.r2 / 2 * 2 + 1))) == 2) = b at HC ⊢
  clear h hR hq ho hop
  cases b with
  | true =>
    go_enter Tryz.func168, Tryz.ntmps168
    go_wp2_with fail
    clear c0
    refine wp_region_held_drew (S := fun W => W.cell? ⟨E, 0, none⟩ = some (.int .i64 135)) (by kernel_rfl) HE.out (fun k0 => ?_)
    show wpAnyH _ _ _ _ _ 10 #[false, false, false, false, false, false, false, false, false, false] _ _
    refine wpAnyH_take (i := 0) (oi := ⟨some 26, _, _, _, _, _⟩) (v := .pointer (some ⟨E, 0, none⟩)) rfl (by kernel_rfl) (by kernel_rfl) (by kernel_rfl) (fun _ _ _ h => h) (Or.inl ⟨by rfl, fun W hSw => by (try dsimp only at hSw); go_simp⟩) k0 ?_
    try simp only [Act.put, List.setIfInBounds_toArray, List.set_cons_zero, List.set_cons_succ]
    refine wpAnyH_take (i := 2) (oi := ⟨some 28, _, _, _, _, _⟩) (v := .pointer (some ⟨E, 0, none⟩)) rfl (by kernel_rfl) (by kernel_rfl) (by kernel_rfl) (fun _ _ _ h => h) (Or.inl ⟨by rfl, fun W hSw => by (try dsimp only at hSw); go_simp⟩) k0 ?_
    try simp only [Act.put, List.setIfInBounds_toArray, List.set_cons_zero, List.set_cons_succ]
    refine wpAnyH_take (i := 3) (oi := ⟨some 29, _, _, _, _, _⟩) (v := .pointer (some ⟨E, 0, none⟩)) rfl (by kernel_rfl) (by kernel_rfl) (by kernel_rfl) (fun _ _ _ h => h) (Or.inl ⟨by rfl, fun W hSw => by (try dsimp only at hSw); go_simp⟩) k0 ?_
    try simp only [Act.put, List.setIfInBounds_toArray, List.set_cons_zero, List.set_cons_succ]
    refine wpAnyH_take (i := 4) (oi := ⟨some 30, _, _, _, _, _⟩) (v := .pointer (some ⟨E, 0, none⟩)) rfl (by kernel_rfl) (by kernel_rfl) (by kernel_rfl) (fun _ _ _ h => h) (Or.inl ⟨by rfl, fun W hSw => by (try dsimp only at hSw); go_simp⟩) k0 ?_
    try simp only [Act.put, List.setIfInBounds_toArray, List.set_cons_zero, List.set_cons_succ]
    refine wpAnyH_take (i := 5) (oi := ⟨some 31, _, _, _, _, _⟩) (v := .pointer (some ⟨E, 0, none⟩)) rfl (by kernel_rfl) (by kernel_rfl) (by kernel_rfl) (fun _ _ _ h => h) (Or.inl ⟨by rfl, fun W hSw => by (try dsimp only at hSw); go_simp⟩) k0 ?_
    try simp only [Act.put, List.setIfInBounds_toArray, List.set_cons_zero, List.set_cons_succ]
    refine wpAnyH_take (i := 6) (oi := ⟨some 32, _, _, _, _, _⟩) (v := .int .i64 135) rfl (by kernel_rfl) (by kernel_rfl) (by kernel_rfl) (fun _ _ _ h => h) (Or.inl ⟨by rfl, fun W hSw => by have cq : W.cell? ⟨E, 0, none⟩ = _ := hSw; clear hSw; go_simp⟩) k0 ?_
    try simp only [Act.put, List.setIfInBounds_toArray, List.set_cons_zero, List.set_cons_succ]
    refine wpAnyH_take (i := 7) (oi := ⟨some 33, _, _, _, _, _⟩) (v := .bool false) rfl (by kernel_rfl) (by kernel_rfl) (by kernel_rfl) (fun _ _ _ h => h) (Or.inl ⟨by rfl, fun W hSw => by (try dsimp only at hSw); go_simp⟩) k0 ?_
    try simp only [Act.put, List.setIfInBounds_toArray, List.set_cons_zero, List.set_cons_succ]
    refine wpAnyH_ready (rs := [1]) (by kernel_rfl) (by simp) ?_
    refine AllReadyH.cons (o := ⟨some 27, _, _, _, _, _⟩) rfl (fun K hK => ?_) AllReadyH.nil
    go_simp
    go_at_call 219
    refine (HC.out).mono ?_
    rintro e x2 ⟨rfl, h2, k2⟩
    have H2 := Lib.hid h2
    have K2 := Lib.hid ((kp_drew w _).trans k2)
    have c1 := h2.op
    rw [HOP.out] at c1
    have c2 : (fun W : World => W.cell? ⟨E, 0, none⟩ = some (.int .i64 135)) x2 := c1
    clear h2 k2 c1
    go_wp2_with fail
    refine hK.out _ _ c2 (fun k1 => ?_)
    clear c2
    clear hK K
    try simp only [List.setIfInBounds_toArray, List.set_cons_zero, List.set_cons_succ]
    refine wpAnyH_take (i := 8) (oi := ⟨some 34, _, _, _, _, _⟩) (v := .bool false) rfl (by kernel_rfl) (by kernel_rfl) (by kernel_rfl) (fun _ _ _ h => h) (Or.inl ⟨by rfl, fun W hSw => by (try dsimp only at hSw); go_simp⟩) k1 ?_
    try simp only [Act.put, List.setIfInBounds_toArray, List.set_cons_zero, List.set_cons_succ]
    refine wpAnyH_take (i := 9) (oi := ⟨some 2, _, _, _, _, _⟩) (v := .bool false) rfl (by kernel_rfl) (by kernel_rfl) (by kernel_rfl) (fun _ _ _ h => h) (Or.inl ⟨by rfl, fun W hSw => by (try dsimp only at hSw); go_simp⟩) k1 ?_
    try simp only [Act.put, List.setIfInBounds_toArray, List.set_cons_zero, List.set_cons_succ]
    refine wpAnyH_done (by kernel_rfl) ?_ _
    refine id ?_
    clear k0 k1
    go_wp2
    go_ret
    exact ⟨rfl, H2.out, K2.out⟩
  | false =>
    go_enter Tryz.func168, Tryz.ntmps168
    go_wp2_with fail
    clear c0
    refine wp_region_held_drew (S := fun W => W.cell? ⟨E, 0, none⟩ = some (.int .i64 135)) (by kernel_rfl) HE.out (fun k0 => ?_)
    show wpAnyH _ _ _ _ _ 10 #[false, false, false, false, false, false, false, false, false, false] _ _
    refine wpAnyH_take (i := 0) (oi := ⟨some 26, _, _, _, _, _⟩) (v := .pointer (some ⟨E, 0, none⟩)) rfl (by kernel_rfl) (by kernel_rfl) (by kernel_rfl) (fun _ _ _ h => h) (Or.inl ⟨by rfl, fun W hSw => by (try dsimp only at hSw); go_simp⟩) k0 ?_
    try simp only [Act.put, List.setIfInBounds_toArray, List.set_cons_zero, List.set_cons_succ]
    refine wpAnyH_take (i := 2) (oi := ⟨some 28, _, _, _, _, _⟩) (v := .pointer (some ⟨E, 0, none⟩)) rfl (by kernel_rfl) (by kernel_rfl) (by kernel_rfl) (fun _ _ _ h => h) (Or.inl ⟨by rfl, fun W hSw => by (try dsimp only at hSw); go_simp⟩) k0 ?_
    try simp only [Act.put, List.setIfInBounds_toArray, List.set_cons_zero, List.set_cons_succ]
    refine wpAnyH_take (i := 3) (oi := ⟨some 29, _, _, _, _, _⟩) (v := .pointer (some ⟨E, 0, none⟩)) rfl (by kernel_rfl) (by kernel_rfl) (by kernel_rfl) (fun _ _ _ h => h) (Or.inl ⟨by rfl, fun W hSw => by (try dsimp only at hSw); go_simp⟩) k0 ?_
    try simp only [Act.put, List.setIfInBounds_toArray, List.set_cons_zero, List.set_cons_succ]
    refine wpAnyH_take (i := 4) (oi := ⟨some 30, _, _, _, _, _⟩) (v := .pointer (some ⟨E, 0, none⟩)) rfl (by kernel_rfl) (by kernel_rfl) (by kernel_rfl) (fun _ _ _ h => h) (Or.inl ⟨by rfl, fun W hSw => by (try dsimp only at hSw); go_simp⟩) k0 ?_
    try simp only [Act.put, List.setIfInBounds_toArray, List.set_cons_zero, List.set_cons_succ]
    refine wpAnyH_take (i := 5) (oi := ⟨some 31, _, _, _, _, _⟩) (v := .pointer (some ⟨E, 0, none⟩)) rfl (by kernel_rfl) (by kernel_rfl) (by kernel_rfl) (fun _ _ _ h => h) (Or.inl ⟨by rfl, fun W hSw => by (try dsimp only at hSw); go_simp⟩) k0 ?_
    try simp only [Act.put, List.setIfInBounds_toArray, List.set_cons_zero, List.set_cons_succ]
    refine wpAnyH_take (i := 6) (oi := ⟨some 32, _, _, _, _, _⟩) (v := .int .i64 135) rfl (by kernel_rfl) (by kernel_rfl) (by kernel_rfl) (fun _ _ _ h => h) (Or.inl ⟨by rfl, fun W hSw => by have cq : W.cell? ⟨E, 0, none⟩ = _ := hSw; clear hSw; go_simp⟩) k0 ?_
    try simp only [Act.put, List.setIfInBounds_toArray, List.set_cons_zero, List.set_cons_succ]
    refine wpAnyH_take (i := 7) (oi := ⟨some 33, _, _, _, _, _⟩) (v := .bool false) rfl (by kernel_rfl) (by kernel_rfl) (by kernel_rfl) (fun _ _ _ h => h) (Or.inl ⟨by rfl, fun W hSw => by (try dsimp only at hSw); go_simp⟩) k0 ?_
    try simp only [Act.put, List.setIfInBounds_toArray, List.set_cons_zero, List.set_cons_succ]
    refine wpAnyH_ready (rs := [1]) (by kernel_rfl) (by simp) ?_
    refine AllReadyH.cons (o := ⟨some 27, _, _, _, _, _⟩) rfl (fun K hK => ?_) AllReadyH.nil
    go_simp
    go_at_call 219
    refine (HC.out).mono ?_
    rintro e x2 ⟨rfl, h2, k2⟩
    have H2 := Lib.hid h2
    have K2 := Lib.hid ((kp_drew w _).trans k2)
    have c1 := h2.op
    rw [HOP.out] at c1
    have c2 : (fun W : World => W.cell? ⟨E, 0, none⟩ = some (.int .i64 135)) x2 := c1
    clear h2 k2 c1
    go_wp2_with fail
    refine hK.out _ _ c2 (fun k1 => ?_)
    clear c2
    clear hK K
    try simp only [List.setIfInBounds_toArray, List.set_cons_zero, List.set_cons_succ]
    refine wpAnyH_take (i := 8) (oi := ⟨some 34, _, _, _, _, _⟩) (v := .bool true) rfl (by kernel_rfl) (by kernel_rfl) (by kernel_rfl) (fun _ _ _ h => h) (Or.inl ⟨by rfl, fun W hSw => by (try dsimp only at hSw); go_simp⟩) k1 ?_
    try simp only [Act.put, List.setIfInBounds_toArray, List.set_cons_zero, List.set_cons_succ]
    refine wpAnyH_take (i := 9) (oi := ⟨some 2, _, _, _, _, _⟩) (v := .bool true) rfl (by kernel_rfl) (by kernel_rfl) (by kernel_rfl) (fun _ _ _ h => h) (Or.inl ⟨by rfl, fun W hSw => by (try dsimp only at hSw); go_simp⟩) k1 ?_
    try simp only [Act.put, List.setIfInBounds_toArray, List.set_cons_zero, List.set_cons_succ]
    refine wpAnyH_done (by kernel_rfl) ?_ _
    refine id ?_
    clear k0 k1
    go_wp2
    go_ret
    exact ⟨rfl, H2.out, K2.out⟩
set_option maxRecDepth 100000 in
set_option maxHeartbeats 1000000 in
theorem spm_any (E A : Nat) (q : Qn) (R : Nat → Int) (p : Psw) (c : Int) (w : World) (h : Ex w E A q R p c) (hR : RegOk R) (hr : q.r1 < 16) : Calls Tryz.prog 62 #[.pointer (some ⟨E, 0, none⟩)] w (RegPost w E A q 0 R { p with cc := R q.r1 / 268435456 % 4, pg := R q.r1 / 16777216 % 16 } c) := by
  have c2 := h.r1
  have cr := h.reg hr
  have hv := hR q.r1
  obtain ⟨x, hx⟩ := Int.eq_ofNat_of_zero_le hv.1
  have HSP := Lib.hid (spm_bits x (by omega))
  have e1 : R q.r1 / 268435456 % 4 = ((x / 268435456 % 4 : Nat) : Int) := by rw [hx]; omega
  have e2 : R q.r1 / 16777216 % 16 = ((x / 16777216 % 16 : Nat) : Int) := by rw [hx]; omega
  rw [e1, e2]
  rw [hx] at cr
  have hn : (q.r1 : Int) < 16 := by omega
  have hb1 := HSP.out.1
  have hb2 := HSP.out.2
  have HN : Hid (∀ (X : World), Ex X E A q R p c → (X.cell? ⟨E, 35, none⟩ = some (.int .i64 p.cc) ∧ X.frozen? ⟨E, 35, none⟩ = false ∧ X.cell? ⟨E, 36, none⟩ = some (.int .i64 p.pg) ∧ X.frozen? ⟨E, 36, none⟩ = false) ∧ Ex ((X.setCell ⟨E, 35, none⟩ (.int .i64 ((x / 268435456 % 4 : Nat) : Int))).setCell ⟨E, 36, none⟩ (.int .i64 ((x / 16777216 % 16 : Nat) : Int))) E A q R { p with cc := ((x / 268435456 % 4 : Nat) : Int), pg := ((x / 16777216 % 16 : Nat) : Int) } c) := Lib.hid (fun X hX => ⟨⟨hX.pcc, hX.fz 35, hX.ppg, hX.fz 36⟩, (hX.setCc _).setPg _⟩)
  have hb3 : ((x / 268435456 % 4 : Nat) : Int) < 4 := by omega
  have hb4 : ((x / 16777216 % 16 : Nat) : Int) < 16 := by omega
  generalize x / 268435456 % 4 = a at hb1 HN hb3 ⊢
  generalize x / 16777216 % 16 = b at hb2 HN hb4 ⊢
  have HX := Lib.hid h
  have d1 := (HN.out w h).1
  obtain ⟨d1, d2, d3, d4⟩ := d1
  generalize q.r1 = r at c2 cr hn
  clear h hR hr hv hx e1 e2 HSP
  go_enter Tryz.func62, Tryz.ntmps62
  go_wp2_with fail
  go_quiet (fail)
  go_wp2
  go_end0
  exact .inr ⟨rfl, rfl, (HN.out _ (HX.out.below (belowDraw _ _))).2, ((Kp.bel (belowDraw _ _)).trans (kp_set _ _ _ _ _ (by simp))).trans (kp_set _ _ _ _ _ (by simp))⟩

end M
end Go.Proofs.YtfopjnfphlkcgaaGreat

/- The program: products and quotients. -/
import Derived.Test.YtfopjnfphlkcgaaGreatRows
import Derived.Test.YtfopjnfphlkcgaaGreatGnTest
namespace Go.Proofs.YtfopjnfphlkcgaaGreat
namespace E
end E
open Go.RowKit Go.Shelf E
set_option linter.unusedVariables false
namespace M

set_option maxRecDepth 100000 in
set_option maxHeartbeats 1000000 in
theorem multiply_any (E A : Nat) (q : Qn) (R : Nat → Int) (p : Psw) (c : Int) (g h n m : Nat) (bs ks : List UInt8) (w : World) (hx : Ex w E A q R p c) (hs : Sto w A g h n m bs ks) (hR : RegOk R) (hq : QOk q) : Calls Tryz.prog 56 #[.pointer (some ⟨E, 0, none⟩)] w (RegPost w E A q (if q.r1 % 2 = 0 then opC q R p n ks else 6) (upd (upd R q.r1 (W.sg (R (q.r1 + 1)) * W.sg (opV q R bs) % 18446744073709551616 / 4294967296)) (q.r1 + 1) (W.sg (R (q.r1 + 1)) * W.sg (opV q R bs) % 4294967296)) p c) := by
  have HP := Lib.hid (pair_any E A q R p c w hx hq.r1)
  have HX := Lib.hid hx
  by_cases hev : q.r1 % 2 = 0
  · rw [if_pos hev] at HP ⊢
    have h15 : q.r1 < 15 := by have := hq.r1; omega
    have H15 := Lib.hid (show q.r1 + 1 < 16 by omega)
    have HO := Lib.hid (fun (X : World) (hW : Below w.heap.size w X) => operand_any E A q R p c g h n m bs ks X (hx.below hW) (hs.below hW) hR hq)
    have HW := Lib.hid (fun (X : World) => W.wMul_any (R (q.r1 + 1)) (opV q R bs) (hR _).1 (hR _).2 (opV_bd hR).1 (opV_bd hR).2 X)
    have HS := Lib.hid (fun (X : World) (hW : Below w.heap.size w X) => setPair_any E A q R p c (W.sg (R (q.r1 + 1)) * W.sg (opV q R bs) % 18446744073709551616 / 4294967296) (W.sg (R (q.r1 + 1)) * W.sg (opV q R bs) % 4294967296) X (hx.below hW) h15)
    have hr1 : ((q.r1 + 1 : Nat) : Int) < 16 := by omega
    generalize opC q R p n ks = C at HO ⊢
    generalize opV q R bs = v at HO HW HS ⊢
    clear hx hs hR hq hev h15
    go_enter Tryz.func56, Tryz.ntmps56
    go_wp2_with fail
    refine HP.out.mono ?_
    rintro e w1 ⟨hb, ⟨-, rfl⟩ | ⟨hn, -⟩⟩
    rotate_left
    · exact absurd rfl hn
    have HB := Lib.hid hb
    clear hb HP
    go_wp2_with fail
    refine (HO.out _ HB.out).mono ?_
    rintro e w2 ⟨hb, ⟨h0, rfl⟩ | ⟨hn, rfl⟩⟩
    rotate_left
    · have HB2 := Lib.hid (bel0 HB.out hb)
      have HN := Lib.hid hn
      clear hb hn HO HB
      unfold Stop
      go_wp2
      exact ⟨rfl, .inl ⟨HN.out, rfl, Kp.bel HB2.out⟩⟩
    have c2 := (HX.out.below (bel0 HB.out hb)).reg H15.out
    have HB2 := Lib.hid (bel0 HB.out hb)
    have H0 := Lib.hid h0
    clear hb h0 HO HB HX H15
    go_wp2_with fail
    refine (HW.out _).mono ?_
    rintro e w3 ⟨rfl, rfl⟩
    clear c2 hr1 HW
    go_wp2_with fail
    refine (HS.out _ HB2.out).mono ?_
    rintro e w4 ⟨rfl, h2, k2⟩
    have H2 := Lib.hid h2
    have K2 := Lib.hid ((Kp.bel HB2.out).trans k2)
    clear h2 k2 HS HB2
    go_wp2
    go_end0
    exact .inr ⟨H0.out, rfl, H2.out, K2.out⟩
  · rw [if_neg hev] at HP ⊢
    clear hx hs hR hq hev
    go_enter Tryz.func56, Tryz.ntmps56
    go_wp2_with fail
    refine HP.out.mono ?_
    rintro e w1 ⟨hb, ⟨h6, -⟩ | ⟨-, rfl⟩⟩
    · exact absurd h6 (by decide)
    · have HB := Lib.hid hb
      clear hb HP
      unfold Stop
      go_wp2
      exact ⟨rfl, .inl ⟨by decide, rfl, Kp.bel HB.out⟩⟩
set_option maxRecDepth 100000 in
set_option maxHeartbeats 1000000 in
theorem divide_any (E A : Nat) (q : Qn) (R : Nat → Int) (p : Psw) (c : Int) (g h n m : Nat) (bs ks : List UInt8) (w : World) (hx : Ex w E A q R p c) (hs : Sto w A g h n m bs ks) (hR : RegOk R) (hq : QOk q) : Calls Tryz.prog 58 #[.pointer (some ⟨E, 0, none⟩)] w (RegPost w E A q (if q.r1 % 2 = 0 then (if opC q R p n ks = 0 then (if W.dOk (W.sgd (R q.r1) (R (q.r1 + 1))) (W.sg (opV q R bs)) = true then 0 else 9) else opC q R p n ks) else 6) (upd (upd R q.r1 (W.dR (W.sgd (R q.r1) (R (q.r1 + 1))) (W.sg (opV q R bs)))) (q.r1 + 1) (W.dQ (W.sgd (R q.r1) (R (q.r1 + 1))) (W.sg (opV q R bs)))) p c) := by
  have HP := Lib.hid (pair_any E A q R p c w hx hq.r1)
  have HX := Lib.hid hx
  by_cases hev : q.r1 % 2 = 0
  · rw [if_pos hev] at HP ⊢
    have h15 : q.r1 < 15 := by have := hq.r1; omega
    have H15 := Lib.hid (show q.r1 + 1 < 16 by omega)
    have H14 := Lib.hid hq.r1
    have HO := Lib.hid (fun (X : World) (hW : Below w.heap.size w X) => operand_any E A q R p c g h n m bs ks X (hx.below hW) (hs.below hW) hR hq)
    have HW := Lib.hid (fun (X : World) => W.wDiv_any (R q.r1) (R (q.r1 + 1)) (opV q R bs) (hR _).1 (hR _).2 (hR _).1 (hR _).2 (opV_bd hR).1 (opV_bd hR).2 X)
    have HS := Lib.hid (fun (X : World) (hW : Below w.heap.size w X) => setPair_any E A q R p c (W.dR (W.sgd (R q.r1) (R (q.r1 + 1))) (W.sg (opV q R bs))) (W.dQ (W.sgd (R q.r1) (R (q.r1 + 1))) (W.sg (opV q R bs))) X (hx.below hW) h15)
    have HY := Lib.hid (require_yes 9)
    have HN9 := Lib.hid (require_no 9)
    have hr1 : ((q.r1 + 1 : Nat) : Int) < 16 := by omega
    have hr0 : ((q.r1 : Nat) : Int) < 16 := by omega
    generalize opC q R p n ks = C at HO ⊢
    generalize opV q R bs = v at HO HW HS ⊢
    generalize W.dR (W.sgd (R q.r1) (R (q.r1 + 1))) (W.sg v) = dr at HW HS ⊢
    generalize W.dQ (W.sgd (R q.r1) (R (q.r1 + 1))) (W.sg v) = dq at HW HS ⊢
    generalize W.dOk (W.sgd (R q.r1) (R (q.r1 + 1))) (W.sg v) = dk at HW ⊢
    generalize q.r1 + 1 = r' at HP HW HS H15 hr1 ⊢
    generalize hCC : (if C = 0 then (if dk = true then (0 : Int) else 9) else C) = CC
    have HCC := Lib.hid hCC
    clear hCC
    clear hx hs hR hq hev h15
    go_enter Tryz.func58, Tryz.ntmps58
    go_wp2_with fail
    refine HP.out.mono ?_
    rintro e w1 ⟨hb, ⟨-, rfl⟩ | ⟨hn, -⟩⟩
    rotate_left
    · exact absurd rfl hn
    have HB := Lib.hid hb
    clear hb HP
    go_wp2_with fail
    refine (HO.out _ HB.out).mono ?_
    rintro e w2 ⟨hb, ⟨h0, rfl⟩ | ⟨hn, rfl⟩⟩
    rotate_left
    · have HB2 := Lib.hid (bel0 HB.out hb)
      have HN := Lib.hid hn
      clear hb hn HO HB
      unfold Stop
      go_wp2
      exact ⟨rfl, .inl ⟨by rw [← HCC.out, if_neg HN.out]; exact HN.out, by rw [← HCC.out, if_neg HN.out]; rfl, Kp.bel HB2.out⟩⟩
    have HB2 := Lib.hid (bel0 HB.out hb)
    have HE := Lib.hid (ES.next ⟨HB2.out, HX.out.below HB2.out⟩ (bel_drew _))
    have H0 := Lib.hid h0
    clear hb h0 HO HB HX
    go_wp2_with fail
    refine wp_region_held_drew (S := ES E A q R p c w) (by kernel_rfl) HE.out (fun k0 => ?_)
    show wpAnyH _ _ _ _ _ 21 #[false, false, false, false, false, false, false, false, false, false, false, false, false, false, false, false, false, false, false, false, false] _ _
    refine wpAnyH_take (i := 0) (oi := ⟨some 16, _, _, _, _, _⟩) (v := .pointer (some ⟨E, 0, none⟩)) rfl (by kernel_rfl) (by kernel_rfl) (by kernel_rfl) (fun _ _ _ h => h) (Or.inl ⟨by rfl, fun W hSw => by (try dsimp only at hSw); go_simp⟩) k0 ?_
    try simp only [Act.put, List.setIfInBounds_toArray, List.set_cons_zero, List.set_cons_succ]
    refine wpAnyH_take (i := 1) (oi := ⟨some 17, _, _, _, _, _⟩) (v := .int .i64 (q.r1 : Int)) rfl (by kernel_rfl) (by kernel_rfl) (by kernel_rfl) (fun _ _ _ h => h) (Or.inl ⟨by rfl, fun W hSw => by (try dsimp only at hSw); go_simp⟩) k0 ?_
    try simp only [Act.put, List.setIfInBounds_toArray, List.set_cons_zero, List.set_cons_succ]
    refine wpAnyH_take (i := 2) (oi := ⟨some 18, _, _, _, _, _⟩) (v := .pointer (some ⟨E, 0, none⟩)) rfl (by kernel_rfl) (by kernel_rfl) (by kernel_rfl) (fun _ _ _ h => h) (Or.inl ⟨by rfl, fun W hSw => by (try dsimp only at hSw); go_simp⟩) k0 ?_
    try simp only [Act.put, List.setIfInBounds_toArray, List.set_cons_zero, List.set_cons_succ]
    refine wpAnyH_take (i := 3) (oi := ⟨some 19, _, _, _, _, _⟩) (v := .pointer (some ⟨E, 12, none⟩)) rfl (by kernel_rfl) (by kernel_rfl) (by kernel_rfl) (fun _ _ _ h => h) (Or.inl ⟨by rfl, fun W hSw => by (try dsimp only at hSw); go_simp⟩) k0 ?_
    try simp only [Act.put, List.setIfInBounds_toArray, List.set_cons_zero, List.set_cons_succ]
    refine wpAnyH_take (i := 4) (oi := ⟨some 20, _, _, _, _, _⟩) (v := .pointer (some ⟨E, 12 + q.r1, none⟩)) rfl (by kernel_rfl) (by kernel_rfl) (by kernel_rfl) (fun _ _ _ h => h) (Or.inl ⟨by rfl, fun W hSw => by clear hSw; go_simp⟩) k0 ?_
    try simp only [Act.put, List.setIfInBounds_toArray, List.set_cons_zero, List.set_cons_succ]
    refine wpAnyH_take (i := 5) (oi := ⟨some 21, _, _, _, _, _⟩) (v := .int .u32 (R q.r1)) rfl (by kernel_rfl) (by kernel_rfl) (by kernel_rfl) (fun _ _ _ h => h) (Or.inl ⟨by rfl, fun W hSw => by have cq := hSw.2.reg H14.out; clear hSw; go_simp⟩) k0 ?_
    try simp only [Act.put, List.setIfInBounds_toArray, List.set_cons_zero, List.set_cons_succ]
    refine wpAnyH_take (i := 6) (oi := ⟨some 22, _, _, _, _, _⟩) (v := .pointer (some ⟨E, 0, none⟩)) rfl (by kernel_rfl) (by kernel_rfl) (by kernel_rfl) (fun _ _ _ h => h) (Or.inl ⟨by rfl, fun W hSw => by (try dsimp only at hSw); go_simp⟩) k0 ?_
    try simp only [Act.put, List.setIfInBounds_toArray, List.set_cons_zero, List.set_cons_succ]
    refine wpAnyH_take (i := 7) (oi := ⟨some 23, _, _, _, _, _⟩) (v := .int .i64 (r' : Int)) rfl (by kernel_rfl) (by kernel_rfl) (by kernel_rfl) (fun _ _ _ h => h) (Or.inl ⟨by rfl, fun W hSw => by (try dsimp only at hSw); go_simp⟩) k0 ?_
    try simp only [Act.put, List.setIfInBounds_toArray, List.set_cons_zero, List.set_cons_succ]
    refine wpAnyH_take (i := 8) (oi := ⟨some 24, _, _, _, _, _⟩) (v := .pointer (some ⟨E, 0, none⟩)) rfl (by kernel_rfl) (by kernel_rfl) (by kernel_rfl) (fun _ _ _ h => h) (Or.inl ⟨by rfl, fun W hSw => by (try dsimp only at hSw); go_simp⟩) k0 ?_
    try simp only [Act.put, List.setIfInBounds_toArray, List.set_cons_zero, List.set_cons_succ]
    refine wpAnyH_take (i := 9) (oi := ⟨some 25, _, _, _, _, _⟩) (v := .pointer (some ⟨E, 12, none⟩)) rfl (by kernel_rfl) (by kernel_rfl) (by kernel_rfl) (fun _ _ _ h => h) (Or.inl ⟨by rfl, fun W hSw => by (try dsimp only at hSw); go_simp⟩) k0 ?_
    try simp only [Act.put, List.setIfInBounds_toArray, List.set_cons_zero, List.set_cons_succ]
    refine wpAnyH_take (i := 10) (oi := ⟨some 26, _, _, _, _, _⟩) (v := .pointer (some ⟨E, 12 + r', none⟩)) rfl (by kernel_rfl) (by kernel_rfl) (by kernel_rfl) (fun _ _ _ h => h) (Or.inl ⟨by rfl, fun W hSw => by clear hSw; go_simp⟩) k0 ?_
    try simp only [Act.put, List.setIfInBounds_toArray, List.set_cons_zero, List.set_cons_succ]
    refine wpAnyH_take (i := 11) (oi := ⟨some 27, _, _, _, _, _⟩) (v := .int .u32 (R r')) rfl (by kernel_rfl) (by kernel_rfl) (by kernel_rfl) (fun _ _ _ h => h) (Or.inl ⟨by rfl, fun W hSw => by have cq := hSw.2.reg H15.out; clear hSw; go_simp⟩) k0 ?_
    try simp only [Act.put, List.setIfInBounds_toArray, List.set_cons_zero, List.set_cons_succ]
    refine wpAnyH_take (i := 12) (oi := ⟨some 28, _, _, _, _, _⟩) (v := .int .u32 v) rfl (by kernel_rfl) (by kernel_rfl) (by kernel_rfl) (fun _ _ _ h => h) (Or.inl ⟨by rfl, fun W hSw => by (try dsimp only at hSw); go_simp⟩) k0 ?_
    try simp only [Act.put, List.setIfInBounds_toArray, List.set_cons_zero, List.set_cons_succ]
    refine wpAnyH_ready (rs := [13]) (by kernel_rfl) (by simp) ?_
    refine AllReadyH.cons (o := ⟨some 29, _, _, _, _, _⟩) rfl (fun K hK => ?_) AllReadyH.nil
    go_simp
    go_at_call 141
    refine (HW.out _).mono ?_
    rintro e x2 ⟨rfl, rfl⟩
    go_wp2_with fail
    refine hK.out _ _ k0 (fun k1 => ?_)
    clear hK K
    try simp only [List.setIfInBounds_toArray, List.set_cons_zero, List.set_cons_succ]
    refine wpAnyH_take (i := 14) (oi := ⟨some 15, _, _, _, _, _⟩) (v := .tuple #[.int .u32 dr, .int .u32 dq, .bool dk]) rfl (by kernel_rfl) (by kernel_rfl) (by kernel_rfl) (fun _ _ _ h => h) (Or.inl ⟨by rfl, fun W hSw => by (try dsimp only at hSw); go_simp⟩) k1 ?_
    try simp only [Act.put, List.setIfInBounds_toArray, List.set_cons_zero, List.set_cons_succ]
    refine wpAnyH_take (i := 15) (oi := ⟨some 30, _, _, _, _, _⟩) (v := .int .u32 dr) rfl (by kernel_rfl) (by kernel_rfl) (by kernel_rfl) (fun _ _ _ h => h) (Or.inl ⟨by rfl, fun W hSw => by (try dsimp only at hSw); go_simp⟩) k1 ?_
    try simp only [Act.put, List.setIfInBounds_toArray, List.set_cons_zero, List.set_cons_succ]
    refine wpAnyH_take (i := 16) (oi := ⟨some 31, _, _, _, _, _⟩) (v := .int .u32 dq) rfl (by kernel_rfl) (by kernel_rfl) (by kernel_rfl) (fun _ _ _ h => h) (Or.inl ⟨by rfl, fun W hSw => by (try dsimp only at hSw); go_simp⟩) k1 ?_
    try simp only [Act.put, List.setIfInBounds_toArray, List.set_cons_zero, List.set_cons_succ]
    refine wpAnyH_take (i := 17) (oi := ⟨some 32, _, _, _, _, _⟩) (v := .bool dk) rfl (by kernel_rfl) (by kernel_rfl) (by kernel_rfl) (fun _ _ _ h => h) (Or.inl ⟨by rfl, fun W hSw => by (try dsimp only at hSw); go_simp⟩) k1 ?_
    try simp only [Act.put, List.setIfInBounds_toArray, List.set_cons_zero, List.set_cons_succ]
    refine wpAnyH_take (i := 18) (oi := ⟨some 5, _, _, _, _, _⟩) (v := .int .u32 dr) rfl (by kernel_rfl) (by kernel_rfl) (by kernel_rfl) (fun _ _ _ h => h) (Or.inl ⟨by rfl, fun W hSw => by (try dsimp only at hSw); go_simp⟩) k1 ?_
    try simp only [Act.put, List.setIfInBounds_toArray, List.set_cons_zero, List.set_cons_succ]
    refine wpAnyH_take (i := 19) (oi := ⟨some 6, _, _, _, _, _⟩) (v := .int .u32 dq) rfl (by kernel_rfl) (by kernel_rfl) (by kernel_rfl) (fun _ _ _ h => h) (Or.inl ⟨by rfl, fun W hSw => by (try dsimp only at hSw); go_simp⟩) k1 ?_
    try simp only [Act.put, List.setIfInBounds_toArray, List.set_cons_zero, List.set_cons_succ]
    refine wpAnyH_take (i := 20) (oi := ⟨some 7, _, _, _, _, _⟩) (v := .bool dk) rfl (by kernel_rfl) (by kernel_rfl) (by kernel_rfl) (fun _ _ _ h => h) (Or.inl ⟨by rfl, fun W hSw => by (try dsimp only at hSw); go_simp⟩) k1 ?_
    try simp only [Act.put, List.setIfInBounds_toArray, List.set_cons_zero, List.set_cons_succ]
    refine wpAnyH_done (by kernel_rfl) ?_ _
    refine id ?_
    have HB2 := Lib.hid k1.1
    clear k0 k1 H14 H15
    clear hr1 hr0 HW HE
    cases dk with
    | false =>
      go_wp2_with fail
      refine (HN9.out _).mono ?_
      rintro e w3 ⟨rfl, rfl⟩
      unfold Stop
      go_wp2
      have e9 : CC = 9 := by rw [← HCC.out, if_pos H0.out]; rfl
      exact ⟨rfl, .inl ⟨by rw [e9]; decide, by rw [e9]; rfl, Kp.bel HB2.out⟩⟩
    | true =>
      go_wp2_with fail
      refine (HY.out _).mono ?_
      rintro e w3 ⟨rfl, rfl⟩
      go_wp2_with fail
      refine (HS.out _ HB2.out).mono ?_
      rintro e w4 ⟨rfl, h2, k2⟩
      have H2 := Lib.hid h2
      have K2 := Lib.hid ((Kp.bel HB2.out).trans k2)
      clear h2 k2 HS HB2
      go_wp2
      go_end0
      exact .inr ⟨by rw [← HCC.out, if_pos H0.out]; rfl, rfl, H2.out, K2.out⟩
  · rw [if_neg hev] at HP ⊢
    clear hx hs hR hq hev
    go_enter Tryz.func58, Tryz.ntmps58
    go_wp2_with fail
    refine HP.out.mono ?_
    rintro e w1 ⟨hb, ⟨h6, -⟩ | ⟨-, rfl⟩⟩
    · exact absurd h6 (by decide)
    · have HB := Lib.hid hb
      clear hb HP
      unfold Stop
      go_wp2
      exact ⟨rfl, .inl ⟨by decide, rfl, Kp.bel HB.out⟩⟩

end M
end Go.Proofs.YtfopjnfphlkcgaaGreat

/- The program: shifts, the halfword product. -/
import Derived.Test.YtfopjnfphlkcgaaGreatRows
import Derived.Test.YtfopjnfphlkcgaaGreatGnTest
import Derived.Test.YtfopjnfphlkcgaaGreatWordC
namespace Go.Proofs.YtfopjnfphlkcgaaGreat
open Go.RowKit Go.Shelf E
set_option linter.unusedVariables false
namespace M

set_option maxRecDepth 100000 in
set_option maxHeartbeats 1000000 in
theorem shift_139 (E A : Nat) (q : Qn) (R : Nat → Int) (p : Psw) (c : Int) (w : World) (h : Ex w E A q R p c) (hR : RegOk R) (hq : QOk q) (hop : q.op = 139) : Calls Tryz.prog 59 #[.pointer (some ⟨E, 0, none⟩)] w (RegPost w E A q 0 (upd R q.r1 (W.shv 2147483648 (W.pl (adT q R : Int)) (R q.r1))) { p with cc := (W.sl32cc (W.pl (adT q R : Int)) (R q.r1)) } (if ((W.sho 2147483648 (W.pl (adT q R : Int)) (R q.r1)) && adB { p with cc := (W.sl32cc (W.pl (adT q R : Int)) (R q.r1)) } 3 8 0) = true then 8 else c)) := by
  have HA : Hid (∀ X, ES E A q R p c w X → Calls Tryz.prog 143 #[.pointer (some ⟨E, 0, none⟩)] X (New X (.int .i64 (adT q R : Int)))) := Lib.hid (fun X hX => sec_any E A q R p c X hX.2 hR hq)
  have HR1 := Lib.hid hq.r1
  have HOP := Lib.hid hop
  have hr1 : (q.r1 : Int) < 16 := by have := hq.r1; omega
  have hal := adT_lt q R
  have HE := Lib.hid (ES.of h)
  have HW := Lib.hid (fun X => W.wShiftLeft_any (R q.r1) (adT q R : Int) (hR q.r1).1 (hR q.r1).2 (by omega) (by omega) X)
  have HS := Lib.hid (fun X (hX : ES E A q R p c w X) => becomeSigned_any E A q R p c (W.shv 2147483648 (W.pl (adT q R : Int)) (R q.r1)) (W.sl32cc (W.pl (adT q R : Int)) (R q.r1)) (W.sho 2147483648 (W.pl (adT q R : Int)) (R q.r1)) X hX.2 hq.r1)
  generalize (if ((W.sho 2147483648 (W.pl (adT q R : Int)) (R q.r1)) && adB { p with cc := (W.sl32cc (W.pl (adT q R : Int)) (R q.r1)) } 3 8 0) = true then (8 : Int) else c) = c' at HS ⊢
  generalize ({ p with cc := (W.sl32cc (W.pl (adT q R : Int)) (R q.r1)) } : Psw) = p' at HS ⊢
  clear h hR hq hop hal
  go_enter Tryz.func59, Tryz.ntmps59
  go_wp2_with fail
  refine wp_region_held_drew (S := ES E A q R p c w) (by kernel_rfl) HE.out (fun k0 => ?_)
  show wpAnyH _ _ _ _ _ 14 #[false, false, false, false, false, false, false, false, false, false, false, false, false, false] _ _
  refine wpAnyH_take (i := 0) (oi := ⟨some 4, _, _, _, _, _⟩) (v := .pointer (some ⟨E, 0, none⟩)) rfl (by kernel_rfl) (by kernel_rfl) (by kernel_rfl) (fun _ _ _ h => h) (Or.inl ⟨by rfl, fun W hSw => by (try dsimp only at hSw); go_simp⟩) k0 ?_
  try simp only [Act.put, List.setIfInBounds_toArray, List.set_cons_zero, List.set_cons_succ]
  refine wpAnyH_take (i := 1) (oi := ⟨some 5, _, _, _, _, _⟩) (v := .pointer (some ⟨E, 0, none⟩)) rfl (by kernel_rfl) (by kernel_rfl) (by kernel_rfl) (fun _ _ _ h => h) (Or.inl ⟨by rfl, fun W hSw => by (try dsimp only at hSw); go_simp⟩) k0 ?_
  try simp only [Act.put, List.setIfInBounds_toArray, List.set_cons_zero, List.set_cons_succ]
  refine wpAnyH_take (i := 2) (oi := ⟨some 6, _, _, _, _, _⟩) (v := .pointer (some ⟨E, 0, none⟩)) rfl (by kernel_rfl) (by kernel_rfl) (by kernel_rfl) (fun _ _ _ h => h) (Or.inl ⟨by rfl, fun W hSw => by (try dsimp only at hSw); go_simp⟩) k0 ?_
  try simp only [Act.put, List.setIfInBounds_toArray, List.set_cons_zero, List.set_cons_succ]
  refine wpAnyH_take (i := 3) (oi := ⟨some 7, _, _, _, _, _⟩) (v := .pointer (some ⟨E, 0, none⟩)) rfl (by kernel_rfl) (by kernel_rfl) (by kernel_rfl) (fun _ _ _ h => h) (Or.inl ⟨by rfl, fun W hSw => by (try dsimp only at hSw); go_simp⟩) k0 ?_
  try simp only [Act.put, List.setIfInBounds_toArray, List.set_cons_zero, List.set_cons_succ]
  refine wpAnyH_take (i := 4) (oi := ⟨some 8, _, _, _, _, _⟩) (v := .pointer (some ⟨E, 2, none⟩)) rfl (by kernel_rfl) (by kernel_rfl) (by kernel_rfl) (fun _ _ _ h => h) (Or.inl ⟨by rfl, fun W hSw => by (try dsimp only at hSw); go_simp⟩) k0 ?_
  try simp only [Act.put, List.setIfInBounds_toArray, List.set_cons_zero, List.set_cons_succ]
  refine wpAnyH_take (i := 5) (oi := ⟨some 9, _, _, _, _, _⟩) (v := .int .i64 (q.r1 : Int)) rfl (by kernel_rfl) (by kernel_rfl) (by kernel_rfl) (fun _ _ _ h => h) (Or.inl ⟨by rfl, fun W hSw => by have cq := hSw.2.r1; clear hSw; go_simp⟩) k0 ?_
  try simp only [Act.put, List.setIfInBounds_toArray, List.set_cons_zero, List.set_cons_succ]
  refine wpAnyH_take (i := 6) (oi := ⟨some 10, _, _, _, _, _⟩) (v := .pointer (some ⟨E, 0, none⟩)) rfl (by kernel_rfl) (by kernel_rfl) (by kernel_rfl) (fun _ _ _ h => h) (Or.inl ⟨by rfl, fun W hSw => by (try dsimp only at hSw); go_simp⟩) k0 ?_
  try simp only [Act.put, List.setIfInBounds_toArray, List.set_cons_zero, List.set_cons_succ]
  refine wpAnyH_take (i := 7) (oi := ⟨some 11, _, _, _, _, _⟩) (v := .pointer (some ⟨E, 12, none⟩)) rfl (by kernel_rfl) (by kernel_rfl) (by kernel_rfl) (fun _ _ _ h => h) (Or.inl ⟨by rfl, fun W hSw => by (try dsimp only at hSw); go_simp⟩) k0 ?_
  try simp only [Act.put, List.setIfInBounds_toArray, List.set_cons_zero, List.set_cons_succ]
  refine wpAnyH_take (i := 8) (oi := ⟨some 12, _, _, _, _, _⟩) (v := .pointer (some ⟨E, 12 + q.r1, none⟩)) rfl (by kernel_rfl) (by kernel_rfl) (by kernel_rfl) (fun _ _ _ h => h) (Or.inl ⟨by rfl, fun W hSw => by clear hSw; go_simp⟩) k0 ?_
  try simp only [Act.put, List.setIfInBounds_toArray, List.set_cons_zero, List.set_cons_succ]
  refine wpAnyH_take (i := 9) (oi := ⟨some 13, _, _, _, _, _⟩) (v := .int .u32 (R q.r1)) rfl (by kernel_rfl) (by kernel_rfl) (by kernel_rfl) (fun _ _ _ h => h) (Or.inl ⟨by rfl, fun W hSw => by have cq := hSw.2.reg HR1.out; clear hSw; go_simp⟩) k0 ?_
  try simp only [Act.put, List.setIfInBounds_toArray, List.set_cons_zero, List.set_cons_succ]
  refine wpAnyH_take (i := 10) (oi := ⟨some 14, _, _, _, _, _⟩) (v := .pointer (some ⟨E, 0, none⟩)) rfl (by kernel_rfl) (by kernel_rfl) (by kernel_rfl) (fun _ _ _ h => h) (Or.inl ⟨by rfl, fun W hSw => by (try dsimp only at hSw); go_simp⟩) k0 ?_
  try simp only [Act.put, List.setIfInBounds_toArray, List.set_cons_zero, List.set_cons_succ]
  refine wpAnyH_ready (rs := [11]) (by kernel_rfl) (by simp) ?_
  refine AllReadyH.cons (o := ⟨some 15, _, _, _, _, _⟩) rfl (fun K hK => ?_) AllReadyH.nil
  go_simp
  go_at_call 143
  refine (HA.out _ k0).mono ?_
  rintro e x2 ⟨rfl, hb⟩
  have k2 := k0.next hb
  clear hb
  go_wp2_with fail
  refine hK.out _ _ k2 (fun k1 => ?_)
  clear k2
  clear hK K
  try simp only [List.setIfInBounds_toArray, List.set_cons_zero, List.set_cons_succ]
  refine wpAnyH_take (i := 12) (oi := ⟨some 2, _, _, _, _, _⟩) (v := .int .u32 (R q.r1)) rfl (by kernel_rfl) (by kernel_rfl) (by kernel_rfl) (fun _ _ _ h => h) (Or.inl ⟨by rfl, fun W hSw => by (try dsimp only at hSw); go_simp⟩) k1 ?_
  try simp only [Act.put, List.setIfInBounds_toArray, List.set_cons_zero, List.set_cons_succ]
  refine wpAnyH_take (i := 13) (oi := ⟨some 3, _, _, _, _, _⟩) (v := .int .i64 (adT q R : Int)) rfl (by kernel_rfl) (by kernel_rfl) (by kernel_rfl) (fun _ _ _ h => h) (Or.inl ⟨by rfl, fun W hSw => by (try dsimp only at hSw); go_simp⟩) k1 ?_
  try simp only [Act.put, List.setIfInBounds_toArray, List.set_cons_zero, List.set_cons_succ]
  refine wpAnyH_done (by kernel_rfl) ?_ _
  refine id ?_
  have HK := Lib.hid k1
  clear k0 k1 HE hr1 HA
  have c0 := HK.out.2.op
  rw [HOP.out] at c0
  go_wp2_with fail
  refine (HW.out _).mono ?_
  rintro e w2 ⟨rfl, rfl⟩
  clear HW
  go_wp2_with fail
  refine (HS.out _ HK.out).mono ?_
  rintro e w3 ⟨rfl, h2, k2⟩
  have H2 := Lib.hid h2
  have K2 := Lib.hid ((Kp.bel HK.out.1).trans k2)
  clear h2 k2 HS HK c0
  go_wp2
  go_end0
  exact .inr ⟨rfl, rfl, H2.out, K2.out⟩
set_option maxRecDepth 100000 in
set_option maxHeartbeats 1000000 in
theorem shift_138 (E A : Nat) (q : Qn) (R : Nat → Int) (p : Psw) (c : Int) (w : World) (h : Ex w E A q R p c) (hR : RegOk R) (hq : QOk q) (hop : q.op = 138) : Calls Tryz.prog 59 #[.pointer (some ⟨E, 0, none⟩)] w (RegPost w E A q 0 (upd R q.r1 (W.shr 2147483648 (W.pl (adT q R : Int)) (R q.r1))) { p with cc := (W.ord (W.sg (W.shr 2147483648 (W.pl (adT q R : Int)) (R q.r1))) 0) } c) := by
  have HA : Hid (∀ X, ES E A q R p c w X → Calls Tryz.prog 143 #[.pointer (some ⟨E, 0, none⟩)] X (New X (.int .i64 (adT q R : Int)))) := Lib.hid (fun X hX => sec_any E A q R p c X hX.2 hR hq)
  have HR1 := Lib.hid hq.r1
  have HOP := Lib.hid hop
  have hr1 : (q.r1 : Int) < 16 := by have := hq.r1; omega
  have hal := adT_lt q R
  have HE := Lib.hid (ES.of h)
  have HW := Lib.hid (fun X => W.wShiftRight_any (R q.r1) (adT q R : Int) (hR q.r1).1 (hR q.r1).2 (by omega) (by omega) X)
  have HS := Lib.hid (fun X (hX : ES E A q R p c w X) => become_any E A q R p c (W.shr 2147483648 (W.pl (adT q R : Int)) (R q.r1)) (W.ord (W.sg (W.shr 2147483648 (W.pl (adT q R : Int)) (R q.r1))) 0) X hX.2 hq.r1)
  clear h hR hq hop hal
  go_enter Tryz.func59, Tryz.ntmps59
  go_wp2_with fail
  refine wp_region_held_drew (S := ES E A q R p c w) (by kernel_rfl) HE.out (fun k0 => ?_)
  show wpAnyH _ _ _ _ _ 14 #[false, false, false, false, false, false, false, false, false, false, false, false, false, false] _ _
  refine wpAnyH_take (i := 0) (oi := ⟨some 4, _, _, _, _, _⟩) (v := .pointer (some ⟨E, 0, none⟩)) rfl (by kernel_rfl) (by kernel_rfl) (by kernel_rfl) (fun _ _ _ h => h) (Or.inl ⟨by rfl, fun W hSw => by (try dsimp only at hSw); go_simp⟩) k0 ?_
  try simp only [Act.put, List.setIfInBounds_toArray, List.set_cons_zero, List.set_cons_succ]
  refine wpAnyH_take (i := 1) (oi := ⟨some 5, _, _, _, _, _⟩) (v := .pointer (some ⟨E, 0, none⟩)) rfl (by kernel_rfl) (by kernel_rfl) (by kernel_rfl) (fun _ _ _ h => h) (Or.inl ⟨by rfl, fun W hSw => by (try dsimp only at hSw); go_simp⟩) k0 ?_
  try simp only [Act.put, List.setIfInBounds_toArray, List.set_cons_zero, List.set_cons_succ]
  refine wpAnyH_take (i := 2) (oi := ⟨some 6, _, _, _, _, _⟩) (v := .pointer (some ⟨E, 0, none⟩)) rfl (by kernel_rfl) (by kernel_rfl) (by kernel_rfl) (fun _ _ _ h => h) (Or.inl ⟨by rfl, fun W hSw => by (try dsimp only at hSw); go_simp⟩) k0 ?_
  try simp only [Act.put, List.setIfInBounds_toArray, List.set_cons_zero, List.set_cons_succ]
  refine wpAnyH_take (i := 3) (oi := ⟨some 7, _, _, _, _, _⟩) (v := .pointer (some ⟨E, 0, none⟩)) rfl (by kernel_rfl) (by kernel_rfl) (by kernel_rfl) (fun _ _ _ h => h) (Or.inl ⟨by rfl, fun W hSw => by (try dsimp only at hSw); go_simp⟩) k0 ?_
  try simp only [Act.put, List.setIfInBounds_toArray, List.set_cons_zero, List.set_cons_succ]
  refine wpAnyH_take (i := 4) (oi := ⟨some 8, _, _, _, _, _⟩) (v := .pointer (some ⟨E, 2, none⟩)) rfl (by kernel_rfl) (by kernel_rfl) (by kernel_rfl) (fun _ _ _ h => h) (Or.inl ⟨by rfl, fun W hSw => by (try dsimp only at hSw); go_simp⟩) k0 ?_
  try simp only [Act.put, List.setIfInBounds_toArray, List.set_cons_zero, List.set_cons_succ]
  refine wpAnyH_take (i := 5) (oi := ⟨some 9, _, _, _, _, _⟩) (v := .int .i64 (q.r1 : Int)) rfl (by kernel_rfl) (by kernel_rfl) (by kernel_rfl) (fun _ _ _ h => h) (Or.inl ⟨by rfl, fun W hSw => by have cq := hSw.2.r1; clear hSw; go_simp⟩) k0 ?_
  try simp only [Act.put, List.setIfInBounds_toArray, List.set_cons_zero, List.set_cons_succ]
  refine wpAnyH_take (i := 6) (oi := ⟨some 10, _, _, _, _, _⟩) (v := .pointer (some ⟨E, 0, none⟩)) rfl (by kernel_rfl) (by kernel_rfl) (by kernel_rfl) (fun _ _ _ h => h) (Or.inl ⟨by rfl, fun W hSw => by (try dsimp only at hSw); go_simp⟩) k0 ?_
  try simp only [Act.put, List.setIfInBounds_toArray, List.set_cons_zero, List.set_cons_succ]
  refine wpAnyH_take (i := 7) (oi := ⟨some 11, _, _, _, _, _⟩) (v := .pointer (some ⟨E, 12, none⟩)) rfl (by kernel_rfl) (by kernel_rfl) (by kernel_rfl) (fun _ _ _ h => h) (Or.inl ⟨by rfl, fun W hSw => by (try dsimp only at hSw); go_simp⟩) k0 ?_
  try simp only [Act.put, List.setIfInBounds_toArray, List.set_cons_zero, List.set_cons_succ]
  refine wpAnyH_take (i := 8) (oi := ⟨some 12, _, _, _, _, _⟩) (v := .pointer (some ⟨E, 12 + q.r1, none⟩)) rfl (by kernel_rfl) (by kernel_rfl) (by kernel_rfl) (fun _ _ _ h => h) (Or.inl ⟨by rfl, fun W hSw => by clear hSw; go_simp⟩) k0 ?_
  try simp only [Act.put, List.setIfInBounds_toArray, List.set_cons_zero, List.set_cons_succ]
  refine wpAnyH_take (i := 9) (oi := ⟨some 13, _, _, _, _, _⟩) (v := .int .u32 (R q.r1)) rfl (by kernel_rfl) (by kernel_rfl) (by kernel_rfl) (fun _ _ _ h => h) (Or.inl ⟨by rfl, fun W hSw => by have cq := hSw.2.reg HR1.out; clear hSw; go_simp⟩) k0 ?_
  try simp only [Act.put, List.setIfInBounds_toArray, List.set_cons_zero, List.set_cons_succ]
  refine wpAnyH_take (i := 10) (oi := ⟨some 14, _, _, _, _, _⟩) (v := .pointer (some ⟨E, 0, none⟩)) rfl (by kernel_rfl) (by kernel_rfl) (by kernel_rfl) (fun _ _ _ h => h) (Or.inl ⟨by rfl, fun W hSw => by (try dsimp only at hSw); go_simp⟩) k0 ?_
  try simp only [Act.put, List.setIfInBounds_toArray, List.set_cons_zero, List.set_cons_succ]
  refine wpAnyH_ready (rs := [11]) (by kernel_rfl) (by simp) ?_
  refine AllReadyH.cons (o := ⟨some 15, _, _, _, _, _⟩) rfl (fun K hK => ?_) AllReadyH.nil
  go_simp
  go_at_call 143
  refine (HA.out _ k0).mono ?_
  rintro e x2 ⟨rfl, hb⟩
  have k2 := k0.next hb
  clear hb
  go_wp2_with fail
  refine hK.out _ _ k2 (fun k1 => ?_)
  clear k2
  clear hK K
  try simp only [List.setIfInBounds_toArray, List.set_cons_zero, List.set_cons_succ]
  refine wpAnyH_take (i := 12) (oi := ⟨some 2, _, _, _, _, _⟩) (v := .int .u32 (R q.r1)) rfl (by kernel_rfl) (by kernel_rfl) (by kernel_rfl) (fun _ _ _ h => h) (Or.inl ⟨by rfl, fun W hSw => by (try dsimp only at hSw); go_simp⟩) k1 ?_
  try simp only [Act.put, List.setIfInBounds_toArray, List.set_cons_zero, List.set_cons_succ]
  refine wpAnyH_take (i := 13) (oi := ⟨some 3, _, _, _, _, _⟩) (v := .int .i64 (adT q R : Int)) rfl (by kernel_rfl) (by kernel_rfl) (by kernel_rfl) (fun _ _ _ h => h) (Or.inl ⟨by rfl, fun W hSw => by (try dsimp only at hSw); go_simp⟩) k1 ?_
  try simp only [Act.put, List.setIfInBounds_toArray, List.set_cons_zero, List.set_cons_succ]
  refine wpAnyH_done (by kernel_rfl) ?_ _
  refine id ?_
  have HK := Lib.hid k1
  clear k0 k1 HE hr1 HA
  have c0 := HK.out.2.op
  rw [HOP.out] at c0
  go_wp2_with fail
  refine (HW.out _).mono ?_
  rintro e w2 ⟨rfl, rfl⟩
  clear HW
  go_wp2_with fail
  refine (HS.out _ HK.out).mono ?_
  rintro e w3 ⟨rfl, h2, k2⟩
  have H2 := Lib.hid h2
  have K2 := Lib.hid ((Kp.bel HK.out.1).trans k2)
  clear h2 k2 HS HK c0
  go_wp2
  go_end0
  exact .inr ⟨rfl, rfl, H2.out, K2.out⟩
set_option maxRecDepth 100000 in
set_option maxHeartbeats 1000000 in
theorem shift_136 (E A : Nat) (q : Qn) (R : Nat → Int) (p : Psw) (c : Int) (w : World) (h : Ex w E A q R p c) (hR : RegOk R) (hq : QOk q) (hop : q.op = 136) : Calls Tryz.prog 59 #[.pointer (some ⟨E, 0, none⟩)] w (RegPost w E A q 0 (upd R q.r1 (W.slg 4294967296 false (W.pl (adT q R : Int)) (R q.r1))) p c) := by
  have HA : Hid (∀ X, ES E A q R p c w X → Calls Tryz.prog 143 #[.pointer (some ⟨E, 0, none⟩)] X (New X (.int .i64 (adT q R : Int)))) := Lib.hid (fun X hX => sec_any E A q R p c X hX.2 hR hq)
  have HR1 := Lib.hid hq.r1
  have HOP := Lib.hid hop
  have hr1 : (q.r1 : Int) < 16 := by have := hq.r1; omega
  have hal := adT_lt q R
  have HE := Lib.hid (ES.of h)
  have HW := Lib.hid (fun X => W.wShiftLogical_any (R q.r1) (adT q R : Int) false (hR q.r1).1 (hR q.r1).2 (by omega) (by omega) X)
  have HS := Lib.hid (fun X (hX : ES E A q R p c w X) => set_any E A q R p c (W.slg 4294967296 false (W.pl (adT q R : Int)) (R q.r1)) X hX.2 hq.r1)
  clear h hR hq hop hal
  go_enter Tryz.func59, Tryz.ntmps59
  go_wp2_with fail
  refine wp_region_held_drew (S := ES E A q R p c w) (by kernel_rfl) HE.out (fun k0 => ?_)
  show wpAnyH _ _ _ _ _ 14 #[false, false, false, false, false, false, false, false, false, false, false, false, false, false] _ _
  refine wpAnyH_take (i := 0) (oi := ⟨some 4, _, _, _, _, _⟩) (v := .pointer (some ⟨E, 0, none⟩)) rfl (by kernel_rfl) (by kernel_rfl) (by kernel_rfl) (fun _ _ _ h => h) (Or.inl ⟨by rfl, fun W hSw => by (try dsimp only at hSw); go_simp⟩) k0 ?_
  try simp only [Act.put, List.setIfInBounds_toArray, List.set_cons_zero, List.set_cons_succ]
  refine wpAnyH_take (i := 1) (oi := ⟨some 5, _, _, _, _, _⟩) (v := .pointer (some ⟨E, 0, none⟩)) rfl (by kernel_rfl) (by kernel_rfl) (by kernel_rfl) (fun _ _ _ h => h) (Or.inl ⟨by rfl, fun W hSw => by (try dsimp only at hSw); go_simp⟩) k0 ?_
  try simp only [Act.put, List.setIfInBounds_toArray, List.set_cons_zero, List.set_cons_succ]
  refine wpAnyH_take (i := 2) (oi := ⟨some 6, _, _, _, _, _⟩) (v := .pointer (some ⟨E, 0, none⟩)) rfl (by kernel_rfl) (by kernel_rfl) (by kernel_rfl) (fun _ _ _ h => h) (Or.inl ⟨by rfl, fun W hSw => by (try dsimp only at hSw); go_simp⟩) k0 ?_
  try simp only [Act.put, List.setIfInBounds_toArray, List.set_cons_zero, List.set_cons_succ]
  refine wpAnyH_take (i := 3) (oi := ⟨some 7, _, _, _, _, _⟩) (v := .pointer (some ⟨E, 0, none⟩)) rfl (by kernel_rfl) (by kernel_rfl) (by kernel_rfl) (fun _ _ _ h => h) (Or.inl ⟨by rfl, fun W hSw => by (try dsimp only at hSw); go_simp⟩) k0 ?_
  try simp only [Act.put, List.setIfInBounds_toArray, List.set_cons_zero, List.set_cons_succ]
  refine wpAnyH_take (i := 4) (oi := ⟨some 8, _, _, _, _, _⟩) (v := .pointer (some ⟨E, 2, none⟩)) rfl (by kernel_rfl) (by kernel_rfl) (by kernel_rfl) (fun _ _ _ h => h) (Or.inl ⟨by rfl, fun W hSw => by (try dsimp only at hSw); go_simp⟩) k0 ?_
  try simp only [Act.put, List.setIfInBounds_toArray, List.set_cons_zero, List.set_cons_succ]
  refine wpAnyH_take (i := 5) (oi := ⟨some 9, _, _, _, _, _⟩) (v := .int .i64 (q.r1 : Int)) rfl (by kernel_rfl) (by kernel_rfl) (by kernel_rfl) (fun _ _ _ h => h) (Or.inl ⟨by rfl, fun W hSw => by have cq := hSw.2.r1; clear hSw; go_simp⟩) k0 ?_
  try simp only [Act.put, List.setIfInBounds_toArray, List.set_cons_zero, List.set_cons_succ]
  refine wpAnyH_take (i := 6) (oi := ⟨some 10, _, _, _, _, _⟩) (v := .pointer (some ⟨E, 0, none⟩)) rfl (by kernel_rfl) (by kernel_rfl) (by kernel_rfl) (fun _ _ _ h => h) (Or.inl ⟨by rfl, fun W hSw => by (try dsimp only at hSw); go_simp⟩) k0 ?_
  try simp only [Act.put, List.setIfInBounds_toArray, List.set_cons_zero, List.set_cons_succ]
  refine wpAnyH_take (i := 7) (oi := ⟨some 11, _, _, _, _, _⟩) (v := .pointer (some ⟨E, 12, none⟩)) rfl (by kernel_rfl) (by kernel_rfl) (by kernel_rfl) (fun _ _ _ h => h) (Or.inl ⟨by rfl, fun W hSw => by (try dsimp only at hSw); go_simp⟩) k0 ?_
  try simp only [Act.put, List.setIfInBounds_toArray, List.set_cons_zero, List.set_cons_succ]
  refine wpAnyH_take (i := 8) (oi := ⟨some 12, _, _, _, _, _⟩) (v := .pointer (some ⟨E, 12 + q.r1, none⟩)) rfl (by kernel_rfl) (by kernel_rfl) (by kernel_rfl) (fun _ _ _ h => h) (Or.inl ⟨by rfl, fun W hSw => by clear hSw; go_simp⟩) k0 ?_
  try simp only [Act.put, List.setIfInBounds_toArray, List.set_cons_zero, List.set_cons_succ]
  refine wpAnyH_take (i := 9) (oi := ⟨some 13, _, _, _, _, _⟩) (v := .int .u32 (R q.r1)) rfl (by kernel_rfl) (by kernel_rfl) (by kernel_rfl) (fun _ _ _ h => h) (Or.inl ⟨by rfl, fun W hSw => by have cq := hSw.2.reg HR1.out; clear hSw; go_simp⟩) k0 ?_
  try simp only [Act.put, List.setIfInBounds_toArray, List.set_cons_zero, List.set_cons_succ]
  refine wpAnyH_take (i := 10) (oi := ⟨some 14, _, _, _, _, _⟩) (v := .pointer (some ⟨E, 0, none⟩)) rfl (by kernel_rfl) (by kernel_rfl) (by kernel_rfl) (fun _ _ _ h => h) (Or.inl ⟨by rfl, fun W hSw => by (try dsimp only at hSw); go_simp⟩) k0 ?_
  try simp only [Act.put, List.setIfInBounds_toArray, List.set_cons_zero, List.set_cons_succ]
  refine wpAnyH_ready (rs := [11]) (by kernel_rfl) (by simp) ?_
  refine AllReadyH.cons (o := ⟨some 15, _, _, _, _, _⟩) rfl (fun K hK => ?_) AllReadyH.nil
  go_simp
  go_at_call 143
  refine (HA.out _ k0).mono ?_
  rintro e x2 ⟨rfl, hb⟩
  have k2 := k0.next hb
  clear hb
  go_wp2_with fail
  refine hK.out _ _ k2 (fun k1 => ?_)
  clear k2
  clear hK K
  try simp only [List.setIfInBounds_toArray, List.set_cons_zero, List.set_cons_succ]
  refine wpAnyH_take (i := 12) (oi := ⟨some 2, _, _, _, _, _⟩) (v := .int .u32 (R q.r1)) rfl (by kernel_rfl) (by kernel_rfl) (by kernel_rfl) (fun _ _ _ h => h) (Or.inl ⟨by rfl, fun W hSw => by (try dsimp only at hSw); go_simp⟩) k1 ?_
  try simp only [Act.put, List.setIfInBounds_toArray, List.set_cons_zero, List.set_cons_succ]
  refine wpAnyH_take (i := 13) (oi := ⟨some 3, _, _, _, _, _⟩) (v := .int .i64 (adT q R : Int)) rfl (by kernel_rfl) (by kernel_rfl) (by kernel_rfl) (fun _ _ _ h => h) (Or.inl ⟨by rfl, fun W hSw => by (try dsimp only at hSw); go_simp⟩) k1 ?_
  try simp only [Act.put, List.setIfInBounds_toArray, List.set_cons_zero, List.set_cons_succ]
  refine wpAnyH_done (by kernel_rfl) ?_ _
  refine id ?_
  have HK := Lib.hid k1
  clear k0 k1 HE hr1 HA
  have c0 := HK.out.2.op
  rw [HOP.out] at c0
  go_wp2_with fail
  refine (HW.out _).mono ?_
  rintro e w2 ⟨rfl, rfl⟩
  clear HW
  go_wp2_with fail
  refine (HS.out _ HK.out).mono ?_
  rintro e w3 ⟨rfl, h2, k2⟩
  have H2 := Lib.hid h2
  have K2 := Lib.hid ((Kp.bel HK.out.1).trans k2)
  clear h2 k2 HS HK c0
  go_wp2
  go_end0
  exact .inr ⟨rfl, rfl, H2.out, K2.out⟩
set_option maxRecDepth 100000 in
set_option maxHeartbeats 1000000 in
theorem shift_137 (E A : Nat) (q : Qn) (R : Nat → Int) (p : Psw) (c : Int) (w : World) (h : Ex w E A q R p c) (hR : RegOk R) (hq : QOk q) (hop : q.op = 137) : Calls Tryz.prog 59 #[.pointer (some ⟨E, 0, none⟩)] w (RegPost w E A q 0 (upd R q.r1 (W.slg 4294967296 true (W.pl (adT q R : Int)) (R q.r1))) p c) := by
  have HA : Hid (∀ X, ES E A q R p c w X → Calls Tryz.prog 143 #[.pointer (some ⟨E, 0, none⟩)] X (New X (.int .i64 (adT q R : Int)))) := Lib.hid (fun X hX => sec_any E A q R p c X hX.2 hR hq)
  have HR1 := Lib.hid hq.r1
  have HOP := Lib.hid hop
  have hr1 : (q.r1 : Int) < 16 := by have := hq.r1; omega
  have hal := adT_lt q R
  have HE := Lib.hid (ES.of h)
  have HW := Lib.hid (fun X => W.wShiftLogical_any (R q.r1) (adT q R : Int) true (hR q.r1).1 (hR q.r1).2 (by omega) (by omega) X)
  have HS := Lib.hid (fun X (hX : ES E A q R p c w X) => set_any E A q R p c (W.slg 4294967296 true (W.pl (adT q R : Int)) (R q.r1)) X hX.2 hq.r1)
  clear h hR hq hop hal
  go_enter Tryz.func59, Tryz.ntmps59
  go_wp2_with fail
  refine wp_region_held_drew (S := ES E A q R p c w) (by kernel_rfl) HE.out (fun k0 => ?_)
  show wpAnyH _ _ _ _ _ 14 #[false, false, false, false, false, false, false, false, false, false, false, false, false, false] _ _
  refine wpAnyH_take (i := 0) (oi := ⟨some 4, _, _, _, _, _⟩) (v := .pointer (some ⟨E, 0, none⟩)) rfl (by kernel_rfl) (by kernel_rfl) (by kernel_rfl) (fun _ _ _ h => h) (Or.inl ⟨by rfl, fun W hSw => by (try dsimp only at hSw); go_simp⟩) k0 ?_
  try simp only [Act.put, List.setIfInBounds_toArray, List.set_cons_zero, List.set_cons_succ]
  refine wpAnyH_take (i := 1) (oi := ⟨some 5, _, _, _, _, _⟩) (v := .pointer (some ⟨E, 0, none⟩)) rfl (by kernel_rfl) (by kernel_rfl) (by kernel_rfl) (fun _ _ _ h => h) (Or.inl ⟨by rfl, fun W hSw => by (try dsimp only at hSw); go_simp⟩) k0 ?_
  try simp only [Act.put, List.setIfInBounds_toArray, List.set_cons_zero, List.set_cons_succ]
  refine wpAnyH_take (i := 2) (oi := ⟨some 6, _, _, _, _, _⟩) (v := .pointer (some ⟨E, 0, none⟩)) rfl (by kernel_rfl) (by kernel_rfl) (by kernel_rfl) (fun _ _ _ h => h) (Or.inl ⟨by rfl, fun W hSw => by (try dsimp only at hSw); go_simp⟩) k0 ?_
  try simp only [Act.put, List.setIfInBounds_toArray, List.set_cons_zero, List.set_cons_succ]
  refine wpAnyH_take (i := 3) (oi := ⟨some 7, _, _, _, _, _⟩) (v := .pointer (some ⟨E, 0, none⟩)) rfl (by kernel_rfl) (by kernel_rfl) (by kernel_rfl) (fun _ _ _ h => h) (Or.inl ⟨by rfl, fun W hSw => by (try dsimp only at hSw); go_simp⟩) k0 ?_
  try simp only [Act.put, List.setIfInBounds_toArray, List.set_cons_zero, List.set_cons_succ]
  refine wpAnyH_take (i := 4) (oi := ⟨some 8, _, _, _, _, _⟩) (v := .pointer (some ⟨E, 2, none⟩)) rfl (by kernel_rfl) (by kernel_rfl) (by kernel_rfl) (fun _ _ _ h => h) (Or.inl ⟨by rfl, fun W hSw => by (try dsimp only at hSw); go_simp⟩) k0 ?_
  try simp only [Act.put, List.setIfInBounds_toArray, List.set_cons_zero, List.set_cons_succ]
  refine wpAnyH_take (i := 5) (oi := ⟨some 9, _, _, _, _, _⟩) (v := .int .i64 (q.r1 : Int)) rfl (by kernel_rfl) (by kernel_rfl) (by kernel_rfl) (fun _ _ _ h => h) (Or.inl ⟨by rfl, fun W hSw => by have cq := hSw.2.r1; clear hSw; go_simp⟩) k0 ?_
  try simp only [Act.put, List.setIfInBounds_toArray, List.set_cons_zero, List.set_cons_succ]
  refine wpAnyH_take (i := 6) (oi := ⟨some 10, _, _, _, _, _⟩) (v := .pointer (some ⟨E, 0, none⟩)) rfl (by kernel_rfl) (by kernel_rfl) (by kernel_rfl) (fun _ _ _ h => h) (Or.inl ⟨by rfl, fun W hSw => by (try dsimp only at hSw); go_simp⟩) k0 ?_
  try simp only [Act.put, List.setIfInBounds_toArray, List.set_cons_zero, List.set_cons_succ]
  refine wpAnyH_take (i := 7) (oi := ⟨some 11, _, _, _, _, _⟩) (v := .pointer (some ⟨E, 12, none⟩)) rfl (by kernel_rfl) (by kernel_rfl) (by kernel_rfl) (fun _ _ _ h => h) (Or.inl ⟨by rfl, fun W hSw => by (try dsimp only at hSw); go_simp⟩) k0 ?_
  try simp only [Act.put, List.setIfInBounds_toArray, List.set_cons_zero, List.set_cons_succ]
  refine wpAnyH_take (i := 8) (oi := ⟨some 12, _, _, _, _, _⟩) (v := .pointer (some ⟨E, 12 + q.r1, none⟩)) rfl (by kernel_rfl) (by kernel_rfl) (by kernel_rfl) (fun _ _ _ h => h) (Or.inl ⟨by rfl, fun W hSw => by clear hSw; go_simp⟩) k0 ?_
  try simp only [Act.put, List.setIfInBounds_toArray, List.set_cons_zero, List.set_cons_succ]
  refine wpAnyH_take (i := 9) (oi := ⟨some 13, _, _, _, _, _⟩) (v := .int .u32 (R q.r1)) rfl (by kernel_rfl) (by kernel_rfl) (by kernel_rfl) (fun _ _ _ h => h) (Or.inl ⟨by rfl, fun W hSw => by have cq := hSw.2.reg HR1.out; clear hSw; go_simp⟩) k0 ?_
  try simp only [Act.put, List.setIfInBounds_toArray, List.set_cons_zero, List.set_cons_succ]
  refine wpAnyH_take (i := 10) (oi := ⟨some 14, _, _, _, _, _⟩) (v := .pointer (some ⟨E, 0, none⟩)) rfl (by kernel_rfl) (by kernel_rfl) (by kernel_rfl) (fun _ _ _ h => h) (Or.inl ⟨by rfl, fun W hSw => by (try dsimp only at hSw); go_simp⟩) k0 ?_
  try simp only [Act.put, List.setIfInBounds_toArray, List.set_cons_zero, List.set_cons_succ]
  refine wpAnyH_ready (rs := [11]) (by kernel_rfl) (by simp) ?_
  refine AllReadyH.cons (o := ⟨some 15, _, _, _, _, _⟩) rfl (fun K hK => ?_) AllReadyH.nil
  go_simp
  go_at_call 143
  refine (HA.out _ k0).mono ?_
  rintro e x2 ⟨rfl, hb⟩
  have k2 := k0.next hb
  clear hb
  go_wp2_with fail
  refine hK.out _ _ k2 (fun k1 => ?_)
  clear k2
  clear hK K
  try simp only [List.setIfInBounds_toArray, List.set_cons_zero, List.set_cons_succ]
  refine wpAnyH_take (i := 12) (oi := ⟨some 2, _, _, _, _, _⟩) (v := .int .u32 (R q.r1)) rfl (by kernel_rfl) (by kernel_rfl) (by kernel_rfl) (fun _ _ _ h => h) (Or.inl ⟨by rfl, fun W hSw => by (try dsimp only at hSw); go_simp⟩) k1 ?_
  try simp only [Act.put, List.setIfInBounds_toArray, List.set_cons_zero, List.set_cons_succ]
  refine wpAnyH_take (i := 13) (oi := ⟨some 3, _, _, _, _, _⟩) (v := .int .i64 (adT q R : Int)) rfl (by kernel_rfl) (by kernel_rfl) (by kernel_rfl) (fun _ _ _ h => h) (Or.inl ⟨by rfl, fun W hSw => by (try dsimp only at hSw); go_simp⟩) k1 ?_
  try simp only [Act.put, List.setIfInBounds_toArray, List.set_cons_zero, List.set_cons_succ]
  refine wpAnyH_done (by kernel_rfl) ?_ _
  refine id ?_
  have HK := Lib.hid k1
  clear k0 k1 HE hr1 HA
  have c0 := HK.out.2.op
  rw [HOP.out] at c0
  go_wp2_with fail
  refine (HW.out _).mono ?_
  rintro e w2 ⟨rfl, rfl⟩
  clear HW
  go_wp2_with fail
  refine (HS.out _ HK.out).mono ?_
  rintro e w3 ⟨rfl, h2, k2⟩
  have H2 := Lib.hid h2
  have K2 := Lib.hid ((Kp.bel HK.out.1).trans k2)
  clear h2 k2 HS HK c0
  go_wp2
  go_end0
  exact .inr ⟨rfl, rfl, H2.out, K2.out⟩
set_option maxRecDepth 100000 in
set_option maxHeartbeats 1000000 in
theorem multiplyHalf_any (E A : Nat) (q : Qn) (R : Nat → Int) (p : Psw) (c : Int) (g h n m : Nat) (bs ks : List UInt8) (w : World) (hx : Ex w E A q R p c) (hs : Sto w A g h n m bs ks) (hR : RegOk R) (hq : QOk q)  : Calls Tryz.prog 57 #[.pointer (some ⟨E, 0, none⟩)] w (RegPost w E A q (opC q R p n ks) (upd R q.r1 (W.sg (R q.r1) * W.sg (opV q R bs) % 4294967296)) p c) := by
  have HO : Hid (∀ X, ES E A q R p c w X → Calls Tryz.prog 124 #[.pointer (some ⟨E, 0, none⟩)] X fun e X' => ES E A q R p c w X' ∧ ((opC q R p n ks = 0 ∧ e = .returned (.int .u32 (opV q R bs))) ∨ (opC q R p n ks ≠ 0 ∧ e = Stop (opC q R p n ks)))) := Lib.hid (fun X hX => by
    refine (operand_any E A q R p c g h n m bs ks X hX.2 (hs.below hX.1) hR hq).mono ?_
    rintro e X' ⟨hb, hh⟩
    exact ⟨hX.next hb, hh⟩)
  have HR1 := Lib.hid hq.r1
  have hr1 : (q.r1 : Int) < 16 := by have := hq.r1; omega
  have HW := Lib.hid (fun X => W.wMul_any (R q.r1) (opV q R bs) (hR _).1 (hR _).2 (opV_bd hR).1 (opV_bd hR).2 X)
  have HS := Lib.hid (fun (X : World) (hW : ES E A q R p c w X) => set_any E A q R p c (W.sg (R q.r1) * W.sg (opV q R bs) % 4294967296) X hW.2 hq.r1)
  have HE := Lib.hid (ES.of hx)
  generalize W.sg (R q.r1) * W.sg (opV q R bs) % 18446744073709551616 / 4294967296 = mh at HW
  generalize W.sg (R q.r1) * W.sg (opV q R bs) % 4294967296 = ml at HW HS ⊢
  generalize opC q R p n ks = C at HO ⊢
  generalize opV q R bs = v at HO HW
  clear hx hs hR hq
  go_enter Tryz.func57, Tryz.ntmps57
  go_wp2_with fail
  refine wp_region_held_drew (S := ES E A q R p c w) (by kernel_rfl) HE.out (fun k0 => ?_)
  show wpAnyH _ _ _ _ _ 18 #[false, false, false, false, false, false, false, false, false, false, false, false, false, false, false, false, false, false] _ _
  refine wpAnyH_take (i := 0) (oi := ⟨some 5, _, _, _, _, _⟩) (v := .pointer (some ⟨E, 0, none⟩)) rfl (by kernel_rfl) (by kernel_rfl) (by kernel_rfl) (fun _ _ _ h => h) (Or.inl ⟨by rfl, fun W hSw => by (try dsimp only at hSw); go_simp⟩) k0 ?_
  try simp only [Act.put, List.setIfInBounds_toArray, List.set_cons_zero, List.set_cons_succ]
  refine wpAnyH_take (i := 1) (oi := ⟨some 6, _, _, _, _, _⟩) (v := .pointer (some ⟨E, 0, none⟩)) rfl (by kernel_rfl) (by kernel_rfl) (by kernel_rfl) (fun _ _ _ h => h) (Or.inl ⟨by rfl, fun W hSw => by (try dsimp only at hSw); go_simp⟩) k0 ?_
  try simp only [Act.put, List.setIfInBounds_toArray, List.set_cons_zero, List.set_cons_succ]
  refine wpAnyH_take (i := 2) (oi := ⟨some 7, _, _, _, _, _⟩) (v := .pointer (some ⟨E, 0, none⟩)) rfl (by kernel_rfl) (by kernel_rfl) (by kernel_rfl) (fun _ _ _ h => h) (Or.inl ⟨by rfl, fun W hSw => by (try dsimp only at hSw); go_simp⟩) k0 ?_
  try simp only [Act.put, List.setIfInBounds_toArray, List.set_cons_zero, List.set_cons_succ]
  refine wpAnyH_take (i := 3) (oi := ⟨some 8, _, _, _, _, _⟩) (v := .pointer (some ⟨E, 0, none⟩)) rfl (by kernel_rfl) (by kernel_rfl) (by kernel_rfl) (fun _ _ _ h => h) (Or.inl ⟨by rfl, fun W hSw => by (try dsimp only at hSw); go_simp⟩) k0 ?_
  try simp only [Act.put, List.setIfInBounds_toArray, List.set_cons_zero, List.set_cons_succ]
  refine wpAnyH_take (i := 4) (oi := ⟨some 9, _, _, _, _, _⟩) (v := .pointer (some ⟨E, 2, none⟩)) rfl (by kernel_rfl) (by kernel_rfl) (by kernel_rfl) (fun _ _ _ h => h) (Or.inl ⟨by rfl, fun W hSw => by (try dsimp only at hSw); go_simp⟩) k0 ?_
  try simp only [Act.put, List.setIfInBounds_toArray, List.set_cons_zero, List.set_cons_succ]
  refine wpAnyH_take (i := 5) (oi := ⟨some 10, _, _, _, _, _⟩) (v := .int .i64 (q.r1 : Int)) rfl (by kernel_rfl) (by kernel_rfl) (by kernel_rfl) (fun _ _ _ h => h) (Or.inl ⟨by rfl, fun W hSw => by have cq := hSw.2.r1; clear hSw; go_simp⟩) k0 ?_
  try simp only [Act.put, List.setIfInBounds_toArray, List.set_cons_zero, List.set_cons_succ]
  refine wpAnyH_take (i := 6) (oi := ⟨some 11, _, _, _, _, _⟩) (v := .pointer (some ⟨E, 0, none⟩)) rfl (by kernel_rfl) (by kernel_rfl) (by kernel_rfl) (fun _ _ _ h => h) (Or.inl ⟨by rfl, fun W hSw => by (try dsimp only at hSw); go_simp⟩) k0 ?_
  try simp only [Act.put, List.setIfInBounds_toArray, List.set_cons_zero, List.set_cons_succ]
  refine wpAnyH_take (i := 7) (oi := ⟨some 12, _, _, _, _, _⟩) (v := .pointer (some ⟨E, 12, none⟩)) rfl (by kernel_rfl) (by kernel_rfl) (by kernel_rfl) (fun _ _ _ h => h) (Or.inl ⟨by rfl, fun W hSw => by (try dsimp only at hSw); go_simp⟩) k0 ?_
  try simp only [Act.put, List.setIfInBounds_toArray, List.set_cons_zero, List.set_cons_succ]
  refine wpAnyH_take (i := 8) (oi := ⟨some 13, _, _, _, _, _⟩) (v := .pointer (some ⟨E, 12 + q.r1, none⟩)) rfl (by kernel_rfl) (by kernel_rfl) (by kernel_rfl) (fun _ _ _ h => h) (Or.inl ⟨by rfl, fun W hSw => by clear hSw; go_simp⟩) k0 ?_
  try simp only [Act.put, List.setIfInBounds_toArray, List.set_cons_zero, List.set_cons_succ]
  refine wpAnyH_take (i := 9) (oi := ⟨some 14, _, _, _, _, _⟩) (v := .int .u32 (R q.r1)) rfl (by kernel_rfl) (by kernel_rfl) (by kernel_rfl) (fun _ _ _ h => h) (Or.inl ⟨by rfl, fun W hSw => by have cq := hSw.2.reg HR1.out; clear hSw; go_simp⟩) k0 ?_
  try simp only [Act.put, List.setIfInBounds_toArray, List.set_cons_zero, List.set_cons_succ]
  refine wpAnyH_take (i := 10) (oi := ⟨some 15, _, _, _, _, _⟩) (v := .pointer (some ⟨E, 0, none⟩)) rfl (by kernel_rfl) (by kernel_rfl) (by kernel_rfl) (fun _ _ _ h => h) (Or.inl ⟨by rfl, fun W hSw => by (try dsimp only at hSw); go_simp⟩) k0 ?_
  try simp only [Act.put, List.setIfInBounds_toArray, List.set_cons_zero, List.set_cons_succ]
  refine wpAnyH_ready (rs := [11]) (by kernel_rfl) (by simp) ?_
  refine AllReadyH.cons (o := ⟨some 16, _, _, _, _, _⟩) rfl (fun K hK => ?_) AllReadyH.nil
  go_simp
  go_at_call 124
  refine (HO.out _ k0).mono ?_
  rintro e x1 ⟨k2, ⟨h0, rfl⟩ | ⟨hn, rfl⟩⟩
  rotate_left
  · have HN := Lib.hid hn
    have HB := Lib.hid k2.1
    clear hn k2 k0
    unfold Stop
    go_wp2
    exact ⟨rfl, .inl ⟨HN.out, rfl, Kp.bel HB.out⟩⟩
  have H0 := Lib.hid h0
  clear h0 HO
  go_wp2_with fail
  refine hK.out _ _ k2 (fun k1 => ?_)
  clear k2
  clear hK K
  try simp only [List.setIfInBounds_toArray, List.set_cons_zero, List.set_cons_succ]
  refine wpAnyH_ready (rs := [12]) (by kernel_rfl) (by simp) ?_
  refine AllReadyH.cons (o := ⟨some 17, _, _, _, _, _⟩) rfl (fun K hK => ?_) AllReadyH.nil
  go_simp
  go_at_call 140
  refine (HW.out _).mono ?_
  rintro e x2 ⟨rfl, rfl⟩
  go_wp2_with fail
  refine hK.out _ _ k1 (fun k1 => ?_)
  clear hK K
  try simp only [List.setIfInBounds_toArray, List.set_cons_zero, List.set_cons_succ]
  refine wpAnyH_take (i := 13) (oi := ⟨some 4, _, _, _, _, _⟩) (v := .tuple #[.int .u32 mh, .int .u32 ml]) rfl (by kernel_rfl) (by kernel_rfl) (by kernel_rfl) (fun _ _ _ h => h) (Or.inl ⟨by rfl, fun W hSw => by (try dsimp only at hSw); go_simp⟩) k1 ?_
  try simp only [Act.put, List.setIfInBounds_toArray, List.set_cons_zero, List.set_cons_succ]
  refine wpAnyH_take (i := 14) (oi := ⟨some 18, _, _, _, _, _⟩) (v := .int .u32 mh) rfl (by kernel_rfl) (by kernel_rfl) (by kernel_rfl) (fun _ _ _ h => h) (Or.inl ⟨by rfl, fun W hSw => by (try dsimp only at hSw); go_simp⟩) k1 ?_
  try simp only [Act.put, List.setIfInBounds_toArray, List.set_cons_zero, List.set_cons_succ]
  refine wpAnyH_take (i := 15) (oi := ⟨some 19, _, _, _, _, _⟩) (v := .int .u32 ml) rfl (by kernel_rfl) (by kernel_rfl) (by kernel_rfl) (fun _ _ _ h => h) (Or.inl ⟨by rfl, fun W hSw => by (try dsimp only at hSw); go_simp⟩) k1 ?_
  try simp only [Act.put, List.setIfInBounds_toArray, List.set_cons_zero, List.set_cons_succ]
  refine wpAnyH_take (i := 16) (oi := ⟨some 2, _, _, _, _, _⟩) (v := .int .u32 mh) rfl (by kernel_rfl) (by kernel_rfl) (by kernel_rfl) (fun _ _ _ h => h) (Or.inl ⟨by rfl, fun W hSw => by (try dsimp only at hSw); go_simp⟩) k1 ?_
  try simp only [Act.put, List.setIfInBounds_toArray, List.set_cons_zero, List.set_cons_succ]
  refine wpAnyH_take (i := 17) (oi := ⟨some 3, _, _, _, _, _⟩) (v := .int .u32 ml) rfl (by kernel_rfl) (by kernel_rfl) (by kernel_rfl) (fun _ _ _ h => h) (Or.inl ⟨by rfl, fun W hSw => by (try dsimp only at hSw); go_simp⟩) k1 ?_
  try simp only [Act.put, List.setIfInBounds_toArray, List.set_cons_zero, List.set_cons_succ]
  refine wpAnyH_done (by kernel_rfl) ?_ _
  refine id ?_
  have HK := Lib.hid k1
  clear k0 k1 HE hr1 HR1 HW
  go_wp2_with fail
  refine (HS.out _ HK.out).mono ?_
  rintro e w2 ⟨rfl, h2, k2⟩
  have H2 := Lib.hid h2
  have K2 := Lib.hid ((Kp.bel HK.out.1).trans k2)
  clear h2 k2 HS HK
  go_wp2
  go_end0
  exact .inr ⟨H0.out, rfl, H2.out, K2.out⟩
set_option maxRecDepth 100000 in
set_option maxHeartbeats 1000000 in
theorem shiftPair_143 (E A : Nat) (q : Qn) (R : Nat → Int) (p : Psw) (c : Int) (w : World) (h : Ex w E A q R p c) (hR : RegOk R) (hq : QOk q) (hop : q.op = 143) : Calls Tryz.prog 60 #[.pointer (some ⟨E, 0, none⟩)] w (RegPost w E A q (if q.r1 % 2 = 0 then 0 else 6) (upd (upd R q.r1 ((W.shv 9223372036854775808 (W.pl (adT q R : Int)) ((R q.r1) * 4294967296 + R (q.r1 + 1))) / 4294967296)) (q.r1 + 1) ((W.shv 9223372036854775808 (W.pl (adT q R : Int)) ((R q.r1) * 4294967296 + R (q.r1 + 1))) % 4294967296)) { p with cc := (W.sl64cc (W.pl (adT q R : Int)) ((R q.r1) * 4294967296 + R (q.r1 + 1))) } (if ((W.sho 9223372036854775808 (W.pl (adT q R : Int)) ((R q.r1) * 4294967296 + R (q.r1 + 1))) && adB { p with cc := (W.sl64cc (W.pl (adT q R : Int)) ((R q.r1) * 4294967296 + R (q.r1 + 1))) } 3 8 0) = true then 8 else c)) := by
  have HP := Lib.hid (pair_any E A q R p c w h hq.r1)
  by_cases hev : q.r1 % 2 = 0
  · rw [if_pos hev] at HP ⊢
    have h15 : q.r1 < 15 := by have := hq.r1; omega
    have H15 := Lib.hid (show q.r1 + 1 < 16 by omega)
    have HA : Hid (∀ X, ES E A q R p c w X → Calls Tryz.prog 143 #[.pointer (some ⟨E, 0, none⟩)] X (New X (.int .i64 (adT q R : Int)))) := Lib.hid (fun X hX => sec_any E A q R p c X hX.2 hR hq)
    have HR1 := Lib.hid hq.r1
    have HOP := Lib.hid hop
    have hr1 : (q.r1 : Int) < 16 := by have := hq.r1; omega
    have hal := adT_lt q R
    have HX := Lib.hid h
    have hr2 : ((q.r1 + 1 : Nat) : Int) < 16 := by omega
    have HW := Lib.hid (fun X => W.wShiftLeftDouble_any (R q.r1) (R (q.r1 + 1)) (adT q R : Int) (hR _).1 (hR _).2 (hR _).1 (hR _).2 (by omega) (by omega) X)
    have HS := Lib.hid (fun X (hX : ES E A q R p c w X) => setPair_any E A q R p c ((W.shv 9223372036854775808 (W.pl (adT q R : Int)) ((R q.r1) * 4294967296 + R (q.r1 + 1))) / 4294967296) ((W.shv 9223372036854775808 (W.pl (adT q R : Int)) ((R q.r1) * 4294967296 + R (q.r1 + 1))) % 4294967296) X hX.2 h15)
    have HCC := Lib.hid (fun X (hX : Ex X E A q (upd (upd R q.r1 ((W.shv 9223372036854775808 (W.pl (adT q R : Int)) ((R q.r1) * 4294967296 + R (q.r1 + 1))) / 4294967296)) (q.r1 + 1) ((W.shv 9223372036854775808 (W.pl (adT q R : Int)) ((R q.r1) * 4294967296 + R (q.r1 + 1))) % 4294967296)) p c) => setCode_any E A q _ p c (W.sl64cc (W.pl (adT q R : Int)) ((R q.r1) * 4294967296 + R (q.r1 + 1))) (W.sho 9223372036854775808 (W.pl (adT q R : Int)) ((R q.r1) * 4294967296 + R (q.r1 + 1))) X hX)
    generalize (if ((W.sho 9223372036854775808 (W.pl (adT q R : Int)) ((R q.r1) * 4294967296 + R (q.r1 + 1))) && adB { p with cc := (W.sl64cc (W.pl (adT q R : Int)) ((R q.r1) * 4294967296 + R (q.r1 + 1))) } 3 8 0) = true then (8 : Int) else c) = c' at HCC ⊢
    generalize ({ p with cc := (W.sl64cc (W.pl (adT q R : Int)) ((R q.r1) * 4294967296 + R (q.r1 + 1))) } : Psw) = p' at HCC ⊢
    generalize (W.sl64cc (W.pl (adT q R : Int)) ((R q.r1) * 4294967296 + R (q.r1 + 1))) = cc at HW HCC
    generalize (W.sho 9223372036854775808 (W.pl (adT q R : Int)) ((R q.r1) * 4294967296 + R (q.r1 + 1))) = so at HW HCC
    generalize (W.shv 9223372036854775808 (W.pl (adT q R : Int)) ((R q.r1) * 4294967296 + R (q.r1 + 1))) / 4294967296 = hi at HW HS HCC ⊢
    generalize (W.shv 9223372036854775808 (W.pl (adT q R : Int)) ((R q.r1) * 4294967296 + R (q.r1 + 1))) % 4294967296 = lo at HW HS HCC ⊢
    generalize upd (upd R q.r1 hi) (q.r1 + 1) lo = R' at HS HCC ⊢
    generalize q.r1 + 1 = r' at HP HW HS H15 hr2 ⊢
    clear h hR hq hop hal hev h15
    go_enter Tryz.func60, Tryz.ntmps60
    go_wp2_with fail
    refine HP.out.mono ?_
    rintro e w1 ⟨hb, ⟨-, rfl⟩ | ⟨hn, -⟩⟩
    rotate_left
    · exact absurd rfl hn
    have HE := Lib.hid (ES.next ⟨hb, HX.out.below hb⟩ (bel_drew _))
    clear hb HP HX
    go_wp2_with fail
    refine wp_region_held_drew (S := ES E A q R p c w) (by kernel_rfl) HE.out (fun k0 => ?_)
    show wpAnyH _ _ _ _ _ 17 #[false, false, false, false, false, false, false, false, false, false, false, false, false, false, false, false, false] _ _
    refine wpAnyH_take (i := 0) (oi := ⟨some 19, _, _, _, _, _⟩) (v := .pointer (some ⟨E, 0, none⟩)) rfl (by kernel_rfl) (by kernel_rfl) (by kernel_rfl) (fun _ _ _ h => h) (Or.inl ⟨by rfl, fun W hSw => by (try dsimp only at hSw); go_simp⟩) k0 ?_
    try simp only [Act.put, List.setIfInBounds_toArray, List.set_cons_zero, List.set_cons_succ]
    refine wpAnyH_take (i := 1) (oi := ⟨some 20, _, _, _, _, _⟩) (v := .int .i64 (q.r1 : Int)) rfl (by kernel_rfl) (by kernel_rfl) (by kernel_rfl) (fun _ _ _ h => h) (Or.inl ⟨by rfl, fun W hSw => by (try dsimp only at hSw); go_simp⟩) k0 ?_
    try simp only [Act.put, List.setIfInBounds_toArray, List.set_cons_zero, List.set_cons_succ]
    refine wpAnyH_take (i := 2) (oi := ⟨some 21, _, _, _, _, _⟩) (v := .pointer (some ⟨E, 0, none⟩)) rfl (by kernel_rfl) (by kernel_rfl) (by kernel_rfl) (fun _ _ _ h => h) (Or.inl ⟨by rfl, fun W hSw => by (try dsimp only at hSw); go_simp⟩) k0 ?_
    try simp only [Act.put, List.setIfInBounds_toArray, List.set_cons_zero, List.set_cons_succ]
    refine wpAnyH_take (i := 3) (oi := ⟨some 22, _, _, _, _, _⟩) (v := .pointer (some ⟨E, 12, none⟩)) rfl (by kernel_rfl) (by kernel_rfl) (by kernel_rfl) (fun _ _ _ h => h) (Or.inl ⟨by rfl, fun W hSw => by (try dsimp only at hSw); go_simp⟩) k0 ?_
    try simp only [Act.put, List.setIfInBounds_toArray, List.set_cons_zero, List.set_cons_succ]
    refine wpAnyH_take (i := 4) (oi := ⟨some 23, _, _, _, _, _⟩) (v := .pointer (some ⟨E, 12 + q.r1, none⟩)) rfl (by kernel_rfl) (by kernel_rfl) (by kernel_rfl) (fun _ _ _ h => h) (Or.inl ⟨by rfl, fun W hSw => by clear hSw; go_simp⟩) k0 ?_
    try simp only [Act.put, List.setIfInBounds_toArray, List.set_cons_zero, List.set_cons_succ]
    refine wpAnyH_take (i := 5) (oi := ⟨some 24, _, _, _, _, _⟩) (v := .int .u32 (R q.r1)) rfl (by kernel_rfl) (by kernel_rfl) (by kernel_rfl) (fun _ _ _ h => h) (Or.inl ⟨by rfl, fun W hSw => by have cq := hSw.2.reg HR1.out; clear hSw; go_simp⟩) k0 ?_
    try simp only [Act.put, List.setIfInBounds_toArray, List.set_cons_zero, List.set_cons_succ]
    refine wpAnyH_take (i := 6) (oi := ⟨some 25, _, _, _, _, _⟩) (v := .pointer (some ⟨E, 0, none⟩)) rfl (by kernel_rfl) (by kernel_rfl) (by kernel_rfl) (fun _ _ _ h => h) (Or.inl ⟨by rfl, fun W hSw => by (try dsimp only at hSw); go_simp⟩) k0 ?_
    try simp only [Act.put, List.setIfInBounds_toArray, List.set_cons_zero, List.set_cons_succ]
    refine wpAnyH_take (i := 7) (oi := ⟨some 26, _, _, _, _, _⟩) (v := .int .i64 (r' : Int)) rfl (by kernel_rfl) (by kernel_rfl) (by kernel_rfl) (fun _ _ _ h => h) (Or.inl ⟨by rfl, fun W hSw => by (try dsimp only at hSw); go_simp⟩) k0 ?_
    try simp only [Act.put, List.setIfInBounds_toArray, List.set_cons_zero, List.set_cons_succ]
    refine wpAnyH_take (i := 8) (oi := ⟨some 27, _, _, _, _, _⟩) (v := .pointer (some ⟨E, 0, none⟩)) rfl (by kernel_rfl) (by kernel_rfl) (by kernel_rfl) (fun _ _ _ h => h) (Or.inl ⟨by rfl, fun W hSw => by (try dsimp only at hSw); go_simp⟩) k0 ?_
    try simp only [Act.put, List.setIfInBounds_toArray, List.set_cons_zero, List.set_cons_succ]
    refine wpAnyH_take (i := 9) (oi := ⟨some 28, _, _, _, _, _⟩) (v := .pointer (some ⟨E, 12, none⟩)) rfl (by kernel_rfl) (by kernel_rfl) (by kernel_rfl) (fun _ _ _ h => h) (Or.inl ⟨by rfl, fun W hSw => by (try dsimp only at hSw); go_simp⟩) k0 ?_
    try simp only [Act.put, List.setIfInBounds_toArray, List.set_cons_zero, List.set_cons_succ]
    refine wpAnyH_take (i := 10) (oi := ⟨some 29, _, _, _, _, _⟩) (v := .pointer (some ⟨E, 12 + r', none⟩)) rfl (by kernel_rfl) (by kernel_rfl) (by kernel_rfl) (fun _ _ _ h => h) (Or.inl ⟨by rfl, fun W hSw => by clear hSw; go_simp⟩) k0 ?_
    try simp only [Act.put, List.setIfInBounds_toArray, List.set_cons_zero, List.set_cons_succ]
    refine wpAnyH_take (i := 11) (oi := ⟨some 30, _, _, _, _, _⟩) (v := .int .u32 (R r')) rfl (by kernel_rfl) (by kernel_rfl) (by kernel_rfl) (fun _ _ _ h => h) (Or.inl ⟨by rfl, fun W hSw => by have cq := hSw.2.reg H15.out; clear hSw; go_simp⟩) k0 ?_
    try simp only [Act.put, List.setIfInBounds_toArray, List.set_cons_zero, List.set_cons_succ]
    refine wpAnyH_take (i := 12) (oi := ⟨some 31, _, _, _, _, _⟩) (v := .pointer (some ⟨E, 0, none⟩)) rfl (by kernel_rfl) (by kernel_rfl) (by kernel_rfl) (fun _ _ _ h => h) (Or.inl ⟨by rfl, fun W hSw => by (try dsimp only at hSw); go_simp⟩) k0 ?_
    try simp only [Act.put, List.setIfInBounds_toArray, List.set_cons_zero, List.set_cons_succ]
    refine wpAnyH_ready (rs := [13]) (by kernel_rfl) (by simp) ?_
    refine AllReadyH.cons (o := ⟨some 32, _, _, _, _, _⟩) rfl (fun K hK => ?_) AllReadyH.nil
    go_simp
    go_at_call 143
    refine (HA.out _ k0).mono ?_
    rintro e x2 ⟨rfl, hb⟩
    have k2 := k0.next hb
    clear hb
    go_wp2_with fail
    refine hK.out _ _ k2 (fun k1 => ?_)
    clear k2
    clear hK K
    try simp only [List.setIfInBounds_toArray, List.set_cons_zero, List.set_cons_succ]
    refine wpAnyH_take (i := 14) (oi := ⟨some 4, _, _, _, _, _⟩) (v := .int .u32 (R q.r1)) rfl (by kernel_rfl) (by kernel_rfl) (by kernel_rfl) (fun _ _ _ h => h) (Or.inl ⟨by rfl, fun W hSw => by (try dsimp only at hSw); go_simp⟩) k1 ?_
    try simp only [Act.put, List.setIfInBounds_toArray, List.set_cons_zero, List.set_cons_succ]
    refine wpAnyH_take (i := 15) (oi := ⟨some 5, _, _, _, _, _⟩) (v := .int .u32 (R r')) rfl (by kernel_rfl) (by kernel_rfl) (by kernel_rfl) (fun _ _ _ h => h) (Or.inl ⟨by rfl, fun W hSw => by (try dsimp only at hSw); go_simp⟩) k1 ?_
    try simp only [Act.put, List.setIfInBounds_toArray, List.set_cons_zero, List.set_cons_succ]
    refine wpAnyH_take (i := 16) (oi := ⟨some 6, _, _, _, _, _⟩) (v := .int .i64 (adT q R : Int)) rfl (by kernel_rfl) (by kernel_rfl) (by kernel_rfl) (fun _ _ _ h => h) (Or.inl ⟨by rfl, fun W hSw => by (try dsimp only at hSw); go_simp⟩) k1 ?_
    try simp only [Act.put, List.setIfInBounds_toArray, List.set_cons_zero, List.set_cons_succ]
    refine wpAnyH_done (by kernel_rfl) ?_ _
    refine id ?_
    have HK := Lib.hid k1
    clear k0 k1 HE hr1 hr2 HA H15
    have c0 := HK.out.2.op
    rw [HOP.out] at c0
    go_wp2_with fail
    refine (HW.out _).mono ?_
    rintro e w2 ⟨rfl, rfl⟩
    clear HW
    go_wp2_with fail
    refine (HS.out _ HK.out).mono ?_
    rintro e w3 ⟨rfl, h2, k2⟩
    have K2 := Lib.hid ((Kp.bel HK.out.1).trans k2)
    clear k2 HS HK c0
    have HC := Lib.hid (HCC.out w3 h2)
    clear h2 HCC
    go_wp2_with fail
    refine HC.out.mono ?_
    rintro e w4 ⟨rfl, h3, k3⟩
    have H3 := Lib.hid h3
    have K3 := Lib.hid (K2.out.trans k3)
    clear h3 k3 K2 HC
    go_wp2
    go_end0
    exact .inr ⟨rfl, rfl, H3.out, K3.out⟩
  · rw [if_neg hev] at HP ⊢
    clear h hR hq hev hop
    generalize (if ((W.sho 9223372036854775808 (W.pl (adT q R : Int)) ((R q.r1) * 4294967296 + R (q.r1 + 1))) && adB { p with cc := (W.sl64cc (W.pl (adT q R : Int)) ((R q.r1) * 4294967296 + R (q.r1 + 1))) } 3 8 0) = true then (8 : Int) else c) = c'
    go_enter Tryz.func60, Tryz.ntmps60
    go_wp2_with fail
    refine HP.out.mono ?_
    rintro e w1 ⟨hb, ⟨h6, -⟩ | ⟨-, rfl⟩⟩
    · exact absurd h6 (by decide)
    · have HB := Lib.hid hb
      clear hb HP
      unfold Stop
      go_wp2
      exact ⟨rfl, .inl ⟨by decide, rfl, Kp.bel HB.out⟩⟩
set_option maxRecDepth 100000 in
set_option maxHeartbeats 1000000 in
theorem shiftPair_142 (E A : Nat) (q : Qn) (R : Nat → Int) (p : Psw) (c : Int) (w : World) (h : Ex w E A q R p c) (hR : RegOk R) (hq : QOk q) (hop : q.op = 142) : Calls Tryz.prog 60 #[.pointer (some ⟨E, 0, none⟩)] w (RegPost w E A q (if q.r1 % 2 = 0 then 0 else 6) (upd (upd R q.r1 ((W.shr 9223372036854775808 (W.pl (adT q R : Int)) ((R q.r1) * 4294967296 + R (q.r1 + 1))) / 4294967296)) (q.r1 + 1) ((W.shr 9223372036854775808 (W.pl (adT q R : Int)) ((R q.r1) * 4294967296 + R (q.r1 + 1))) % 4294967296)) { p with cc := (W.ord (wrap64 (W.shr 9223372036854775808 (W.pl (adT q R : Int)) ((R q.r1) * 4294967296 + R (q.r1 + 1)))) 0) } c) := by
  have HP := Lib.hid (pair_any E A q R p c w h hq.r1)
  by_cases hev : q.r1 % 2 = 0
  · rw [if_pos hev] at HP ⊢
    have h15 : q.r1 < 15 := by have := hq.r1; omega
    have H15 := Lib.hid (show q.r1 + 1 < 16 by omega)
    have HA : Hid (∀ X, ES E A q R p c w X → Calls Tryz.prog 143 #[.pointer (some ⟨E, 0, none⟩)] X (New X (.int .i64 (adT q R : Int)))) := Lib.hid (fun X hX => sec_any E A q R p c X hX.2 hR hq)
    have HR1 := Lib.hid hq.r1
    have HOP := Lib.hid hop
    have hr1 : (q.r1 : Int) < 16 := by have := hq.r1; omega
    have hal := adT_lt q R
    have HX := Lib.hid h
    have hr2 : ((q.r1 + 1 : Nat) : Int) < 16 := by omega
    have HW := Lib.hid (fun X => W.wShiftRightDouble_any (R q.r1) (R (q.r1 + 1)) (adT q R : Int) (hR _).1 (hR _).2 (hR _).1 (hR _).2 (by omega) (by omega) X)
    have HS := Lib.hid (fun X (hX : ES E A q R p c w X) => setPair_any E A q R p c ((W.shr 9223372036854775808 (W.pl (adT q R : Int)) ((R q.r1) * 4294967296 + R (q.r1 + 1))) / 4294967296) ((W.shr 9223372036854775808 (W.pl (adT q R : Int)) ((R q.r1) * 4294967296 + R (q.r1 + 1))) % 4294967296) X hX.2 h15)
    have HCC := Lib.hid (fun X (hX : Ex X E A q (upd (upd R q.r1 ((W.shr 9223372036854775808 (W.pl (adT q R : Int)) ((R q.r1) * 4294967296 + R (q.r1 + 1))) / 4294967296)) (q.r1 + 1) ((W.shr 9223372036854775808 (W.pl (adT q R : Int)) ((R q.r1) * 4294967296 + R (q.r1 + 1))) % 4294967296)) p c) => And.intro hX.pcc (And.intro (hX.fz 35) (hX.setCc (W.ord (wrap64 (W.shr 9223372036854775808 (W.pl (adT q R : Int)) ((R q.r1) * 4294967296 + R (q.r1 + 1)))) 0))))
    generalize (W.ord (wrap64 (W.shr 9223372036854775808 (W.pl (adT q R : Int)) ((R q.r1) * 4294967296 + R (q.r1 + 1)))) 0) = cc at HW HCC ⊢
    generalize (W.shr 9223372036854775808 (W.pl (adT q R : Int)) ((R q.r1) * 4294967296 + R (q.r1 + 1))) / 4294967296 = hi at HW HS HCC ⊢
    generalize (W.shr 9223372036854775808 (W.pl (adT q R : Int)) ((R q.r1) * 4294967296 + R (q.r1 + 1))) % 4294967296 = lo at HW HS HCC ⊢
    generalize upd (upd R q.r1 hi) (q.r1 + 1) lo = R' at HS HCC ⊢
    generalize q.r1 + 1 = r' at HP HW HS H15 hr2 ⊢
    clear h hR hq hop hal hev h15
    go_enter Tryz.func60, Tryz.ntmps60
    go_wp2_with fail
    refine HP.out.mono ?_
    rintro e w1 ⟨hb, ⟨-, rfl⟩ | ⟨hn, -⟩⟩
    rotate_left
    · exact absurd rfl hn
    have HE := Lib.hid (ES.next ⟨hb, HX.out.below hb⟩ (bel_drew _))
    clear hb HP HX
    go_wp2_with fail
    refine wp_region_held_drew (S := ES E A q R p c w) (by kernel_rfl) HE.out (fun k0 => ?_)
    show wpAnyH _ _ _ _ _ 17 #[false, false, false, false, false, false, false, false, false, false, false, false, false, false, false, false, false] _ _
    refine wpAnyH_take (i := 0) (oi := ⟨some 19, _, _, _, _, _⟩) (v := .pointer (some ⟨E, 0, none⟩)) rfl (by kernel_rfl) (by kernel_rfl) (by kernel_rfl) (fun _ _ _ h => h) (Or.inl ⟨by rfl, fun W hSw => by (try dsimp only at hSw); go_simp⟩) k0 ?_
    try simp only [Act.put, List.setIfInBounds_toArray, List.set_cons_zero, List.set_cons_succ]
    refine wpAnyH_take (i := 1) (oi := ⟨some 20, _, _, _, _, _⟩) (v := .int .i64 (q.r1 : Int)) rfl (by kernel_rfl) (by kernel_rfl) (by kernel_rfl) (fun _ _ _ h => h) (Or.inl ⟨by rfl, fun W hSw => by (try dsimp only at hSw); go_simp⟩) k0 ?_
    try simp only [Act.put, List.setIfInBounds_toArray, List.set_cons_zero, List.set_cons_succ]
    refine wpAnyH_take (i := 2) (oi := ⟨some 21, _, _, _, _, _⟩) (v := .pointer (some ⟨E, 0, none⟩)) rfl (by kernel_rfl) (by kernel_rfl) (by kernel_rfl) (fun _ _ _ h => h) (Or.inl ⟨by rfl, fun W hSw => by (try dsimp only at hSw); go_simp⟩) k0 ?_
    try simp only [Act.put, List.setIfInBounds_toArray, List.set_cons_zero, List.set_cons_succ]
    refine wpAnyH_take (i := 3) (oi := ⟨some 22, _, _, _, _, _⟩) (v := .pointer (some ⟨E, 12, none⟩)) rfl (by kernel_rfl) (by kernel_rfl) (by kernel_rfl) (fun _ _ _ h => h) (Or.inl ⟨by rfl, fun W hSw => by (try dsimp only at hSw); go_simp⟩) k0 ?_
    try simp only [Act.put, List.setIfInBounds_toArray, List.set_cons_zero, List.set_cons_succ]
    refine wpAnyH_take (i := 4) (oi := ⟨some 23, _, _, _, _, _⟩) (v := .pointer (some ⟨E, 12 + q.r1, none⟩)) rfl (by kernel_rfl) (by kernel_rfl) (by kernel_rfl) (fun _ _ _ h => h) (Or.inl ⟨by rfl, fun W hSw => by clear hSw; go_simp⟩) k0 ?_
    try simp only [Act.put, List.setIfInBounds_toArray, List.set_cons_zero, List.set_cons_succ]
    refine wpAnyH_take (i := 5) (oi := ⟨some 24, _, _, _, _, _⟩) (v := .int .u32 (R q.r1)) rfl (by kernel_rfl) (by kernel_rfl) (by kernel_rfl) (fun _ _ _ h => h) (Or.inl ⟨by rfl, fun W hSw => by have cq := hSw.2.reg HR1.out; clear hSw; go_simp⟩) k0 ?_
    try simp only [Act.put, List.setIfInBounds_toArray, List.set_cons_zero, List.set_cons_succ]
    refine wpAnyH_take (i := 6) (oi := ⟨some 25, _, _, _, _, _⟩) (v := .pointer (some ⟨E, 0, none⟩)) rfl (by kernel_rfl) (by kernel_rfl) (by kernel_rfl) (fun _ _ _ h => h) (Or.inl ⟨by rfl, fun W hSw => by (try dsimp only at hSw); go_simp⟩) k0 ?_
    try simp only [Act.put, List.setIfInBounds_toArray, List.set_cons_zero, List.set_cons_succ]
    refine wpAnyH_take (i := 7) (oi := ⟨some 26, _, _, _, _, _⟩) (v := .int .i64 (r' : Int)) rfl (by kernel_rfl) (by kernel_rfl) (by kernel_rfl) (fun _ _ _ h => h) (Or.inl ⟨by rfl, fun W hSw => by (try dsimp only at hSw); go_simp⟩) k0 ?_
    try simp only [Act.put, List.setIfInBounds_toArray, List.set_cons_zero, List.set_cons_succ]
    refine wpAnyH_take (i := 8) (oi := ⟨some 27, _, _, _, _, _⟩) (v := .pointer (some ⟨E, 0, none⟩)) rfl (by kernel_rfl) (by kernel_rfl) (by kernel_rfl) (fun _ _ _ h => h) (Or.inl ⟨by rfl, fun W hSw => by (try dsimp only at hSw); go_simp⟩) k0 ?_
    try simp only [Act.put, List.setIfInBounds_toArray, List.set_cons_zero, List.set_cons_succ]
    refine wpAnyH_take (i := 9) (oi := ⟨some 28, _, _, _, _, _⟩) (v := .pointer (some ⟨E, 12, none⟩)) rfl (by kernel_rfl) (by kernel_rfl) (by kernel_rfl) (fun _ _ _ h => h) (Or.inl ⟨by rfl, fun W hSw => by (try dsimp only at hSw); go_simp⟩) k0 ?_
    try simp only [Act.put, List.setIfInBounds_toArray, List.set_cons_zero, List.set_cons_succ]
    refine wpAnyH_take (i := 10) (oi := ⟨some 29, _, _, _, _, _⟩) (v := .pointer (some ⟨E, 12 + r', none⟩)) rfl (by kernel_rfl) (by kernel_rfl) (by kernel_rfl) (fun _ _ _ h => h) (Or.inl ⟨by rfl, fun W hSw => by clear hSw; go_simp⟩) k0 ?_
    try simp only [Act.put, List.setIfInBounds_toArray, List.set_cons_zero, List.set_cons_succ]
    refine wpAnyH_take (i := 11) (oi := ⟨some 30, _, _, _, _, _⟩) (v := .int .u32 (R r')) rfl (by kernel_rfl) (by kernel_rfl) (by kernel_rfl) (fun _ _ _ h => h) (Or.inl ⟨by rfl, fun W hSw => by have cq := hSw.2.reg H15.out; clear hSw; go_simp⟩) k0 ?_
    try simp only [Act.put, List.setIfInBounds_toArray, List.set_cons_zero, List.set_cons_succ]
    refine wpAnyH_take (i := 12) (oi := ⟨some 31, _, _, _, _, _⟩) (v := .pointer (some ⟨E, 0, none⟩)) rfl (by kernel_rfl) (by kernel_rfl) (by kernel_rfl) (fun _ _ _ h => h) (Or.inl ⟨by rfl, fun W hSw => by (try dsimp only at hSw); go_simp⟩) k0 ?_
    try simp only [Act.put, List.setIfInBounds_toArray, List.set_cons_zero, List.set_cons_succ]
    refine wpAnyH_ready (rs := [13]) (by kernel_rfl) (by simp) ?_
    refine AllReadyH.cons (o := ⟨some 32, _, _, _, _, _⟩) rfl (fun K hK => ?_) AllReadyH.nil
    go_simp
    go_at_call 143
    refine (HA.out _ k0).mono ?_
    rintro e x2 ⟨rfl, hb⟩
    have k2 := k0.next hb
    clear hb
    go_wp2_with fail
    refine hK.out _ _ k2 (fun k1 => ?_)
    clear k2
    clear hK K
    try simp only [List.setIfInBounds_toArray, List.set_cons_zero, List.set_cons_succ]
    refine wpAnyH_take (i := 14) (oi := ⟨some 4, _, _, _, _, _⟩) (v := .int .u32 (R q.r1)) rfl (by kernel_rfl) (by kernel_rfl) (by kernel_rfl) (fun _ _ _ h => h) (Or.inl ⟨by rfl, fun W hSw => by (try dsimp only at hSw); go_simp⟩) k1 ?_
    try simp only [Act.put, List.setIfInBounds_toArray, List.set_cons_zero, List.set_cons_succ]
    refine wpAnyH_take (i := 15) (oi := ⟨some 5, _, _, _, _, _⟩) (v := .int .u32 (R r')) rfl (by kernel_rfl) (by kernel_rfl) (by kernel_rfl) (fun _ _ _ h => h) (Or.inl ⟨by rfl, fun W hSw => by (try dsimp only at hSw); go_simp⟩) k1 ?_
    try simp only [Act.put, List.setIfInBounds_toArray, List.set_cons_zero, List.set_cons_succ]
    refine wpAnyH_take (i := 16) (oi := ⟨some 6, _, _, _, _, _⟩) (v := .int .i64 (adT q R : Int)) rfl (by kernel_rfl) (by kernel_rfl) (by kernel_rfl) (fun _ _ _ h => h) (Or.inl ⟨by rfl, fun W hSw => by (try dsimp only at hSw); go_simp⟩) k1 ?_
    try simp only [Act.put, List.setIfInBounds_toArray, List.set_cons_zero, List.set_cons_succ]
    refine wpAnyH_done (by kernel_rfl) ?_ _
    refine id ?_
    have HK := Lib.hid k1
    clear k0 k1 HE hr1 hr2 HA H15
    have c0 := HK.out.2.op
    rw [HOP.out] at c0
    go_wp2_with fail
    refine (HW.out _).mono ?_
    rintro e w2 ⟨rfl, rfl⟩
    clear HW
    go_wp2_with fail
    refine (HS.out _ HK.out).mono ?_
    rintro e w3 ⟨rfl, h2, k2⟩
    have K2 := Lib.hid ((Kp.bel HK.out.1).trans k2)
    clear k2 HS HK c0
    obtain ⟨n1, n2, n3⟩ := HCC.out w3 h2
    have H3 := Lib.hid n3
    clear h2 HCC n3
    go_wp2
    go_end0
    exact .inr ⟨rfl, rfl, H3.out, K2.out.trans (kp_set _ _ _ _ _ (by simp))⟩
  · rw [if_neg hev] at HP ⊢
    clear h hR hq hev hop
    go_enter Tryz.func60, Tryz.ntmps60
    go_wp2_with fail
    refine HP.out.mono ?_
    rintro e w1 ⟨hb, ⟨h6, -⟩ | ⟨-, rfl⟩⟩
    · exact absurd h6 (by decide)
    · have HB := Lib.hid hb
      clear hb HP
      unfold Stop
      go_wp2
      exact ⟨rfl, .inl ⟨by decide, rfl, Kp.bel HB.out⟩⟩
set_option maxRecDepth 100000 in
set_option maxHeartbeats 1000000 in
theorem shiftPair_140 (E A : Nat) (q : Qn) (R : Nat → Int) (p : Psw) (c : Int) (w : World) (h : Ex w E A q R p c) (hR : RegOk R) (hq : QOk q) (hop : q.op = 140) : Calls Tryz.prog 60 #[.pointer (some ⟨E, 0, none⟩)] w (RegPost w E A q (if q.r1 % 2 = 0 then 0 else 6) (upd (upd R q.r1 ((W.slg 18446744073709551616 false (W.pl (adT q R : Int)) ((R q.r1) * 4294967296 + R (q.r1 + 1))) / 4294967296)) (q.r1 + 1) ((W.slg 18446744073709551616 false (W.pl (adT q R : Int)) ((R q.r1) * 4294967296 + R (q.r1 + 1))) % 4294967296)) p c) := by
  have HP := Lib.hid (pair_any E A q R p c w h hq.r1)
  by_cases hev : q.r1 % 2 = 0
  · rw [if_pos hev] at HP ⊢
    have h15 : q.r1 < 15 := by have := hq.r1; omega
    have H15 := Lib.hid (show q.r1 + 1 < 16 by omega)
    have HA : Hid (∀ X, ES E A q R p c w X → Calls Tryz.prog 143 #[.pointer (some ⟨E, 0, none⟩)] X (New X (.int .i64 (adT q R : Int)))) := Lib.hid (fun X hX => sec_any E A q R p c X hX.2 hR hq)
    have HR1 := Lib.hid hq.r1
    have HOP := Lib.hid hop
    have hr1 : (q.r1 : Int) < 16 := by have := hq.r1; omega
    have hal := adT_lt q R
    have HX := Lib.hid h
    have hr2 : ((q.r1 + 1 : Nat) : Int) < 16 := by omega
    have HW := Lib.hid (fun X => W.wShiftLogicalDouble_any (R q.r1) (R (q.r1 + 1)) (adT q R : Int) false (hR _).1 (hR _).2 (hR _).1 (hR _).2 (by omega) (by omega) X)
    have HS := Lib.hid (fun X (hX : ES E A q R p c w X) => setPair_any E A q R p c ((W.slg 18446744073709551616 false (W.pl (adT q R : Int)) ((R q.r1) * 4294967296 + R (q.r1 + 1))) / 4294967296) ((W.slg 18446744073709551616 false (W.pl (adT q R : Int)) ((R q.r1) * 4294967296 + R (q.r1 + 1))) % 4294967296) X hX.2 h15)
    generalize (W.slg 18446744073709551616 false (W.pl (adT q R : Int)) ((R q.r1) * 4294967296 + R (q.r1 + 1))) / 4294967296 = hi at HW HS ⊢
    generalize (W.slg 18446744073709551616 false (W.pl (adT q R : Int)) ((R q.r1) * 4294967296 + R (q.r1 + 1))) % 4294967296 = lo at HW HS ⊢
    generalize q.r1 + 1 = r' at HP HW HS H15 hr2 ⊢
    clear h hR hq hop hal hev h15
    go_enter Tryz.func60, Tryz.ntmps60
    go_wp2_with fail
    refine HP.out.mono ?_
    rintro e w1 ⟨hb, ⟨-, rfl⟩ | ⟨hn, -⟩⟩
    rotate_left
    · exact absurd rfl hn
    have HE := Lib.hid (ES.next ⟨hb, HX.out.below hb⟩ (bel_drew _))
    clear hb HP HX
    go_wp2_with fail
    refine wp_region_held_drew (S := ES E A q R p c w) (by kernel_rfl) HE.out (fun k0 => ?_)
    show wpAnyH _ _ _ _ _ 17 #[false, false, false, false, false, false, false, false, false, false, false, false, false, false, false, false, false] _ _
    refine wpAnyH_take (i := 0) (oi := ⟨some 19, _, _, _, _, _⟩) (v := .pointer (some ⟨E, 0, none⟩)) rfl (by kernel_rfl) (by kernel_rfl) (by kernel_rfl) (fun _ _ _ h => h) (Or.inl ⟨by rfl, fun W hSw => by (try dsimp only at hSw); go_simp⟩) k0 ?_
    try simp only [Act.put, List.setIfInBounds_toArray, List.set_cons_zero, List.set_cons_succ]
    refine wpAnyH_take (i := 1) (oi := ⟨some 20, _, _, _, _, _⟩) (v := .int .i64 (q.r1 : Int)) rfl (by kernel_rfl) (by kernel_rfl) (by kernel_rfl) (fun _ _ _ h => h) (Or.inl ⟨by rfl, fun W hSw => by (try dsimp only at hSw); go_simp⟩) k0 ?_
    try simp only [Act.put, List.setIfInBounds_toArray, List.set_cons_zero, List.set_cons_succ]
    refine wpAnyH_take (i := 2) (oi := ⟨some 21, _, _, _, _, _⟩) (v := .pointer (some ⟨E, 0, none⟩)) rfl (by kernel_rfl) (by kernel_rfl) (by kernel_rfl) (fun _ _ _ h => h) (Or.inl ⟨by rfl, fun W hSw => by (try dsimp only at hSw); go_simp⟩) k0 ?_
    try simp only [Act.put, List.setIfInBounds_toArray, List.set_cons_zero, List.set_cons_succ]
    refine wpAnyH_take (i := 3) (oi := ⟨some 22, _, _, _, _, _⟩) (v := .pointer (some ⟨E, 12, none⟩)) rfl (by kernel_rfl) (by kernel_rfl) (by kernel_rfl) (fun _ _ _ h => h) (Or.inl ⟨by rfl, fun W hSw => by (try dsimp only at hSw); go_simp⟩) k0 ?_
    try simp only [Act.put, List.setIfInBounds_toArray, List.set_cons_zero, List.set_cons_succ]
    refine wpAnyH_take (i := 4) (oi := ⟨some 23, _, _, _, _, _⟩) (v := .pointer (some ⟨E, 12 + q.r1, none⟩)) rfl (by kernel_rfl) (by kernel_rfl) (by kernel_rfl) (fun _ _ _ h => h) (Or.inl ⟨by rfl, fun W hSw => by clear hSw; go_simp⟩) k0 ?_
    try simp only [Act.put, List.setIfInBounds_toArray, List.set_cons_zero, List.set_cons_succ]
    refine wpAnyH_take (i := 5) (oi := ⟨some 24, _, _, _, _, _⟩) (v := .int .u32 (R q.r1)) rfl (by kernel_rfl) (by kernel_rfl) (by kernel_rfl) (fun _ _ _ h => h) (Or.inl ⟨by rfl, fun W hSw => by have cq := hSw.2.reg HR1.out; clear hSw; go_simp⟩) k0 ?_
    try simp only [Act.put, List.setIfInBounds_toArray, List.set_cons_zero, List.set_cons_succ]
    refine wpAnyH_take (i := 6) (oi := ⟨some 25, _, _, _, _, _⟩) (v := .pointer (some ⟨E, 0, none⟩)) rfl (by kernel_rfl) (by kernel_rfl) (by kernel_rfl) (fun _ _ _ h => h) (Or.inl ⟨by rfl, fun W hSw => by (try dsimp only at hSw); go_simp⟩) k0 ?_
    try simp only [Act.put, List.setIfInBounds_toArray, List.set_cons_zero, List.set_cons_succ]
    refine wpAnyH_take (i := 7) (oi := ⟨some 26, _, _, _, _, _⟩) (v := .int .i64 (r' : Int)) rfl (by kernel_rfl) (by kernel_rfl) (by kernel_rfl) (fun _ _ _ h => h) (Or.inl ⟨by rfl, fun W hSw => by (try dsimp only at hSw); go_simp⟩) k0 ?_
    try simp only [Act.put, List.setIfInBounds_toArray, List.set_cons_zero, List.set_cons_succ]
    refine wpAnyH_take (i := 8) (oi := ⟨some 27, _, _, _, _, _⟩) (v := .pointer (some ⟨E, 0, none⟩)) rfl (by kernel_rfl) (by kernel_rfl) (by kernel_rfl) (fun _ _ _ h => h) (Or.inl ⟨by rfl, fun W hSw => by (try dsimp only at hSw); go_simp⟩) k0 ?_
    try simp only [Act.put, List.setIfInBounds_toArray, List.set_cons_zero, List.set_cons_succ]
    refine wpAnyH_take (i := 9) (oi := ⟨some 28, _, _, _, _, _⟩) (v := .pointer (some ⟨E, 12, none⟩)) rfl (by kernel_rfl) (by kernel_rfl) (by kernel_rfl) (fun _ _ _ h => h) (Or.inl ⟨by rfl, fun W hSw => by (try dsimp only at hSw); go_simp⟩) k0 ?_
    try simp only [Act.put, List.setIfInBounds_toArray, List.set_cons_zero, List.set_cons_succ]
    refine wpAnyH_take (i := 10) (oi := ⟨some 29, _, _, _, _, _⟩) (v := .pointer (some ⟨E, 12 + r', none⟩)) rfl (by kernel_rfl) (by kernel_rfl) (by kernel_rfl) (fun _ _ _ h => h) (Or.inl ⟨by rfl, fun W hSw => by clear hSw; go_simp⟩) k0 ?_
    try simp only [Act.put, List.setIfInBounds_toArray, List.set_cons_zero, List.set_cons_succ]
    refine wpAnyH_take (i := 11) (oi := ⟨some 30, _, _, _, _, _⟩) (v := .int .u32 (R r')) rfl (by kernel_rfl) (by kernel_rfl) (by kernel_rfl) (fun _ _ _ h => h) (Or.inl ⟨by rfl, fun W hSw => by have cq := hSw.2.reg H15.out; clear hSw; go_simp⟩) k0 ?_
    try simp only [Act.put, List.setIfInBounds_toArray, List.set_cons_zero, List.set_cons_succ]
    refine wpAnyH_take (i := 12) (oi := ⟨some 31, _, _, _, _, _⟩) (v := .pointer (some ⟨E, 0, none⟩)) rfl (by kernel_rfl) (by kernel_rfl) (by kernel_rfl) (fun _ _ _ h => h) (Or.inl ⟨by rfl, fun W hSw => by (try dsimp only at hSw); go_simp⟩) k0 ?_
    try simp only [Act.put, List.setIfInBounds_toArray, List.set_cons_zero, List.set_cons_succ]
    refine wpAnyH_ready (rs := [13]) (by kernel_rfl) (by simp) ?_
    refine AllReadyH.cons (o := ⟨some 32, _, _, _, _, _⟩) rfl (fun K hK => ?_) AllReadyH.nil
    go_simp
    go_at_call 143
    refine (HA.out _ k0).mono ?_
    rintro e x2 ⟨rfl, hb⟩
    have k2 := k0.next hb
    clear hb
    go_wp2_with fail
    refine hK.out _ _ k2 (fun k1 => ?_)
    clear k2
    clear hK K
    try simp only [List.setIfInBounds_toArray, List.set_cons_zero, List.set_cons_succ]
    refine wpAnyH_take (i := 14) (oi := ⟨some 4, _, _, _, _, _⟩) (v := .int .u32 (R q.r1)) rfl (by kernel_rfl) (by kernel_rfl) (by kernel_rfl) (fun _ _ _ h => h) (Or.inl ⟨by rfl, fun W hSw => by (try dsimp only at hSw); go_simp⟩) k1 ?_
    try simp only [Act.put, List.setIfInBounds_toArray, List.set_cons_zero, List.set_cons_succ]
    refine wpAnyH_take (i := 15) (oi := ⟨some 5, _, _, _, _, _⟩) (v := .int .u32 (R r')) rfl (by kernel_rfl) (by kernel_rfl) (by kernel_rfl) (fun _ _ _ h => h) (Or.inl ⟨by rfl, fun W hSw => by (try dsimp only at hSw); go_simp⟩) k1 ?_
    try simp only [Act.put, List.setIfInBounds_toArray, List.set_cons_zero, List.set_cons_succ]
    refine wpAnyH_take (i := 16) (oi := ⟨some 6, _, _, _, _, _⟩) (v := .int .i64 (adT q R : Int)) rfl (by kernel_rfl) (by kernel_rfl) (by kernel_rfl) (fun _ _ _ h => h) (Or.inl ⟨by rfl, fun W hSw => by (try dsimp only at hSw); go_simp⟩) k1 ?_
    try simp only [Act.put, List.setIfInBounds_toArray, List.set_cons_zero, List.set_cons_succ]
    refine wpAnyH_done (by kernel_rfl) ?_ _
    refine id ?_
    have HK := Lib.hid k1
    clear k0 k1 HE hr1 hr2 HA H15
    have c0 := HK.out.2.op
    rw [HOP.out] at c0
    go_wp2_with fail
    refine (HW.out _).mono ?_
    rintro e w2 ⟨rfl, rfl⟩
    clear HW
    go_wp2_with fail
    refine (HS.out _ HK.out).mono ?_
    rintro e w3 ⟨rfl, h2, k2⟩
    have K2 := Lib.hid ((Kp.bel HK.out.1).trans k2)
    clear k2 HS HK c0
    have H3 := Lib.hid h2
    clear h2
    go_wp2
    go_end0
    exact .inr ⟨rfl, rfl, H3.out, K2.out⟩
  · rw [if_neg hev] at HP ⊢
    clear h hR hq hev hop
    go_enter Tryz.func60, Tryz.ntmps60
    go_wp2_with fail
    refine HP.out.mono ?_
    rintro e w1 ⟨hb, ⟨h6, -⟩ | ⟨-, rfl⟩⟩
    · exact absurd h6 (by decide)
    · have HB := Lib.hid hb
      clear hb HP
      unfold Stop
      go_wp2
      exact ⟨rfl, .inl ⟨by decide, rfl, Kp.bel HB.out⟩⟩
set_option maxRecDepth 100000 in
set_option maxHeartbeats 1000000 in
theorem shiftPair_141 (E A : Nat) (q : Qn) (R : Nat → Int) (p : Psw) (c : Int) (w : World) (h : Ex w E A q R p c) (hR : RegOk R) (hq : QOk q) (hop : q.op = 141) : Calls Tryz.prog 60 #[.pointer (some ⟨E, 0, none⟩)] w (RegPost w E A q (if q.r1 % 2 = 0 then 0 else 6) (upd (upd R q.r1 ((W.slg 18446744073709551616 true (W.pl (adT q R : Int)) ((R q.r1) * 4294967296 + R (q.r1 + 1))) / 4294967296)) (q.r1 + 1) ((W.slg 18446744073709551616 true (W.pl (adT q R : Int)) ((R q.r1) * 4294967296 + R (q.r1 + 1))) % 4294967296)) p c) := by
  have HP := Lib.hid (pair_any E A q R p c w h hq.r1)
  by_cases hev : q.r1 % 2 = 0
  · rw [if_pos hev] at HP ⊢
    have h15 : q.r1 < 15 := by have := hq.r1; omega
    have H15 := Lib.hid (show q.r1 + 1 < 16 by omega)
    have HA : Hid (∀ X, ES E A q R p c w X → Calls Tryz.prog 143 #[.pointer (some ⟨E, 0, none⟩)] X (New X (.int .i64 (adT q R : Int)))) := Lib.hid (fun X hX => sec_any E A q R p c X hX.2 hR hq)
    have HR1 := Lib.hid hq.r1
    have HOP := Lib.hid hop
    have hr1 : (q.r1 : Int) < 16 := by have := hq.r1; omega
    have hal := adT_lt q R
    have HX := Lib.hid h
    have hr2 : ((q.r1 + 1 : Nat) : Int) < 16 := by omega
    have HW := Lib.hid (fun X => W.wShiftLogicalDouble_any (R q.r1) (R (q.r1 + 1)) (adT q R : Int) true (hR _).1 (hR _).2 (hR _).1 (hR _).2 (by omega) (by omega) X)
    have HS := Lib.hid (fun X (hX : ES E A q R p c w X) => setPair_any E A q R p c ((W.slg 18446744073709551616 true (W.pl (adT q R : Int)) ((R q.r1) * 4294967296 + R (q.r1 + 1))) / 4294967296) ((W.slg 18446744073709551616 true (W.pl (adT q R : Int)) ((R q.r1) * 4294967296 + R (q.r1 + 1))) % 4294967296) X hX.2 h15)
    generalize (W.slg 18446744073709551616 true (W.pl (adT q R : Int)) ((R q.r1) * 4294967296 + R (q.r1 + 1))) / 4294967296 = hi at HW HS ⊢
    generalize (W.slg 18446744073709551616 true (W.pl (adT q R : Int)) ((R q.r1) * 4294967296 + R (q.r1 + 1))) % 4294967296 = lo at HW HS ⊢
    generalize q.r1 + 1 = r' at HP HW HS H15 hr2 ⊢
    clear h hR hq hop hal hev h15
    go_enter Tryz.func60, Tryz.ntmps60
    go_wp2_with fail
    refine HP.out.mono ?_
    rintro e w1 ⟨hb, ⟨-, rfl⟩ | ⟨hn, -⟩⟩
    rotate_left
    · exact absurd rfl hn
    have HE := Lib.hid (ES.next ⟨hb, HX.out.below hb⟩ (bel_drew _))
    clear hb HP HX
    go_wp2_with fail
    refine wp_region_held_drew (S := ES E A q R p c w) (by kernel_rfl) HE.out (fun k0 => ?_)
    show wpAnyH _ _ _ _ _ 17 #[false, false, false, false, false, false, false, false, false, false, false, false, false, false, false, false, false] _ _
    refine wpAnyH_take (i := 0) (oi := ⟨some 19, _, _, _, _, _⟩) (v := .pointer (some ⟨E, 0, none⟩)) rfl (by kernel_rfl) (by kernel_rfl) (by kernel_rfl) (fun _ _ _ h => h) (Or.inl ⟨by rfl, fun W hSw => by (try dsimp only at hSw); go_simp⟩) k0 ?_
    try simp only [Act.put, List.setIfInBounds_toArray, List.set_cons_zero, List.set_cons_succ]
    refine wpAnyH_take (i := 1) (oi := ⟨some 20, _, _, _, _, _⟩) (v := .int .i64 (q.r1 : Int)) rfl (by kernel_rfl) (by kernel_rfl) (by kernel_rfl) (fun _ _ _ h => h) (Or.inl ⟨by rfl, fun W hSw => by (try dsimp only at hSw); go_simp⟩) k0 ?_
    try simp only [Act.put, List.setIfInBounds_toArray, List.set_cons_zero, List.set_cons_succ]
    refine wpAnyH_take (i := 2) (oi := ⟨some 21, _, _, _, _, _⟩) (v := .pointer (some ⟨E, 0, none⟩)) rfl (by kernel_rfl) (by kernel_rfl) (by kernel_rfl) (fun _ _ _ h => h) (Or.inl ⟨by rfl, fun W hSw => by (try dsimp only at hSw); go_simp⟩) k0 ?_
    try simp only [Act.put, List.setIfInBounds_toArray, List.set_cons_zero, List.set_cons_succ]
    refine wpAnyH_take (i := 3) (oi := ⟨some 22, _, _, _, _, _⟩) (v := .pointer (some ⟨E, 12, none⟩)) rfl (by kernel_rfl) (by kernel_rfl) (by kernel_rfl) (fun _ _ _ h => h) (Or.inl ⟨by rfl, fun W hSw => by (try dsimp only at hSw); go_simp⟩) k0 ?_
    try simp only [Act.put, List.setIfInBounds_toArray, List.set_cons_zero, List.set_cons_succ]
    refine wpAnyH_take (i := 4) (oi := ⟨some 23, _, _, _, _, _⟩) (v := .pointer (some ⟨E, 12 + q.r1, none⟩)) rfl (by kernel_rfl) (by kernel_rfl) (by kernel_rfl) (fun _ _ _ h => h) (Or.inl ⟨by rfl, fun W hSw => by clear hSw; go_simp⟩) k0 ?_
    try simp only [Act.put, List.setIfInBounds_toArray, List.set_cons_zero, List.set_cons_succ]
    refine wpAnyH_take (i := 5) (oi := ⟨some 24, _, _, _, _, _⟩) (v := .int .u32 (R q.r1)) rfl (by kernel_rfl) (by kernel_rfl) (by kernel_rfl) (fun _ _ _ h => h) (Or.inl ⟨by rfl, fun W hSw => by have cq := hSw.2.reg HR1.out; clear hSw; go_simp⟩) k0 ?_
    try simp only [Act.put, List.setIfInBounds_toArray, List.set_cons_zero, List.set_cons_succ]
    refine wpAnyH_take (i := 6) (oi := ⟨some 25, _, _, _, _, _⟩) (v := .pointer (some ⟨E, 0, none⟩)) rfl (by kernel_rfl) (by kernel_rfl) (by kernel_rfl) (fun _ _ _ h => h) (Or.inl ⟨by rfl, fun W hSw => by (try dsimp only at hSw); go_simp⟩) k0 ?_
    try simp only [Act.put, List.setIfInBounds_toArray, List.set_cons_zero, List.set_cons_succ]
    refine wpAnyH_take (i := 7) (oi := ⟨some 26, _, _, _, _, _⟩) (v := .int .i64 (r' : Int)) rfl (by kernel_rfl) (by kernel_rfl) (by kernel_rfl) (fun _ _ _ h => h) (Or.inl ⟨by rfl, fun W hSw => by (try dsimp only at hSw); go_simp⟩) k0 ?_
    try simp only [Act.put, List.setIfInBounds_toArray, List.set_cons_zero, List.set_cons_succ]
    refine wpAnyH_take (i := 8) (oi := ⟨some 27, _, _, _, _, _⟩) (v := .pointer (some ⟨E, 0, none⟩)) rfl (by kernel_rfl) (by kernel_rfl) (by kernel_rfl) (fun _ _ _ h => h) (Or.inl ⟨by rfl, fun W hSw => by (try dsimp only at hSw); go_simp⟩) k0 ?_
    try simp only [Act.put, List.setIfInBounds_toArray, List.set_cons_zero, List.set_cons_succ]
    refine wpAnyH_take (i := 9) (oi := ⟨some 28, _, _, _, _, _⟩) (v := .pointer (some ⟨E, 12, none⟩)) rfl (by kernel_rfl) (by kernel_rfl) (by kernel_rfl) (fun _ _ _ h => h) (Or.inl ⟨by rfl, fun W hSw => by (try dsimp only at hSw); go_simp⟩) k0 ?_
    try simp only [Act.put, List.setIfInBounds_toArray, List.set_cons_zero, List.set_cons_succ]
    refine wpAnyH_take (i := 10) (oi := ⟨some 29, _, _, _, _, _⟩) (v := .pointer (some ⟨E, 12 + r', none⟩)) rfl (by kernel_rfl) (by kernel_rfl) (by kernel_rfl) (fun _ _ _ h => h) (Or.inl ⟨by rfl, fun W hSw => by clear hSw; go_simp⟩) k0 ?_
    try simp only [Act.put, List.setIfInBounds_toArray, List.set_cons_zero, List.set_cons_succ]
    refine wpAnyH_take (i := 11) (oi := ⟨some 30, _, _, _, _, _⟩) (v := .int .u32 (R r')) rfl (by kernel_rfl) (by kernel_rfl) (by kernel_rfl) (fun _ _ _ h => h) (Or.inl ⟨by rfl, fun W hSw => by have cq := hSw.2.reg H15.out; clear hSw; go_simp⟩) k0 ?_
    try simp only [Act.put, List.setIfInBounds_toArray, List.set_cons_zero, List.set_cons_succ]
    refine wpAnyH_take (i := 12) (oi := ⟨some 31, _, _, _, _, _⟩) (v := .pointer (some ⟨E, 0, none⟩)) rfl (by kernel_rfl) (by kernel_rfl) (by kernel_rfl) (fun _ _ _ h => h) (Or.inl ⟨by rfl, fun W hSw => by (try dsimp only at hSw); go_simp⟩) k0 ?_
    try simp only [Act.put, List.setIfInBounds_toArray, List.set_cons_zero, List.set_cons_succ]
    refine wpAnyH_ready (rs := [13]) (by kernel_rfl) (by simp) ?_
    refine AllReadyH.cons (o := ⟨some 32, _, _, _, _, _⟩) rfl (fun K hK => ?_) AllReadyH.nil
    go_simp
    go_at_call 143
    refine (HA.out _ k0).mono ?_
    rintro e x2 ⟨rfl, hb⟩
    have k2 := k0.next hb
    clear hb
    go_wp2_with fail
    refine hK.out _ _ k2 (fun k1 => ?_)
    clear k2
    clear hK K
    try simp only [List.setIfInBounds_toArray, List.set_cons_zero, List.set_cons_succ]
    refine wpAnyH_take (i := 14) (oi := ⟨some 4, _, _, _, _, _⟩) (v := .int .u32 (R q.r1)) rfl (by kernel_rfl) (by kernel_rfl) (by kernel_rfl) (fun _ _ _ h => h) (Or.inl ⟨by rfl, fun W hSw => by (try dsimp only at hSw); go_simp⟩) k1 ?_
    try simp only [Act.put, List.setIfInBounds_toArray, List.set_cons_zero, List.set_cons_succ]
    refine wpAnyH_take (i := 15) (oi := ⟨some 5, _, _, _, _, _⟩) (v := .int .u32 (R r')) rfl (by kernel_rfl) (by kernel_rfl) (by kernel_rfl) (fun _ _ _ h => h) (Or.inl ⟨by rfl, fun W hSw => by (try dsimp only at hSw); go_simp⟩) k1 ?_
    try simp only [Act.put, List.setIfInBounds_toArray, List.set_cons_zero, List.set_cons_succ]
    refine wpAnyH_take (i := 16) (oi := ⟨some 6, _, _, _, _, _⟩) (v := .int .i64 (adT q R : Int)) rfl (by kernel_rfl) (by kernel_rfl) (by kernel_rfl) (fun _ _ _ h => h) (Or.inl ⟨by rfl, fun W hSw => by (try dsimp only at hSw); go_simp⟩) k1 ?_
    try simp only [Act.put, List.setIfInBounds_toArray, List.set_cons_zero, List.set_cons_succ]
    refine wpAnyH_done (by kernel_rfl) ?_ _
    refine id ?_
    have HK := Lib.hid k1
    clear k0 k1 HE hr1 hr2 HA H15
    have c0 := HK.out.2.op
    rw [HOP.out] at c0
    go_wp2_with fail
    refine (HW.out _).mono ?_
    rintro e w2 ⟨rfl, rfl⟩
    clear HW
    go_wp2_with fail
    refine (HS.out _ HK.out).mono ?_
    rintro e w3 ⟨rfl, h2, k2⟩
    have K2 := Lib.hid ((Kp.bel HK.out.1).trans k2)
    clear k2 HS HK c0
    have H3 := Lib.hid h2
    clear h2
    go_wp2
    go_end0
    exact .inr ⟨rfl, rfl, H3.out, K2.out⟩
  · rw [if_neg hev] at HP ⊢
    clear h hR hq hev hop
    go_enter Tryz.func60, Tryz.ntmps60
    go_wp2_with fail
    refine HP.out.mono ?_
    rintro e w1 ⟨hb, ⟨h6, -⟩ | ⟨-, rfl⟩⟩
    · exact absurd h6 (by decide)
    · have HB := Lib.hid hb
      clear hb HP
      unfold Stop
      go_wp2
      exact ⟨rfl, .inl ⟨by decide, rfl, Kp.bel HB.out⟩⟩

end M
end Go.Proofs.YtfopjnfphlkcgaaGreat

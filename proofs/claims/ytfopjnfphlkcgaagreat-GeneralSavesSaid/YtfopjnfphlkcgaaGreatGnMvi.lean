/- The program: an immediate byte that is stored. -/
import Derived.Test.YtfopjnfphlkcgaaGreatRows
import Derived.Test.YtfopjnfphlkcgaaGreatGnImm
namespace Go.Proofs.YtfopjnfphlkcgaaGreat
open Go.RowKit Go.Shelf E
set_option linter.unusedVariables false
namespace M

/-- What holds throughout: the execution and the storage lie as they did. -/
def EG (w : World) (E A g : Nat) (q : Qn) (R : Nat → Int) (p : Psw) (c : Int) (W : World) : Prop := Kp w W [E, g] ∧ Ex W E A q R p c
theorem EG.next {w : World} {E A g : Nat} {q : Qn} {R : Nat → Int} {p : Psw} {c : Int} {W W' : World} (h : EG w E A g q R p c W) (hb : Below W.heap.size W W') : EG w E A g q R p c W' := ⟨h.1.trans (Kp.bel hb), h.2.below hb⟩
set_option maxRecDepth 100000 in
set_option maxHeartbeats 1000000 in
theorem moveImm_any (E A : Nat) (q : Qn) (R : Nat → Int) (p : Psw) (c : Int) (g h n m : Nat) (bs ks : List UInt8) (w : World) (hx : Ex w E A q R p c) (hs : Sto w A g h n m bs ks) (hR : RegOk R) (hq : QOk q) : Calls Tryz.prog 67 #[.pointer (some ⟨E, 0, none⟩)] w (StoPost w E A g h n m q R p c (codeV (stP p.k) n ks (adF q R : Int) ((1 : Nat) : Int)) bs (putB (stP p.k) n bs ks (adF q R : Int) [i2B q]) ks) := by
  have hlt := adF_lt q R
  have hi2 : q.i2 < 256 := hq.i2
  have HA : Hid (∀ X, EG w E A g q R p c X → Calls Tryz.prog 159 #[.pointer (some ⟨E, 0, none⟩)] X (New X (.int .i64 (adF q R : Int)))) := Lib.hid (fun X hX => fir_any E A q R p c X hX.2 hR hq)
  have hw8 : IntKind.u8.wrap (q.i2 : Int) = (q.i2 : Int) := by
    show (q.i2 : Int) % 256 = (q.i2 : Int)
    omega
  have HE := Lib.hid (show EG w E A g q R p c w.drew from ⟨kp_drew w _, hx.drew⟩)
  have HST := Lib.hid (hs.below (bel_drew w))
  have HSV : Hid (∀ X : World, SvB (X.alloc (.cells #[.int .u8 (q.i2 : Int)] 5)) (.slice (some ⟨X.heap.size, 0, none⟩) 1 1) [i2B q]) := Lib.hid (fun X => by
    have h1 := svb_one X (i2B q)
    rw [i2B_nat hi2] at h1
    exact h1)
  have HP := Lib.hid (fun X v (hX : Ex X E A q R p c) (hS : Sto X A g h n m bs ks) (hv : SvB X v [i2B q]) => put_raw E A q R p c g h n m bs ks (adF q R) v [i2B q] _ X hX hS hv (by omega) rfl)
  have HNB := Lib.hid (fun (h0 : (codeV (stP p.k) n ks (adF q R : Int) ((1 : Nat) : Int)) ≠ 0) => putB_no (P := stP p.k) (n := n) (bs := bs) (ks := ks) (x := (adF q R : Int)) (b := [i2B q]) h0)
  change Hid (∀ X v, Ex X E A q R p c → Sto X A g h n m bs ks → SvB X v [i2B q] → Calls Tryz.prog 152 #[.pointer (some ⟨E, 0, none⟩), .int .i64 (adF q R : Int), v] X fun e w' => (((codeV (stP p.k) n ks (adF q R : Int) ((1 : Nat) : Int)) = 0 ∧ e = .returned (.tuple #[])) ∨ ((codeV (stP p.k) n ks (adF q R : Int) ((1 : Nat) : Int)) ≠ 0 ∧ e = Stop (codeV (stP p.k) n ks (adF q R : Int) ((1 : Nat) : Int)))) ∧ Ex w' E A q R p c ∧ Sto w' A g h n m (putB (stP p.k) n bs ks (adF q R : Int) [i2B q]) ks ∧ Kp X w' [g]) at HP
  generalize putB (stP p.k) n bs ks (adF q R : Int) [i2B q] = bs' at HP HNB ⊢
  generalize (codeV (stP p.k) n ks (adF q R : Int) ((1 : Nat) : Int)) = C2 at HP HNB ⊢
  generalize adF q R = a at *
  clear hx hs hR hq hlt
  go_enter Tryz.func67, Tryz.ntmps67
  go_wp2_with fail
  refine wp_region_held_drew (S := EG w E A g q R p c) (by kernel_rfl) HE.out (fun k0 => ?_)
  show wpAnyH _ _ _ _ _ 11 #[false, false, false, false, false, false, false, false, false, false, false] _ _
  refine wpAnyH_take (i := 0) (oi := ⟨some 2, _, _, _, _, _⟩) (v := .pointer (some ⟨E, 0, none⟩)) rfl (by kernel_rfl) (by kernel_rfl) (by kernel_rfl) (fun _ _ _ h => h) (Or.inl ⟨by rfl, fun W hSw => by (try dsimp only at hSw); go_simp⟩) k0 ?_
  try simp only [Act.put, List.setIfInBounds_toArray, List.set_cons_zero, List.set_cons_succ]
  refine wpAnyH_take (i := 1) (oi := ⟨some 3, _, _, _, _, _⟩) (v := .pointer (some ⟨E, 0, none⟩)) rfl (by kernel_rfl) (by kernel_rfl) (by kernel_rfl) (fun _ _ _ h => h) (Or.inl ⟨by rfl, fun W hSw => by (try dsimp only at hSw); go_simp⟩) k0 ?_
  try simp only [Act.put, List.setIfInBounds_toArray, List.set_cons_zero, List.set_cons_succ]
  refine wpAnyH_take (i := 3) (oi := ⟨some 5, _, _, _, _, _⟩) (v := .pointer (some ⟨E, 0, none⟩)) rfl (by kernel_rfl) (by kernel_rfl) (by kernel_rfl) (fun _ _ _ h => h) (Or.inl ⟨by rfl, fun W hSw => by (try dsimp only at hSw); go_simp⟩) k0 ?_
  try simp only [Act.put, List.setIfInBounds_toArray, List.set_cons_zero, List.set_cons_succ]
  refine wpAnyH_take (i := 4) (oi := ⟨some 6, _, _, _, _, _⟩) (v := .pointer (some ⟨E, 0, none⟩)) rfl (by kernel_rfl) (by kernel_rfl) (by kernel_rfl) (fun _ _ _ h => h) (Or.inl ⟨by rfl, fun W hSw => by (try dsimp only at hSw); go_simp⟩) k0 ?_
  try simp only [Act.put, List.setIfInBounds_toArray, List.set_cons_zero, List.set_cons_succ]
  refine wpAnyH_take (i := 5) (oi := ⟨some 7, _, _, _, _, _⟩) (v := .pointer (some ⟨E, 0, none⟩)) rfl (by kernel_rfl) (by kernel_rfl) (by kernel_rfl) (fun _ _ _ h => h) (Or.inl ⟨by rfl, fun W hSw => by (try dsimp only at hSw); go_simp⟩) k0 ?_
  try simp only [Act.put, List.setIfInBounds_toArray, List.set_cons_zero, List.set_cons_succ]
  refine wpAnyH_take (i := 6) (oi := ⟨some 8, _, _, _, _, _⟩) (v := .pointer (some ⟨E, 11, none⟩)) rfl (by kernel_rfl) (by kernel_rfl) (by kernel_rfl) (fun _ _ _ h => h) (Or.inl ⟨by rfl, fun W hSw => by (try dsimp only at hSw); go_simp⟩) k0 ?_
  try simp only [Act.put, List.setIfInBounds_toArray, List.set_cons_zero, List.set_cons_succ]
  refine wpAnyH_take (i := 7) (oi := ⟨some 9, _, _, _, _, _⟩) (v := .int .i64 (q.i2 : Int)) rfl (by kernel_rfl) (by kernel_rfl) (by kernel_rfl) (fun _ _ _ h => h) (Or.inl ⟨by rfl, fun W hSw => by have cq := hSw.2.i2; clear hSw; go_simp⟩) k0 ?_
  try simp only [Act.put, List.setIfInBounds_toArray, List.set_cons_zero, List.set_cons_succ]
  refine wpAnyH_take (i := 8) (oi := ⟨some 10, _, _, _, _, _⟩) (v := .int .u8 (q.i2 : Int)) rfl (by kernel_rfl) (by kernel_rfl) (by kernel_rfl) (fun _ _ _ h => h) (Or.inl ⟨by rfl, fun W hSw => by clear hSw; simp [go_sem, hw8]⟩) k0 ?_
  try simp only [Act.put, List.setIfInBounds_toArray, List.set_cons_zero, List.set_cons_succ]
  refine wpAnyH_ready (rs := [2, 9]) (by kernel_rfl) (by simp) ?_
  refine AllReadyH.cons (o := ⟨some 4, _, _, _, _, _⟩) rfl (fun K hK => ?_) (AllReadyH.cons (o := ⟨some 11, _, _, _, _, _⟩) rfl (fun K hK => ?_) AllReadyH.nil)
  · go_simp
    go_at_call 159
    refine (HA.out _ k0).mono ?_
    rintro e x1 ⟨rfl, hb⟩
    have k3 := k0.next hb
    have T1 := Lib.hid (HST.out.below hb)
    clear hb
    go_wp2_with fail
    refine hK.out _ _ k3 (fun k1 => ?_)
    clear k3
    clear hK K
    try simp only [List.setIfInBounds_toArray, List.set_cons_zero, List.set_cons_succ]
    refine wpAnyH_ready (rs := [9]) (by kernel_rfl) (by simp) ?_
    refine AllReadyH.cons (o := ⟨some 11, _, _, _, _, _⟩) rfl (fun K hK => ?_) AllReadyH.nil
    go_simp
    have V2 := Lib.hid (HSV.out x1)
    have T2 := Lib.hid (T1.out.below (below_new x1 (.cells #[.int .u8 (q.i2 : Int)] 5)))
    refine hK.out _ _ (k1.next (below_new _ _)) (fun k2 => ?_)
    clear hK K
    try simp only [List.setIfInBounds_toArray, List.set_cons_zero, List.set_cons_succ]
    refine wpAnyH_ready (rs := [10]) (by kernel_rfl) (by simp) ?_
    refine AllReadyH.cons (o := ⟨some 12, _, _, _, _, _⟩) rfl (fun K hK => ?_) AllReadyH.nil
    go_simp
    go_at_call 152
    refine (HP.out _ _ k2.2 T2.out V2.out).mono ?_
    rintro e x3 ⟨⟨h0, rfl⟩ | ⟨hn, rfl⟩, hx3, hs3, hk3⟩
    rotate_left
    · have HN := Lib.hid hn
      have HS3 := Lib.hid hs3
      have HK3 := Lib.hid (k2.1.trans (Kp.more2 hk3))
      clear hn hx3 hs3 hk3 k0 k1 k2
      unfold Stop
      go_wp2
      exact ⟨rfl, .inr ⟨HN.out, rfl, by rw [← HNB.out HN.out]; exact HS3.out⟩, HK3.out⟩
    have H0 := Lib.hid h0
    have HS3 := Lib.hid hs3
    have k5 : EG w E A g q R p c x3 := ⟨k2.1.trans (Kp.more2 hk3), hx3⟩
    clear h0 hx3 hs3 hk3
    go_wp2_with fail
    refine hK.out _ _ k5 (fun k4 => ?_)
    clear k5
    clear hK K
    try simp only [List.setIfInBounds_toArray, List.set_cons_zero, List.set_cons_succ]
    refine wpAnyH_done (by kernel_rfl) ?_ _
    refine id ?_
    have X3 := Lib.hid k4
    clear k0 k1 k2 k4
    go_wp2
    go_end0
    exact ⟨.inl ⟨H0.out, rfl, HS3.out, X3.out.2⟩, X3.out.1⟩
  · go_simp
    have V1 := Lib.hid (HSV.out w.drew)
    have T1 := Lib.hid (HST.out.below (below_new w.drew (.cells #[.int .u8 (q.i2 : Int)] 5)))
    refine hK.out _ _ (k0.next (below_new _ _)) (fun k1 => ?_)
    clear hK K
    try simp only [List.setIfInBounds_toArray, List.set_cons_zero, List.set_cons_succ]
    refine wpAnyH_ready (rs := [2]) (by kernel_rfl) (by simp) ?_
    refine AllReadyH.cons (o := ⟨some 4, _, _, _, _, _⟩) rfl (fun K hK => ?_) AllReadyH.nil
    go_simp
    go_at_call 159
    refine (HA.out _ k1).mono ?_
    rintro e x1 ⟨rfl, hb⟩
    have k3 := k1.next hb
    have T2 := Lib.hid (T1.out.below hb)
    have V2 := Lib.hid (V1.out.below hb)
    clear hb
    go_wp2_with fail
    refine hK.out _ _ k3 (fun k2 => ?_)
    clear k3
    clear hK K
    try simp only [List.setIfInBounds_toArray, List.set_cons_zero, List.set_cons_succ]
    refine wpAnyH_ready (rs := [10]) (by kernel_rfl) (by simp) ?_
    refine AllReadyH.cons (o := ⟨some 12, _, _, _, _, _⟩) rfl (fun K hK => ?_) AllReadyH.nil
    go_simp
    go_at_call 152
    refine (HP.out _ _ k2.2 T2.out V2.out).mono ?_
    rintro e x3 ⟨⟨h0, rfl⟩ | ⟨hn, rfl⟩, hx3, hs3, hk3⟩
    rotate_left
    · have HN := Lib.hid hn
      have HS3 := Lib.hid hs3
      have HK3 := Lib.hid (k2.1.trans (Kp.more2 hk3))
      clear hn hx3 hs3 hk3 k0 k1 k2
      unfold Stop
      go_wp2
      exact ⟨rfl, .inr ⟨HN.out, rfl, by rw [← HNB.out HN.out]; exact HS3.out⟩, HK3.out⟩
    have H0 := Lib.hid h0
    have HS3 := Lib.hid hs3
    have k5 : EG w E A g q R p c x3 := ⟨k2.1.trans (Kp.more2 hk3), hx3⟩
    clear h0 hx3 hs3 hk3
    go_wp2_with fail
    refine hK.out _ _ k5 (fun k4 => ?_)
    clear k5
    clear hK K
    try simp only [List.setIfInBounds_toArray, List.set_cons_zero, List.set_cons_succ]
    refine wpAnyH_done (by kernel_rfl) ?_ _
    refine id ?_
    have X3 := Lib.hid k4
    clear k0 k1 k2 k4
    go_wp2
    go_end0
    exact ⟨.inl ⟨H0.out, rfl, HS3.out, X3.out.2⟩, X3.out.1⟩

end M
end Go.Proofs.YtfopjnfphlkcgaaGreat

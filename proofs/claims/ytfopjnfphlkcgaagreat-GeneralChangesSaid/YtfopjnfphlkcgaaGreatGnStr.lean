/- The program: registers that are stored. -/
import Derived.Test.YtfopjnfphlkcgaaGreatRows
import Derived.Test.YtfopjnfphlkcgaaGreatGnFull
import Derived.Test.YtfopjnfphlkcgaaGreatGnMvi
namespace Go.Proofs.YtfopjnfphlkcgaaGreat
open Go.RowKit Go.Shelf E
set_option linter.unusedVariables false
namespace M

theorem u8n {x : Int} (h0 : 0 ≤ x) (h1 : x < 256) : ((UInt8.ofNat x.toNat).toNat : Int) = x := by
  rw [UInt8.toNat_ofNat_of_lt' (by show x.toNat < 256; omega)]
  omega
/-- The bytes of a word. -/
def rb (v : Int) : List UInt8 := [UInt8.ofNat (v / 16777216).toNat, UInt8.ofNat (v / 65536 % 256).toNat, UInt8.ofNat (v / 256 % 256).toNat, UInt8.ofNat (v % 256).toNat]
theorem rb_cell {X : World} {B : Nat} {v : Int} (h0 : 0 ≤ v) (h1 : v < 4294967296) (h : X.heap[B]? = some (.cells (W.bs (fbL [v] 1 1)).toArray 5 (0, 0))) (j : Nat) (hj : j < 4) : X.cell? ⟨B, j, none⟩ = some (.int .u8 ((gt (rb v) j).toNat : Int)) := by
  have hb : Bx X B 5 #[.int .u8 (v / 16777216), .int .u8 (v / 65536 % 256), .int .u8 (v / 256 % 256), .int .u8 (v % 256)] := h
  rw [hb.cell j]
  match j, hj with
  | 0, _ => exact congrArg (fun z => some (Value.int .u8 z)) (u8n (by omega) (by omega)).symm
  | 1, _ => exact congrArg (fun z => some (Value.int .u8 z)) (u8n (by omega) (by omega)).symm
  | 2, _ => exact congrArg (fun z => some (Value.int .u8 z)) (u8n (by omega) (by omega)).symm
  | 3, _ => exact congrArg (fun z => some (Value.int .u8 z)) (u8n (by omega) (by omega)).symm
theorem rb_svb {X : World} {B : Nat} {v : Int} (h0 : 0 ≤ v) (h1 : v < 4294967296) (h : X.heap[B]? = some (.cells (W.bs (fbL [v] 1 1)).toArray 5 (0, 0))) (o : Nat) (ho : o < 4) : SvB X (.slice (some ⟨B, o, none⟩) (4 - o) (4 - o)) ((rb v).drop o) := by
  have hl : ((rb v).drop o).length = 4 - o := by simp [rb]
  refine ⟨some ⟨B, o, none⟩, 4 - o, by rw [hl], .inr ⟨B, o, rfl, fun j hj => ?_⟩, by omega, by omega, fun h => by cases h⟩
  rw [hl] at hj
  rw [rb_cell h0 h1 h (o + j) (by omega)]
  unfold gt
  rw [List.getD_eq_getElem?_getD, List.getD_eq_getElem?_getD, List.getElem?_drop]
theorem row_u32 (X : World) (v : Int) : Row (X.alloc (.cells #[.int .u32 v] 26)) X.heap.size 26 ([v].map (Value.int .u32)) 1 := Bx.row (Bx.new X 26 #[.int .u32 v])
set_option maxRecDepth 100000 in
set_option maxHeartbeats 1000000 in
theorem storeReg_80 (E A : Nat) (q : Qn) (R : Nat → Int) (p : Psw) (c : Int) (g h n m : Nat) (bs ks : List UInt8) (w : World) (hx : Ex w E A q R p c) (hs : Sto w A g h n m bs ks) (hR : RegOk R) (hq : QOk q) (hop : q.op = 80) : Calls Tryz.prog 63 #[.pointer (some ⟨E, 0, none⟩)] w (StoPost w E A g h n m q R p c (if adT q R % 4 = 0 then codeV (stP p.k) n ks (adT q R : Int) ((4 : Nat) : Int) else 6) bs (if adT q R % 4 = 0 then putB (stP p.k) n bs ks (adT q R : Int) ((rb (R q.r1)).drop 0) else bs) ks) := by
  have hlt := adT_lt q R
  have c0 := hx.op
  rw [hop] at c0
  have ha0 := aligned4 E A q R p c w hx hR hq
  have HE := Lib.hid (fun X (hX : Below w.heap.size w X) => (show EG w E A g q R p c X.drew from ⟨(Kp.bel hX).trans (kp_drew X _), (hx.below hX).drew⟩))
  have HS := Lib.hid (fun X (hX : Below w.heap.size w X) => hs.below hX)
  have HR1 := Lib.hid hq.r1
  have hr1 : (q.r1 : Int) < 16 := by have := hq.r1; omega
  have hRr := hR q.r1
  have HP := Lib.hid (fun X v (hX : Ex X E A q R p c) (hS : Sto X A g h n m bs ks) (hv : SvB X v ((rb (R q.r1)).drop 0)) => put_raw E A q R p c g h n m bs ks (adT q R) v ((rb (R q.r1)).drop 0) _ X hX hS hv (by omega) rfl)
  have HNB := Lib.hid (fun (h0 : codeV (stP p.k) n ks (adT q R : Int) ((4 : Nat) : Int) ≠ 0) => putB_no (P := stP p.k) (n := n) (bs := bs) (ks := ks) (x := (adT q R : Int)) (b := ((rb (R q.r1)).drop 0)) h0)
  change Hid (∀ X v, Ex X E A q R p c → Sto X A g h n m bs ks → SvB X v ((rb (R q.r1)).drop 0) → Calls Tryz.prog 152 #[.pointer (some ⟨E, 0, none⟩), .int .i64 (adT q R : Int), v] X fun e w' => ((codeV (stP p.k) n ks (adT q R : Int) ((4 : Nat) : Int) = 0 ∧ e = .returned (.tuple #[])) ∨ (codeV (stP p.k) n ks (adT q R : Int) ((4 : Nat) : Int) ≠ 0 ∧ e = Stop (codeV (stP p.k) n ks (adT q R : Int) ((4 : Nat) : Int)))) ∧ Ex w' E A q R p c ∧ Sto w' A g h n m (putB (stP p.k) n bs ks (adT q R : Int) ((rb (R q.r1)).drop 0)) ks ∧ Kp X w' [g]) at HP
  generalize putB (stP p.k) n bs ks (adT q R : Int) ((rb (R q.r1)).drop 0) = bs' at HP HNB ⊢
  generalize codeV (stP p.k) n ks (adT q R : Int) ((4 : Nat) : Int) = C2 at HP HNB ⊢
  have HREG : Hid (∀ W, Ex W E A q R p c → W.cell? ⟨E, 12 + q.r1, none⟩ = some (.int .u32 (R q.r1))) := Lib.hid (fun W hW => hW.reg hq.r1)
  generalize R q.r1 = v at HP HREG hRr
  have HFU : Hid (∀ X : World, Calls Tryz.prog 153 #[.slice (some ⟨X.heap.size, 0, none⟩) 1 1] (X.alloc (.cells #[.int .u32 v] 26)) fun e w' => ∃ B, e = .returned (.slice (some ⟨B, 0, none⟩) 4 4) ∧ Below (X.alloc (.cells #[.int .u32 v] 26)).heap.size (X.alloc (.cells #[.int .u32 v] 26)) w' ∧ SvB w' (.slice (some ⟨B, 0, none⟩) 4 4) ((rb v).drop 0)) := Lib.hid (fun X => by
    refine (fullBytes_any [v] X.heap.size 1 1 (X.alloc (.cells #[.int .u32 v] 26)) (fun j => by
      match j with
      | 0 => exact hRr
      | j + 1 => exact ⟨Int.le_refl 0, by show (0 : Int) < 4294967296; decide⟩) (by decide) (by decide) rfl (row_u32 X v)).mono ?_
    rintro e w' ⟨B, rfl, _, hb, hc⟩
    exact ⟨B, rfl, hb, rb_svb hRr.1 hRr.2 hc 0 (by decide)⟩)
  by_cases ha : adT q R % 4 = 0
  · rw [if_pos ha] at ha0
    rw [if_pos ha, if_pos ha]
    have HA := Lib.hid ha0
    clear ha0 ha
    generalize adT q R = a at *
    clear hx hs hR hq hlt hop hRr
    go_enter Tryz.func63, Tryz.ntmps63
    go_wp2_with fail
    refine HA.out.mono ?_
    rintro e w1 ⟨hb, ⟨-, rfl⟩ | ⟨hn, -⟩⟩
    rotate_left
    · exact absurd rfl hn
    have HB := Lib.hid hb
    clear hb HA
    go_wp2_with fail
    refine wp_region_held_drew (S := EG w E A g q R p c) (by kernel_rfl) (HE.out _ HB.out) (fun k0 => ?_)
    show wpAnyH _ _ _ _ _ 18 #[false, false, false, false, false, false, false, false, false, false, false, false, false, false, false, false, false, false] _ _
    refine wpAnyH_take (i := 0) (oi := ⟨some 16, _, _, _, _, _⟩) (v := .pointer (some ⟨E, 0, none⟩)) rfl (by kernel_rfl) (by kernel_rfl) (by kernel_rfl) (fun _ _ _ h => h) (Or.inl ⟨by rfl, fun W hSw => by (try dsimp only at hSw); go_simp⟩) k0 ?_
    try simp only [Act.put, List.setIfInBounds_toArray, List.set_cons_zero, List.set_cons_succ]
    refine wpAnyH_take (i := 1) (oi := ⟨some 17, _, _, _, _, _⟩) (v := .int .i64 (a : Int)) rfl (by kernel_rfl) (by kernel_rfl) (by kernel_rfl) (fun _ _ _ h => h) (Or.inl ⟨by rfl, fun W hSw => by (try dsimp only at hSw); go_simp⟩) k0 ?_
    try simp only [Act.put, List.setIfInBounds_toArray, List.set_cons_zero, List.set_cons_succ]
    refine wpAnyH_take (i := 2) (oi := ⟨some 18, _, _, _, _, _⟩) (v := .pointer (some ⟨E, 0, none⟩)) rfl (by kernel_rfl) (by kernel_rfl) (by kernel_rfl) (fun _ _ _ h => h) (Or.inl ⟨by rfl, fun W hSw => by (try dsimp only at hSw); go_simp⟩) k0 ?_
    try simp only [Act.put, List.setIfInBounds_toArray, List.set_cons_zero, List.set_cons_succ]
    refine wpAnyH_take (i := 3) (oi := ⟨some 19, _, _, _, _, _⟩) (v := .pointer (some ⟨E, 0, none⟩)) rfl (by kernel_rfl) (by kernel_rfl) (by kernel_rfl) (fun _ _ _ h => h) (Or.inl ⟨by rfl, fun W hSw => by (try dsimp only at hSw); go_simp⟩) k0 ?_
    try simp only [Act.put, List.setIfInBounds_toArray, List.set_cons_zero, List.set_cons_succ]
    refine wpAnyH_take (i := 4) (oi := ⟨some 20, _, _, _, _, _⟩) (v := .pointer (some ⟨E, 0, none⟩)) rfl (by kernel_rfl) (by kernel_rfl) (by kernel_rfl) (fun _ _ _ h => h) (Or.inl ⟨by rfl, fun W hSw => by (try dsimp only at hSw); go_simp⟩) k0 ?_
    try simp only [Act.put, List.setIfInBounds_toArray, List.set_cons_zero, List.set_cons_succ]
    refine wpAnyH_take (i := 5) (oi := ⟨some 21, _, _, _, _, _⟩) (v := .pointer (some ⟨E, 0, none⟩)) rfl (by kernel_rfl) (by kernel_rfl) (by kernel_rfl) (fun _ _ _ h => h) (Or.inl ⟨by rfl, fun W hSw => by (try dsimp only at hSw); go_simp⟩) k0 ?_
    try simp only [Act.put, List.setIfInBounds_toArray, List.set_cons_zero, List.set_cons_succ]
    refine wpAnyH_take (i := 6) (oi := ⟨some 22, _, _, _, _, _⟩) (v := .pointer (some ⟨E, 2, none⟩)) rfl (by kernel_rfl) (by kernel_rfl) (by kernel_rfl) (fun _ _ _ h => h) (Or.inl ⟨by rfl, fun W hSw => by (try dsimp only at hSw); go_simp⟩) k0 ?_
    try simp only [Act.put, List.setIfInBounds_toArray, List.set_cons_zero, List.set_cons_succ]
    refine wpAnyH_take (i := 7) (oi := ⟨some 23, _, _, _, _, _⟩) (v := .int .i64 (q.r1 : Int)) rfl (by kernel_rfl) (by kernel_rfl) (by kernel_rfl) (fun _ _ _ h => h) (Or.inl ⟨by rfl, fun W hSw => by have cq := hSw.2.r1; clear hSw; go_simp⟩) k0 ?_
    try simp only [Act.put, List.setIfInBounds_toArray, List.set_cons_zero, List.set_cons_succ]
    refine wpAnyH_take (i := 8) (oi := ⟨some 24, _, _, _, _, _⟩) (v := .pointer (some ⟨E, 0, none⟩)) rfl (by kernel_rfl) (by kernel_rfl) (by kernel_rfl) (fun _ _ _ h => h) (Or.inl ⟨by rfl, fun W hSw => by (try dsimp only at hSw); go_simp⟩) k0 ?_
    try simp only [Act.put, List.setIfInBounds_toArray, List.set_cons_zero, List.set_cons_succ]
    refine wpAnyH_take (i := 9) (oi := ⟨some 25, _, _, _, _, _⟩) (v := .pointer (some ⟨E, 12, none⟩)) rfl (by kernel_rfl) (by kernel_rfl) (by kernel_rfl) (fun _ _ _ h => h) (Or.inl ⟨by rfl, fun W hSw => by (try dsimp only at hSw); go_simp⟩) k0 ?_
    try simp only [Act.put, List.setIfInBounds_toArray, List.set_cons_zero, List.set_cons_succ]
    refine wpAnyH_take (i := 10) (oi := ⟨some 26, _, _, _, _, _⟩) (v := .pointer (some ⟨E, 12 + q.r1, none⟩)) rfl (by kernel_rfl) (by kernel_rfl) (by kernel_rfl) (fun _ _ _ h => h) (Or.inl ⟨by rfl, fun W hSw => by clear hSw; go_simp⟩) k0 ?_
    try simp only [Act.put, List.setIfInBounds_toArray, List.set_cons_zero, List.set_cons_succ]
    refine wpAnyH_take (i := 11) (oi := ⟨some 27, _, _, _, _, _⟩) (v := .int .u32 v) rfl (by kernel_rfl) (by kernel_rfl) (by kernel_rfl) (fun _ _ _ h => h) (Or.inl ⟨by rfl, fun W hSw => by have cq := HREG.out W hSw.2; clear hSw; go_simp⟩) k0 ?_
    try simp only [Act.put, List.setIfInBounds_toArray, List.set_cons_zero, List.set_cons_succ]
    refine wpAnyH_take (i := 14) (oi := ⟨some 30, _, _, _, _, _⟩) (v := .int .i64 4) rfl (by kernel_rfl) (by kernel_rfl) (by kernel_rfl) (fun _ _ _ h => h) (Or.inl ⟨by rfl, fun W hSw => by (try dsimp only at hSw); go_simp⟩) k0 ?_
    try simp only [Act.put, List.setIfInBounds_toArray, List.set_cons_zero, List.set_cons_succ]
    refine wpAnyH_take (i := 15) (oi := ⟨some 31, _, _, _, _, _⟩) (v := .int .i64 0) rfl (by kernel_rfl) (by kernel_rfl) (by kernel_rfl) (fun _ _ _ h => h) (Or.inl ⟨by rfl, fun W hSw => by clear hSw; go_simp; rfl⟩) k0 ?_
    try simp only [Act.put, List.setIfInBounds_toArray, List.set_cons_zero, List.set_cons_succ]
    refine wpAnyH_ready (rs := [12]) (by kernel_rfl) (by simp) ?_
    refine AllReadyH.cons (o := ⟨some 28, _, _, _, _, _⟩) rfl (fun K hK => ?_) AllReadyH.nil
    go_simp
    have T1 := Lib.hid ((HS.out _ (bel0 HB.out (bel_drew w1))).below (below_new w1.drew (.cells #[.int .u32 v] 26)))
    refine hK.out _ _ (k0.next (below_new _ _)) (fun k1 => ?_)
    clear hK K
    try simp only [List.setIfInBounds_toArray, List.set_cons_zero, List.set_cons_succ]
    refine wpAnyH_ready (rs := [13]) (by kernel_rfl) (by simp) ?_
    refine AllReadyH.cons (o := ⟨some 29, _, _, _, _, _⟩) rfl (fun K hK => ?_) AllReadyH.nil
    go_simp
    go_at_call 153
    refine (HFU.out w1.drew).mono ?_
    rintro e x2 ⟨B, rfl, hb, hsv⟩
    have T2 := Lib.hid (T1.out.below hb)
    have V2 := Lib.hid hsv
    have k3 := k1.next hb
    clear hb hsv
    go_wp2_with fail
    refine hK.out _ _ k3 (fun k2 => ?_)
    clear k3
    clear hK K
    try simp only [List.setIfInBounds_toArray, List.set_cons_zero, List.set_cons_succ]
    refine wpAnyH_take (i := 16) (oi := ⟨some 32, _, _, _, _, _⟩) (v := .slice (some ⟨B, 0, none⟩) 4 4) rfl (by kernel_rfl) (by kernel_rfl) (by kernel_rfl) (fun _ _ _ h => h) (Or.inl ⟨by rfl, fun W hSw => by clear hSw; go_simp⟩) k2 ?_
    try simp only [Act.put, List.setIfInBounds_toArray, List.set_cons_zero, List.set_cons_succ]
    refine wpAnyH_ready (rs := [17]) (by kernel_rfl) (by simp) ?_
    refine AllReadyH.cons (o := ⟨some 33, _, _, _, _, _⟩) rfl (fun K hK => ?_) AllReadyH.nil
    go_simp
    go_at_call 152
    refine (HP.out _ _ k2.2 T2.out V2.out).mono ?_
    rintro e x3 ⟨⟨h0, rfl⟩ | ⟨hn, rfl⟩, hx3, hs3, hk3⟩
    rotate_left
    · have HN := Lib.hid hn
      have HS3 := Lib.hid hs3
      have HK3 := Lib.hid (k2.1.trans (Kp.more2 hk3))
      clear hn hx3 hs3 hk3 k0 k1 k2
      unfold Stop
      go_wp2
      exact ⟨rfl, .inr ⟨HN.out, rfl, by rw [← HNB.out HN.out]; exact HS3.out⟩, HK3.out⟩
    have H0 := Lib.hid h0
    have HS3 := Lib.hid hs3
    have k5 : EG w E A g q R p c x3 := ⟨k2.1.trans (Kp.more2 hk3), hx3⟩
    clear h0 hx3 hs3 hk3
    go_wp2_with fail
    refine hK.out _ _ k5 (fun k4 => ?_)
    clear k5
    clear hK K
    try simp only [List.setIfInBounds_toArray, List.set_cons_zero, List.set_cons_succ]
    refine wpAnyH_done (by kernel_rfl) ?_ _
    refine id ?_
    have X3 := Lib.hid k4
    clear k0 k1 k2 k4
    go_wp2
    go_end0
    exact ⟨.inl ⟨H0.out, rfl, HS3.out, X3.out.2⟩, X3.out.1⟩
  · rw [if_neg ha] at ha0
    rw [if_neg ha, if_neg ha]
    have HA := Lib.hid ha0
    clear ha0 ha
    generalize adT q R = a at *
    clear hx hR hq hlt hop hRr HP HNB HFU HREG
    go_enter Tryz.func63, Tryz.ntmps63
    go_wp2_with fail
    refine HA.out.mono ?_
    rintro e w1 ⟨hb, ⟨hn, -⟩ | ⟨-, rfl⟩⟩
    · exact absurd hn (by decide)
    have HB := Lib.hid hb
    clear hb HA
    unfold Stop
    go_wp2
    exact ⟨rfl, .inr ⟨by decide, rfl, HS.out _ HB.out⟩, Kp.bel HB.out⟩
set_option maxRecDepth 100000 in
set_option maxHeartbeats 1000000 in
theorem storeReg_64 (E A : Nat) (q : Qn) (R : Nat → Int) (p : Psw) (c : Int) (g h n m : Nat) (bs ks : List UInt8) (w : World) (hx : Ex w E A q R p c) (hs : Sto w A g h n m bs ks) (hR : RegOk R) (hq : QOk q) (hop : q.op = 64) : Calls Tryz.prog 63 #[.pointer (some ⟨E, 0, none⟩)] w (StoPost w E A g h n m q R p c (if adT q R % 2 = 0 then codeV (stP p.k) n ks (adT q R : Int) ((2 : Nat) : Int) else 6) bs (if adT q R % 2 = 0 then putB (stP p.k) n bs ks (adT q R : Int) ((rb (R q.r1)).drop 2) else bs) ks) := by
  have hlt := adT_lt q R
  have c0 := hx.op
  rw [hop] at c0
  have ha0 := aligned2 E A q R p c w hx hR hq
  have HE := Lib.hid (fun X (hX : Below w.heap.size w X) => (show EG w E A g q R p c X.drew from ⟨(Kp.bel hX).trans (kp_drew X _), (hx.below hX).drew⟩))
  have HS := Lib.hid (fun X (hX : Below w.heap.size w X) => hs.below hX)
  have HR1 := Lib.hid hq.r1
  have hr1 : (q.r1 : Int) < 16 := by have := hq.r1; omega
  have hRr := hR q.r1
  have HP := Lib.hid (fun X v (hX : Ex X E A q R p c) (hS : Sto X A g h n m bs ks) (hv : SvB X v ((rb (R q.r1)).drop 2)) => put_raw E A q R p c g h n m bs ks (adT q R) v ((rb (R q.r1)).drop 2) _ X hX hS hv (by omega) rfl)
  have HNB := Lib.hid (fun (h0 : codeV (stP p.k) n ks (adT q R : Int) ((2 : Nat) : Int) ≠ 0) => putB_no (P := stP p.k) (n := n) (bs := bs) (ks := ks) (x := (adT q R : Int)) (b := ((rb (R q.r1)).drop 2)) h0)
  change Hid (∀ X v, Ex X E A q R p c → Sto X A g h n m bs ks → SvB X v ((rb (R q.r1)).drop 2) → Calls Tryz.prog 152 #[.pointer (some ⟨E, 0, none⟩), .int .i64 (adT q R : Int), v] X fun e w' => ((codeV (stP p.k) n ks (adT q R : Int) ((2 : Nat) : Int) = 0 ∧ e = .returned (.tuple #[])) ∨ (codeV (stP p.k) n ks (adT q R : Int) ((2 : Nat) : Int) ≠ 0 ∧ e = Stop (codeV (stP p.k) n ks (adT q R : Int) ((2 : Nat) : Int)))) ∧ Ex w' E A q R p c ∧ Sto w' A g h n m (putB (stP p.k) n bs ks (adT q R : Int) ((rb (R q.r1)).drop 2)) ks ∧ Kp X w' [g]) at HP
  generalize putB (stP p.k) n bs ks (adT q R : Int) ((rb (R q.r1)).drop 2) = bs' at HP HNB ⊢
  generalize codeV (stP p.k) n ks (adT q R : Int) ((2 : Nat) : Int) = C2 at HP HNB ⊢
  have HREG : Hid (∀ W, Ex W E A q R p c → W.cell? ⟨E, 12 + q.r1, none⟩ = some (.int .u32 (R q.r1))) := Lib.hid (fun W hW => hW.reg hq.r1)
  generalize R q.r1 = v at HP HREG hRr
  have HFU : Hid (∀ X : World, Calls Tryz.prog 153 #[.slice (some ⟨X.heap.size, 0, none⟩) 1 1] (X.alloc (.cells #[.int .u32 v] 26)) fun e w' => ∃ B, e = .returned (.slice (some ⟨B, 0, none⟩) 4 4) ∧ Below (X.alloc (.cells #[.int .u32 v] 26)).heap.size (X.alloc (.cells #[.int .u32 v] 26)) w' ∧ SvB w' (.slice (some ⟨B, 2, none⟩) 2 2) ((rb v).drop 2)) := Lib.hid (fun X => by
    refine (fullBytes_any [v] X.heap.size 1 1 (X.alloc (.cells #[.int .u32 v] 26)) (fun j => by
      match j with
      | 0 => exact hRr
      | j + 1 => exact ⟨Int.le_refl 0, by show (0 : Int) < 4294967296; decide⟩) (by decide) (by decide) rfl (row_u32 X v)).mono ?_
    rintro e w' ⟨B, rfl, _, hb, hc⟩
    exact ⟨B, rfl, hb, rb_svb hRr.1 hRr.2 hc 2 (by decide)⟩)
  by_cases ha : adT q R % 2 = 0
  · rw [if_pos ha] at ha0
    rw [if_pos ha, if_pos ha]
    have HA := Lib.hid ha0
    clear ha0 ha
    generalize adT q R = a at *
    clear hx hs hR hq hlt hop hRr
    go_enter Tryz.func63, Tryz.ntmps63
    go_wp2_with fail
    refine HA.out.mono ?_
    rintro e w1 ⟨hb, ⟨-, rfl⟩ | ⟨hn, -⟩⟩
    rotate_left
    · exact absurd rfl hn
    have HB := Lib.hid hb
    clear hb HA
    go_wp2_with fail
    refine wp_region_held_drew (S := EG w E A g q R p c) (by kernel_rfl) (HE.out _ HB.out) (fun k0 => ?_)
    show wpAnyH _ _ _ _ _ 18 #[false, false, false, false, false, false, false, false, false, false, false, false, false, false, false, false, false, false] _ _
    refine wpAnyH_take (i := 0) (oi := ⟨some 16, _, _, _, _, _⟩) (v := .pointer (some ⟨E, 0, none⟩)) rfl (by kernel_rfl) (by kernel_rfl) (by kernel_rfl) (fun _ _ _ h => h) (Or.inl ⟨by rfl, fun W hSw => by (try dsimp only at hSw); go_simp⟩) k0 ?_
    try simp only [Act.put, List.setIfInBounds_toArray, List.set_cons_zero, List.set_cons_succ]
    refine wpAnyH_take (i := 1) (oi := ⟨some 17, _, _, _, _, _⟩) (v := .int .i64 (a : Int)) rfl (by kernel_rfl) (by kernel_rfl) (by kernel_rfl) (fun _ _ _ h => h) (Or.inl ⟨by rfl, fun W hSw => by (try dsimp only at hSw); go_simp⟩) k0 ?_
    try simp only [Act.put, List.setIfInBounds_toArray, List.set_cons_zero, List.set_cons_succ]
    refine wpAnyH_take (i := 2) (oi := ⟨some 18, _, _, _, _, _⟩) (v := .pointer (some ⟨E, 0, none⟩)) rfl (by kernel_rfl) (by kernel_rfl) (by kernel_rfl) (fun _ _ _ h => h) (Or.inl ⟨by rfl, fun W hSw => by (try dsimp only at hSw); go_simp⟩) k0 ?_
    try simp only [Act.put, List.setIfInBounds_toArray, List.set_cons_zero, List.set_cons_succ]
    refine wpAnyH_take (i := 3) (oi := ⟨some 19, _, _, _, _, _⟩) (v := .pointer (some ⟨E, 0, none⟩)) rfl (by kernel_rfl) (by kernel_rfl) (by kernel_rfl) (fun _ _ _ h => h) (Or.inl ⟨by rfl, fun W hSw => by (try dsimp only at hSw); go_simp⟩) k0 ?_
    try simp only [Act.put, List.setIfInBounds_toArray, List.set_cons_zero, List.set_cons_succ]
    refine wpAnyH_take (i := 4) (oi := ⟨some 20, _, _, _, _, _⟩) (v := .pointer (some ⟨E, 0, none⟩)) rfl (by kernel_rfl) (by kernel_rfl) (by kernel_rfl) (fun _ _ _ h => h) (Or.inl ⟨by rfl, fun W hSw => by (try dsimp only at hSw); go_simp⟩) k0 ?_
    try simp only [Act.put, List.setIfInBounds_toArray, List.set_cons_zero, List.set_cons_succ]
    refine wpAnyH_take (i := 5) (oi := ⟨some 21, _, _, _, _, _⟩) (v := .pointer (some ⟨E, 0, none⟩)) rfl (by kernel_rfl) (by kernel_rfl) (by kernel_rfl) (fun _ _ _ h => h) (Or.inl ⟨by rfl, fun W hSw => by (try dsimp only at hSw); go_simp⟩) k0 ?_
    try simp only [Act.put, List.setIfInBounds_toArray, List.set_cons_zero, List.set_cons_succ]
    refine wpAnyH_take (i := 6) (oi := ⟨some 22, _, _, _, _, _⟩) (v := .pointer (some ⟨E, 2, none⟩)) rfl (by kernel_rfl) (by kernel_rfl) (by kernel_rfl) (fun _ _ _ h => h) (Or.inl ⟨by rfl, fun W hSw => by (try dsimp only at hSw); go_simp⟩) k0 ?_
    try simp only [Act.put, List.setIfInBounds_toArray, List.set_cons_zero, List.set_cons_succ]
    refine wpAnyH_take (i := 7) (oi := ⟨some 23, _, _, _, _, _⟩) (v := .int .i64 (q.r1 : Int)) rfl (by kernel_rfl) (by kernel_rfl) (by kernel_rfl) (fun _ _ _ h => h) (Or.inl ⟨by rfl, fun W hSw => by have cq := hSw.2.r1; clear hSw; go_simp⟩) k0 ?_
    try simp only [Act.put, List.setIfInBounds_toArray, List.set_cons_zero, List.set_cons_succ]
    refine wpAnyH_take (i := 8) (oi := ⟨some 24, _, _, _, _, _⟩) (v := .pointer (some ⟨E, 0, none⟩)) rfl (by kernel_rfl) (by kernel_rfl) (by kernel_rfl) (fun _ _ _ h => h) (Or.inl ⟨by rfl, fun W hSw => by (try dsimp only at hSw); go_simp⟩) k0 ?_
    try simp only [Act.put, List.setIfInBounds_toArray, List.set_cons_zero, List.set_cons_succ]
    refine wpAnyH_take (i := 9) (oi := ⟨some 25, _, _, _, _, _⟩) (v := .pointer (some ⟨E, 12, none⟩)) rfl (by kernel_rfl) (by kernel_rfl) (by kernel_rfl) (fun _ _ _ h => h) (Or.inl ⟨by rfl, fun W hSw => by (try dsimp only at hSw); go_simp⟩) k0 ?_
    try simp only [Act.put, List.setIfInBounds_toArray, List.set_cons_zero, List.set_cons_succ]
    refine wpAnyH_take (i := 10) (oi := ⟨some 26, _, _, _, _, _⟩) (v := .pointer (some ⟨E, 12 + q.r1, none⟩)) rfl (by kernel_rfl) (by kernel_rfl) (by kernel_rfl) (fun _ _ _ h => h) (Or.inl ⟨by rfl, fun W hSw => by clear hSw; go_simp⟩) k0 ?_
    try simp only [Act.put, List.setIfInBounds_toArray, List.set_cons_zero, List.set_cons_succ]
    refine wpAnyH_take (i := 11) (oi := ⟨some 27, _, _, _, _, _⟩) (v := .int .u32 v) rfl (by kernel_rfl) (by kernel_rfl) (by kernel_rfl) (fun _ _ _ h => h) (Or.inl ⟨by rfl, fun W hSw => by have cq := HREG.out W hSw.2; clear hSw; go_simp⟩) k0 ?_
    try simp only [Act.put, List.setIfInBounds_toArray, List.set_cons_zero, List.set_cons_succ]
    refine wpAnyH_take (i := 14) (oi := ⟨some 30, _, _, _, _, _⟩) (v := .int .i64 2) rfl (by kernel_rfl) (by kernel_rfl) (by kernel_rfl) (fun _ _ _ h => h) (Or.inl ⟨by rfl, fun W hSw => by (try dsimp only at hSw); go_simp⟩) k0 ?_
    try simp only [Act.put, List.setIfInBounds_toArray, List.set_cons_zero, List.set_cons_succ]
    refine wpAnyH_take (i := 15) (oi := ⟨some 31, _, _, _, _, _⟩) (v := .int .i64 2) rfl (by kernel_rfl) (by kernel_rfl) (by kernel_rfl) (fun _ _ _ h => h) (Or.inl ⟨by rfl, fun W hSw => by clear hSw; go_simp; rfl⟩) k0 ?_
    try simp only [Act.put, List.setIfInBounds_toArray, List.set_cons_zero, List.set_cons_succ]
    refine wpAnyH_ready (rs := [12]) (by kernel_rfl) (by simp) ?_
    refine AllReadyH.cons (o := ⟨some 28, _, _, _, _, _⟩) rfl (fun K hK => ?_) AllReadyH.nil
    go_simp
    have T1 := Lib.hid ((HS.out _ (bel0 HB.out (bel_drew w1))).below (below_new w1.drew (.cells #[.int .u32 v] 26)))
    refine hK.out _ _ (k0.next (below_new _ _)) (fun k1 => ?_)
    clear hK K
    try simp only [List.setIfInBounds_toArray, List.set_cons_zero, List.set_cons_succ]
    refine wpAnyH_ready (rs := [13]) (by kernel_rfl) (by simp) ?_
    refine AllReadyH.cons (o := ⟨some 29, _, _, _, _, _⟩) rfl (fun K hK => ?_) AllReadyH.nil
    go_simp
    go_at_call 153
    refine (HFU.out w1.drew).mono ?_
    rintro e x2 ⟨B, rfl, hb, hsv⟩
    have T2 := Lib.hid (T1.out.below hb)
    have V2 := Lib.hid hsv
    have k3 := k1.next hb
    clear hb hsv
    go_wp2_with fail
    refine hK.out _ _ k3 (fun k2 => ?_)
    clear k3
    clear hK K
    try simp only [List.setIfInBounds_toArray, List.set_cons_zero, List.set_cons_succ]
    refine wpAnyH_take (i := 16) (oi := ⟨some 32, _, _, _, _, _⟩) (v := .slice (some ⟨B, 2, none⟩) 2 2) rfl (by kernel_rfl) (by kernel_rfl) (by kernel_rfl) (fun _ _ _ h => h) (Or.inl ⟨by rfl, fun W hSw => by clear hSw; go_simp⟩) k2 ?_
    try simp only [Act.put, List.setIfInBounds_toArray, List.set_cons_zero, List.set_cons_succ]
    refine wpAnyH_ready (rs := [17]) (by kernel_rfl) (by simp) ?_
    refine AllReadyH.cons (o := ⟨some 33, _, _, _, _, _⟩) rfl (fun K hK => ?_) AllReadyH.nil
    go_simp
    go_at_call 152
    refine (HP.out _ _ k2.2 T2.out V2.out).mono ?_
    rintro e x3 ⟨⟨h0, rfl⟩ | ⟨hn, rfl⟩, hx3, hs3, hk3⟩
    rotate_left
    · have HN := Lib.hid hn
      have HS3 := Lib.hid hs3
      have HK3 := Lib.hid (k2.1.trans (Kp.more2 hk3))
      clear hn hx3 hs3 hk3 k0 k1 k2
      unfold Stop
      go_wp2
      exact ⟨rfl, .inr ⟨HN.out, rfl, by rw [← HNB.out HN.out]; exact HS3.out⟩, HK3.out⟩
    have H0 := Lib.hid h0
    have HS3 := Lib.hid hs3
    have k5 : EG w E A g q R p c x3 := ⟨k2.1.trans (Kp.more2 hk3), hx3⟩
    clear h0 hx3 hs3 hk3
    go_wp2_with fail
    refine hK.out _ _ k5 (fun k4 => ?_)
    clear k5
    clear hK K
    try simp only [List.setIfInBounds_toArray, List.set_cons_zero, List.set_cons_succ]
    refine wpAnyH_done (by kernel_rfl) ?_ _
    refine id ?_
    have X3 := Lib.hid k4
    clear k0 k1 k2 k4
    go_wp2
    go_end0
    exact ⟨.inl ⟨H0.out, rfl, HS3.out, X3.out.2⟩, X3.out.1⟩
  · rw [if_neg ha] at ha0
    rw [if_neg ha, if_neg ha]
    have HA := Lib.hid ha0
    clear ha0 ha
    generalize adT q R = a at *
    clear hx hR hq hlt hop hRr HP HNB HFU HREG
    go_enter Tryz.func63, Tryz.ntmps63
    go_wp2_with fail
    refine HA.out.mono ?_
    rintro e w1 ⟨hb, ⟨hn, -⟩ | ⟨-, rfl⟩⟩
    · exact absurd hn (by decide)
    have HB := Lib.hid hb
    clear hb HA
    unfold Stop
    go_wp2
    exact ⟨rfl, .inr ⟨by decide, rfl, HS.out _ HB.out⟩, Kp.bel HB.out⟩
set_option maxRecDepth 100000 in
set_option maxHeartbeats 1000000 in
theorem storeReg_66 (E A : Nat) (q : Qn) (R : Nat → Int) (p : Psw) (c : Int) (g h n m : Nat) (bs ks : List UInt8) (w : World) (hx : Ex w E A q R p c) (hs : Sto w A g h n m bs ks) (hR : RegOk R) (hq : QOk q) (hop : q.op = 66) : Calls Tryz.prog 63 #[.pointer (some ⟨E, 0, none⟩)] w (StoPost w E A g h n m q R p c (if adT q R % 1 = 0 then codeV (stP p.k) n ks (adT q R : Int) ((1 : Nat) : Int) else 6) bs (if adT q R % 1 = 0 then putB (stP p.k) n bs ks (adT q R : Int) ((rb (R q.r1)).drop 3) else bs) ks) := by
  have hlt := adT_lt q R
  have c0 := hx.op
  rw [hop] at c0
  have ha0 := aligned1 E A q R p c w hx hR hq
  have HE := Lib.hid (fun X (hX : Below w.heap.size w X) => (show EG w E A g q R p c X.drew from ⟨(Kp.bel hX).trans (kp_drew X _), (hx.below hX).drew⟩))
  have HS := Lib.hid (fun X (hX : Below w.heap.size w X) => hs.below hX)
  have HR1 := Lib.hid hq.r1
  have hr1 : (q.r1 : Int) < 16 := by have := hq.r1; omega
  have hRr := hR q.r1
  have HP := Lib.hid (fun X v (hX : Ex X E A q R p c) (hS : Sto X A g h n m bs ks) (hv : SvB X v ((rb (R q.r1)).drop 3)) => put_raw E A q R p c g h n m bs ks (adT q R) v ((rb (R q.r1)).drop 3) _ X hX hS hv (by omega) rfl)
  have HNB := Lib.hid (fun (h0 : codeV (stP p.k) n ks (adT q R : Int) ((1 : Nat) : Int) ≠ 0) => putB_no (P := stP p.k) (n := n) (bs := bs) (ks := ks) (x := (adT q R : Int)) (b := ((rb (R q.r1)).drop 3)) h0)
  change Hid (∀ X v, Ex X E A q R p c → Sto X A g h n m bs ks → SvB X v ((rb (R q.r1)).drop 3) → Calls Tryz.prog 152 #[.pointer (some ⟨E, 0, none⟩), .int .i64 (adT q R : Int), v] X fun e w' => ((codeV (stP p.k) n ks (adT q R : Int) ((1 : Nat) : Int) = 0 ∧ e = .returned (.tuple #[])) ∨ (codeV (stP p.k) n ks (adT q R : Int) ((1 : Nat) : Int) ≠ 0 ∧ e = Stop (codeV (stP p.k) n ks (adT q R : Int) ((1 : Nat) : Int)))) ∧ Ex w' E A q R p c ∧ Sto w' A g h n m (putB (stP p.k) n bs ks (adT q R : Int) ((rb (R q.r1)).drop 3)) ks ∧ Kp X w' [g]) at HP
  generalize putB (stP p.k) n bs ks (adT q R : Int) ((rb (R q.r1)).drop 3) = bs' at HP HNB ⊢
  generalize codeV (stP p.k) n ks (adT q R : Int) ((1 : Nat) : Int) = C2 at HP HNB ⊢
  have HREG : Hid (∀ W, Ex W E A q R p c → W.cell? ⟨E, 12 + q.r1, none⟩ = some (.int .u32 (R q.r1))) := Lib.hid (fun W hW => hW.reg hq.r1)
  generalize R q.r1 = v at HP HREG hRr
  have HFU : Hid (∀ X : World, Calls Tryz.prog 153 #[.slice (some ⟨X.heap.size, 0, none⟩) 1 1] (X.alloc (.cells #[.int .u32 v] 26)) fun e w' => ∃ B, e = .returned (.slice (some ⟨B, 0, none⟩) 4 4) ∧ Below (X.alloc (.cells #[.int .u32 v] 26)).heap.size (X.alloc (.cells #[.int .u32 v] 26)) w' ∧ SvB w' (.slice (some ⟨B, 3, none⟩) 1 1) ((rb v).drop 3)) := Lib.hid (fun X => by
    refine (fullBytes_any [v] X.heap.size 1 1 (X.alloc (.cells #[.int .u32 v] 26)) (fun j => by
      match j with
      | 0 => exact hRr
      | j + 1 => exact ⟨Int.le_refl 0, by show (0 : Int) < 4294967296; decide⟩) (by decide) (by decide) rfl (row_u32 X v)).mono ?_
    rintro e w' ⟨B, rfl, _, hb, hc⟩
    exact ⟨B, rfl, hb, rb_svb hRr.1 hRr.2 hc 3 (by decide)⟩)
  by_cases ha : adT q R % 1 = 0
  · rw [if_pos ha] at ha0
    rw [if_pos ha, if_pos ha]
    have HA := Lib.hid ha0
    clear ha0 ha
    generalize adT q R = a at *
    clear hx hs hR hq hlt hop hRr
    go_enter Tryz.func63, Tryz.ntmps63
    go_wp2_with fail
    refine HA.out.mono ?_
    rintro e w1 ⟨hb, ⟨-, rfl⟩ | ⟨hn, -⟩⟩
    rotate_left
    · exact absurd rfl hn
    have HB := Lib.hid hb
    clear hb HA
    go_wp2_with fail
    refine wp_region_held_drew (S := EG w E A g q R p c) (by kernel_rfl) (HE.out _ HB.out) (fun k0 => ?_)
    show wpAnyH _ _ _ _ _ 18 #[false, false, false, false, false, false, false, false, false, false, false, false, false, false, false, false, false, false] _ _
    refine wpAnyH_take (i := 0) (oi := ⟨some 16, _, _, _, _, _⟩) (v := .pointer (some ⟨E, 0, none⟩)) rfl (by kernel_rfl) (by kernel_rfl) (by kernel_rfl) (fun _ _ _ h => h) (Or.inl ⟨by rfl, fun W hSw => by (try dsimp only at hSw); go_simp⟩) k0 ?_
    try simp only [Act.put, List.setIfInBounds_toArray, List.set_cons_zero, List.set_cons_succ]
    refine wpAnyH_take (i := 1) (oi := ⟨some 17, _, _, _, _, _⟩) (v := .int .i64 (a : Int)) rfl (by kernel_rfl) (by kernel_rfl) (by kernel_rfl) (fun _ _ _ h => h) (Or.inl ⟨by rfl, fun W hSw => by (try dsimp only at hSw); go_simp⟩) k0 ?_
    try simp only [Act.put, List.setIfInBounds_toArray, List.set_cons_zero, List.set_cons_succ]
    refine wpAnyH_take (i := 2) (oi := ⟨some 18, _, _, _, _, _⟩) (v := .pointer (some ⟨E, 0, none⟩)) rfl (by kernel_rfl) (by kernel_rfl) (by kernel_rfl) (fun _ _ _ h => h) (Or.inl ⟨by rfl, fun W hSw => by (try dsimp only at hSw); go_simp⟩) k0 ?_
    try simp only [Act.put, List.setIfInBounds_toArray, List.set_cons_zero, List.set_cons_succ]
    refine wpAnyH_take (i := 3) (oi := ⟨some 19, _, _, _, _, _⟩) (v := .pointer (some ⟨E, 0, none⟩)) rfl (by kernel_rfl) (by kernel_rfl) (by kernel_rfl) (fun _ _ _ h => h) (Or.inl ⟨by rfl, fun W hSw => by (try dsimp only at hSw); go_simp⟩) k0 ?_
    try simp only [Act.put, List.setIfInBounds_toArray, List.set_cons_zero, List.set_cons_succ]
    refine wpAnyH_take (i := 4) (oi := ⟨some 20, _, _, _, _, _⟩) (v := .pointer (some ⟨E, 0, none⟩)) rfl (by kernel_rfl) (by kernel_rfl) (by kernel_rfl) (fun _ _ _ h => h) (Or.inl ⟨by rfl, fun W hSw => by (try dsimp only at hSw); go_simp⟩) k0 ?_
    try simp only [Act.put, List.setIfInBounds_toArray, List.set_cons_zero, List.set_cons_succ]
    refine wpAnyH_take (i := 5) (oi := ⟨some 21, _, _, _, _, _⟩) (v := .pointer (some ⟨E, 0, none⟩)) rfl (by kernel_rfl) (by kernel_rfl) (by kernel_rfl) (fun _ _ _ h => h) (Or.inl ⟨by rfl, fun W hSw => by (try dsimp only at hSw); go_simp⟩) k0 ?_
    try simp only [Act.put, List.setIfInBounds_toArray, List.set_cons_zero, List.set_cons_succ]
    refine wpAnyH_take (i := 6) (oi := ⟨some 22, _, _, _, _, _⟩) (v := .pointer (some ⟨E, 2, none⟩)) rfl (by kernel_rfl) (by kernel_rfl) (by kernel_rfl) (fun _ _ _ h => h) (Or.inl ⟨by rfl, fun W hSw => by (try dsimp only at hSw); go_simp⟩) k0 ?_
    try simp only [Act.put, List.setIfInBounds_toArray, List.set_cons_zero, List.set_cons_succ]
    refine wpAnyH_take (i := 7) (oi := ⟨some 23, _, _, _, _, _⟩) (v := .int .i64 (q.r1 : Int)) rfl (by kernel_rfl) (by kernel_rfl) (by kernel_rfl) (fun _ _ _ h => h) (Or.inl ⟨by rfl, fun W hSw => by have cq := hSw.2.r1; clear hSw; go_simp⟩) k0 ?_
    try simp only [Act.put, List.setIfInBounds_toArray, List.set_cons_zero, List.set_cons_succ]
    refine wpAnyH_take (i := 8) (oi := ⟨some 24, _, _, _, _, _⟩) (v := .pointer (some ⟨E, 0, none⟩)) rfl (by kernel_rfl) (by kernel_rfl) (by kernel_rfl) (fun _ _ _ h => h) (Or.inl ⟨by rfl, fun W hSw => by (try dsimp only at hSw); go_simp⟩) k0 ?_
    try simp only [Act.put, List.setIfInBounds_toArray, List.set_cons_zero, List.set_cons_succ]
    refine wpAnyH_take (i := 9) (oi := ⟨some 25, _, _, _, _, _⟩) (v := .pointer (some ⟨E, 12, none⟩)) rfl (by kernel_rfl) (by kernel_rfl) (by kernel_rfl) (fun _ _ _ h => h) (Or.inl ⟨by rfl, fun W hSw => by (try dsimp only at hSw); go_simp⟩) k0 ?_
    try simp only [Act.put, List.setIfInBounds_toArray, List.set_cons_zero, List.set_cons_succ]
    refine wpAnyH_take (i := 10) (oi := ⟨some 26, _, _, _, _, _⟩) (v := .pointer (some ⟨E, 12 + q.r1, none⟩)) rfl (by kernel_rfl) (by kernel_rfl) (by kernel_rfl) (fun _ _ _ h => h) (Or.inl ⟨by rfl, fun W hSw => by clear hSw; go_simp⟩) k0 ?_
    try simp only [Act.put, List.setIfInBounds_toArray, List.set_cons_zero, List.set_cons_succ]
    refine wpAnyH_take (i := 11) (oi := ⟨some 27, _, _, _, _, _⟩) (v := .int .u32 v) rfl (by kernel_rfl) (by kernel_rfl) (by kernel_rfl) (fun _ _ _ h => h) (Or.inl ⟨by rfl, fun W hSw => by have cq := HREG.out W hSw.2; clear hSw; go_simp⟩) k0 ?_
    try simp only [Act.put, List.setIfInBounds_toArray, List.set_cons_zero, List.set_cons_succ]
    refine wpAnyH_take (i := 14) (oi := ⟨some 30, _, _, _, _, _⟩) (v := .int .i64 1) rfl (by kernel_rfl) (by kernel_rfl) (by kernel_rfl) (fun _ _ _ h => h) (Or.inl ⟨by rfl, fun W hSw => by (try dsimp only at hSw); go_simp⟩) k0 ?_
    try simp only [Act.put, List.setIfInBounds_toArray, List.set_cons_zero, List.set_cons_succ]
    refine wpAnyH_take (i := 15) (oi := ⟨some 31, _, _, _, _, _⟩) (v := .int .i64 3) rfl (by kernel_rfl) (by kernel_rfl) (by kernel_rfl) (fun _ _ _ h => h) (Or.inl ⟨by rfl, fun W hSw => by clear hSw; go_simp; rfl⟩) k0 ?_
    try simp only [Act.put, List.setIfInBounds_toArray, List.set_cons_zero, List.set_cons_succ]
    refine wpAnyH_ready (rs := [12]) (by kernel_rfl) (by simp) ?_
    refine AllReadyH.cons (o := ⟨some 28, _, _, _, _, _⟩) rfl (fun K hK => ?_) AllReadyH.nil
    go_simp
    have T1 := Lib.hid ((HS.out _ (bel0 HB.out (bel_drew w1))).below (below_new w1.drew (.cells #[.int .u32 v] 26)))
    refine hK.out _ _ (k0.next (below_new _ _)) (fun k1 => ?_)
    clear hK K
    try simp only [List.setIfInBounds_toArray, List.set_cons_zero, List.set_cons_succ]
    refine wpAnyH_ready (rs := [13]) (by kernel_rfl) (by simp) ?_
    refine AllReadyH.cons (o := ⟨some 29, _, _, _, _, _⟩) rfl (fun K hK => ?_) AllReadyH.nil
    go_simp
    go_at_call 153
    refine (HFU.out w1.drew).mono ?_
    rintro e x2 ⟨B, rfl, hb, hsv⟩
    have T2 := Lib.hid (T1.out.below hb)
    have V2 := Lib.hid hsv
    have k3 := k1.next hb
    clear hb hsv
    go_wp2_with fail
    refine hK.out _ _ k3 (fun k2 => ?_)
    clear k3
    clear hK K
    try simp only [List.setIfInBounds_toArray, List.set_cons_zero, List.set_cons_succ]
    refine wpAnyH_take (i := 16) (oi := ⟨some 32, _, _, _, _, _⟩) (v := .slice (some ⟨B, 3, none⟩) 1 1) rfl (by kernel_rfl) (by kernel_rfl) (by kernel_rfl) (fun _ _ _ h => h) (Or.inl ⟨by rfl, fun W hSw => by clear hSw; go_simp⟩) k2 ?_
    try simp only [Act.put, List.setIfInBounds_toArray, List.set_cons_zero, List.set_cons_succ]
    refine wpAnyH_ready (rs := [17]) (by kernel_rfl) (by simp) ?_
    refine AllReadyH.cons (o := ⟨some 33, _, _, _, _, _⟩) rfl (fun K hK => ?_) AllReadyH.nil
    go_simp
    go_at_call 152
    refine (HP.out _ _ k2.2 T2.out V2.out).mono ?_
    rintro e x3 ⟨⟨h0, rfl⟩ | ⟨hn, rfl⟩, hx3, hs3, hk3⟩
    rotate_left
    · have HN := Lib.hid hn
      have HS3 := Lib.hid hs3
      have HK3 := Lib.hid (k2.1.trans (Kp.more2 hk3))
      clear hn hx3 hs3 hk3 k0 k1 k2
      unfold Stop
      go_wp2
      exact ⟨rfl, .inr ⟨HN.out, rfl, by rw [← HNB.out HN.out]; exact HS3.out⟩, HK3.out⟩
    have H0 := Lib.hid h0
    have HS3 := Lib.hid hs3
    have k5 : EG w E A g q R p c x3 := ⟨k2.1.trans (Kp.more2 hk3), hx3⟩
    clear h0 hx3 hs3 hk3
    go_wp2_with fail
    refine hK.out _ _ k5 (fun k4 => ?_)
    clear k5
    clear hK K
    try simp only [List.setIfInBounds_toArray, List.set_cons_zero, List.set_cons_succ]
    refine wpAnyH_done (by kernel_rfl) ?_ _
    refine id ?_
    have X3 := Lib.hid k4
    clear k0 k1 k2 k4
    go_wp2
    go_end0
    exact ⟨.inl ⟨H0.out, rfl, HS3.out, X3.out.2⟩, X3.out.1⟩
  · rw [if_neg ha] at ha0
    rw [if_neg ha, if_neg ha]
    have HA := Lib.hid ha0
    clear ha0 ha
    generalize adT q R = a at *
    clear hx hR hq hlt hop hRr HP HNB HFU HREG
    go_enter Tryz.func63, Tryz.ntmps63
    go_wp2_with fail
    refine HA.out.mono ?_
    rintro e w1 ⟨hb, ⟨hn, -⟩ | ⟨-, rfl⟩⟩
    · exact absurd hn (by decide)
    have HB := Lib.hid hb
    clear hb HA
    unfold Stop
    go_wp2
    exact ⟨rfl, .inr ⟨by decide, rfl, HS.out _ HB.out⟩, Kp.bel HB.out⟩

end M
end Go.Proofs.YtfopjnfphlkcgaaGreat

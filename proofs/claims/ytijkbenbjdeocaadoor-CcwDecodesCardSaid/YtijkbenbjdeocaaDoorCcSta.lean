/- Encoding of status words and of address words. -/
import Derived.Test.YtijkbenbjdeocaaDoorCcEnc
namespace Go.Proofs.YtijkbenbjdeocaaDoor
open Go.RowKit
set_option linter.unusedVariables false
namespace E

/-- What is kept beside a boxed status word. -/
structure Cx (w : World) (E : Nat) (S : Cs) (W : World) : Prop where
  bel : Below w.heap.size w W
  box : Bx W E 36 #[.int .i64 S.k, .int .i64 S.a, .int .i64 S.u, .int .i64 S.c, .int .i64 S.n]
theorem Cx.next {w W W' : World} {E : Nat} {S : Cs} (h : Cx w E S W) (hb : Below W.heap.size W W') : Cx w E S W' := ⟨bel0 h.bel hb, h.box.below hb⟩
theorem Cx.c0 {w W : World} {E : Nat} {S : Cs} (h : Cx w E S W) : W.cell? ⟨E, 0, none⟩ = some (.int .i64 S.k) := h.box.cell 0
theorem Cx.c1 {w W : World} {E : Nat} {S : Cs} (h : Cx w E S W) : W.cell? ⟨E, 1, none⟩ = some (.int .i64 S.a) := h.box.cell 1
theorem Cx.c2 {w W : World} {E : Nat} {S : Cs} (h : Cx w E S W) : W.cell? ⟨E, 2, none⟩ = some (.int .i64 S.u) := h.box.cell 2
theorem Cx.c3 {w W : World} {E : Nat} {S : Cs} (h : Cx w E S W) : W.cell? ⟨E, 3, none⟩ = some (.int .i64 S.c) := h.box.cell 3
theorem Cx.c4 {w W : World} {E : Nat} {S : Cs} (h : Cx w E S W) : W.cell? ⟨E, 4, none⟩ = some (.int .i64 S.n) := h.box.cell 4
set_option maxRecDepth 100000 in
set_option maxHeartbeats 1000000 in
theorem encodeCsw_any (S : Cs) (w : World) : Calls Tryd.prog 21 #[S.v] w fun e w' => ∃ sv, e = .returned (.tuple #[sv, .int .i64 (encSC S)]) ∧ SvB w' sv (encSS S) ∧ Below w.heap.size w w' := by
  have HC : Hid (encSC S = if rngS S = true then 0 else 6) := Lib.hid rfl
  have HR : Hid (rngS S = (inr S.k 15 && (inr S.a 16777215 && ((inr S.u 255 && inr S.c 255) && inr S.n 65535)))) := Lib.hid rfl
  have HS : Hid (encSC S ≠ 0 → encSS S = []) := Lib.hid (fun h => if_neg (fun h2 => h (if_pos h2)))
  have HL : Hid (rngS S = true → encSS S = w4 (S.k * 16) S.a ++ w4 S.u (S.c * 65536 + S.n)) := Lib.hid (fun h => if_pos h)
  unfold Cs.v
  obtain ⟨bk, hk⟩ : ∃ b, inr S.k 15 = b := ⟨_, rfl⟩
  obtain ⟨ba, ha⟩ : ∃ b, inr S.a 16777215 = b := ⟨_, rfl⟩
  obtain ⟨bu, hu⟩ : ∃ b, (inr S.u 255 && inr S.c 255) = b := ⟨_, rfl⟩
  obtain ⟨bn, hn⟩ : ∃ b, inr S.n 65535 = b := ⟨_, rfl⟩
  have U0 := Lib.hid (fun B W h => upTo1 15 S.k B W h)
  have U1 := Lib.hid (fun B W h => upTo1 16777215 S.a B W h)
  have U2 := Lib.hid (fun B W h h2 => upTo2 255 S.u S.c B W h h2)
  have U3 := Lib.hid (fun B W h => upTo1 65535 S.n B W h)
  rw [hk] at U0 HR
  rw [ha] at U1 HR
  rw [hu] at U2 HR
  rw [hn] at U3 HR
  have HN6 : Hid ((bk && (ba && (bu && bn))) = false → encSC S = 6) := Lib.hid (fun h => by rw [HC.out, HR.out, h, if_neg (by decide)])
  clear hk ha hu hn
  go_enter Tryd.func21, Tryd.ntmps21
  go_wp2_with fail
  refine (U0.out _ _ (by
    have h := bx1 (w.alloc (.cells #[.int .i64 S.k, .int .i64 S.a, .int .i64 S.u, .int .i64 S.c, .int .i64 S.n] 36)) 3 (.int .i64 S.k)
    rw [World.size_alloc] at h
    exact h)).mono ?_
  rintro e w2 ⟨rfl, rfl⟩
  obtain ⟨W1, hW1⟩ : ∃ W1, W1 = (w.alloc (.cells #[.int .i64 S.k, .int .i64 S.a, .int .i64 S.u, .int .i64 S.c, .int .i64 S.n] 36)).alloc (.cells #[.int .i64 S.k] 3) := ⟨_, rfl⟩
  have hk1 : Cx w w.heap.size S W1 := by subst hW1; exact ⟨below2 _ _ _, (Bx.new w 36 #[.int .i64 S.k, .int .i64 S.a, .int .i64 S.u, .int .i64 S.c, .int .i64 S.n]).below (below_new _ _)⟩
  rw [← hW1]
  clear hW1
  have K1 := Lib.hid hk1
  clear hk1
  generalize hE : w.heap.size = E at K1 ⊢
  clear hE
  cases bk with
  | false =>
    go_wp2
    go_ret2
    exact ⟨.slice none 0 0, ret_sv (HN6.out rfl).symm, by rw [HS.out (by rw [HN6.out rfl]; decide)]; exact SvB.nil _, K1.out.bel⟩
  | true =>
  have c1 := K1.out.c1
  go_wp2_with fail
  refine (U1.out _ _ (bx1 _ _ _)).mono ?_
  rintro e w2 ⟨rfl, rfl⟩
  clear c1
  obtain ⟨W2, hW⟩ : ∃ W2, W2 = W1.alloc (.cells #[.int .i64 S.a] 3) := ⟨_, rfl⟩
  have K2 : Hid (Cx w E S W2) := Lib.hid (by subst hW; exact K1.out.next (below_new _ _))
  rw [← hW]
  clear hW K1
  cases ba with
  | false =>
    go_wp2
    go_ret2
    exact ⟨.slice none 0 0, ret_sv (HN6.out rfl).symm, by rw [HS.out (by rw [HN6.out rfl]; decide)]; exact SvB.nil _, K2.out.bel⟩
  | true =>
  have c2 := K2.out.c2
  have c3 := K2.out.c3
  go_wp2_with fail
  refine (U2.out _ _ (bx2 _ _ _ _).1 (bx2 _ _ _ _).2).mono ?_
  rintro e w2 ⟨rfl, rfl⟩
  clear c2 c3
  obtain ⟨W3, hW⟩ : ∃ W3, W3 = W2.alloc (.cells #[.int .i64 S.u, .int .i64 S.c] 3) := ⟨_, rfl⟩
  have K3 : Hid (Cx w E S W3) := Lib.hid (by subst hW; exact K2.out.next (below_new _ _))
  rw [← hW]
  clear hW K2
  cases bu with
  | false =>
    go_wp2
    go_ret2
    exact ⟨.slice none 0 0, ret_sv (HN6.out rfl).symm, by rw [HS.out (by rw [HN6.out rfl]; decide)]; exact SvB.nil _, K3.out.bel⟩
  | true =>
  have c4 := K3.out.c4
  go_wp2_with fail
  refine (U3.out _ _ (bx1 _ _ _)).mono ?_
  rintro e w2 ⟨rfl, rfl⟩
  clear c4
  obtain ⟨W4, hW⟩ : ∃ W4, W4 = W3.alloc (.cells #[.int .i64 S.n] 3) := ⟨_, rfl⟩
  have K4 : Hid (Cx w E S W4) := Lib.hid (by subst hW; exact K3.out.next (below_new _ _))
  rw [← hW]
  clear hW K3
  cases bn with
  | false =>
    go_wp2
    go_ret2
    exact ⟨.slice none 0 0, ret_sv (HN6.out rfl).symm, by rw [HS.out (by rw [HN6.out rfl]; decide)]; exact SvB.nil _, K4.out.bel⟩
  | true =>
  have HE : Hid (encSC S = 0) := Lib.hid (by rw [HC.out, HR.out]; rfl)
  have hrb : rngS S = true := HR.out
  unfold rngS at hrb
  simp only [Bool.and_eq_true, inr_iff] at hrb
  have HP1 := Lib.hid (fun W => pack_any (S.k * 16) S.a W (by omega) (by omega))
  have HP2 := Lib.hid (fun W => pack_any S.u (S.c * 65536 + S.n) W (by omega) (by omega))
  have HJ := Lib.hid (fun W : World => join2_any (S.k * 16) S.a S.u (S.c * 65536 + S.n) W.heap.size (W.alloc (.cells #[.int .u32 (S.k * 16 * 16777216 + S.a), .int .u32 (S.u * 16777216 + (S.c * 65536 + S.n))] 48)) (by omega) (by omega) (by omega) (by omega) (bx2 _ _ _ _))
  have HM1 : Hid (IntKind.i64.wrap (S.k * 16) = S.k * 16) := Lib.hid (wrap_i64s (by omega) (by omega))
  have HM2 : Hid (IntKind.i64.wrap (S.c * 65536) = S.c * 65536) := Lib.hid (wrap_i64s (by omega) (by omega))
  have HM3 : Hid (bits .or .i64 (S.c * 65536) S.n = S.c * 65536 + S.n) := Lib.hid (or16 (by omega) (by omega) (by omega) (by omega))
  have H0 : Hid (Cx w E S W4.drew) := Lib.hid (K4.out.next (bel_drew _))
  clear hrb U0 U1 U2 U3 K4 HC HS HN6
  go_wp2_with fail
  refine wp_region_held_drew (S := Cx w E S) (by kernel_rfl) H0.out (fun k0 => ?_)
  show wpAnyH _ _ _ _ _ 19 #[false, false, false, false, false, false, false, false, false, false, false, false, false, false, false, false, false, false, false] _ _
  refine wpAnyH_take (i := 0) (oi := { dst := some 32, op := Go.Op.fieldAddr 36 (Go.Operand.tmp 1) 0, type := 0, pos := "ccw.go:159", after := #[], guard := none }) (v := .pointer (some ⟨E, 0, none⟩)) rfl (by kernel_rfl) (by kernel_rfl) (by kernel_rfl) (fun _ _ _ h => h) (Or.inl ⟨by rfl, fun W hSw => by (try dsimp only at hSw); go_simp⟩) k0 ?_
  try simp only [Act.put, List.setIfInBounds_toArray, List.set_cons_zero, List.set_cons_succ]
  refine wpAnyH_take (i := 1) (oi := { dst := some 33, op := Go.Op.load 3 (Go.Operand.tmp 32), type := 3, pos := "ccw.go:159", after := #[{ on := 0, ground := Go.Ground.data }], guard := none }) (v := .int .i64 S.k) rfl (by kernel_rfl) (by kernel_rfl) (by kernel_rfl) (fun _ _ _ h => h) (Or.inl ⟨by rfl, fun W hSw => by have cq := hSw.c0; clear hSw; go_simp⟩) k0 ?_
  try simp only [Act.put, List.setIfInBounds_toArray, List.set_cons_zero, List.set_cons_succ]
  refine wpAnyH_take (i := 2) (oi := { dst := some 34, op := Go.Op.binOp Go.BinOp.shl 3 (Go.Operand.tmp 33) (Go.Operand.const (Go.Value.int Go.IntKind.u64 4)) 57, type := 3, pos := "ccw.go:159", after := #[{ on := 1, ground := Go.Ground.data }], guard := none }) (v := .int .i64 (S.k * 16)) rfl (by kernel_rfl) (by kernel_rfl) (by kernel_rfl) (fun _ _ _ h => h) (Or.inl ⟨by rfl, fun W hSw => by clear hSw; go_simp; exact HM1.out⟩) k0 ?_
  try simp only [Act.put, List.setIfInBounds_toArray, List.set_cons_zero, List.set_cons_succ]
  refine wpAnyH_take (i := 3) (oi := { dst := some 35, op := Go.Op.fieldAddr 36 (Go.Operand.tmp 1) 1, type := 0, pos := "ccw.go:159", after := #[], guard := none }) (v := .pointer (some ⟨E, 1, none⟩)) rfl (by kernel_rfl) (by kernel_rfl) (by kernel_rfl) (fun _ _ _ h => h) (Or.inl ⟨by rfl, fun W hSw => by (try dsimp only at hSw); go_simp⟩) k0 ?_
  try simp only [Act.put, List.setIfInBounds_toArray, List.set_cons_zero, List.set_cons_succ]
  refine wpAnyH_take (i := 4) (oi := { dst := some 36, op := Go.Op.load 3 (Go.Operand.tmp 35), type := 3, pos := "ccw.go:159", after := #[{ on := 3, ground := Go.Ground.data }], guard := none }) (v := .int .i64 S.a) rfl (by kernel_rfl) (by kernel_rfl) (by kernel_rfl) (fun _ _ _ h => h) (Or.inl ⟨by rfl, fun W hSw => by have cq := hSw.c1; clear hSw; go_simp⟩) k0 ?_
  try simp only [Act.put, List.setIfInBounds_toArray, List.set_cons_zero, List.set_cons_succ]
  refine wpAnyH_take (i := 6) (oi := { dst := some 38, op := Go.Op.fieldAddr 36 (Go.Operand.tmp 1) 2, type := 0, pos := "ccw.go:159", after := #[], guard := none }) (v := .pointer (some ⟨E, 2, none⟩)) rfl (by kernel_rfl) (by kernel_rfl) (by kernel_rfl) (fun _ _ _ h => h) (Or.inl ⟨by rfl, fun W hSw => by (try dsimp only at hSw); go_simp⟩) k0 ?_
  try simp only [Act.put, List.setIfInBounds_toArray, List.set_cons_zero, List.set_cons_succ]
  refine wpAnyH_take (i := 7) (oi := { dst := some 39, op := Go.Op.load 3 (Go.Operand.tmp 38), type := 3, pos := "ccw.go:159", after := #[{ on := 6, ground := Go.Ground.data }], guard := none }) (v := .int .i64 S.u) rfl (by kernel_rfl) (by kernel_rfl) (by kernel_rfl) (fun _ _ _ h => h) (Or.inl ⟨by rfl, fun W hSw => by have cq := hSw.c2; clear hSw; go_simp⟩) k0 ?_
  try simp only [Act.put, List.setIfInBounds_toArray, List.set_cons_zero, List.set_cons_succ]
  refine wpAnyH_take (i := 8) (oi := { dst := some 40, op := Go.Op.fieldAddr 36 (Go.Operand.tmp 1) 3, type := 0, pos := "ccw.go:159", after := #[], guard := none }) (v := .pointer (some ⟨E, 3, none⟩)) rfl (by kernel_rfl) (by kernel_rfl) (by kernel_rfl) (fun _ _ _ h => h) (Or.inl ⟨by rfl, fun W hSw => by (try dsimp only at hSw); go_simp⟩) k0 ?_
  try simp only [Act.put, List.setIfInBounds_toArray, List.set_cons_zero, List.set_cons_succ]
  refine wpAnyH_take (i := 9) (oi := { dst := some 41, op := Go.Op.load 3 (Go.Operand.tmp 40), type := 3, pos := "ccw.go:159", after := #[{ on := 8, ground := Go.Ground.data }], guard := none }) (v := .int .i64 S.c) rfl (by kernel_rfl) (by kernel_rfl) (by kernel_rfl) (fun _ _ _ h => h) (Or.inl ⟨by rfl, fun W hSw => by have cq := hSw.c3; clear hSw; go_simp⟩) k0 ?_
  try simp only [Act.put, List.setIfInBounds_toArray, List.set_cons_zero, List.set_cons_succ]
  refine wpAnyH_take (i := 10) (oi := { dst := some 42, op := Go.Op.binOp Go.BinOp.shl 3 (Go.Operand.tmp 41) (Go.Operand.const (Go.Value.int Go.IntKind.u64 16)) 57, type := 3, pos := "ccw.go:159", after := #[{ on := 9, ground := Go.Ground.data }], guard := none }) (v := .int .i64 (S.c * 65536)) rfl (by kernel_rfl) (by kernel_rfl) (by kernel_rfl) (fun _ _ _ h => h) (Or.inl ⟨by rfl, fun W hSw => by clear hSw; go_simp; exact HM2.out⟩) k0 ?_
  try simp only [Act.put, List.setIfInBounds_toArray, List.set_cons_zero, List.set_cons_succ]
  refine wpAnyH_take (i := 11) (oi := { dst := some 43, op := Go.Op.fieldAddr 36 (Go.Operand.tmp 1) 4, type := 0, pos := "ccw.go:159", after := #[], guard := none }) (v := .pointer (some ⟨E, 4, none⟩)) rfl (by kernel_rfl) (by kernel_rfl) (by kernel_rfl) (fun _ _ _ h => h) (Or.inl ⟨by rfl, fun W hSw => by (try dsimp only at hSw); go_simp⟩) k0 ?_
  try simp only [Act.put, List.setIfInBounds_toArray, List.set_cons_zero, List.set_cons_succ]
  refine wpAnyH_take (i := 12) (oi := { dst := some 44, op := Go.Op.load 3 (Go.Operand.tmp 43), type := 3, pos := "ccw.go:159", after := #[{ on := 11, ground := Go.Ground.data }], guard := none }) (v := .int .i64 S.n) rfl (by kernel_rfl) (by kernel_rfl) (by kernel_rfl) (fun _ _ _ h => h) (Or.inl ⟨by rfl, fun W hSw => by have cq := hSw.c4; clear hSw; go_simp⟩) k0 ?_
  try simp only [Act.put, List.setIfInBounds_toArray, List.set_cons_zero, List.set_cons_succ]
  refine wpAnyH_take (i := 13) (oi := { dst := some 45, op := Go.Op.binOp Go.BinOp.or 3 (Go.Operand.tmp 42) (Go.Operand.tmp 44) 3, type := 3, pos := "ccw.go:159", after := #[{ on := 10, ground := Go.Ground.data }, { on := 12, ground := Go.Ground.data }], guard := none }) (v := .int .i64 (S.c * 65536 + S.n)) rfl (by kernel_rfl) (by kernel_rfl) (by kernel_rfl) (fun _ _ _ h => h) (Or.inl ⟨by rfl, fun W hSw => by clear hSw; go_simp; exact HM3.out⟩) k0 ?_
  try simp only [Act.put, List.setIfInBounds_toArray, List.set_cons_zero, List.set_cons_succ]
  refine wpAnyH_ready (rs := [5]) (by kernel_rfl) (by simp) ?_
  refine AllReadyH.cons (o := { dst := some 37, op := Go.Op.call { callee := Go.Callee.value (Go.Operand.func 28), args := #[Go.Operand.tmp 34, Go.Operand.tmp 36], argTypes := #[3, 3] }, type := 48, pos := "ccw.go:159", after := #[{ on := 2, ground := Go.Ground.data }, { on := 4, ground := Go.Ground.data }], guard := none }) rfl (fun K hK => ?_) AllReadyH.nil
  go_simp
  go_at_call 28
  refine (HP1.out _).mono ?_
  rintro e x9 ⟨rfl, rfl⟩
  go_wp2_with fail
  refine hK.out _ _ k0 (fun k1 => ?_)
  clear hK K
  try simp only [List.setIfInBounds_toArray, List.set_cons_zero, List.set_cons_succ]
  refine wpAnyH_ready (rs := [14]) (by kernel_rfl) (by simp) ?_
  refine AllReadyH.cons (o := { dst := some 46, op := Go.Op.call { callee := Go.Callee.value (Go.Operand.func 28), args := #[Go.Operand.tmp 39, Go.Operand.tmp 45], argTypes := #[3, 3] }, type := 48, pos := "ccw.go:159", after := #[{ on := 7, ground := Go.Ground.data }, { on := 13, ground := Go.Ground.data }, { on := 5, ground := Go.Ground.chain }], guard := none }) rfl (fun K hK => ?_) AllReadyH.nil
  go_simp
  go_at_call 28
  refine (HP2.out _).mono ?_
  rintro e x9 ⟨rfl, rfl⟩
  go_wp2_with fail
  refine hK.out _ _ k1 (fun k2 => ?_)
  clear hK K
  try simp only [List.setIfInBounds_toArray, List.set_cons_zero, List.set_cons_succ]
  refine wpAnyH_ready (rs := [15]) (by kernel_rfl) (by simp) ?_
  refine AllReadyH.cons (o := { dst := some 47, op := Go.Op.buildSlice 59 2 #[(0, Go.Operand.tmp 37), (1, Go.Operand.tmp 46)], type := 59, pos := "ccw.go:159", after := #[{ on := 5, ground := Go.Ground.data }, { on := 14, ground := Go.Ground.data }], guard := none }) rfl (fun K hK => ?_) AllReadyH.nil
  go_simp
  refine hK.out _ _ (k2.next (below_new _ _)) (fun k3 => ?_)
  clear hK K
  try simp only [List.setIfInBounds_toArray, List.set_cons_zero, List.set_cons_succ]
  refine wpAnyH_ready (rs := [16]) (by kernel_rfl) (by simp) ?_
  refine AllReadyH.cons (o := { dst := some 48, op := Go.Op.call { callee := Go.Callee.value (Go.Operand.func 27), args := #[Go.Operand.tmp 47], argTypes := #[59] }, type := 27, pos := "ccw.go:159", after := #[{ on := 15, ground := Go.Ground.data }, { on := 14, ground := Go.Ground.chain }], guard := none }) rfl (fun K hK => ?_) AllReadyH.nil
  go_simp
  go_at_call 27
  refine (HJ.out W4.drew).mono ?_
  rintro e x2 ⟨sv, rfl, hsv, hb⟩
  have k9 := k3.next hb
  have HSV := Lib.hid hsv
  clear hb hsv
  go_wp2_with fail
  refine hK.out _ _ k9 (fun k4 => ?_)
  clear k9
  clear hK K
  try simp only [List.setIfInBounds_toArray, List.set_cons_zero, List.set_cons_succ]
  refine wpAnyH_take (i := 17) (oi := { dst := some 2, op := Go.Op.assign (Go.Operand.tmp 48), type := 27, pos := "ccw.go:159", after := #[{ on := 16, ground := Go.Ground.data }, { on := 16, ground := Go.Ground.chain }, { on := 0, ground := Go.Ground.phase }, { on := 1, ground := Go.Ground.phase }, { on := 2, ground := Go.Ground.phase }, { on := 3, ground := Go.Ground.phase }, { on := 4, ground := Go.Ground.phase }, { on := 5, ground := Go.Ground.phase }, { on := 6, ground := Go.Ground.phase }, { on := 7, ground := Go.Ground.phase }, { on := 8, ground := Go.Ground.phase }, { on := 9, ground := Go.Ground.phase }, { on := 10, ground := Go.Ground.phase }, { on := 11, ground := Go.Ground.phase }, { on := 12, ground := Go.Ground.phase }, { on := 13, ground := Go.Ground.phase }, { on := 14, ground := Go.Ground.phase }, { on := 15, ground := Go.Ground.phase }, { on := 16, ground := Go.Ground.phase }], guard := none }) (v := sv) rfl (by kernel_rfl) (by kernel_rfl) (by kernel_rfl) (fun _ _ _ h => h) (Or.inl ⟨by rfl, fun W hSw => by (try dsimp only at hSw); go_simp⟩) k4 ?_
  try simp only [Act.put, List.setIfInBounds_toArray, List.set_cons_zero, List.set_cons_succ]
  refine wpAnyH_take (i := 18) (oi := { dst := some 3, op := Go.Op.assign (Go.Operand.const (Go.Value.int Go.IntKind.i64 0)), type := 28, pos := "ccw.go:159", after := #[{ on := 17, ground := Go.Ground.chain }, { on := 0, ground := Go.Ground.phase }, { on := 1, ground := Go.Ground.phase }, { on := 2, ground := Go.Ground.phase }, { on := 3, ground := Go.Ground.phase }, { on := 4, ground := Go.Ground.phase }, { on := 5, ground := Go.Ground.phase }, { on := 6, ground := Go.Ground.phase }, { on := 7, ground := Go.Ground.phase }, { on := 8, ground := Go.Ground.phase }, { on := 9, ground := Go.Ground.phase }, { on := 10, ground := Go.Ground.phase }, { on := 11, ground := Go.Ground.phase }, { on := 12, ground := Go.Ground.phase }, { on := 13, ground := Go.Ground.phase }, { on := 14, ground := Go.Ground.phase }, { on := 15, ground := Go.Ground.phase }, { on := 16, ground := Go.Ground.phase }, { on := 17, ground := Go.Ground.phase }], guard := none }) (v := .int .i64 0) rfl (by kernel_rfl) (by kernel_rfl) (by kernel_rfl) (fun _ _ _ h => h) (Or.inl ⟨by rfl, fun W hSw => by (try dsimp only at hSw); go_simp⟩) k4 ?_
  try simp only [Act.put, List.setIfInBounds_toArray, List.set_cons_zero, List.set_cons_succ]
  refine wpAnyH_done (by kernel_rfl) ?_ _
  refine id ?_
  go_wp2
  go_ret2
  exact ⟨sv, ret_sv HE.out.symm, by rw [HL.out HR.out]; exact HSV.out, k4.bel⟩
theorem tm8 (a : Int) : (a.tmod 8 != 0) = (a % 8 != 0) := by
  have h := Int.tmod_eq_emod (a := a) (b := 8)
  rw [Bool.eq_iff_iff]
  simp only [bne_iff_ne, ne_eq]
  split at h <;> omega
set_option maxRecDepth 100000 in
set_option maxHeartbeats 1000000 in
theorem encodeCaw_any (k a : Int) (w : World) : Calls Tryd.prog 23 #[.int .i64 k, .int .i64 a] w fun e w' => ∃ sv, e = .returned (.tuple #[sv, .int .i64 (cawC k a)]) ∧ SvB w' sv (cawL k a) ∧ Below w.heap.size w w' := by
  have HC : Hid (cawC k a = if inr k 15 = true ∧ inr a 16777215 = true then (if a % 8 = 0 then 0 else 1) else 6) := Lib.hid rfl
  have HS : Hid (cawC k a ≠ 0 → cawL k a = []) := Lib.hid (fun h => if_neg h)
  have HL : Hid (cawC k a = 0 → cawL k a = w4 (k * 16) a) := Lib.hid (fun h => if_pos h)
  obtain ⟨bk, hk⟩ : ∃ b, inr k 15 = b := ⟨_, rfl⟩
  obtain ⟨ba, ha⟩ : ∃ b, inr a 16777215 = b := ⟨_, rfl⟩
  have U0 := Lib.hid (fun B W h => upTo1 15 k B W h)
  have U1 := Lib.hid (fun B W h => upTo1 16777215 a B W h)
  rw [hk] at U0 HC
  rw [ha] at U1 HC
  have HI : Hid (bk = true → ba = true → (0 ≤ k ∧ k ≤ 15) ∧ (0 ≤ a ∧ a ≤ 16777215)) := Lib.hid (fun h1 h2 => ⟨inr_iff.1 (hk.trans h1), inr_iff.1 (ha.trans h2)⟩)
  clear hk ha
  go_enter Tryd.func23, Tryd.ntmps23
  go_wp2_with fail
  refine (U0.out _ _ (bx1 _ _ _)).mono ?_
  rintro e w2 ⟨rfl, rfl⟩
  obtain ⟨W1, hW1⟩ : ∃ W1, W1 = w.alloc (.cells #[.int .i64 k] 3) := ⟨_, rfl⟩
  have K1 : Hid (Below w.heap.size w W1) := Lib.hid (by subst hW1; exact below_new _ _)
  rw [← hW1]
  clear hW1
  cases bk with
  | false =>
    have HE : Hid (cawC k a = 6) := Lib.hid (by rw [HC.out, if_neg (by simp)])
    go_wp2
    go_ret2
    exact ⟨.slice none 0 0, ret_sv HE.out.symm, by rw [HS.out (by rw [HE.out]; decide)]; exact SvB.nil _, K1.out⟩
  | true =>
  go_wp2_with fail
  refine (U1.out _ _ (bx1 _ _ _)).mono ?_
  rintro e w2 ⟨rfl, rfl⟩
  obtain ⟨W2, hW2⟩ : ∃ W2, W2 = W1.alloc (.cells #[.int .i64 a] 3) := ⟨_, rfl⟩
  have K2 : Hid (Below w.heap.size w W2) := Lib.hid (by subst hW2; exact bel0 K1.out (below_new _ _))
  rw [← hW2]
  clear hW2 K1
  cases ba with
  | false =>
    have HE : Hid (cawC k a = 6) := Lib.hid (by rw [HC.out, if_neg (by simp)])
    go_wp2
    go_ret2
    exact ⟨.slice none 0 0, ret_sv HE.out.symm, by rw [HS.out (by rw [HE.out]; decide)]; exact SvB.nil _, K2.out⟩
  | true =>
  have H8 := tm8 a
  have HY : Hid (cawC k a = if a % 8 = 0 then 0 else 1) := Lib.hid (by rw [HC.out, if_pos (by decide)])
  by_cases h8 : a % 8 = 0
  · have hz : a.tmod 8 = 0 := by
      rw [Bool.eq_iff_iff] at H8
      simp only [bne_iff_ne, ne_eq] at H8
      omega
    have HE : Hid (cawC k a = 0) := Lib.hid (by rw [HY.out, if_pos h8])
    obtain ⟨i1, i2⟩ := HI.out (by trivial) (by trivial)
    have HP := Lib.hid (fun W => pack_any (k * 16) a W (by omega) (by omega))
    have HJ := Lib.hid (fun W : World => join1_any (k * 16) a W.heap.size (W.alloc (.cells #[.int .u32 (k * 16 * 16777216 + a)] 48)) (by omega) (by omega) (bx1 _ _ _))
    have HM : wrap64 (k * 16) = k * 16 := W.wrap64_id (by omega) (by omega)
    clear H8 h8 i1 i2 HC HY HI HS U0 U1
    go_wp2_with fail
    refine (HP.out _).mono ?_
    rintro e w3 ⟨rfl, rfl⟩
    go_wp2_with fail
    refine (HJ.out _).mono ?_
    rintro e w3 ⟨sv, rfl, hsv, hb⟩
    have HSV := Lib.hid hsv
    have K3 := Lib.hid (bel0 (bel0 K2.out (below_new _ _)) hb)
    clear hsv hb
    go_wp2
    go_ret2
    exact ⟨sv, ret_sv HE.out.symm, by rw [HL.out HE.out]; exact HSV.out, K3.out⟩
  · have hz : ¬ a.tmod 8 = 0 := by
      rw [Bool.eq_iff_iff] at H8
      simp only [bne_iff_ne, ne_eq] at H8
      omega
    have HE : Hid (cawC k a = 1) := Lib.hid (by rw [HY.out, if_neg h8])
    clear H8 h8
    go_wp2
    go_ret2
    exact ⟨.slice none 0 0, ret_sv HE.out.symm, by rw [HS.out (by rw [HE.out]; decide)]; exact SvB.nil _, K2.out⟩
end E
end Go.Proofs.YtijkbenbjdeocaaDoor

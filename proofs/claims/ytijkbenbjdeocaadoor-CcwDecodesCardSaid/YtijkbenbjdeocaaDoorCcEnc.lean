/- Encoding: command words, status words, address words. -/
import Derived.Test.YtijkbenbjdeocaaDoorCcFlag
import Derived.Test.YtijkbenbjdeocaaDoorCcJoin
import Derived.Deep.RegionHeld
namespace Go.Proofs.YtijkbenbjdeocaaDoor
open Go.RowKit
set_option linter.unusedVariables false
namespace E

theorem ret_sv {v : Value} {a b : Int} (h : a = b) : Ending.returned (.tuple #[v, .int .i64 a]) = .returned (.tuple #[v, .int .i64 b]) := by rw [h]
/-- What is kept beside a boxed command word. -/
structure Ck (w : World) (E : Nat) (Q : Cw) (W : World) : Prop where
  bel : Below w.heap.size w W
  box : Bx W E 26 #[.int .i64 Q.o, .int .i64 Q.a, .bool Q.cd, .bool Q.cc, .bool Q.sl, .bool Q.sk, .bool Q.pc, .int .i64 Q.n]
  fb : Fb W
theorem Ck.next {w W W' : World} {E : Nat} {Q : Cw} (h : Ck w E Q W) (hb : Below W.heap.size W W') : Ck w E Q W' := ⟨bel0 h.bel hb, h.box.below hb, h.fb.below hb⟩
theorem Ck.c0 {w W : World} {E : Nat} {Q : Cw} (h : Ck w E Q W) : W.cell? ⟨E, 0, none⟩ = some (.int .i64 Q.o) := h.box.cell 0
theorem Ck.c1 {w W : World} {E : Nat} {Q : Cw} (h : Ck w E Q W) : W.cell? ⟨E, 1, none⟩ = some (.int .i64 Q.a) := h.box.cell 1
theorem Ck.c2 {w W : World} {E : Nat} {Q : Cw} (h : Ck w E Q W) : W.cell? ⟨E, 2, none⟩ = some (.bool Q.cd) := h.box.cell 2
theorem Ck.c3 {w W : World} {E : Nat} {Q : Cw} (h : Ck w E Q W) : W.cell? ⟨E, 3, none⟩ = some (.bool Q.cc) := h.box.cell 3
theorem Ck.c4 {w W : World} {E : Nat} {Q : Cw} (h : Ck w E Q W) : W.cell? ⟨E, 4, none⟩ = some (.bool Q.sl) := h.box.cell 4
theorem Ck.c5 {w W : World} {E : Nat} {Q : Cw} (h : Ck w E Q W) : W.cell? ⟨E, 5, none⟩ = some (.bool Q.sk) := h.box.cell 5
theorem Ck.c6 {w W : World} {E : Nat} {Q : Cw} (h : Ck w E Q W) : W.cell? ⟨E, 6, none⟩ = some (.bool Q.pc) := h.box.cell 6
theorem Ck.c7 {w W : World} {E : Nat} {Q : Cw} (h : Ck w E Q W) : W.cell? ⟨E, 7, none⟩ = some (.int .i64 Q.n) := h.box.cell 7
set_option maxRecDepth 100000 in
theorem allowed_any (Q : Cw) (w : World) (hf : Fb w) : Calls Tryd.prog 26 #[Q.v] w (New w (.bool (alwB (dirI Q.o) (flI Q) Q.n))) := by
  have HD := Lib.hid (fun W => dir_any Q.o W)
  have HFl := Lib.hid (fun W (h : Fb W) => flagByte_any Q W h)
  have HB := Lib.hid (below_new w (.cells #[.int .i64 Q.o, .int .i64 Q.a, .bool Q.cd, .bool Q.cc, .bool Q.sl, .bool Q.sk, .bool Q.pc, .int .i64 Q.n] 26))
  have HX := Lib.hid (Bx.new w 26 #[.int .i64 Q.o, .int .i64 Q.a, .bool Q.cd, .bool Q.cc, .bool Q.sl, .bool Q.sk, .bool Q.pc, .int .i64 Q.n])
  have HF := Lib.hid hf
  clear hf
  unfold Cw.v at *
  generalize dirI Q.o = d at *
  generalize flI Q = f at *
  go_enter Tryd.func26, Tryd.ntmps26
  go_wp2_with fail
  refine (HD.out _).mono ?_
  rintro e w2 ⟨rfl, hb⟩
  have HX2 := Lib.hid (HX.out.below hb)
  have HB2 := Lib.hid (bel0 HB.out hb)
  have HF2 := Lib.hid (HF.out.below HB2.out)
  clear hb HX HB HF HD
  generalize w.heap.size = E at HX2 ⊢
  by_cases h0 : d = 0
  · subst h0
    go_wp2
    go_ret
    exact ⟨rfl, HB2.out⟩
  · have e0 := HX2.out.cell 0
    have e1 := HX2.out.cell 1
    have e2 := HX2.out.cell 2
    have e3 := HX2.out.cell 3
    have e4 := HX2.out.cell 4
    have e5 := HX2.out.cell 5
    have e6 := HX2.out.cell 6
    have e7 := HX2.out.cell 7
    change _ = some (Value.int .i64 Q.o) at e0
    change _ = some (Value.int .i64 Q.a) at e1
    change _ = some (Value.bool Q.cd) at e2
    change _ = some (Value.bool Q.cc) at e3
    change _ = some (Value.bool Q.sl) at e4
    change _ = some (Value.bool Q.sk) at e5
    change _ = some (Value.bool Q.pc) at e6
    change _ = some (Value.int .i64 Q.n) at e7
    by_cases h6 : d = 6
    · subst h6
      go_wp2_with fail
      refine (HFl.out _ HF2.out).mono ?_
      rintro e w3 ⟨rfl, hb⟩
      have HB3 := Lib.hid (bel0 HB2.out hb)
      have g7 := (HX2.out.below hb).cell 7
      change _ = some (Value.int .i64 Q.n) at g7
      clear hb e0 e1 e2 e3 e4 e5 e6 e7
      by_cases hf0 : f = 0
      · subst hf0
        go_wp2
        go_ret
        exact ⟨ret_bool (by simp [alwB]), HB3.out⟩
      · go_wp2
        go_ret
        exact ⟨ret_bool (by simp [alwB, hf0]), HB3.out⟩
    · go_wp2
      go_ret
      exact ⟨ret_bool (by simp [alwB, h0, h6]), HB2.out⟩
set_option maxRecDepth 100000 in
set_option maxHeartbeats 1000000 in
theorem encode_any (Q : Cw) (w : World) (hf : Fb w) : Calls Tryd.prog 12 #[Q.v] w fun e w' => ∃ sv, e = .returned (.tuple #[sv, .int .i64 (encC Q)]) ∧ SvB w' sv (encS Q) ∧ Below w.heap.size w w' := by
  have HA := Lib.hid (fun W (h : Fb W) => allowed_any Q W h)
  have HFl := Lib.hid (fun W (h : Fb W) => flagByte_any Q W h)
  have HF := Lib.hid hf
  have HC : Hid (encC Q = if rngB Q = true then (if alwB (dirI Q.o) (flI Q) Q.n = true then 0 else 1) else 6) := Lib.hid rfl
  have HR : Hid (rngB Q = (inr Q.o 255 && (inr Q.a 16777215 && inr Q.n 65535))) := Lib.hid rfl
  have HS : Hid (encC Q ≠ 0 → encS Q = []) := Lib.hid (fun h => if_neg h)
  clear hf
  unfold Cw.v at *
  obtain ⟨bo, ho⟩ : ∃ b, inr Q.o 255 = b := ⟨_, rfl⟩
  obtain ⟨ba, ha⟩ : ∃ b, inr Q.a 16777215 = b := ⟨_, rfl⟩
  obtain ⟨bn, hn⟩ : ∃ b, inr Q.n 65535 = b := ⟨_, rfl⟩
  have U0 := Lib.hid (fun B W h => upTo1 255 Q.o B W h)
  have U1 := Lib.hid (fun B W h => upTo1 16777215 Q.a B W h)
  have U2 := Lib.hid (fun B W h => upTo1 65535 Q.n B W h)
  rw [ho] at U0 HR
  rw [ha] at U1 HR
  rw [hn] at U2 HR
  clear ho ha hn
  go_enter Tryd.func12, Tryd.ntmps12
  go_wp2_with fail
  refine (U0.out _ _ (by
    have h := bx1 (w.alloc (.cells #[.int .i64 Q.o, .int .i64 Q.a, .bool Q.cd, .bool Q.cc, .bool Q.sl, .bool Q.sk, .bool Q.pc, .int .i64 Q.n] 26)) 3 (.int .i64 Q.o)
    rw [World.size_alloc] at h
    exact h)).mono ?_
  rintro e w2 ⟨rfl, rfl⟩
  obtain ⟨W1, hW1⟩ : ∃ W1, W1 = (w.alloc (.cells #[.int .i64 Q.o, .int .i64 Q.a, .bool Q.cd, .bool Q.cc, .bool Q.sl, .bool Q.sk, .bool Q.pc, .int .i64 Q.n] 26)).alloc (.cells #[.int .i64 Q.o] 3) := ⟨_, rfl⟩
  have hb1 : Below w.heap.size w W1 := by subst hW1; exact below2 _ _ _
  have hx1 : Bx W1 w.heap.size 26 #[.int .i64 Q.o, .int .i64 Q.a, .bool Q.cd, .bool Q.cc, .bool Q.sl, .bool Q.sk, .bool Q.pc, .int .i64 Q.n] := by subst hW1; exact (Bx.new w 26 #[.int .i64 Q.o, .int .i64 Q.a, .bool Q.cd, .bool Q.cc, .bool Q.sl, .bool Q.sk, .bool Q.pc, .int .i64 Q.n]).below (below_new _ _)
  rw [← hW1]
  clear hW1
  have HB1 := Lib.hid hb1
  have HX1 := Lib.hid hx1
  clear hb1 hx1
  generalize w.heap.size = E at HX1 ⊢
  have HN6 : Hid ((bo && (ba && bn)) = false → encC Q = 6) := Lib.hid (fun h => by rw [HC.out, HR.out, h, if_neg (by decide)])
  cases bo with
  | false =>
    go_wp2
    go_ret2
    exact ⟨.slice none 0 0, ret_sv (HN6.out rfl).symm, by rw [HS.out (by rw [HN6.out rfl]; decide)]; exact SvB.nil _, HB1.out⟩
  | true =>
  have c1 := HX1.out.cell 1
  change _ = some (Value.int .i64 Q.a) at c1
  go_wp2_with fail
  refine (U1.out _ _ (bx1 _ _ _)).mono ?_
  rintro e w2 ⟨rfl, rfl⟩
  clear c1
  obtain ⟨W2, hW⟩ : ∃ W2, W2 = W1.alloc (.cells #[.int .i64 Q.a] 3) := ⟨_, rfl⟩
  have HB2 : Hid (Below w.heap.size w W2) := Lib.hid (by subst hW; exact bel0 HB1.out (below_new _ _))
  have HX2 : Hid (Bx W2 E 26 #[.int .i64 Q.o, .int .i64 Q.a, .bool Q.cd, .bool Q.cc, .bool Q.sl, .bool Q.sk, .bool Q.pc, .int .i64 Q.n]) := Lib.hid (by subst hW; exact HX1.out.below (below_new _ _))
  rw [← hW]
  clear hW HB1 HX1
  cases ba with
  | false =>
    go_wp2
    go_ret2
    exact ⟨.slice none 0 0, ret_sv (HN6.out rfl).symm, by rw [HS.out (by rw [HN6.out rfl]; decide)]; exact SvB.nil _, HB2.out⟩
  | true =>
  have c7 := HX2.out.cell 7
  change _ = some (Value.int .i64 Q.n) at c7
  go_wp2_with fail
  refine (U2.out _ _ (bx1 _ _ _)).mono ?_
  rintro e w2 ⟨rfl, rfl⟩
  clear c7
  obtain ⟨W3, hW⟩ : ∃ W3, W3 = W2.alloc (.cells #[.int .i64 Q.n] 3) := ⟨_, rfl⟩
  have HB3 : Hid (Below w.heap.size w W3) := Lib.hid (by subst hW; exact bel0 HB2.out (below_new _ _))
  have HX3 : Hid (Bx W3 E 26 #[.int .i64 Q.o, .int .i64 Q.a, .bool Q.cd, .bool Q.cc, .bool Q.sl, .bool Q.sk, .bool Q.pc, .int .i64 Q.n]) := Lib.hid (by subst hW; exact HX2.out.below (below_new _ _))
  rw [← hW]
  clear hW HB2 HX2
  cases bn with
  | false =>
    go_wp2
    go_ret2
    exact ⟨.slice none 0 0, ret_sv (HN6.out rfl).symm, by rw [HS.out (by rw [HN6.out rfl]; decide)]; exact SvB.nil _, HB3.out⟩
  | true =>
  have c0 := HX3.out.cell 0
  change _ = some (Value.int .i64 Q.o) at c0
  have c1 := HX3.out.cell 1
  change _ = some (Value.int .i64 Q.a) at c1
  have c2 := HX3.out.cell 2
  change _ = some (Value.bool Q.cd) at c2
  have c3 := HX3.out.cell 3
  change _ = some (Value.bool Q.cc) at c3
  have c4 := HX3.out.cell 4
  change _ = some (Value.bool Q.sl) at c4
  have c5 := HX3.out.cell 5
  change _ = some (Value.bool Q.sk) at c5
  have c6 := HX3.out.cell 6
  change _ = some (Value.bool Q.pc) at c6
  have c7 := HX3.out.cell 7
  change _ = some (Value.int .i64 Q.n) at c7
  have HY : Hid (encC Q = if alwB (dirI Q.o) (flI Q) Q.n = true then 0 else 1) := Lib.hid (by rw [HC.out, HR.out]; rfl)
  go_wp2_with fail
  refine (HA.out _ (HF.out.below HB3.out)).mono ?_
  rintro e W4 ⟨rfl, hb⟩
  have HB4 := Lib.hid (bel0 HB3.out hb)
  have HX4 := Lib.hid (HX3.out.below hb)
  have HF4 := Lib.hid (HF.out.below HB4.out)
  clear hb HB3 HX3 HF c0 c1 c2 c3 c4 c5 c6 c7
  generalize alwB (dirI Q.o) (flI Q) Q.n = al at *
  cases al with
  | false =>
    have HE : Hid (encC Q = 1) := Lib.hid HY.out
    go_wp2
    go_ret2
    exact ⟨.slice none 0 0, ret_sv HE.out.symm, by rw [HS.out (by rw [HE.out]; decide)]; exact SvB.nil _, HB4.out⟩
  | true =>
    have HE : Hid (encC Q = 0) := Lib.hid HY.out
    have HL : Hid (encS Q = w4 Q.o Q.a ++ w4 (flI Q) Q.n) := Lib.hid (if_pos HE.out)
    clear HS HN6 HC HA
    have hrb : rngB Q = true := HR.out
    unfold rngB at hrb
    simp only [Bool.and_eq_true, inr_iff] at hrb
    have hfb := flI_bd Q
    have HP1 := Lib.hid (fun W => pack_any Q.o Q.a W (by omega) (by omega))
    have HP2 := Lib.hid (fun W => pack_any (flI Q) Q.n W (by omega) (by omega))
    have HJ := Lib.hid (fun W : World => join2_any Q.o Q.a (flI Q) Q.n W.heap.size (W.alloc (.cells #[.int .u32 (Q.o * 16777216 + Q.a), .int .u32 (flI Q * 16777216 + Q.n)] 48)) (by omega) (by omega) (by omega) (by omega) (bx2 _ _ _ _))
    have H0 : Hid (Ck w E Q W4.drew) := Lib.hid ((Ck.mk HB4.out HX4.out HF4.out).next (bel_drew _))
    clear hrb hfb HR HB4 HX4 HF4 U0 U1 U2
    generalize flI Q = f at *
    go_wp2_with fail
    refine wp_region_held_drew (S := Ck w E Q) (by kernel_rfl) H0.out (fun k0 => ?_)
    show wpAnyH _ _ _ _ _ 14 #[false, false, false, false, false, false, false, false, false, false, false, false, false, false] _ _
    refine wpAnyH_take (i := 0) (oi := { dst := some 26, op := Go.Op.fieldAddr 26 (Go.Operand.tmp 1) 0, type := 0, pos := "ccw.go:123", after := #[], guard := none }) (v := .pointer (some ⟨E, 0, none⟩)) rfl (by kernel_rfl) (by kernel_rfl) (by kernel_rfl) (fun _ _ _ h => h) (Or.inl ⟨by rfl, fun W hSw => by (try dsimp only at hSw); go_simp⟩) k0 ?_
    try simp only [Act.put, List.setIfInBounds_toArray, List.set_cons_zero, List.set_cons_succ]
    refine wpAnyH_take (i := 1) (oi := { dst := some 27, op := Go.Op.load 3 (Go.Operand.tmp 26), type := 3, pos := "ccw.go:123", after := #[{ on := 0, ground := Go.Ground.data }], guard := none }) (v := .int .i64 Q.o) rfl (by kernel_rfl) (by kernel_rfl) (by kernel_rfl) (fun _ _ _ h => h) (Or.inl ⟨by rfl, fun W hSw => by have cq := hSw.c0; clear hSw; go_simp⟩) k0 ?_
    try simp only [Act.put, List.setIfInBounds_toArray, List.set_cons_zero, List.set_cons_succ]
    refine wpAnyH_take (i := 2) (oi := { dst := some 28, op := Go.Op.fieldAddr 26 (Go.Operand.tmp 1) 1, type := 0, pos := "ccw.go:123", after := #[], guard := none }) (v := .pointer (some ⟨E, 1, none⟩)) rfl (by kernel_rfl) (by kernel_rfl) (by kernel_rfl) (fun _ _ _ h => h) (Or.inl ⟨by rfl, fun W hSw => by (try dsimp only at hSw); go_simp⟩) k0 ?_
    try simp only [Act.put, List.setIfInBounds_toArray, List.set_cons_zero, List.set_cons_succ]
    refine wpAnyH_take (i := 3) (oi := { dst := some 29, op := Go.Op.load 3 (Go.Operand.tmp 28), type := 3, pos := "ccw.go:123", after := #[{ on := 2, ground := Go.Ground.data }], guard := none }) (v := .int .i64 Q.a) rfl (by kernel_rfl) (by kernel_rfl) (by kernel_rfl) (fun _ _ _ h => h) (Or.inl ⟨by rfl, fun W hSw => by have cq := hSw.c1; clear hSw; go_simp⟩) k0 ?_
    try simp only [Act.put, List.setIfInBounds_toArray, List.set_cons_zero, List.set_cons_succ]
    refine wpAnyH_take (i := 5) (oi := { dst := some 31, op := Go.Op.load 26 (Go.Operand.tmp 1), type := 26, pos := "ccw.go:123", after := #[], guard := none }) (v := .agg #[.int .i64 Q.o, .int .i64 Q.a, .bool Q.cd, .bool Q.cc, .bool Q.sl, .bool Q.sk, .bool Q.pc, .int .i64 Q.n]) rfl (by kernel_rfl) (by kernel_rfl) (by kernel_rfl) (fun _ _ _ h => h) (Or.inl ⟨by rfl, fun W hSw => by have q0 := hSw.c0; have q1 := hSw.c1; have q2 := hSw.c2; have q3 := hSw.c3; have q4 := hSw.c4; have q5 := hSw.c5; have q6 := hSw.c6; have q7 := hSw.c7; clear hSw; go_simp⟩) k0 ?_
    try simp only [Act.put, List.setIfInBounds_toArray, List.set_cons_zero, List.set_cons_succ]
    refine wpAnyH_take (i := 7) (oi := { dst := some 33, op := Go.Op.fieldAddr 26 (Go.Operand.tmp 1) 7, type := 0, pos := "ccw.go:123", after := #[], guard := none }) (v := .pointer (some ⟨E, 7, none⟩)) rfl (by kernel_rfl) (by kernel_rfl) (by kernel_rfl) (fun _ _ _ h => h) (Or.inl ⟨by rfl, fun W hSw => by (try dsimp only at hSw); go_simp⟩) k0 ?_
    try simp only [Act.put, List.setIfInBounds_toArray, List.set_cons_zero, List.set_cons_succ]
    refine wpAnyH_take (i := 8) (oi := { dst := some 34, op := Go.Op.load 3 (Go.Operand.tmp 33), type := 3, pos := "ccw.go:123", after := #[{ on := 7, ground := Go.Ground.data }], guard := none }) (v := .int .i64 Q.n) rfl (by kernel_rfl) (by kernel_rfl) (by kernel_rfl) (fun _ _ _ h => h) (Or.inl ⟨by rfl, fun W hSw => by have cq := hSw.c7; clear hSw; go_simp⟩) k0 ?_
    try simp only [Act.put, List.setIfInBounds_toArray, List.set_cons_zero, List.set_cons_succ]
    refine wpAnyH_ready (rs := [4]) (by kernel_rfl) (by simp) ?_
    refine AllReadyH.cons (o := { dst := some 30, op := Go.Op.call { callee := Go.Callee.value (Go.Operand.func 28), args := #[Go.Operand.tmp 27, Go.Operand.tmp 29], argTypes := #[3, 3] }, type := 48, pos := "ccw.go:123", after := #[{ on := 1, ground := Go.Ground.data }, { on := 3, ground := Go.Ground.data }], guard := none }) rfl (fun K hK => ?_) AllReadyH.nil
    go_simp
    go_at_call 28
    refine (HP1.out _).mono ?_
    rintro e x9 ⟨rfl, rfl⟩
    go_wp2_with fail
    refine hK.out _ _ k0 (fun k1 => ?_)
    clear hK K
    try simp only [List.setIfInBounds_toArray, List.set_cons_zero, List.set_cons_succ]
    refine wpAnyH_ready (rs := [6]) (by kernel_rfl) (by simp) ?_
    refine AllReadyH.cons (o := { dst := some 32, op := Go.Op.call { callee := Go.Callee.value (Go.Operand.func 29), args := #[Go.Operand.tmp 31], argTypes := #[26] }, type := 3, pos := "ccw.go:123", after := #[{ on := 5, ground := Go.Ground.data }, { on := 4, ground := Go.Ground.chain }], guard := none }) rfl (fun K hK => ?_) AllReadyH.nil
    go_simp
    go_at_call 29
    refine (HFl.out _ k1.fb).mono ?_
    rintro e x1 ⟨rfl, hb⟩
    have k9 := k1.next hb
    clear hb
    go_wp2_with fail
    refine hK.out _ _ k9 (fun k2 => ?_)
    clear k9
    clear hK K
    try simp only [List.setIfInBounds_toArray, List.set_cons_zero, List.set_cons_succ]
    refine wpAnyH_ready (rs := [9]) (by kernel_rfl) (by simp) ?_
    refine AllReadyH.cons (o := { dst := some 35, op := Go.Op.call { callee := Go.Callee.value (Go.Operand.func 28), args := #[Go.Operand.tmp 32, Go.Operand.tmp 34], argTypes := #[3, 3] }, type := 48, pos := "ccw.go:123", after := #[{ on := 6, ground := Go.Ground.data }, { on := 8, ground := Go.Ground.data }, { on := 6, ground := Go.Ground.chain }], guard := none }) rfl (fun K hK => ?_) AllReadyH.nil
    go_simp
    go_at_call 28
    refine (HP2.out _).mono ?_
    rintro e x9 ⟨rfl, rfl⟩
    go_wp2_with fail
    refine hK.out _ _ k2 (fun k3 => ?_)
    clear hK K
    try simp only [List.setIfInBounds_toArray, List.set_cons_zero, List.set_cons_succ]
    refine wpAnyH_ready (rs := [10]) (by kernel_rfl) (by simp) ?_
    refine AllReadyH.cons (o := { dst := some 36, op := Go.Op.buildSlice 59 2 #[(0, Go.Operand.tmp 30), (1, Go.Operand.tmp 35)], type := 59, pos := "ccw.go:123", after := #[{ on := 4, ground := Go.Ground.data }, { on := 9, ground := Go.Ground.data }], guard := none }) rfl (fun K hK => ?_) AllReadyH.nil
    go_simp
    refine hK.out _ _ (k3.next (below_new _ _)) (fun k4 => ?_)
    clear hK K
    try simp only [List.setIfInBounds_toArray, List.set_cons_zero, List.set_cons_succ]
    refine wpAnyH_ready (rs := [11]) (by kernel_rfl) (by simp) ?_
    refine AllReadyH.cons (o := { dst := some 37, op := Go.Op.call { callee := Go.Callee.value (Go.Operand.func 27), args := #[Go.Operand.tmp 36], argTypes := #[59] }, type := 27, pos := "ccw.go:123", after := #[{ on := 10, ground := Go.Ground.data }, { on := 9, ground := Go.Ground.chain }], guard := none }) rfl (fun K hK => ?_) AllReadyH.nil
    go_simp
    go_at_call 27
    refine (HJ.out x1).mono ?_
    rintro e x2 ⟨sv, rfl, hsv, hb⟩
    have k9 := k4.next hb
    have HSV := Lib.hid hsv
    clear hb hsv
    go_wp2_with fail
    refine hK.out _ _ k9 (fun k5 => ?_)
    clear k9
    clear hK K
    try simp only [List.setIfInBounds_toArray, List.set_cons_zero, List.set_cons_succ]
    refine wpAnyH_take (i := 12) (oi := { dst := some 2, op := Go.Op.assign (Go.Operand.tmp 37), type := 27, pos := "ccw.go:123", after := #[{ on := 11, ground := Go.Ground.data }, { on := 11, ground := Go.Ground.chain }, { on := 0, ground := Go.Ground.phase }, { on := 1, ground := Go.Ground.phase }, { on := 2, ground := Go.Ground.phase }, { on := 3, ground := Go.Ground.phase }, { on := 4, ground := Go.Ground.phase }, { on := 5, ground := Go.Ground.phase }, { on := 6, ground := Go.Ground.phase }, { on := 7, ground := Go.Ground.phase }, { on := 8, ground := Go.Ground.phase }, { on := 9, ground := Go.Ground.phase }, { on := 10, ground := Go.Ground.phase }, { on := 11, ground := Go.Ground.phase }], guard := none }) (v := sv) rfl (by kernel_rfl) (by kernel_rfl) (by kernel_rfl) (fun _ _ _ h => h) (Or.inl ⟨by rfl, fun W hSw => by (try dsimp only at hSw); go_simp⟩) k5 ?_
    try simp only [Act.put, List.setIfInBounds_toArray, List.set_cons_zero, List.set_cons_succ]
    refine wpAnyH_take (i := 13) (oi := { dst := some 3, op := Go.Op.assign (Go.Operand.const (Go.Value.int Go.IntKind.i64 0)), type := 28, pos := "ccw.go:123", after := #[{ on := 12, ground := Go.Ground.chain }, { on := 0, ground := Go.Ground.phase }, { on := 1, ground := Go.Ground.phase }, { on := 2, ground := Go.Ground.phase }, { on := 3, ground := Go.Ground.phase }, { on := 4, ground := Go.Ground.phase }, { on := 5, ground := Go.Ground.phase }, { on := 6, ground := Go.Ground.phase }, { on := 7, ground := Go.Ground.phase }, { on := 8, ground := Go.Ground.phase }, { on := 9, ground := Go.Ground.phase }, { on := 10, ground := Go.Ground.phase }, { on := 11, ground := Go.Ground.phase }, { on := 12, ground := Go.Ground.phase }], guard := none }) (v := .int .i64 0) rfl (by kernel_rfl) (by kernel_rfl) (by kernel_rfl) (fun _ _ _ h => h) (Or.inl ⟨by rfl, fun W hSw => by (try dsimp only at hSw); go_simp⟩) k5 ?_
    try simp only [Act.put, List.setIfInBounds_toArray, List.set_cons_zero, List.set_cons_succ]
    refine wpAnyH_done (by kernel_rfl) ?_ _
    refine id ?_
    go_wp2
    go_ret2
    exact ⟨sv, ret_sv HE.out.symm, by rw [HL.out]; exact HSV.out, k5.bel⟩
end E
end Go.Proofs.YtijkbenbjdeocaaDoor

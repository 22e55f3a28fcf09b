/- The contract of the given answers' Check. -/
import Derived.Test.YtaodghaicmjadaaDoorIsEqP
import Derived.Test.YtaodghaicmjadaaDoorIsOpen
import Derived.Test.YtaodghaicmjadaaDoorIsROwnG
import Derived.Test.YtaodghaicmjadaaDoorIsROf
namespace Go.Proofs.YtaodghaicmjadaaDoor
open Go.RowKit Go.Shelf
set_option linter.unusedVariables false
namespace E
attribute [local go_sem 5000] ins_neq

/-- What holds throughout the region. -/
def CS (A : Nat) (w : World) (Q : Ins) (W : World) : Prop := Below w.heap.size w W ∧ Bx W A 28 Q.cs
theorem CS_next {A : Nat} {w : World} {Q : Ins} {W W' : World} (h : CS A w Q W) (hb : Below W.heap.size W W') : CS A w Q W' :=
  ⟨bel0 h.1 hb, h.2.below hb⟩
set_option maxRecDepth 100000 in
theorem chk_unknown (Q : Ins) (x : Int) (w : World) (hF : ∀ W, Calls Tryd.prog 11 #[.int .i64 Q.op] W (New W (.tuple #[.int .i64 x, .bool false]))) : Calls Tryd.prog 18 #[Q.val] w (New w (.int .i64 80)) := by
  have HF := Lib.hid hF
  clear hF
  have HQ1 := Lib.hid (Bx.new w 28 Q.cs)
  have HB1 := Lib.hid (below_new w (.cells Q.cs 28))
  obtain ⟨I, hI⟩ : ∃ I, I = w.heap.size := ⟨_, rfl⟩
  obtain ⟨w1, hw1⟩ : ∃ w1, w1 = w.alloc (.cells Q.cs 28) := ⟨_, rfl⟩
  rw [← hw1] at HB1 HQ1
  rw [← hI] at HQ1
  obtain ⟨c0, c1, c2, c3, c4, c5, c6, c7, c8, c9, c10, c11⟩ := bx_cells HQ1.out
  unfold Ins.cs at hw1
  have HWI := Lib.hid (And.intro hw1 hI)
  rw [hw1] at c0 c1 c2 c3 c4 c5 c6 c7 c8 c9 c10 c11
  rw [hI] at c0 c1 c2 c3 c4 c5 c6 c7 c8 c9 c10 c11
  clear hw1 hI
  unfold Ins.val
  go_enter Tryd.func18, Tryd.ntmps18
  go_wp2_with fail
  clear c0 c1 c2 c3 c4 c5 c6 c7 c8 c9 c10 c11
  rw [← HWI.out.1, ← HWI.out.2]
  refine (HF.out _).mono ?_
  rintro e w2 ⟨rfl, hb⟩
  have HB2 := Lib.hid (bel0 HB1.out hb)
  have HQ2 := Lib.hid (HQ1.out.below hb)
  obtain ⟨c0, c1, c2, c3, c4, c5, c6, c7, c8, c9, c10, c11⟩ := bx_cells HQ2.out
  clear hb HQ1 HB1 HF HWI
  go_wp2
  go_ret
  exact ⟨rfl, HB2.out⟩
set_option maxRecDepth 100000 in
theorem chk_other (Q : Ins) (x : Int) (hx : (x != Q.fo) = true) (w : World) (hF : ∀ W, Calls Tryd.prog 11 #[.int .i64 Q.op] W (New W (.tuple #[.int .i64 x, .bool true]))) : Calls Tryd.prog 18 #[Q.val] w (New w (.int .i64 80)) := by
  have HF := Lib.hid hF
  clear hF
  have HQ1 := Lib.hid (Bx.new w 28 Q.cs)
  have HB1 := Lib.hid (below_new w (.cells Q.cs 28))
  obtain ⟨I, hI⟩ : ∃ I, I = w.heap.size := ⟨_, rfl⟩
  obtain ⟨w1, hw1⟩ : ∃ w1, w1 = w.alloc (.cells Q.cs 28) := ⟨_, rfl⟩
  rw [← hw1] at HB1 HQ1
  rw [← hI] at HQ1
  obtain ⟨c0, c1, c2, c3, c4, c5, c6, c7, c8, c9, c10, c11⟩ := bx_cells HQ1.out
  unfold Ins.cs at hw1
  have HWI := Lib.hid (And.intro hw1 hI)
  rw [hw1] at c0 c1 c2 c3 c4 c5 c6 c7 c8 c9 c10 c11
  rw [hI] at c0 c1 c2 c3 c4 c5 c6 c7 c8 c9 c10 c11
  clear hw1 hI
  unfold Ins.val
  go_enter Tryd.func18, Tryd.ntmps18
  go_wp2_with fail
  clear c0 c1 c2 c3 c4 c5 c6 c7 c8 c9 c10 c11
  rw [← HWI.out.1, ← HWI.out.2]
  refine (HF.out _).mono ?_
  rintro e w2 ⟨rfl, hb⟩
  have HB2 := Lib.hid (bel0 HB1.out hb)
  have HQ2 := Lib.hid (HQ1.out.below hb)
  obtain ⟨c0, c1, c2, c3, c4, c5, c6, c7, c8, c9, c10, c11⟩ := bx_cells HQ2.out
  clear hb HQ1 HB1 HF HWI
  go_wp2
  go_ret
  exact ⟨rfl, HB2.out⟩
set_option maxRecDepth 100000 in
set_option maxHeartbeats 1000000 in
theorem chk_wide (Q : Ins) (w : World) (hF : ∀ W, Calls Tryd.prog 11 #[.int .i64 Q.op] W (New W (.tuple #[.int .i64 Q.fo, .bool true]))) (hI : ∀ W, Calls Tryd.prog 37 #[Q.val] W (New W (.bool false))) : Calls Tryd.prog 18 #[Q.val] w (New w (.int .i64 6)) := by
  have HF := Lib.hid hF
  have HI := Lib.hid hI
  clear hF hI
  have HQ1 := Lib.hid (Bx.new w 28 Q.cs)
  have HB1 := Lib.hid (below_new w (.cells Q.cs 28))
  obtain ⟨I, hI⟩ : ∃ I, I = w.heap.size := ⟨_, rfl⟩
  obtain ⟨w1, hw1⟩ : ∃ w1, w1 = w.alloc (.cells Q.cs 28) := ⟨_, rfl⟩
  rw [← hw1] at HB1 HQ1
  rw [← hI] at HQ1
  obtain ⟨c0, c1, c2, c3, c4, c5, c6, c7, c8, c9, c10, c11⟩ := bx_cells HQ1.out
  unfold Ins.cs at hw1
  have HWI := Lib.hid (And.intro hw1 hI)
  rw [hw1] at c0 c1 c2 c3 c4 c5 c6 c7 c8 c9 c10 c11
  rw [hI] at c0 c1 c2 c3 c4 c5 c6 c7 c8 c9 c10 c11
  clear hw1 hI
  unfold Ins.val at HI ⊢
  go_enter Tryd.func18, Tryd.ntmps18
  go_wp2_with fail
  clear c0 c1 c2 c3 c4 c5 c6 c7 c8 c9 c10 c11
  rw [← HWI.out.1, ← HWI.out.2]
  refine (HF.out _).mono ?_
  rintro e w2 ⟨rfl, hb⟩
  have HB2 := Lib.hid (bel0 HB1.out hb)
  have HQ2 := Lib.hid (HQ1.out.below hb)
  obtain ⟨c0, c1, c2, c3, c4, c5, c6, c7, c8, c9, c10, c11⟩ := bx_cells HQ2.out
  clear hb HQ1 HB1 HF HWI
  go_wp2_with fail
  clear c0 c1 c2 c3 c4 c5 c6 c7 c8 c9 c10 c11
  refine only_wp ?_
  refine wp_region_held_drew (S := CS I w Q) (by kernel_rfl) (CS_next ⟨HB2.out, HQ2.out⟩ (Below.refl _ _).drew) (fun k0 => ?_)
  clear HB2 HQ2
  show wpAnyH _ _ _ _ _ 9 #[false, false, false, false, false, false, false, false, false] _ _
  refine wpAnyH_take (i := 0) (oi := { dst := some 19, op := Go.Op.load 28 (Go.Operand.tmp 1), type := 28, pos := "ref.go:165", after := #[], guard := none }) (v := .agg #[.int .i64 Q.op, .int .i64 Q.fo, .int .i64 Q.r1, .int .i64 Q.r2, .int .i64 Q.x2, .int .i64 Q.b1, .int .i64 Q.d1, .int .i64 Q.b2, .int .i64 Q.d2, .int .i64 Q.l1, .int .i64 Q.l2, .int .i64 Q.i2]) rfl (by kernel_rfl) (by kernel_rfl) (by kernel_rfl) (fun _ _ _ h => h) (Or.inl ⟨by rfl, fun W hSw => by obtain ⟨-, s1⟩ := hSw; obtain ⟨c0, c1, c2, c3, c4, c5, c6, c7, c8, c9, c10, c11⟩ := bx_cells s1; clear s1; go_simp⟩) k0 ?_
  try simp only [Act.put, List.setIfInBounds_toArray, List.set_cons_zero, List.set_cons_succ]
  refine wpAnyH_ready (rs := [1]) (by kernel_rfl) (by simp) ?_
  refine AllReadyH.cons (o := { dst := some 20, op := Go.Op.call { callee := Go.Callee.value (Go.Operand.func 37), args := #[Go.Operand.tmp 19], argTypes := #[28] }, type := 4, pos := "ref.go:165", after := #[{ on := 0, ground := Go.Ground.data }], guard := none }) rfl (fun K hK => ?_) AllReadyH.nil
  go_simp
  go_at_call 37
  refine (HI.out _).mono ?_
  rintro e x1 ⟨rfl, hb1⟩
  go_wp2_with fail
  refine hK.out _ _ (CS_next k0 hb1) (fun k1 => ?_)
  try clear hb1
  clear hK K
  try simp only [List.setIfInBounds_toArray, List.set_cons_zero, List.set_cons_succ]
  refine wpAnyH_take (i := 2) (oi := { dst := some 21, op := Go.Op.unOp Go.UnOp.not 4 (Go.Operand.tmp 20), type := 4, pos := "ref.go:165", after := #[{ on := 1, ground := Go.Ground.data }], guard := none }) (v := .bool true) rfl (by kernel_rfl) (by kernel_rfl) (by kernel_rfl) (fun _ _ _ h => h) (Or.inl ⟨by rfl, fun W hSw => by (try dsimp only at hSw); go_simp⟩) k1 ?_
  try simp only [Act.put, List.setIfInBounds_toArray, List.set_cons_zero, List.set_cons_succ]
  refine wpAnyH_take (i := 3) (oi := { dst := some 22, op := Go.Op.move (Go.Operand.tmp 21), type := 4, pos := "ref.go:165", after := #[{ on := 2, ground := Go.Ground.data }, { on := 1, ground := Go.Ground.chain }], guard := none }) (v := .bool true) rfl (by kernel_rfl) (by kernel_rfl) (by kernel_rfl) (fun _ _ _ h => h) (Or.inl ⟨by rfl, fun W hSw => by (try dsimp only at hSw); go_simp⟩) k1 ?_
  try simp only [Act.put, List.setIfInBounds_toArray, List.set_cons_zero, List.set_cons_succ]
  refine wpAnyH_take (i := 4) (oi := { dst := some 23, op := Go.Op.load 28 (Go.Operand.tmp 1), type := 28, pos := "ref.go:165", after := #[{ on := 3, ground := Go.Ground.guard }], guard := some (3, false) }) (v := undef) rfl (by kernel_rfl) (by kernel_rfl) (by kernel_rfl) (fun _ _ _ h => h) (Or.inr ⟨by rfl, rfl⟩) k1 ?_
  try simp only [Act.put, List.setIfInBounds_toArray, List.set_cons_zero, List.set_cons_succ]
  refine wpAnyH_take (i := 5) (oi := { dst := some 24, op := Go.Op.load 28 (Go.Operand.tmp 1), type := 28, pos := "ref.go:165", after := #[{ on := 3, ground := Go.Ground.guard }], guard := some (3, false) }) (v := undef) rfl (by kernel_rfl) (by kernel_rfl) (by kernel_rfl) (fun _ _ _ h => h) (Or.inr ⟨by rfl, rfl⟩) k1 ?_
  try simp only [Act.put, List.setIfInBounds_toArray, List.set_cons_zero, List.set_cons_succ]
  refine wpAnyH_take (i := 6) (oi := { dst := some 25, op := Go.Op.call { callee := Go.Callee.value (Go.Operand.func 38), args := #[Go.Operand.tmp 24], argTypes := #[28] }, type := 28, pos := "ref.go:165", after := #[{ on := 5, ground := Go.Ground.data }, { on := 3, ground := Go.Ground.chain }, { on := 3, ground := Go.Ground.guard }], guard := some (3, false) }) (v := undef) rfl (by kernel_rfl) (by kernel_rfl) (by kernel_rfl) (fun _ _ _ h => h) (Or.inr ⟨by rfl, rfl⟩) k1 ?_
  try simp only [Act.put, List.setIfInBounds_toArray, List.set_cons_zero, List.set_cons_succ]
  refine wpAnyH_take (i := 7) (oi := { dst := some 26, op := Go.Op.binOp Go.BinOp.neq 28 (Go.Operand.tmp 23) (Go.Operand.tmp 25) 28, type := 4, pos := "ref.go:165", after := #[{ on := 4, ground := Go.Ground.data }, { on := 6, ground := Go.Ground.data }, { on := 3, ground := Go.Ground.guard }], guard := some (3, false) }) (v := undef) rfl (by kernel_rfl) (by kernel_rfl) (by kernel_rfl) (fun _ _ _ h => h) (Or.inr ⟨by rfl, rfl⟩) k1 ?_
  try simp only [Act.put, List.setIfInBounds_toArray, List.set_cons_zero, List.set_cons_succ]
  refine wpAnyH_take (i := 8) (oi := { dst := some 27, op := Go.Op.pick (Go.Operand.tmp 22) (Go.Operand.const (Go.Value.bool true)) (Go.Operand.tmp 26), type := 4, pos := "ref.go:165", after := #[{ on := 3, ground := Go.Ground.data }, { on := 7, ground := Go.Ground.data }], guard := none }) (v := .bool true) rfl (by kernel_rfl) (by kernel_rfl) (by kernel_rfl) (fun _ _ _ h => h) (Or.inl ⟨by rfl, fun W hSw => by (try dsimp only at hSw); go_simp⟩) k1 ?_
  try simp only [Act.put, List.setIfInBounds_toArray, List.set_cons_zero, List.set_cons_succ]
  refine wpAnyH_done (by kernel_rfl) ?_ _
  refine onlyN_normal ?_
  go_wp2
  go_ret
  exact ⟨rfl, k1.1⟩
set_option maxRecDepth 100000 in
set_option maxHeartbeats 1000000 in
theorem chk_not_own (Q : Ins) (w : World) (hF : ∀ W, Calls Tryd.prog 11 #[.int .i64 Q.op] W (New W (.tuple #[.int .i64 Q.fo, .bool true]))) (hI : ∀ W, Calls Tryd.prog 37 #[Q.val] W (New W (.bool true))) (P : Ins) (hZ : insNe Q P = true) (hO : ∀ W, Calls Tryd.prog 38 #[Q.val] W (New W P.val)) : Calls Tryd.prog 18 #[Q.val] w (New w (.int .i64 6)) := by
  have HF := Lib.hid hF
  have HI := Lib.hid hI
  have HO := Lib.hid hO
  have HZ := Lib.hid (show insNe ⟨Q.op, Q.fo, Q.r1, Q.r2, Q.x2, Q.b1, Q.d1, Q.b2, Q.d2, Q.l1, Q.l2, Q.i2⟩ ⟨P.op, P.fo, P.r1, P.r2, P.x2, P.b1, P.d1, P.b2, P.d2, P.l1, P.l2, P.i2⟩ = true from hZ)
  clear hO hZ
  clear hF hI
  have HQ1 := Lib.hid (Bx.new w 28 Q.cs)
  have HB1 := Lib.hid (below_new w (.cells Q.cs 28))
  obtain ⟨I, hI⟩ : ∃ I, I = w.heap.size := ⟨_, rfl⟩
  obtain ⟨w1, hw1⟩ : ∃ w1, w1 = w.alloc (.cells Q.cs 28) := ⟨_, rfl⟩
  rw [← hw1] at HB1 HQ1
  rw [← hI] at HQ1
  obtain ⟨c0, c1, c2, c3, c4, c5, c6, c7, c8, c9, c10, c11⟩ := bx_cells HQ1.out
  unfold Ins.cs at hw1
  have HWI := Lib.hid (And.intro hw1 hI)
  rw [hw1] at c0 c1 c2 c3 c4 c5 c6 c7 c8 c9 c10 c11
  rw [hI] at c0 c1 c2 c3 c4 c5 c6 c7 c8 c9 c10 c11
  clear hw1 hI
  unfold Ins.val at HI HO ⊢
  go_enter Tryd.func18, Tryd.ntmps18
  go_wp2_with fail
  clear c0 c1 c2 c3 c4 c5 c6 c7 c8 c9 c10 c11
  rw [← HWI.out.1, ← HWI.out.2]
  refine (HF.out _).mono ?_
  rintro e w2 ⟨rfl, hb⟩
  have HB2 := Lib.hid (bel0 HB1.out hb)
  have HQ2 := Lib.hid (HQ1.out.below hb)
  obtain ⟨c0, c1, c2, c3, c4, c5, c6, c7, c8, c9, c10, c11⟩ := bx_cells HQ2.out
  clear hb HQ1 HB1 HF HWI
  go_wp2_with fail
  clear c0 c1 c2 c3 c4 c5 c6 c7 c8 c9 c10 c11
  refine only_wp ?_
  refine wp_region_held_drew (S := CS I w Q) (by kernel_rfl) (CS_next ⟨HB2.out, HQ2.out⟩ (Below.refl _ _).drew) (fun k0 => ?_)
  clear HB2 HQ2
  show wpAnyH _ _ _ _ _ 9 #[false, false, false, false, false, false, false, false, false] _ _
  refine wpAnyH_take (i := 0) (oi := { dst := some 19, op := Go.Op.load 28 (Go.Operand.tmp 1), type := 28, pos := "ref.go:165", after := #[], guard := none }) (v := .agg #[.int .i64 Q.op, .int .i64 Q.fo, .int .i64 Q.r1, .int .i64 Q.r2, .int .i64 Q.x2, .int .i64 Q.b1, .int .i64 Q.d1, .int .i64 Q.b2, .int .i64 Q.d2, .int .i64 Q.l1, .int .i64 Q.l2, .int .i64 Q.i2]) rfl (by kernel_rfl) (by kernel_rfl) (by kernel_rfl) (fun _ _ _ h => h) (Or.inl ⟨by rfl, fun W hSw => by obtain ⟨-, s1⟩ := hSw; obtain ⟨c0, c1, c2, c3, c4, c5, c6, c7, c8, c9, c10, c11⟩ := bx_cells s1; clear s1; go_simp⟩) k0 ?_
  try simp only [Act.put, List.setIfInBounds_toArray, List.set_cons_zero, List.set_cons_succ]
  refine wpAnyH_ready (rs := [1]) (by kernel_rfl) (by simp) ?_
  refine AllReadyH.cons (o := { dst := some 20, op := Go.Op.call { callee := Go.Callee.value (Go.Operand.func 37), args := #[Go.Operand.tmp 19], argTypes := #[28] }, type := 4, pos := "ref.go:165", after := #[{ on := 0, ground := Go.Ground.data }], guard := none }) rfl (fun K hK => ?_) AllReadyH.nil
  go_simp
  go_at_call 37
  refine (HI.out _).mono ?_
  rintro e x1 ⟨rfl, hb1⟩
  go_wp2_with fail
  refine hK.out _ _ (CS_next k0 hb1) (fun k1 => ?_)
  try clear hb1
  clear hK K
  try simp only [List.setIfInBounds_toArray, List.set_cons_zero, List.set_cons_succ]
  refine wpAnyH_take (i := 2) (oi := { dst := some 21, op := Go.Op.unOp Go.UnOp.not 4 (Go.Operand.tmp 20), type := 4, pos := "ref.go:165", after := #[{ on := 1, ground := Go.Ground.data }], guard := none }) (v := .bool false) rfl (by kernel_rfl) (by kernel_rfl) (by kernel_rfl) (fun _ _ _ h => h) (Or.inl ⟨by rfl, fun W hSw => by (try dsimp only at hSw); go_simp⟩) k1 ?_
  try simp only [Act.put, List.setIfInBounds_toArray, List.set_cons_zero, List.set_cons_succ]
  refine wpAnyH_take (i := 3) (oi := { dst := some 22, op := Go.Op.move (Go.Operand.tmp 21), type := 4, pos := "ref.go:165", after := #[{ on := 2, ground := Go.Ground.data }, { on := 1, ground := Go.Ground.chain }], guard := none }) (v := .bool false) rfl (by kernel_rfl) (by kernel_rfl) (by kernel_rfl) (fun _ _ _ h => h) (Or.inl ⟨by rfl, fun W hSw => by (try dsimp only at hSw); go_simp⟩) k1 ?_
  try simp only [Act.put, List.setIfInBounds_toArray, List.set_cons_zero, List.set_cons_succ]
  refine wpAnyH_take (i := 4) (oi := { dst := some 23, op := Go.Op.load 28 (Go.Operand.tmp 1), type := 28, pos := "ref.go:165", after := #[{ on := 3, ground := Go.Ground.guard }], guard := some (3, false) }) (v := .agg #[.int .i64 Q.op, .int .i64 Q.fo, .int .i64 Q.r1, .int .i64 Q.r2, .int .i64 Q.x2, .int .i64 Q.b1, .int .i64 Q.d1, .int .i64 Q.b2, .int .i64 Q.d2, .int .i64 Q.l1, .int .i64 Q.l2, .int .i64 Q.i2]) rfl (by kernel_rfl) (by kernel_rfl) (by kernel_rfl) (fun _ _ _ h => h) (Or.inl ⟨by rfl, fun W hSw => by obtain ⟨-, s1⟩ := hSw; obtain ⟨c0, c1, c2, c3, c4, c5, c6, c7, c8, c9, c10, c11⟩ := bx_cells s1; clear s1; go_simp⟩) k1 ?_
  try simp only [Act.put, List.setIfInBounds_toArray, List.set_cons_zero, List.set_cons_succ]
  refine wpAnyH_take (i := 5) (oi := { dst := some 24, op := Go.Op.load 28 (Go.Operand.tmp 1), type := 28, pos := "ref.go:165", after := #[{ on := 3, ground := Go.Ground.guard }], guard := some (3, false) }) (v := .agg #[.int .i64 Q.op, .int .i64 Q.fo, .int .i64 Q.r1, .int .i64 Q.r2, .int .i64 Q.x2, .int .i64 Q.b1, .int .i64 Q.d1, .int .i64 Q.b2, .int .i64 Q.d2, .int .i64 Q.l1, .int .i64 Q.l2, .int .i64 Q.i2]) rfl (by kernel_rfl) (by kernel_rfl) (by kernel_rfl) (fun _ _ _ h => h) (Or.inl ⟨by rfl, fun W hSw => by obtain ⟨-, s1⟩ := hSw; obtain ⟨c0, c1, c2, c3, c4, c5, c6, c7, c8, c9, c10, c11⟩ := bx_cells s1; clear s1; go_simp⟩) k1 ?_
  try simp only [Act.put, List.setIfInBounds_toArray, List.set_cons_zero, List.set_cons_succ]
  refine wpAnyH_ready (rs := [6]) (by kernel_rfl) (by simp) ?_
  refine AllReadyH.cons (o := { dst := some 25, op := Go.Op.call { callee := Go.Callee.value (Go.Operand.func 38), args := #[Go.Operand.tmp 24], argTypes := #[28] }, type := 28, pos := "ref.go:165", after := #[{ on := 5, ground := Go.Ground.data }, { on := 3, ground := Go.Ground.chain }, { on := 3, ground := Go.Ground.guard }], guard := some (3, false) }) rfl (fun K hK => ?_) AllReadyH.nil
  go_simp
  go_at_call 38
  refine (HO.out _).mono ?_
  rintro e x2 ⟨rfl, hb2⟩
  go_wp2_with fail
  refine hK.out _ _ (CS_next k1 hb2) (fun k2 => ?_)
  try clear hb2
  clear hK K
  try simp only [List.setIfInBounds_toArray, List.set_cons_zero, List.set_cons_succ]
  refine wpAnyH_take (i := 7) (oi := { dst := some 26, op := Go.Op.binOp Go.BinOp.neq 28 (Go.Operand.tmp 23) (Go.Operand.tmp 25) 28, type := 4, pos := "ref.go:165", after := #[{ on := 4, ground := Go.Ground.data }, { on := 6, ground := Go.Ground.data }, { on := 3, ground := Go.Ground.guard }], guard := some (3, false) }) (v := .bool true) rfl (by kernel_rfl) (by kernel_rfl) (by kernel_rfl) (fun _ _ _ h => h) (Or.inl ⟨by rfl, fun W hSw => by clear hSw; go_simp; exact HZ.out⟩) k2 ?_
  try simp only [Act.put, List.setIfInBounds_toArray, List.set_cons_zero, List.set_cons_succ]
  refine wpAnyH_take (i := 8) (oi := { dst := some 27, op := Go.Op.pick (Go.Operand.tmp 22) (Go.Operand.const (Go.Value.bool true)) (Go.Operand.tmp 26), type := 4, pos := "ref.go:165", after := #[{ on := 3, ground := Go.Ground.data }, { on := 7, ground := Go.Ground.data }], guard := none }) (v := .bool true) rfl (by kernel_rfl) (by kernel_rfl) (by kernel_rfl) (fun _ _ _ h => h) (Or.inl ⟨by rfl, fun W hSw => by (try dsimp only at hSw); go_simp⟩) k2 ?_
  try simp only [Act.put, List.setIfInBounds_toArray, List.set_cons_zero, List.set_cons_succ]
  refine wpAnyH_done (by kernel_rfl) ?_ _
  refine onlyN_normal ?_
  go_wp2
  go_ret
  exact ⟨rfl, k2.1⟩
set_option maxRecDepth 100000 in
set_option maxHeartbeats 1000000 in
theorem chk_fine (Q : Ins) (w : World) (hF : ∀ W, Calls Tryd.prog 11 #[.int .i64 Q.op] W (New W (.tuple #[.int .i64 Q.fo, .bool true]))) (hI : ∀ W, Calls Tryd.prog 37 #[Q.val] W (New W (.bool true))) (P : Ins) (hZ : insNe Q P = false) (hO : ∀ W, Calls Tryd.prog 38 #[Q.val] W (New W P.val)) : Calls Tryd.prog 18 #[Q.val] w (New w (.int .i64 0)) := by
  have HF := Lib.hid hF
  have HI := Lib.hid hI
  have HO := Lib.hid hO
  have HZ := Lib.hid (show insNe ⟨Q.op, Q.fo, Q.r1, Q.r2, Q.x2, Q.b1, Q.d1, Q.b2, Q.d2, Q.l1, Q.l2, Q.i2⟩ ⟨P.op, P.fo, P.r1, P.r2, P.x2, P.b1, P.d1, P.b2, P.d2, P.l1, P.l2, P.i2⟩ = false from hZ)
  clear hO hZ
  clear hF hI
  have HQ1 := Lib.hid (Bx.new w 28 Q.cs)
  have HB1 := Lib.hid (below_new w (.cells Q.cs 28))
  obtain ⟨I, hI⟩ : ∃ I, I = w.heap.size := ⟨_, rfl⟩
  obtain ⟨w1, hw1⟩ : ∃ w1, w1 = w.alloc (.cells Q.cs 28) := ⟨_, rfl⟩
  rw [← hw1] at HB1 HQ1
  rw [← hI] at HQ1
  obtain ⟨c0, c1, c2, c3, c4, c5, c6, c7, c8, c9, c10, c11⟩ := bx_cells HQ1.out
  unfold Ins.cs at hw1
  have HWI := Lib.hid (And.intro hw1 hI)
  rw [hw1] at c0 c1 c2 c3 c4 c5 c6 c7 c8 c9 c10 c11
  rw [hI] at c0 c1 c2 c3 c4 c5 c6 c7 c8 c9 c10 c11
  clear hw1 hI
  unfold Ins.val at HI HO ⊢
  go_enter Tryd.func18, Tryd.ntmps18
  go_wp2_with fail
  clear c0 c1 c2 c3 c4 c5 c6 c7 c8 c9 c10 c11
  rw [← HWI.out.1, ← HWI.out.2]
  refine (HF.out _).mono ?_
  rintro e w2 ⟨rfl, hb⟩
  have HB2 := Lib.hid (bel0 HB1.out hb)
  have HQ2 := Lib.hid (HQ1.out.below hb)
  obtain ⟨c0, c1, c2, c3, c4, c5, c6, c7, c8, c9, c10, c11⟩ := bx_cells HQ2.out
  clear hb HQ1 HB1 HF HWI
  go_wp2_with fail
  clear c0 c1 c2 c3 c4 c5 c6 c7 c8 c9 c10 c11
  refine only_wp ?_
  refine wp_region_held_drew (S := CS I w Q) (by kernel_rfl) (CS_next ⟨HB2.out, HQ2.out⟩ (Below.refl _ _).drew) (fun k0 => ?_)
  clear HB2 HQ2
  show wpAnyH _ _ _ _ _ 9 #[false, false, false, false, false, false, false, false, false] _ _
  refine wpAnyH_take (i := 0) (oi := { dst := some 19, op := Go.Op.load 28 (Go.Operand.tmp 1), type := 28, pos := "ref.go:165", after := #[], guard := none }) (v := .agg #[.int .i64 Q.op, .int .i64 Q.fo, .int .i64 Q.r1, .int .i64 Q.r2, .int .i64 Q.x2, .int .i64 Q.b1, .int .i64 Q.d1, .int .i64 Q.b2, .int .i64 Q.d2, .int .i64 Q.l1, .int .i64 Q.l2, .int .i64 Q.i2]) rfl (by kernel_rfl) (by kernel_rfl) (by kernel_rfl) (fun _ _ _ h => h) (Or.inl ⟨by rfl, fun W hSw => by obtain ⟨-, s1⟩ := hSw; obtain ⟨c0, c1, c2, c3, c4, c5, c6, c7, c8, c9, c10, c11⟩ := bx_cells s1; clear s1; go_simp⟩) k0 ?_
  try simp only [Act.put, List.setIfInBounds_toArray, List.set_cons_zero, List.set_cons_succ]
  refine wpAnyH_ready (rs := [1]) (by kernel_rfl) (by simp) ?_
  refine AllReadyH.cons (o := { dst := some 20, op := Go.Op.call { callee := Go.Callee.value (Go.Operand.func 37), args := #[Go.Operand.tmp 19], argTypes := #[28] }, type := 4, pos := "ref.go:165", after := #[{ on := 0, ground := Go.Ground.data }], guard := none }) rfl (fun K hK => ?_) AllReadyH.nil
  go_simp
  go_at_call 37
  refine (HI.out _).mono ?_
  rintro e x1 ⟨rfl, hb1⟩
  go_wp2_with fail
  refine hK.out _ _ (CS_next k0 hb1) (fun k1 => ?_)
  try clear hb1
  clear hK K
  try simp only [List.setIfInBounds_toArray, List.set_cons_zero, List.set_cons_succ]
  refine wpAnyH_take (i := 2) (oi := { dst := some 21, op := Go.Op.unOp Go.UnOp.not 4 (Go.Operand.tmp 20), type := 4, pos := "ref.go:165", after := #[{ on := 1, ground := Go.Ground.data }], guard := none }) (v := .bool false) rfl (by kernel_rfl) (by kernel_rfl) (by kernel_rfl) (fun _ _ _ h => h) (Or.inl ⟨by rfl, fun W hSw => by (try dsimp only at hSw); go_simp⟩) k1 ?_
  try simp only [Act.put, List.setIfInBounds_toArray, List.set_cons_zero, List.set_cons_succ]
  refine wpAnyH_take (i := 3) (oi := { dst := some 22, op := Go.Op.move (Go.Operand.tmp 21), type := 4, pos := "ref.go:165", after := #[{ on := 2, ground := Go.Ground.data }, { on := 1, ground := Go.Ground.chain }], guard := none }) (v := .bool false) rfl (by kernel_rfl) (by kernel_rfl) (by kernel_rfl) (fun _ _ _ h => h) (Or.inl ⟨by rfl, fun W hSw => by (try dsimp only at hSw); go_simp⟩) k1 ?_
  try simp only [Act.put, List.setIfInBounds_toArray, List.set_cons_zero, List.set_cons_succ]
  refine wpAnyH_take (i := 4) (oi := { dst := some 23, op := Go.Op.load 28 (Go.Operand.tmp 1), type := 28, pos := "ref.go:165", after := #[{ on := 3, ground := Go.Ground.guard }], guard := some (3, false) }) (v := .agg #[.int .i64 Q.op, .int .i64 Q.fo, .int .i64 Q.r1, .int .i64 Q.r2, .int .i64 Q.x2, .int .i64 Q.b1, .int .i64 Q.d1, .int .i64 Q.b2, .int .i64 Q.d2, .int .i64 Q.l1, .int .i64 Q.l2, .int .i64 Q.i2]) rfl (by kernel_rfl) (by kernel_rfl) (by kernel_rfl) (fun _ _ _ h => h) (Or.inl ⟨by rfl, fun W hSw => by obtain ⟨-, s1⟩ := hSw; obtain ⟨c0, c1, c2, c3, c4, c5, c6, c7, c8, c9, c10, c11⟩ := bx_cells s1; clear s1; go_simp⟩) k1 ?_
  try simp only [Act.put, List.setIfInBounds_toArray, List.set_cons_zero, List.set_cons_succ]
  refine wpAnyH_take (i := 5) (oi := { dst := some 24, op := Go.Op.load 28 (Go.Operand.tmp 1), type := 28, pos := "ref.go:165", after := #[{ on := 3, ground := Go.Ground.guard }], guard := some (3, false) }) (v := .agg #[.int .i64 Q.op, .int .i64 Q.fo, .int .i64 Q.r1, .int .i64 Q.r2, .int .i64 Q.x2, .int .i64 Q.b1, .int .i64 Q.d1, .int .i64 Q.b2, .int .i64 Q.d2, .int .i64 Q.l1, .int .i64 Q.l2, .int .i64 Q.i2]) rfl (by kernel_rfl) (by kernel_rfl) (by kernel_rfl) (fun _ _ _ h => h) (Or.inl ⟨by rfl, fun W hSw => by obtain ⟨-, s1⟩ := hSw; obtain ⟨c0, c1, c2, c3, c4, c5, c6, c7, c8, c9, c10, c11⟩ := bx_cells s1; clear s1; go_simp⟩) k1 ?_
  try simp only [Act.put, List.setIfInBounds_toArray, List.set_cons_zero, List.set_cons_succ]
  refine wpAnyH_ready (rs := [6]) (by kernel_rfl) (by simp) ?_
  refine AllReadyH.cons (o := { dst := some 25, op := Go.Op.call { callee := Go.Callee.value (Go.Operand.func 38), args := #[Go.Operand.tmp 24], argTypes := #[28] }, type := 28, pos := "ref.go:165", after := #[{ on := 5, ground := Go.Ground.data }, { on := 3, ground := Go.Ground.chain }, { on := 3, ground := Go.Ground.guard }], guard := some (3, false) }) rfl (fun K hK => ?_) AllReadyH.nil
  go_simp
  go_at_call 38
  refine (HO.out _).mono ?_
  rintro e x2 ⟨rfl, hb2⟩
  go_wp2_with fail
  refine hK.out _ _ (CS_next k1 hb2) (fun k2 => ?_)
  try clear hb2
  clear hK K
  try simp only [List.setIfInBounds_toArray, List.set_cons_zero, List.set_cons_succ]
  refine wpAnyH_take (i := 7) (oi := { dst := some 26, op := Go.Op.binOp Go.BinOp.neq 28 (Go.Operand.tmp 23) (Go.Operand.tmp 25) 28, type := 4, pos := "ref.go:165", after := #[{ on := 4, ground := Go.Ground.data }, { on := 6, ground := Go.Ground.data }, { on := 3, ground := Go.Ground.guard }], guard := some (3, false) }) (v := .bool false) rfl (by kernel_rfl) (by kernel_rfl) (by kernel_rfl) (fun _ _ _ h => h) (Or.inl ⟨by rfl, fun W hSw => by clear hSw; go_simp; exact HZ.out⟩) k2 ?_
  try simp only [Act.put, List.setIfInBounds_toArray, List.set_cons_zero, List.set_cons_succ]
  refine wpAnyH_take (i := 8) (oi := { dst := some 27, op := Go.Op.pick (Go.Operand.tmp 22) (Go.Operand.const (Go.Value.bool true)) (Go.Operand.tmp 26), type := 4, pos := "ref.go:165", after := #[{ on := 3, ground := Go.Ground.data }, { on := 7, ground := Go.Ground.data }], guard := none }) (v := .bool false) rfl (by kernel_rfl) (by kernel_rfl) (by kernel_rfl) (fun _ _ _ h => h) (Or.inl ⟨by rfl, fun W hSw => by (try dsimp only at hSw); go_simp⟩) k2 ?_
  try simp only [Act.put, List.setIfInBounds_toArray, List.set_cons_zero, List.set_cons_succ]
  refine wpAnyH_done (by kernel_rfl) ?_ _
  refine onlyN_normal ?_
  go_wp2
  go_ret
  exact ⟨rfl, k2.1⟩
theorem ok_of (F : Nat) (h1 : 1 ≤ F) (h9 : F ≤ 9) (Q : Ins) (hf : Q.fo = (F : Int)) : okB F Q = (wiB (mostF F) Q && !insNe Q (ownQ F Q)) := by
  obtain rfl | rfl | rfl | rfl | rfl | rfl | rfl | rfl | rfl : F = 1 ∨ F = 2 ∨ F = 3 ∨ F = 4 ∨ F = 5 ∨ F = 6 ∨ F = 7 ∨ F = 8 ∨ F = 9 := by omega
  · exact ok_1 Q hf
  · exact ok_2 Q hf
  · exact ok_3 Q hf
  · exact ok_4 Q hf
  · exact ok_5 Q hf
  · exact ok_6 Q hf
  · exact ok_7 Q hf
  · exact ok_8 Q hf
  · exact ok_9 Q hf
theorem within_of (F : Nat) (Q : Ins) (hf : Q.fo = (F : Int)) (w : World) : Calls Tryd.prog 37 #[Q.val] w (New w (.bool (wiB (mostF F) Q))) := by
  unfold mostF
  by_cases h : F = 5
  · rw [if_pos h]
    exact within_255 Q (by omega) w
  · rw [if_neg h]
    exact within_15 Q (by omega) w
theorem check_ref (Q : Ins) (w : World) : Calls Tryd.prog 18 #[Q.val] w (New w (.int .i64 (chkV Q))) := by
  have hF := fun W => form_ref Q.op W
  unfold formV at hF
  unfold chkV
  cases hs : ixC Q.op with
  | none =>
    rw [hs] at hF
    have e : foB Q = false := by unfold foB; rw [hs]; rfl
    rw [e]
    exact chk_unknown Q _ w hF
  | some k =>
    rw [hs] at hF
    obtain ⟨hk, hop⟩ := ixC_some hs
    have h19 := fo_in k hk
    have e : foB Q = (Q.fo == (foK k : Int)) := by unfold foB; rw [hs]; rfl
    rw [e]
    show Calls _ _ _ _ (New w (.int .i64 (if (Q.fo == (foK k : Int)) = true then (if okB (foK k) Q = true then 0 else 6) else 80)))
    have hF : ∀ W, Calls Tryd.prog 11 #[.int .i64 Q.op] W (New W (.tuple #[.int .i64 (foK k : Int), .bool true])) := hF
    by_cases hf : Q.fo = (foK k : Int)
    · rw [if_pos (by rw [hf]; simp), ok_of (foK k) h19.1 h19.2 Q hf]
      rw [← hf] at hF
      have hW := fun W => within_of (foK k) Q hf W
      cases hw : wiB (mostF (foK k)) Q with
      | false =>
        rw [hw] at hW
        exact chk_wide Q w hF hW
      | true =>
        rw [hw] at hW
        cases hn : insNe Q (ownQ (foK k) Q) with
        | true => exact chk_not_own Q w hF hW _ hn (fun W => own_ref (foK k) h19.1 h19.2 Q hf W)
        | false => exact chk_fine Q w hF hW _ hn (fun W => own_ref (foK k) h19.1 h19.2 Q hf W)
    · rw [if_neg (by simpa using hf)]
      exact chk_other Q _ (by simpa using fun h => hf h.symm) w hF
end E
end Go.Proofs.YtaodghaicmjadaaDoor

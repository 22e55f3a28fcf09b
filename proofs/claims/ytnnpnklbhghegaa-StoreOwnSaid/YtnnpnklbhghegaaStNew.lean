/- New, of the program and of the given answers: their contracts. -/
import Derived.Test.YtnnpnklbhghegaaStLocks
namespace Go.Proofs.Ytnnpnklbhghegaa
open Go.RowKit Go.Shelf
set_option linter.unusedVariables false
namespace E

theorem info68 : (Try.prog.info? 68).map (fun i => (i.zero, i.size, i.bytes)) = some (some (.int .u8 0), 1, 1) := by kernel_rfl
theorem info3 : (Try.prog.info? 3).map (fun i => (i.zero, i.size, i.bytes)) = some (some (.int .i64 0), 1, 8) := by kernel_rfl
/-- make, wherever it comes up. -/
theorem op_make {P : Program} {o : Oper} {a : Act} {w : World} {K : Act → World → Prop} {Q : Exit → Act → World → Prop} (l c : Operand) (t : TypeId) (hop : o.op = Op.makeSlice t l c)
    (e : TypeId) (i : TypeInfo) (z : Value) (h1 : P.underlying t = some (.slice e)) (h2 : P.info? e = some i) (h3 : i.zero = some z) (h4 : i.size = 1) (n : Nat)
    (hl : a.eval l = .int .i64 (n : Int)) (hc : a.eval c = .int .i64 (n : Int)) (b2 : i.bytes * n ≤ 281474976710656) (b3 : n ≤ maxLen)
    (hK : ∀ w', w'.ownsRow w.heap.size e 1 (.slice (some ⟨w.heap.size, 0, none⟩) n n) n (madeCells z.cells (n * 1)).toList → w.grownBy w' none → K (a.put o.dst (.slice (some ⟨w.heap.size, 0, none⟩) n n)) w') :
    Oper.wp P o a w K Q := by
  obtain ⟨w', hrun, r1, r2⟩ := run_make_full (P := P) w w.heap.size t e i z 1 h1 h2 h3 h4 .i64 .i64 n b2 b3 (Nat.le_refl _)
  unfold Oper.wp
  simp [execOp, hop, hl, hc, hrun, Result.andThen]
  exact hK w' r1 r2
theorem row_made {w w' : World} {g n : Nat} {k : IntKind} {t : TypeId} (h : w.ownsRow g t 1 (.slice (some ⟨g, 0, none⟩) n n) n (madeCells (Value.cells (.int k 0)) (n * 1)).toList) (hb : Below w.heap.size w w') : Row w' g t (List.replicate n (.int k 0)) n := by
  rw [Nat.mul_one, show (madeCells (Value.cells (.int k 0)) n).toList = List.replicate n (.int k 0) from toList_madeCells_one _ n] at h
  exact (own_row h (by simp)).below hb
theorem Row.rep {w w' : World} {g n : Nat} {t : TypeId} (h : Row w g t (List.replicate n (.int .u8 0)) n) (hb : Below w.heap.size w w') : Row w' g t (bsU (List.replicate n 0)) n := by
  rw [bsU_rep]
  exact h.below hb
theorem Row.repI {w w' : World} {g n : Nat} {t : TypeId} (h : Row w g t (List.replicate n (.int .i64 0)) n) (hb : Below w.heap.size w w') : Row w' g t (bsI (List.replicate n 0)) n := by
  rw [show bsI (List.replicate n 0) = List.replicate n (.int .i64 0) by simp [bsI]]
  exact h.below hb
/-- Is it a size? -/
def sizeOk (x : Int) : Bool := decide (2048 ≤ x ∧ x ≤ 65536 ∧ x % 2048 = 0)
/-- What New leaves. -/
def NewPost (w : World) (N M : Nat) (e : Ending) (w' : World) : Prop := ∃ a g h, e = .returned (.tuple #[.pointer (some ⟨a, 0, none⟩), .int .i64 0]) ∧ Sto w' a g h N M (List.replicate N 0) (List.replicate M 0) ∧ w.heap.size ≤ a ∧ w.heap.size ≤ g ∧ w.heap.size ≤ h ∧ Below w.heap.size w w'
def RNewPost (w : World) (N M : Nat) (e : Ending) (w' : World) : Prop := ∃ a g h, e = .returned (.pointer (some ⟨a, 0, none⟩)) ∧ Rfs w' a g h N M N M (List.replicate N 0) (List.replicate M 0) ∧ w.heap.size ≤ a ∧ w.heap.size ≤ g ∧ w.heap.size ≤ h ∧ Below w.heap.size w w'
set_option maxRecDepth 100000 in
set_option maxHeartbeats 1000000 in
theorem new_any (x : Int) (w : World) (h : sizeOk x = true) : Calls Try.prog 18 #[.int .i64 x] w (NewPost w x.toNat (x.toNat / 2048)) := by
  obtain ⟨h1, h2, h3⟩ := of_decide_eq_true h
  obtain ⟨N, rfl⟩ := Int.eq_ofNat_of_zero_le (show 0 ≤ x by omega)
  obtain ⟨M, hM⟩ : ∃ M, M = N / 2048 := ⟨_, rfl⟩
  have hNM : N = M * 2048 ∧ 1 ≤ M ∧ M ≤ 32 := by omega
  have HNM := Lib.hid hNM
  have hd1 : ¬ (N : Int) < 2048 := by omega
  have hd2 : ¬ (65536 : Int) < (N : Int) := by omega
  have hN : N ≤ 65536 := by omega
  have hM32 : M ≤ 32 := by omega
  have hr : (N : Int) % 2048 = 0 := by omega
  have hr' : Int.tmod (N : Int) 2048 = 0 := by rw [Int.tmod_eq_emod_of_nonneg (by omega)]; exact hr
  have hq : IntKind.i64.wrap ((N : Int) / 2048) = (M : Int) := by
    rw [show (N : Int) / 2048 = (M : Int) by omega]
    exact i64wrap (by omega)
  obtain ⟨iu0, iuh, iua, iub, iuc⟩ := info_parts info5
  obtain ⟨il0, ilh, ila, ilb, ilc⟩ := info_parts info68
  show Calls _ _ _ _ (NewPost w N (N / 2048))
  rw [← hM]
  clear h h1 h2 h3 hM hNM
  go_enter Try.func18, Try.ntmps18
  go_upto_region 3 with fail
  refine wp_region_noPanic ?_
  refine wp_region_held_drew (S := fun W => Below w.heap.size w W) (by kernel_rfl) ((Below.refl _ w).drew) (fun k0 => ?_)
  show wpAnyH _ _ _ _ _ 9 #[false, false, false, false, false, false, false, false, false] _ _
  refine wpAnyH_take (i := 0) (oi := { dst := some 15, op := Go.Op.move (Go.Operand.tmp 0), type := 3, pos := "store.go:17", after := #[], guard := none }) (v := .int .i64 (N : Int)) rfl (by kernel_rfl) (by kernel_rfl) (by kernel_rfl) (fun _ _ _ h => h) (Or.inl ⟨by rfl, fun W hSw => by (try dsimp only at hSw); go_simp⟩) k0 ?_
  try simp only [Act.put, List.setIfInBounds_toArray, List.set_cons_zero, List.set_cons_succ]
  refine wpAnyH_take (i := 2) (oi := { dst := some 17, op := Go.Op.move (Go.Operand.tmp 0), type := 3, pos := "store.go:17", after := #[], guard := none }) (v := .int .i64 (N : Int)) rfl (by kernel_rfl) (by kernel_rfl) (by kernel_rfl) (fun _ _ _ h => h) (Or.inl ⟨by rfl, fun W hSw => by (try dsimp only at hSw); go_simp⟩) k0 ?_
  try simp only [Act.put, List.setIfInBounds_toArray, List.set_cons_zero, List.set_cons_succ]
  refine wpAnyH_take (i := 3) (oi := { dst := some 18, op := Go.Op.binOp Go.BinOp.quo 3 (Go.Operand.tmp 17) (Go.Operand.const (Go.Value.int Go.IntKind.i64 2048)) 3, type := 3, pos := "store.go:17", after := #[{ on := 2, ground := Go.Ground.data }], guard := none }) (v := .int .i64 (M : Int)) rfl (by kernel_rfl) (by kernel_rfl) (by kernel_rfl) (fun _ _ _ h => h) (Or.inl ⟨by rfl, fun W hSw => by (try dsimp only at hSw); go_simp⟩) k0 ?_
  try simp only [Act.put, List.setIfInBounds_toArray, List.set_cons_zero, List.set_cons_succ]
  refine wpAnyH_ready (rs := [1, 4]) (by kernel_rfl) (by simp) ?_
  refine AllReadyH.cons (o := { dst := some 16, op := Go.Op.makeSlice 29 (Go.Operand.tmp 15) (Go.Operand.tmp 15), type := 29, pos := "store.go:17", after := #[{ on := 0, ground := Go.Ground.data }, { on := 0, ground := Go.Ground.data }], guard := none }) rfl (fun K hK => ?_) (AllReadyH.cons (o := { dst := some 19, op := Go.Op.makeSlice 65 (Go.Operand.tmp 18) (Go.Operand.tmp 18), type := 65, pos := "store.go:17", after := #[{ on := 3, ground := Go.Ground.data }, { on := 3, ground := Go.Ground.data }], guard := none }) rfl (fun K hK => ?_) AllReadyH.nil)
  · rw [if_pos (by rfl)]
    refine op_make (.tmp 15) (.tmp 15) 29 rfl 5 iu0 (.int .u8 0) Try.underlying29 iuh iua iub N rfl rfl (by rw [iuc]; omega) (by unfold maxLen; omega) ?_
    intro w1 hr1 hg1
    have HRB := Lib.hid (row_made hr1 (Below.refl _ _))
    have HRBs := Lib.hid (Below.size (show Below w.heap.size w w.drew from k0))
    refine hK.out _ _ (bel0 k0 (below_of hg1)) (fun k1 => ?_)
    clear hr1 hg1
    clear hK K
    try simp only [List.setIfInBounds_toArray, List.set_cons_zero, List.set_cons_succ]
    refine wpAnyH_ready (rs := [4]) (by kernel_rfl) (by simp) ?_
    refine AllReadyH.cons (o := { dst := some 19, op := Go.Op.makeSlice 65 (Go.Operand.tmp 18) (Go.Operand.tmp 18), type := 65, pos := "store.go:17", after := #[{ on := 3, ground := Go.Ground.data }, { on := 3, ground := Go.Ground.data }], guard := none }) rfl (fun K hK => ?_) AllReadyH.nil
    rw [if_pos (by rfl)]
    refine op_make (.tmp 18) (.tmp 18) 65 rfl 68 il0 (.int .u8 0) Try.underlying65 ilh ila ilb M rfl rfl (by rw [ilc]; omega) (by unfold maxLen; omega) ?_
    intro w2 hr2 hg2
    replace HRB := Lib.hid (HRB.out.below (below_of hg2))
    have HRL := Lib.hid (row_made hr2 (Below.refl _ _))
    have HRLs := Lib.hid (Below.size (show Below w.heap.size w w1 from k1))
    refine hK.out _ _ (bel0 k1 (below_of hg2)) (fun k2 => ?_)
    clear hr2 hg2
    clear hK K
    try simp only [List.setIfInBounds_toArray, List.set_cons_zero, List.set_cons_succ]
    refine wpAnyH_take (i := 5) (oi := { dst := some 20, op := Go.Op.build 67 #[(0, Go.Operand.tmp 16), (1, Go.Operand.tmp 19)], type := 67, pos := "store.go:17", after := #[{ on := 1, ground := Go.Ground.data }, { on := 4, ground := Go.Ground.data }], guard := none }) (v := .agg #[.slice (some ⟨w.drew.heap.size, 0, none⟩) N N, .slice (some ⟨w1.heap.size, 0, none⟩) M M]) rfl (by kernel_rfl) (by kernel_rfl) (by kernel_rfl) (fun _ _ _ h => h) (Or.inl ⟨by rfl, fun W hSw => by (try dsimp only at hSw); go_simp⟩) k2 ?_
    try simp only [Act.put, List.setIfInBounds_toArray, List.set_cons_zero, List.set_cons_succ]
    refine wpAnyH_ready (rs := [6]) (by kernel_rfl) (by simp) ?_
    refine AllReadyH.cons (o := { dst := some 21, op := Go.Op.box 67 (Go.Operand.tmp 20), type := 23, pos := "store.go:17", after := #[{ on := 5, ground := Go.Ground.data }], guard := none }) rfl (fun K hK => ?_) AllReadyH.nil
    go_simp
    refine hK.out _ _ (bel0 k2 (below_new _ _)) (fun k3 => ?_)
    clear hK K
    try simp only [List.setIfInBounds_toArray, List.set_cons_zero, List.set_cons_succ]
    refine wpAnyH_take (i := 7) (oi := { dst := some 2, op := Go.Op.assign (Go.Operand.tmp 21), type := 23, pos := "store.go:17", after := #[{ on := 6, ground := Go.Ground.data }, { on := 0, ground := Go.Ground.phase }, { on := 1, ground := Go.Ground.phase }, { on := 2, ground := Go.Ground.phase }, { on := 3, ground := Go.Ground.phase }, { on := 4, ground := Go.Ground.phase }, { on := 5, ground := Go.Ground.phase }, { on := 6, ground := Go.Ground.phase }], guard := none }) (v := .pointer (some ⟨w2.heap.size, 0, none⟩)) rfl (by kernel_rfl) (by kernel_rfl) (by kernel_rfl) (fun _ _ _ h => h) (Or.inl ⟨by rfl, fun W hSw => by (try dsimp only at hSw); go_simp⟩) k3 ?_
    try simp only [Act.put, List.setIfInBounds_toArray, List.set_cons_zero, List.set_cons_succ]
    refine wpAnyH_take (i := 8) (oi := { dst := some 3, op := Go.Op.assign (Go.Operand.const (Go.Value.int Go.IntKind.i64 0)), type := 40, pos := "store.go:17", after := #[{ on := 7, ground := Go.Ground.chain }, { on := 0, ground := Go.Ground.phase }, { on := 1, ground := Go.Ground.phase }, { on := 2, ground := Go.Ground.phase }, { on := 3, ground := Go.Ground.phase }, { on := 4, ground := Go.Ground.phase }, { on := 5, ground := Go.Ground.phase }, { on := 6, ground := Go.Ground.phase }, { on := 7, ground := Go.Ground.phase }], guard := none }) (v := .int .i64 0) rfl (by kernel_rfl) (by kernel_rfl) (by kernel_rfl) (fun _ _ _ h => h) (Or.inl ⟨by rfl, fun W hSw => by (try dsimp only at hSw); go_simp⟩) k3 ?_
    try simp only [Act.put, List.setIfInBounds_toArray, List.set_cons_zero, List.set_cons_succ]
    refine wpAnyH_done (by kernel_rfl) ?_ _
    refine NoPanic.normal ?_
    go_wp2
    go_ret2
    exact ⟨_, _, _, rfl, ⟨Bx.new _ _ _, Row.rep HRB.out (below_new _ _), Row.rep HRL.out (below_new _ _), by simp, by simp, HNM.out.1, HNM.out.2.1, HNM.out.2.2⟩, Below.size (show Below w.heap.size w w2 from k2), HRBs.out, HRLs.out, k3⟩
  · rw [if_pos (by rfl)]
    refine op_make (.tmp 18) (.tmp 18) 65 rfl 68 il0 (.int .u8 0) Try.underlying65 ilh ila ilb M rfl rfl (by rw [ilc]; omega) (by unfold maxLen; omega) ?_
    intro w1 hr1 hg1
    have HRL := Lib.hid (row_made hr1 (Below.refl _ _))
    have HRLs := Lib.hid (Below.size (show Below w.heap.size w w.drew from k0))
    refine hK.out _ _ (bel0 k0 (below_of hg1)) (fun k1 => ?_)
    clear hr1 hg1
    clear hK K
    try simp only [List.setIfInBounds_toArray, List.set_cons_zero, List.set_cons_succ]
    refine wpAnyH_ready (rs := [1]) (by kernel_rfl) (by simp) ?_
    refine AllReadyH.cons (o := { dst := some 16, op := Go.Op.makeSlice 29 (Go.Operand.tmp 15) (Go.Operand.tmp 15), type := 29, pos := "store.go:17", after := #[{ on := 0, ground := Go.Ground.data }, { on := 0, ground := Go.Ground.data }], guard := none }) rfl (fun K hK => ?_) AllReadyH.nil
    rw [if_pos (by rfl)]
    refine op_make (.tmp 15) (.tmp 15) 29 rfl 5 iu0 (.int .u8 0) Try.underlying29 iuh iua iub N rfl rfl (by rw [iuc]; omega) (by unfold maxLen; omega) ?_
    intro w2 hr2 hg2
    replace HRL := Lib.hid (HRL.out.below (below_of hg2))
    have HRB := Lib.hid (row_made hr2 (Below.refl _ _))
    have HRBs := Lib.hid (Below.size (show Below w.heap.size w w1 from k1))
    refine hK.out _ _ (bel0 k1 (below_of hg2)) (fun k2 => ?_)
    clear hr2 hg2
    clear hK K
    try simp only [List.setIfInBounds_toArray, List.set_cons_zero, List.set_cons_succ]
    refine wpAnyH_take (i := 5) (oi := { dst := some 20, op := Go.Op.build 67 #[(0, Go.Operand.tmp 16), (1, Go.Operand.tmp 19)], type := 67, pos := "store.go:17", after := #[{ on := 1, ground := Go.Ground.data }, { on := 4, ground := Go.Ground.data }], guard := none }) (v := .agg #[.slice (some ⟨w1.heap.size, 0, none⟩) N N, .slice (some ⟨w.drew.heap.size, 0, none⟩) M M]) rfl (by kernel_rfl) (by kernel_rfl) (by kernel_rfl) (fun _ _ _ h => h) (Or.inl ⟨by rfl, fun W hSw => by (try dsimp only at hSw); go_simp⟩) k2 ?_
    try simp only [Act.put, List.setIfInBounds_toArray, List.set_cons_zero, List.set_cons_succ]
    refine wpAnyH_ready (rs := [6]) (by kernel_rfl) (by simp) ?_
    refine AllReadyH.cons (o := { dst := some 21, op := Go.Op.box 67 (Go.Operand.tmp 20), type := 23, pos := "store.go:17", after := #[{ on := 5, ground := Go.Ground.data }], guard := none }) rfl (fun K hK => ?_) AllReadyH.nil
    go_simp
    refine hK.out _ _ (bel0 k2 (below_new _ _)) (fun k3 => ?_)
    clear hK K
    try simp only [List.setIfInBounds_toArray, List.set_cons_zero, List.set_cons_succ]
    refine wpAnyH_take (i := 7) (oi := { dst := some 2, op := Go.Op.assign (Go.Operand.tmp 21), type := 23, pos := "store.go:17", after := #[{ on := 6, ground := Go.Ground.data }, { on := 0, ground := Go.Ground.phase }, { on := 1, ground := Go.Ground.phase }, { on := 2, ground := Go.Ground.phase }, { on := 3, ground := Go.Ground.phase }, { on := 4, ground := Go.Ground.phase }, { on := 5, ground := Go.Ground.phase }, { on := 6, ground := Go.Ground.phase }], guard := none }) (v := .pointer (some ⟨w2.heap.size, 0, none⟩)) rfl (by kernel_rfl) (by kernel_rfl) (by kernel_rfl) (fun _ _ _ h => h) (Or.inl ⟨by rfl, fun W hSw => by (try dsimp only at hSw); go_simp⟩) k3 ?_
    try simp only [Act.put, List.setIfInBounds_toArray, List.set_cons_zero, List.set_cons_succ]
    refine wpAnyH_take (i := 8) (oi := { dst := some 3, op := Go.Op.assign (Go.Operand.const (Go.Value.int Go.IntKind.i64 0)), type := 40, pos := "store.go:17", after := #[{ on := 7, ground := Go.Ground.chain }, { on := 0, ground := Go.Ground.phase }, { on := 1, ground := Go.Ground.phase }, { on := 2, ground := Go.Ground.phase }, { on := 3, ground := Go.Ground.phase }, { on := 4, ground := Go.Ground.phase }, { on := 5, ground := Go.Ground.phase }, { on := 6, ground := Go.Ground.phase }, { on := 7, ground := Go.Ground.phase }], guard := none }) (v := .int .i64 0) rfl (by kernel_rfl) (by kernel_rfl) (by kernel_rfl) (fun _ _ _ h => h) (Or.inl ⟨by rfl, fun W hSw => by (try dsimp only at hSw); go_simp⟩) k3 ?_
    try simp only [Act.put, List.setIfInBounds_toArray, List.set_cons_zero, List.set_cons_succ]
    refine wpAnyH_done (by kernel_rfl) ?_ _
    refine NoPanic.normal ?_
    go_wp2
    go_ret2
    exact ⟨_, _, _, rfl, ⟨Bx.new _ _ _, Row.rep HRB.out (below_new _ _), Row.rep HRL.out (below_new _ _), by simp, by simp, HNM.out.1, HNM.out.2.1, HNM.out.2.2⟩, Below.size (show Below w.heap.size w w2 from k2), HRBs.out, HRLs.out, k3⟩
theorem new_no (x : Int) (w : World) (h : sizeOk x = false) : Calls Try.prog 18 #[.int .i64 x] w fun e w' => e = .returned (.tuple #[.pointer none, .int .i64 1]) ∧ w = w' := by
  have h' := of_decide_eq_false h
  by_cases h1 : x < 2048
  · clear h h'
    go_enter Try.func18, Try.ntmps18
    go_wp2
    go_ret2
    exact ⟨rfl, rfl⟩
  · by_cases h2 : 65536 < x
    · clear h h'
      go_enter Try.func18, Try.ntmps18
      go_wp2
      go_ret2
      exact ⟨rfl, rfl⟩
    · have h3 : ¬ x % 2048 = 0 := fun h3 => h' ⟨by omega, by omega, h3⟩
      clear h h'
      go_enter Try.func18, Try.ntmps18
      go_wp2
      go_ret2
      exact ⟨rfl, rfl⟩
set_option maxRecDepth 100000 in
set_option maxHeartbeats 1000000 in
theorem rnew_any (x : Int) (w : World) (h : sizeOk x = true) : Calls Try.prog 11 #[.int .i64 x] w (RNewPost w x.toNat (x.toNat / 2048)) := by
  obtain ⟨h1, h2, h3⟩ := of_decide_eq_true h
  obtain ⟨N, rfl⟩ := Int.eq_ofNat_of_zero_le (show 0 ≤ x by omega)
  obtain ⟨M, hM⟩ : ∃ M, M = N / 2048 := ⟨_, rfl⟩
  have hNM : N = M * 2048 ∧ 1 ≤ M ∧ M ≤ 32 := by omega
  have HNM := Lib.hid hNM
  have hd1 : ¬ (N : Int) < 2048 := by omega
  have hd2 : ¬ (65536 : Int) < (N : Int) := by omega
  have hN : N ≤ 65536 := by omega
  have hM32 : M ≤ 32 := by omega
  have hr : (N : Int) % 2048 = 0 := by omega
  have hr' : Int.tmod (N : Int) 2048 = 0 := by rw [Int.tmod_eq_emod_of_nonneg (by omega)]; exact hr
  have hq : IntKind.i64.wrap ((N : Int) / 2048) = (M : Int) := by
    rw [show (N : Int) / 2048 = (M : Int) by omega]
    exact i64wrap (by omega)
  obtain ⟨iu0, iuh, iua, iub, iuc⟩ := info_parts info5
  obtain ⟨il0, ilh, ila, ilb, ilc⟩ := info_parts info3
  show Calls _ _ _ _ (RNewPost w N (N / 2048))
  rw [← hM]
  clear h h1 h2 h3 hM hNM
  go_enter Try.func11, Try.ntmps11
  go_upto_region 3 with fail
  refine wp_region_noPanic ?_
  refine wp_region_held_drew (S := fun W => Below w.heap.size w W) (by kernel_rfl) ((Below.refl _ w).drew) (fun k0 => ?_)
  show wpAnyH _ _ _ _ _ 8 #[false, false, false, false, false, false, false, false] _ _
  refine wpAnyH_take (i := 0) (oi := { dst := some 14, op := Go.Op.move (Go.Operand.tmp 0), type := 3, pos := "ref.go:24", after := #[], guard := none }) (v := .int .i64 (N : Int)) rfl (by kernel_rfl) (by kernel_rfl) (by kernel_rfl) (fun _ _ _ h => h) (Or.inl ⟨by rfl, fun W hSw => by (try dsimp only at hSw); go_simp⟩) k0 ?_
  try simp only [Act.put, List.setIfInBounds_toArray, List.set_cons_zero, List.set_cons_succ]
  refine wpAnyH_take (i := 2) (oi := { dst := some 16, op := Go.Op.move (Go.Operand.tmp 0), type := 3, pos := "ref.go:24", after := #[], guard := none }) (v := .int .i64 (N : Int)) rfl (by kernel_rfl) (by kernel_rfl) (by kernel_rfl) (fun _ _ _ h => h) (Or.inl ⟨by rfl, fun W hSw => by (try dsimp only at hSw); go_simp⟩) k0 ?_
  try simp only [Act.put, List.setIfInBounds_toArray, List.set_cons_zero, List.set_cons_succ]
  refine wpAnyH_take (i := 3) (oi := { dst := some 17, op := Go.Op.binOp Go.BinOp.quo 3 (Go.Operand.tmp 16) (Go.Operand.const (Go.Value.int Go.IntKind.i64 2048)) 3, type := 3, pos := "ref.go:24", after := #[{ on := 2, ground := Go.Ground.data }], guard := none }) (v := .int .i64 (M : Int)) rfl (by kernel_rfl) (by kernel_rfl) (by kernel_rfl) (fun _ _ _ h => h) (Or.inl ⟨by rfl, fun W hSw => by (try dsimp only at hSw); go_simp⟩) k0 ?_
  try simp only [Act.put, List.setIfInBounds_toArray, List.set_cons_zero, List.set_cons_succ]
  refine wpAnyH_ready (rs := [1, 4]) (by kernel_rfl) (by simp) ?_
  refine AllReadyH.cons (o := { dst := some 15, op := Go.Op.makeSlice 29 (Go.Operand.tmp 14) (Go.Operand.tmp 14), type := 29, pos := "ref.go:24", after := #[{ on := 0, ground := Go.Ground.data }, { on := 0, ground := Go.Ground.data }], guard := none }) rfl (fun K hK => ?_) (AllReadyH.cons (o := { dst := some 18, op := Go.Op.makeSlice 61 (Go.Operand.tmp 17) (Go.Operand.tmp 17), type := 61, pos := "ref.go:24", after := #[{ on := 3, ground := Go.Ground.data }, { on := 3, ground := Go.Ground.data }], guard := none }) rfl (fun K hK => ?_) AllReadyH.nil)
  · rw [if_pos (by rfl)]
    refine op_make (.tmp 14) (.tmp 14) 29 rfl 5 iu0 (.int .u8 0) Try.underlying29 iuh iua iub N rfl rfl (by rw [iuc]; omega) (by unfold maxLen; omega) ?_
    intro w1 hr1 hg1
    have HRB := Lib.hid (row_made hr1 (Below.refl _ _))
    have HRBs := Lib.hid (Below.size (show Below w.heap.size w w.drew from k0))
    refine hK.out _ _ (bel0 k0 (below_of hg1)) (fun k1 => ?_)
    clear hr1 hg1
    clear hK K
    try simp only [List.setIfInBounds_toArray, List.set_cons_zero, List.set_cons_succ]
    refine wpAnyH_ready (rs := [4]) (by kernel_rfl) (by simp) ?_
    refine AllReadyH.cons (o := { dst := some 18, op := Go.Op.makeSlice 61 (Go.Operand.tmp 17) (Go.Operand.tmp 17), type := 61, pos := "ref.go:24", after := #[{ on := 3, ground := Go.Ground.data }, { on := 3, ground := Go.Ground.data }], guard := none }) rfl (fun K hK => ?_) AllReadyH.nil
    rw [if_pos (by rfl)]
    refine op_make (.tmp 17) (.tmp 17) 61 rfl 3 il0 (.int .i64 0) Try.underlying61 ilh ila ilb M rfl rfl (by rw [ilc]; omega) (by unfold maxLen; omega) ?_
    intro w2 hr2 hg2
    replace HRB := Lib.hid (HRB.out.below (below_of hg2))
    have HRL := Lib.hid (row_made hr2 (Below.refl _ _))
    have HRLs := Lib.hid (Below.size (show Below w.heap.size w w1 from k1))
    refine hK.out _ _ (bel0 k1 (below_of hg2)) (fun k2 => ?_)
    clear hr2 hg2
    clear hK K
    try simp only [List.setIfInBounds_toArray, List.set_cons_zero, List.set_cons_succ]
    refine wpAnyH_take (i := 5) (oi := { dst := some 19, op := Go.Op.build 63 #[(0, Go.Operand.tmp 15), (1, Go.Operand.tmp 18)], type := 63, pos := "ref.go:24", after := #[{ on := 1, ground := Go.Ground.data }, { on := 4, ground := Go.Ground.data }], guard := none }) (v := .agg #[.slice (some ⟨w.drew.heap.size, 0, none⟩) N N, .slice (some ⟨w1.heap.size, 0, none⟩) M M]) rfl (by kernel_rfl) (by kernel_rfl) (by kernel_rfl) (fun _ _ _ h => h) (Or.inl ⟨by rfl, fun W hSw => by (try dsimp only at hSw); go_simp⟩) k2 ?_
    try simp only [Act.put, List.setIfInBounds_toArray, List.set_cons_zero, List.set_cons_succ]
    refine wpAnyH_ready (rs := [6]) (by kernel_rfl) (by simp) ?_
    refine AllReadyH.cons (o := { dst := some 20, op := Go.Op.box 63 (Go.Operand.tmp 19), type := 25, pos := "ref.go:24", after := #[{ on := 5, ground := Go.Ground.data }], guard := none }) rfl (fun K hK => ?_) AllReadyH.nil
    go_simp
    refine hK.out _ _ (bel0 k2 (below_new _ _)) (fun k3 => ?_)
    clear hK K
    try simp only [List.setIfInBounds_toArray, List.set_cons_zero, List.set_cons_succ]
    refine wpAnyH_take (i := 7) (oi := { dst := some 2, op := Go.Op.assign (Go.Operand.tmp 20), type := 25, pos := "ref.go:24", after := #[{ on := 6, ground := Go.Ground.data }, { on := 0, ground := Go.Ground.phase }, { on := 1, ground := Go.Ground.phase }, { on := 2, ground := Go.Ground.phase }, { on := 3, ground := Go.Ground.phase }, { on := 4, ground := Go.Ground.phase }, { on := 5, ground := Go.Ground.phase }, { on := 6, ground := Go.Ground.phase }], guard := none }) (v := .pointer (some ⟨w2.heap.size, 0, none⟩)) rfl (by kernel_rfl) (by kernel_rfl) (by kernel_rfl) (fun _ _ _ h => h) (Or.inl ⟨by rfl, fun W hSw => by (try dsimp only at hSw); go_simp⟩) k3 ?_
    try simp only [Act.put, List.setIfInBounds_toArray, List.set_cons_zero, List.set_cons_succ]
    refine wpAnyH_done (by kernel_rfl) ?_ _
    refine NoPanic.normal ?_
    go_wp2
    go_ret
    exact ⟨_, _, _, rfl, ⟨Bx.new _ _ _, Row.rep HRB.out (below_new _ _), Row.repI HRL.out (below_new _ _), by simp, by simp, HNM.out.1, HNM.out.2.1, HNM.out.2.2, by omega, by omega⟩, Below.size (show Below w.heap.size w w2 from k2), HRBs.out, HRLs.out, k3⟩
  · rw [if_pos (by rfl)]
    refine op_make (.tmp 17) (.tmp 17) 61 rfl 3 il0 (.int .i64 0) Try.underlying61 ilh ila ilb M rfl rfl (by rw [ilc]; omega) (by unfold maxLen; omega) ?_
    intro w1 hr1 hg1
    have HRL := Lib.hid (row_made hr1 (Below.refl _ _))
    have HRLs := Lib.hid (Below.size (show Below w.heap.size w w.drew from k0))
    refine hK.out _ _ (bel0 k0 (below_of hg1)) (fun k1 => ?_)
    clear hr1 hg1
    clear hK K
    try simp only [List.setIfInBounds_toArray, List.set_cons_zero, List.set_cons_succ]
    refine wpAnyH_ready (rs := [1]) (by kernel_rfl) (by simp) ?_
    refine AllReadyH.cons (o := { dst := some 15, op := Go.Op.makeSlice 29 (Go.Operand.tmp 14) (Go.Operand.tmp 14), type := 29, pos := "ref.go:24", after := #[{ on := 0, ground := Go.Ground.data }, { on := 0, ground := Go.Ground.data }], guard := none }) rfl (fun K hK => ?_) AllReadyH.nil
    rw [if_pos (by rfl)]
    refine op_make (.tmp 14) (.tmp 14) 29 rfl 5 iu0 (.int .u8 0) Try.underlying29 iuh iua iub N rfl rfl (by rw [iuc]; omega) (by unfold maxLen; omega) ?_
    intro w2 hr2 hg2
    replace HRL := Lib.hid (HRL.out.below (below_of hg2))
    have HRB := Lib.hid (row_made hr2 (Below.refl _ _))
    have HRBs := Lib.hid (Below.size (show Below w.heap.size w w1 from k1))
    refine hK.out _ _ (bel0 k1 (below_of hg2)) (fun k2 => ?_)
    clear hr2 hg2
    clear hK K
    try simp only [List.setIfInBounds_toArray, List.set_cons_zero, List.set_cons_succ]
    refine wpAnyH_take (i := 5) (oi := { dst := some 19, op := Go.Op.build 63 #[(0, Go.Operand.tmp 15), (1, Go.Operand.tmp 18)], type := 63, pos := "ref.go:24", after := #[{ on := 1, ground := Go.Ground.data }, { on := 4, ground := Go.Ground.data }], guard := none }) (v := .agg #[.slice (some ⟨w1.heap.size, 0, none⟩) N N, .slice (some ⟨w.drew.heap.size, 0, none⟩) M M]) rfl (by kernel_rfl) (by kernel_rfl) (by kernel_rfl) (fun _ _ _ h => h) (Or.inl ⟨by rfl, fun W hSw => by (try dsimp only at hSw); go_simp⟩) k2 ?_
    try simp only [Act.put, List.setIfInBounds_toArray, List.set_cons_zero, List.set_cons_succ]
    refine wpAnyH_ready (rs := [6]) (by kernel_rfl) (by simp) ?_
    refine AllReadyH.cons (o := { dst := some 20, op := Go.Op.box 63 (Go.Operand.tmp 19), type := 25, pos := "ref.go:24", after := #[{ on := 5, ground := Go.Ground.data }], guard := none }) rfl (fun K hK => ?_) AllReadyH.nil
    go_simp
    refine hK.out _ _ (bel0 k2 (below_new _ _)) (fun k3 => ?_)
    clear hK K
    try simp only [List.setIfInBounds_toArray, List.set_cons_zero, List.set_cons_succ]
    refine wpAnyH_take (i := 7) (oi := { dst := some 2, op := Go.Op.assign (Go.Operand.tmp 20), type := 25, pos := "ref.go:24", after := #[{ on := 6, ground := Go.Ground.data }, { on := 0, ground := Go.Ground.phase }, { on := 1, ground := Go.Ground.phase }, { on := 2, ground := Go.Ground.phase }, { on := 3, ground := Go.Ground.phase }, { on := 4, ground := Go.Ground.phase }, { on := 5, ground := Go.Ground.phase }, { on := 6, ground := Go.Ground.phase }], guard := none }) (v := .pointer (some ⟨w2.heap.size, 0, none⟩)) rfl (by kernel_rfl) (by kernel_rfl) (by kernel_rfl) (fun _ _ _ h => h) (Or.inl ⟨by rfl, fun W hSw => by (try dsimp only at hSw); go_simp⟩) k3 ?_
    try simp only [Act.put, List.setIfInBounds_toArray, List.set_cons_zero, List.set_cons_succ]
    refine wpAnyH_done (by kernel_rfl) ?_ _
    refine NoPanic.normal ?_
    go_wp2
    go_ret
    exact ⟨_, _, _, rfl, ⟨Bx.new _ _ _, Row.rep HRB.out (below_new _ _), Row.repI HRL.out (below_new _ _), by simp, by simp, HNM.out.1, HNM.out.2.1, HNM.out.2.2, by omega, by omega⟩, Below.size (show Below w.heap.size w w2 from k2), HRBs.out, HRLs.out, k3⟩
theorem rnew_no (x : Int) (w : World) (h : sizeOk x = false) : Calls Try.prog 11 #[.int .i64 x] w fun e w' => e = .returned (.pointer none) ∧ w = w' := by
  have h' := of_decide_eq_false h
  by_cases h1 : x < 2048
  · clear h h'
    go_enter Try.func11, Try.ntmps11
    go_wp2
    go_ret
    exact ⟨rfl, rfl⟩
  · by_cases h2 : 65536 < x
    · clear h h'
      go_enter Try.func11, Try.ntmps11
      go_wp2
      go_ret
      exact ⟨rfl, rfl⟩
    · have h3 : ¬ x % 2048 = 0 := fun h3 => h' ⟨by omega, by omega, h3⟩
      clear h h'
      go_enter Try.func11, Try.ntmps11
      go_wp2
      go_ret
      exact ⟨rfl, rfl⟩

end E
end Go.Proofs.Ytnnpnklbhghegaa

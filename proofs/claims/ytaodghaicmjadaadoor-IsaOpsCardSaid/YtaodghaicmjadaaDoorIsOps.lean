/- The contract of Ops. -/
import Derived.Test.YtaodghaicmjadaaDoorIsFind
namespace Go.Proofs.YtaodghaicmjadaaDoor
open Go.RowKit Go.Shelf
set_option linter.unusedVariables false
namespace E
attribute [local go_sem] Oper.semAt_some

theorem op_all (k : Nat) : (gt (rowL k) 0).toNat = opK k ∧ opK k < 256 := by
  by_cases hk : k < 97
  · exact ⟨row_op k hk, op_lt k hk⟩
  · have h1 : rowT k = (0, [], 0) := by
      unfold rowT
      rw [List.getD_eq_getElem?_getD, List.getElem?_eq_none (by show rowsT.length ≤ k; have : rowsT.length = 97 := by decide +kernel
                                                                omega)]
      rfl
    have h2 : opK k = 0 := by simp [opK, h1]
    refine ⟨?_, by omega⟩
    show (UInt8.ofNat (opK k)).toNat = opK k
    rw [h2]
    rfl
theorem code_all (k : Nat) (w : World) : Calls Tryd.prog 41 #[.string (rowS k)] w fun e w' => e = .returned (.int .i64 (opK k : Int)) ∧ w = w' := by
  have h1 := rowS_size k
  have h2 : ∀ h : 0 < (rowS k).size, (rowS k)[0] = gt (rowL k) 0 := rowS_at k 0
  have h3 : ((gt (rowL k) 0).toNat : Int) = (opK k : Int) := by rw [(op_all k).1]
  have h5 : wrap64 ((opK k : Nat) : Int) = (opK k : Int) := by have := (op_all k).2; unfold wrap64; omega
  generalize rowS k = s at *
  generalize gt (rowL k) 0 = x at *
  go_enter Tryd.func41, Tryd.ntmps41
  go_wp2
  go_ret
  exact ⟨by simp [h5], rfl⟩
def opc (k : Nat) : Value := .int .i64 (opK k : Int)
theorem opc_one (x : Nat) : ∀ v ∈ [opc x], v.oneCell' = true := by
  intro v hv
  obtain rfl := List.mem_singleton.1 hv
  rfl
theorem infoI : (Tryd.prog.info? 3).map (fun i => (i.zero, i.size, i.bytes)) = some (some (.int .i64 0), 1, 8) := by kernel_rfl
/-- Between two rounds. -/
def OI (n₀ B : Nat) (pre : List Nat) (W : World) : Prop := ∃ v, Boxed W B 45 v ∧ W.ownsRow n₀ 3 1 v pre.length (pre.map opc) ∧ True
theorem OI.own (n₀ B : Nat) : Go.Own (OI n₀ B) := holdsRow_own n₀ B 45 3 1 List.length (List.map opc) (fun _ _ => True)
set_option maxRecDepth 100000 in
set_option maxHeartbeats 2000000 in
theorem ops_any (w : World) : Calls Tryd.prog 30 #[] w fun e w' => ∃ v, e = .returned v ∧ w'.ownsRow w.heap.size 3 1 v 97 ((List.range 97).map opc) ∧ Below w.heap.size w w' := by
  refine (callsIn_wide (n := 5)).1 ?_
  have hro : Fence.wide.round = none := rfl
  obtain ⟨il0, ilh, ila, ilb, ilc⟩ := info_parts infoI
  have hgf := Lib.hid (enters_of Tryd.func58 (by kernel_rfl) rfl)
  obtain ⟨w1, hw1⟩ : ∃ w1, w1 = w.alloc (.cells #[.slice none 0 0] 45) := ⟨_, rfl⟩
  have HB0 : Hid (Below w.heap.size w w1) := Lib.hid (by rw [hw1]; exact below_new w _)
  have HI0 : Hid (OI w.heap.size w.heap.size [] w1) := Lib.hid ⟨_, by rw [hw1]; exact Boxed.new w _ _, ⟨rfl, .inl ⟨rfl, rfl⟩⟩, trivial⟩
  have HW1 := Lib.hid hw1
  have hszW : w.heap.size ≤ w1.heap.size := HB0.out.size
  clear hw1
  refine callsIn_of_wp_marks Tryd.func30 rfl trivial ?_ hro
  simp only [Tryd.ntmps30, List.size_toArray, List.length_cons, List.length_nil, Nat.reduceAdd, Nat.reduceSub, Array.replicate_succ, Array.replicate_zero, List.push_toArray, List.append_toArray, List.nil_append, List.cons_append]
  gi_wp2_with fail
  rw [← HW1.out]
  refine ⟨trivial, (callsIn_wide.2 (rowsV_any _)).mono ?_⟩
  rintro e w' ⟨rfl, rfl⟩
  gi_wp2_with fail
  refine wpIn_rangeFunc_ownG hro (by omega) (gf := 58) (lb := #[]) rfl trivial hgf.out
    (rows_stops (5 - 1) (by omega) w.heap.size w1) belowK_t (belowK_b hszW) (Below.refl _ w1) (fun _ => rfl)
    (fun pre W => OI w.heap.size w.heap.size pre W ∧ Below w.heap.size w W)
    (fun cd pre W => False)
    (OwnFrom.and (Own.from (OI.own _ _) _) (ownFrom_below (Nat.le_refl _) hszW))
    (fun cd _ _ _ _ h _ _ => h)
    ⟨HI0.out, HB0.out⟩
    (fun k => { tmps := #[.slice none 0 0, .pointer (some ⟨w.heap.size, 0, none⟩), .string (rowS k), .func (.func 58) #[] #[], .string (rowS k), undef, undef, undef, undef, undef, undef], defers := [] }) ?assign ?body ?done ?stop
  case assign =>
    intro l b W K hK
    unfold encR
    gi_wp2
    exact hK
  case body =>
    rintro lp pre x W ⟨⟨sv, hbx, how, -⟩, hB⟩ hlt
    have HB := Lib.hid hB
    have HSZ := Lib.hid (show w.heap.size ≤ (W.drew.alloc (.cells #[opc x] 3)).heap.size by rw [World.size_alloc]; exact Nat.le_succ_of_le hB.size)
    have HSZD := Lib.hid (show w.heap.size ≤ W.drew.heap.size from hB.size)
    have HBD := Lib.hid (hbx.kept (grown_drewN W 1 none) (by simp) : Boxed W.drew w.heap.size 45 sv)
    have HOD := Lib.hid (own_kept how (belowDraw W 1) : W.drew.ownsRow w.heap.size 3 1 sv pre.length (pre.map opc))
    have HOW := Lib.hid (own_kept HOD.out (below_new W.drew (.cells #[opc x] 3)))
    have HK0 := Lib.hid (keeps_drewN W 1)
    have HBL0 := Lib.hid ((belowDraw W 1).mono hB.size)
    have c1 := hbx.cell
    have c2 : (W.alloc (.cells #[opc x] 3)).cell? ⟨w.heap.size, 0, none⟩ = some sv := (HBD.out.alloc _).cell
    unfold opc at c2
    clear hbx how hB
    gi_wp2_with fail
    refine round_of_any (by kernel_rfl) (by kernel_rfl) ?_
    show wpAny _ _ _ _ 6 #[false, false, false, false, false, false] _ _
    refine wpAny_take (i := 1) (oi := { dst := some 6, op := Go.Op.move (Go.Operand.tmp 2), type := 47, pos := "isa.go:151", after := #[], guard := none }) (v := .string (rowS x)) rfl (by kernel_rfl) (by kernel_rfl) (by kernel_rfl) (fun _ _ _ h => h) (Or.inl ⟨by rfl, fun w => by go_simp⟩) ?_
    try simp only [Act.put, List.setIfInBounds_toArray, List.set_cons_zero, List.set_cons_succ]
    refine wpAny_ready (rs := [0, 2]) (by kernel_rfl) (by simp) ?_
    refine AllReady.cons (o := { dst := some 5, op := Go.Op.load 45 (Go.Operand.tmp 1), type := 45, pos := "isa.go:151", after := #[], guard := none }) rfl (fun K hK => ?_) (AllReady.cons (o := { dst := some 7, op := Go.Op.call { callee := Go.Callee.value (Go.Operand.func 41), args := #[Go.Operand.tmp 6], argTypes := #[47] }, type := 3, pos := "isa.go:151", after := #[{ on := 1, ground := Go.Ground.data }], guard := none }) rfl (fun K hK => ?_) AllReady.nil)
    · go_simp
      refine hK _ _ ?_
      clear hK K
      try simp only [Act.put, List.setIfInBounds_toArray, List.set_cons_zero, List.set_cons_succ]
      refine wpAny_ready (rs := [2]) (by kernel_rfl) (by simp) ?_
      refine AllReady.cons (o := { dst := some 7, op := Go.Op.call { callee := Go.Callee.value (Go.Operand.func 41), args := #[Go.Operand.tmp 6], argTypes := #[47] }, type := 3, pos := "isa.go:151", after := #[{ on := 1, ground := Go.Ground.data }], guard := none }) rfl (fun K hK => ?_) AllReady.nil
      have HK := Lib.hid hK
      clear hK
      go_simp
      go_at_call 41
      refine (code_all x _).mono ?_
      rintro e x1 ⟨rfl, rfl⟩
      go_wp2_with fail
      refine HK.out _ _ ?_
      clear HK K
      try simp only [Act.put, List.setIfInBounds_toArray, List.set_cons_zero, List.set_cons_succ]
      refine wpAny_ready (rs := [3]) (by kernel_rfl) (by simp) ?_
      refine AllReady.cons (o := { dst := some 8, op := Go.Op.buildSlice 45 1 #[(0, Go.Operand.tmp 7)], type := 45, pos := "isa.go:151", after := #[{ on := 2, ground := Go.Ground.data }], guard := none }) rfl (fun K hK => ?_) AllReady.nil
      go_simp
      refine hK _ _ ?_
      clear hK K
      try simp only [Act.put, List.setIfInBounds_toArray, List.set_cons_zero, List.set_cons_succ]
      refine wpAny_ready (rs := [4]) (by kernel_rfl) (by simp) ?_
      refine AllReady.cons (o := { dst := some 9, op := Go.Op.call { callee := Go.Callee.builtin Go.Builtin.append, args := #[Go.Operand.tmp 5, Go.Operand.tmp 8], argTypes := #[45, 45] }, type := 45, pos := "isa.go:151", after := #[{ on := 0, ground := Go.Ground.data }, { on := 3, ground := Go.Ground.data }, { on := 2, ground := Go.Ground.chain }], guard := none }) rfl (fun K hK => ?_) AllReady.nil
      refine wp_append_own _ (.tmp 5) (.tmp 8) 45 rfl w.heap.size 3 il0 (.int .i64 0) 1 8 Tryd.underlying45 ilh ila ilb ilc rfl (by decide) sv pre.length (pre.map opc) rfl HOW.out ⟨W.heap.size, 0, none⟩ 1 1 [opc x] rfl rfl (cellNew W.drew (opc x) _) (opc_one x) (by unfold maxLen; omega) (by omega) HSZ.out ?_
      rintro v' w1 hown' hgrow -
      obtain ⟨HB1, HB2, HO2, HK2, HBL⟩ := Boxed.appended HBD.out (by decide) HOD.out HSZD.out (Nat.le_refl _) hown' hgrow
      obtain ⟨g', c', rfl⟩ := ownsRow_succ hown'
      have cB := HB1.cell
      have fB := HB1.frozen
      refine hK _ _ ?_
      clear hK K
      try simp only [Act.put, List.setIfInBounds_toArray, List.set_cons_zero, List.set_cons_succ]
      refine wpAny_ready (rs := [5]) (by kernel_rfl) (by simp) ?_
      refine AllReady.cons (o := { dst := none, op := Go.Op.store 45 (Go.Operand.tmp 1) (Go.Operand.tmp 9), type := 0, pos := "isa.go:151", after := #[{ on := 4, ground := Go.Ground.data }, { on := 4, ground := Go.Ground.chain }, { on := 0, ground := Go.Ground.phase }, { on := 1, ground := Go.Ground.phase }, { on := 2, ground := Go.Ground.phase }, { on := 3, ground := Go.Ground.phase }, { on := 4, ground := Go.Ground.phase }], guard := none }) rfl (fun K hK => ?_) AllReady.nil
      go_simp
      refine hK _ _ ?_
      clear hK K
      try simp only [Act.put, List.setIfInBounds_toArray, List.set_cons_zero, List.set_cons_succ]
      refine wpAny_done (by kernel_rfl) ?_ _
      refine onlyN_normal ?_
      gi_wp2
      exact ⟨(HK0.out.trans HK2).from _, (HBL0.out).trans HBL, ⟨_, HB2, by rw [List.length_append, List.map_append]; exact HO2, trivial⟩, HB.out.trans (HBL0.out.trans HBL)⟩
    · have HK := Lib.hid hK
      clear hK
      go_simp
      go_at_call 41
      refine (code_all x _).mono ?_
      rintro e x1 ⟨rfl, rfl⟩
      go_wp2_with fail
      refine HK.out _ _ ?_
      clear HK K
      try simp only [Act.put, List.setIfInBounds_toArray, List.set_cons_zero, List.set_cons_succ]
      refine wpAny_ready (rs := [0, 3]) (by kernel_rfl) (by simp) ?_
      refine AllReady.cons (o := { dst := some 5, op := Go.Op.load 45 (Go.Operand.tmp 1), type := 45, pos := "isa.go:151", after := #[], guard := none }) rfl (fun K hK => ?_) (AllReady.cons (o := { dst := some 8, op := Go.Op.buildSlice 45 1 #[(0, Go.Operand.tmp 7)], type := 45, pos := "isa.go:151", after := #[{ on := 2, ground := Go.Ground.data }], guard := none }) rfl (fun K hK => ?_) AllReady.nil)
      · go_simp
        refine hK _ _ ?_
        clear hK K
        try simp only [Act.put, List.setIfInBounds_toArray, List.set_cons_zero, List.set_cons_succ]
        refine wpAny_ready (rs := [3]) (by kernel_rfl) (by simp) ?_
        refine AllReady.cons (o := { dst := some 8, op := Go.Op.buildSlice 45 1 #[(0, Go.Operand.tmp 7)], type := 45, pos := "isa.go:151", after := #[{ on := 2, ground := Go.Ground.data }], guard := none }) rfl (fun K hK => ?_) AllReady.nil
        go_simp
        refine hK _ _ ?_
        clear hK K
        try simp only [Act.put, List.setIfInBounds_toArray, List.set_cons_zero, List.set_cons_succ]
        refine wpAny_ready (rs := [4]) (by kernel_rfl) (by simp) ?_
        refine AllReady.cons (o := { dst := some 9, op := Go.Op.call { callee := Go.Callee.builtin Go.Builtin.append, args := #[Go.Operand.tmp 5, Go.Operand.tmp 8], argTypes := #[45, 45] }, type := 45, pos := "isa.go:151", after := #[{ on := 0, ground := Go.Ground.data }, { on := 3, ground := Go.Ground.data }, { on := 2, ground := Go.Ground.chain }], guard := none }) rfl (fun K hK => ?_) AllReady.nil
        refine wp_append_own _ (.tmp 5) (.tmp 8) 45 rfl w.heap.size 3 il0 (.int .i64 0) 1 8 Tryd.underlying45 ilh ila ilb ilc rfl (by decide) sv pre.length (pre.map opc) rfl HOW.out ⟨W.heap.size, 0, none⟩ 1 1 [opc x] rfl rfl (cellNew W.drew (opc x) _) (opc_one x) (by unfold maxLen; omega) (by omega) HSZ.out ?_
        rintro v' w1 hown' hgrow -
        obtain ⟨HB1, HB2, HO2, HK2, HBL⟩ := Boxed.appended HBD.out (by decide) HOD.out HSZD.out (Nat.le_refl _) hown' hgrow
        obtain ⟨g', c', rfl⟩ := ownsRow_succ hown'
        have cB := HB1.cell
        have fB := HB1.frozen
        refine hK _ _ ?_
        clear hK K
        try simp only [Act.put, List.setIfInBounds_toArray, List.set_cons_zero, List.set_cons_succ]
        refine wpAny_ready (rs := [5]) (by kernel_rfl) (by simp) ?_
        refine AllReady.cons (o := { dst := none, op := Go.Op.store 45 (Go.Operand.tmp 1) (Go.Operand.tmp 9), type := 0, pos := "isa.go:151", after := #[{ on := 4, ground := Go.Ground.data }, { on := 4, ground := Go.Ground.chain }, { on := 0, ground := Go.Ground.phase }, { on := 1, ground := Go.Ground.phase }, { on := 2, ground := Go.Ground.phase }, { on := 3, ground := Go.Ground.phase }, { on := 4, ground := Go.Ground.phase }], guard := none }) rfl (fun K hK => ?_) AllReady.nil
        go_simp
        refine hK _ _ ?_
        clear hK K
        try simp only [Act.put, List.setIfInBounds_toArray, List.set_cons_zero, List.set_cons_succ]
        refine wpAny_done (by kernel_rfl) ?_ _
        refine onlyN_normal ?_
        gi_wp2
        exact ⟨(HK0.out.trans HK2).from _, (HBL0.out).trans HBL, ⟨_, HB2, by rw [List.length_append, List.map_append]; exact HO2, trivial⟩, HB.out.trans (HBL0.out.trans HBL)⟩
      · go_simp
        refine hK _ _ ?_
        clear hK K
        try simp only [Act.put, List.setIfInBounds_toArray, List.set_cons_zero, List.set_cons_succ]
        refine wpAny_ready (rs := [0]) (by kernel_rfl) (by simp) ?_
        refine AllReady.cons (o := { dst := some 5, op := Go.Op.load 45 (Go.Operand.tmp 1), type := 45, pos := "isa.go:151", after := #[], guard := none }) rfl (fun K hK => ?_) AllReady.nil
        go_simp
        refine hK _ _ ?_
        clear hK K
        try simp only [Act.put, List.setIfInBounds_toArray, List.set_cons_zero, List.set_cons_succ]
        refine wpAny_ready (rs := [4]) (by kernel_rfl) (by simp) ?_
        refine AllReady.cons (o := { dst := some 9, op := Go.Op.call { callee := Go.Callee.builtin Go.Builtin.append, args := #[Go.Operand.tmp 5, Go.Operand.tmp 8], argTypes := #[45, 45] }, type := 45, pos := "isa.go:151", after := #[{ on := 0, ground := Go.Ground.data }, { on := 3, ground := Go.Ground.data }, { on := 2, ground := Go.Ground.chain }], guard := none }) rfl (fun K hK => ?_) AllReady.nil
        refine wp_append_own _ (.tmp 5) (.tmp 8) 45 rfl w.heap.size 3 il0 (.int .i64 0) 1 8 Tryd.underlying45 ilh ila ilb ilc rfl (by decide) sv pre.length (pre.map opc) rfl HOW.out ⟨W.heap.size, 0, none⟩ 1 1 [opc x] rfl rfl (cellNew W.drew (opc x) _) (opc_one x) (by unfold maxLen; omega) (by omega) HSZ.out ?_
        rintro v' w1 hown' hgrow -
        obtain ⟨HB1, HB2, HO2, HK2, HBL⟩ := Boxed.appended HBD.out (by decide) HOD.out HSZD.out (Nat.le_refl _) hown' hgrow
        obtain ⟨g', c', rfl⟩ := ownsRow_succ hown'
        have cB := HB1.cell
        have fB := HB1.frozen
        refine hK _ _ ?_
        clear hK K
        try simp only [Act.put, List.setIfInBounds_toArray, List.set_cons_zero, List.set_cons_succ]
        refine wpAny_ready (rs := [5]) (by kernel_rfl) (by simp) ?_
        refine AllReady.cons (o := { dst := none, op := Go.Op.store 45 (Go.Operand.tmp 1) (Go.Operand.tmp 9), type := 0, pos := "isa.go:151", after := #[{ on := 4, ground := Go.Ground.data }, { on := 4, ground := Go.Ground.chain }, { on := 0, ground := Go.Ground.phase }, { on := 1, ground := Go.Ground.phase }, { on := 2, ground := Go.Ground.phase }, { on := 3, ground := Go.Ground.phase }, { on := 4, ground := Go.Ground.phase }], guard := none }) rfl (fun K hK => ?_) AllReady.nil
        go_simp
        refine hK _ _ ?_
        clear hK K
        try simp only [Act.put, List.setIfInBounds_toArray, List.set_cons_zero, List.set_cons_succ]
        refine wpAny_done (by kernel_rfl) ?_ _
        refine onlyN_normal ?_
        gi_wp2
        exact ⟨(HK0.out.trans HK2).from _, (HBL0.out).trans HBL, ⟨_, HB2, by rw [List.length_append, List.map_append]; exact HO2, trivial⟩, HB.out.trans (HBL0.out.trans HBL)⟩
  case done =>
    rintro D ys W hD rfl ⟨⟨sv, hbx, how, -⟩, hB⟩ hK
    have HB := Lib.hid hB
    have HK := Lib.hid hK
    have HO := Lib.hid how
    have c1 := hbx.cell
    clear hbx how hB hK
    gi_wp2
    have hK2 := HK.out
    refine ⟨by simp, .inl ⟨_, _, rfl, run_takeDeferred hK2, ?_⟩⟩
    refine ⟨_, results_tmp rfl _ _ _, _, rfl, ?_, HB.out.trans (belowK_b (w := w) (Nat.le_refl _) _ D _ _ (by omega) hK2 rfl rfl)⟩
    exact ownsRow_putObj HO.out (.deferred none) hK2 rfl
  case stop =>
    rintro D cd pre W hD hp h
    exact h.elim

end E
end Go.Proofs.YtaodghaicmjadaaDoor

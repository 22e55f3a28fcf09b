/- The contract of Encode. -/
import Derived.Test.YtaodghaicmjadaaDoorIsCheck
import Derived.Test.YtaodghaicmjadaaDoorIsEnP
namespace Go.Proofs.YtaodghaicmjadaaDoor
open Go.RowKit Go.Shelf
set_option linter.unusedVariables false
namespace E
attribute [local go_sem] Oper.semAt_some

theorem results_tt {P : Program} {fn : Func} {p q : Tmp} {w : World} {v v' : Value} {tmps : Array Value} (h : fn.results = #[.tmp p, .tmp q]) (hp : tmps.getD p undef = v) (hq : tmps.getD q undef = v') : (results fn tmps).run P w = .ok (.tuple #[v, v']) w := by
  subst hp hq
  simp [results, h, go_sem]
/-- What Encode leaves. -/
def EncPost (w : World) (Q : Ins) (e : Ending) (w' : World) : Prop :=
  (chkV Q ≠ 0 ∧ New w (.tuple #[.slice none 0 0, .int .i64 (chkV Q)]) e w') ∨
  (chkV Q = 0 ∧ ∃ sv, e = .returned (.tuple #[sv, .int .i64 0]) ∧ Hold w' w.heap.size sv (lastB (enW (foO (ixC Q.op)) Q) (lenO Q.op)) ∧ Below w.heap.size w w')
theorem chk_zero {Q : Ins} (h : chkV Q = 0) : ∃ F, F = foO (ixC Q.op) ∧ 1 ≤ F ∧ F ≤ 9 ∧ Q.fo = (F : Int) ∧ okB F Q = true ∧ rangeB F Q = true ∧ 0 ≤ Q.op ∧ Q.op < 256 := by
  unfold chkV at h
  by_cases h1 : foB Q = true
  · rw [if_pos h1] at h
    have h2 : okB (foO (ixC Q.op)) Q = true := by
      cases e : okB (foO (ixC Q.op)) Q with
      | true => rfl
      | false => rw [e] at h; simp at h
    unfold foB at h1
    simp only [Bool.and_eq_true, beq_iff_eq] at h1
    cases e : ixC Q.op with
    | none => rw [e] at h1; simp at h1
    | some k =>
      obtain ⟨hk, hop⟩ := ixC_some e
      have := op_lt k hk
      rw [e] at h1 h2
      exact ⟨foK k, rfl, (fo_in k hk).1, (fo_in k hk).2, h1.2, h2, ok_range _ _ h2, by omega, by omega⟩
  · rw [if_neg h1] at h
    simp at h
theorem len_small (op : Int) : lenO op ≤ 6 := by
  unfold lenO
  repeat' split
  all_goals omega
theorem len_pos {op : Int} (h0 : 0 ≤ op) (h1 : op < 256) : 2 ≤ lenO op := by
  unfold lenO
  repeat' split
  all_goals omega
/-- Between two rounds. -/
def EI (A Wd : Nat) (Q : Ins) (pre : List (Addr × Nat)) (W : World) : Prop :=
  Bx W A 28 Q.cs ∧ Boxed W Wd 55 (.int .u64 (((pre.map (kd A)).foldl (enStep Q) Q.op.toNat : Nat) : Int))
theorem EI.own (A Wd : Nat) (Q : Ins) : Go.Own (EI A Wd Q) := fun _ X Y row ⟨h1, h2⟩ hg hr => ⟨Bx.ab h1 hg hr, Boxed.ab h2 hg hr⟩
set_option maxRecDepth 100000 in
set_option maxHeartbeats 2000000 in
theorem encode_any (Q : Ins) (w : World) : Calls Tryd.prog 15 #[Q.val] w (EncPost w Q) := by
  refine (callsIn_wide (n := 7)).1 ?_
  have hro : Fence.wide.round = none := rfl
  have bA := Bx.new w 28 Q.cs
  obtain ⟨w1, hw1⟩ : ∃ w1, w1 = w.alloc (.cells Q.cs 28) := ⟨_, rfl⟩
  rw [← hw1] at bA
  have hB1 : Below w.heap.size w w1 := by rw [hw1]; exact below_new w _
  have HC := Lib.hid (check_any Q w1)
  have HA := Lib.hid bA
  have HB1 := Lib.hid hB1
  have hw1' := hw1
  unfold Ins.cs at hw1'
  have HW1 := Lib.hid hw1
  obtain ⟨c0, c1, c2, c3, c4, c5, c6, c7, c8, c9, c10, c11⟩ := bx_cells bA
  clear bA hB1 hw1
  unfold Ins.val at *
  rw [hw1'] at c0 c1 c2 c3 c4 c5 c6 c7 c8 c9 c10 c11
  refine callsIn_of_wp_marks Tryd.func15 rfl trivial ?_ hro
  simp only [Tryd.ntmps15, List.size_toArray, List.length_cons, List.length_nil, Nat.reduceAdd, Nat.reduceSub, Array.replicate_succ, Array.replicate_zero, List.push_toArray, List.append_toArray, List.nil_append, List.cons_append]
  gi_wp2_with fail
  rw [← hw1']
  refine ⟨trivial, (callsIn_wide.2 HC.out).mono ?_⟩
  rintro e w2 ⟨rfl, hb2⟩
  have bA2 := HA.out.below hb2
  have hB2 := bel0 HB1.out hb2
  have hsz2 : w.heap.size + 1 ≤ w2.heap.size := bA2.lt
  clear c0 c1 c2 c3 c4 c5 c6 c7 c8 c9 c10 c11 hw1' hb2
  have d0 := (bx_cells bA2).1
  have HA2 := Lib.hid bA2
  have HB2 := Lib.hid hB2
  clear bA2 hB2
  by_cases h0 : chkV Q = 0
  · obtain ⟨F, hF, hF1, hF9, hfo, hok, hrg, ho0, ho1⟩ := chk_zero h0
    have HE := Lib.hid (And.intro h0 (And.intro hF (And.intro hok (And.intro ho0 ho1))))
    have HRG := Lib.hid hrg
    obtain ⟨o, hoo⟩ : ∃ o : Nat, Q.op = (o : Int) := ⟨Q.op.toNat, by omega⟩
    have ho256 : o < 256 := by omega
    have ho2 : Q.op.toNat = o := by omega
    have bA4 := HA2.out.below (below_new w2 (.cells #[.int .u64 (o : Int)] 55))
    have bW4 := Boxed.new w2 55 (.int .u64 (o : Int))
    obtain ⟨w4, hw4⟩ : ∃ w4, w4 = w2.alloc (.cells #[.int .u64 (o : Int)] 55) := ⟨_, rfl⟩
    rw [← hw4] at bA4 bW4
    have hsz4 : w4.heap.size = w2.heap.size + 1 := by rw [hw4]; simp
    have hB4 : Below w.heap.size w w4 := by rw [hw4]; exact bel0 HB2.out (below_new _ _)
    obtain ⟨w5, hw5⟩ : ∃ w5, w5 = w4.alloc (.cells #[.pointer (some ⟨w.heap.size, 0, none⟩)] 59) := ⟨_, rfl⟩
    have hsz5 : w5.heap.size = w2.heap.size + 2 := by rw [hw5]; simp [hsz4]
    have hB45 : Below w4.heap.size w4 w5 := by rw [hw5]; exact below_new w4 _
    have bI5 : Boxed w5 (w2.heap.size + 1) 59 (.pointer (some ⟨w.heap.size, 0, none⟩)) := by rw [← hsz4, hw5]; exact Boxed.new w4 _ _
    have bA5 := bA4.below hB45
    have bW5 := bW4.kept (grown_of hB45 none) (by simp)
    have HT := Lib.hid (fields_tells 6 F w.heap.size (w2.heap.size + 1) w5 hF1 hF9 (by omega) (by omega) bI5 (by rw [← hfo]; exact (bx_cells bA5).2.1))
    have HI0 := Lib.hid (show EI w.heap.size w2.heap.size Q [] w5 ∧ Below w.heap.size w w5 from ⟨⟨bA5, by rw [← ho2] at bW5; exact bW5⟩, bel0 hB4 hB45⟩)
    have hgf := Lib.hid (enters_of Tryd.func49 (by kernel_rfl) rfl)
    have HW4 := Lib.hid hw4
    have HW5 := Lib.hid hw5
    have HSZ := Lib.hid (And.intro hsz2 (And.intro hsz4 hsz5))
    have HOO := Lib.hid (And.intro hoo (And.intro ho256 ho2))
    have ho3 : (o : Int) < 256 := by omega
    have herr : (chkV Q != 0) = false := by rw [h0]; rfl
    rw [hoo] at d0
    clear hw4 hw5 hsz4 hsz5 hB4 hB45 bI5 bA4 bA5 bW4 bW5 hF hfo hok hrg ho0 ho1 hoo ho256 ho2 hF1 hF9 h0
    gi_wp2_with fail
    rw [← HW4.out]
    refine ⟨trivial, (callsIn_wide.2 (fieldsV_any _ _)).mono ?_⟩
    rintro e w' ⟨rfl, rfl⟩
    rw [← HW5.out]
    gi_wp2_with fail
    refine wpIn_told (gf := 49) (lb := #[.pointer (some ⟨w2.heap.size + 1, 0, none⟩)]) (by rw [HSZ.out.2.1]; rfl) hgf.out HT.out (fun _ => rfl) (fun pre x W l o o' => vy_put pre x W l o o') (fun x A B C h k => h.trans k) (fun x W l o o' => kb_put W l o o') (fun xs W l o o' _ _ h => h)
      (fun pre W => EI w.heap.size w2.heap.size Q pre W ∧ Below w.heap.size w W)
      (fun pre W => False)
      (OwnFrom.and (Own.from (EI.own _ _ _) _) (ownFrom_below (Nat.le_refl _) (by have := HSZ.out; omega)))
      (fun _ _ _ _ h _ _ => h)
      HI0.out
      (fun y => { tmps := #[.agg #[.int .i64 Q.op, .int .i64 Q.fo, .int .i64 Q.r1, .int .i64 Q.r2, .int .i64 Q.x2, .int .i64 Q.b1, .int .i64 Q.d1, .int .i64 Q.b2, .int .i64 Q.d2, .int .i64 Q.l1, .int .i64 Q.l2, .int .i64 Q.i2], .pointer (some ⟨w.heap.size, 0, none⟩), .slice none 0 0, .int .i64 0, .int .i64 (chkV Q), .pointer (some ⟨w2.heap.size, 0, none⟩), .pointer (some y.1), .int .i64 (y.2 : Int), .agg #[.int .i64 Q.op, .int .i64 Q.fo, .int .i64 Q.r1, .int .i64 Q.r2, .int .i64 Q.x2, .int .i64 Q.b1, .int .i64 Q.d1, .int .i64 Q.b2, .int .i64 Q.d2, .int .i64 Q.l1, .int .i64 Q.l2, .int .i64 Q.i2], .int .i64 (chkV Q), .int .i64 (chkV Q), .bool false, undef, .pointer (some ⟨w.heap.size, 0, none⟩), .int .i64 (o : Int), .int .u64 (o : Int), .func (.func 49) #[] #[.pointer (some ⟨w2.heap.size + 1, 0, none⟩)], .pointer (some y.1), .int .i64 (y.2 : Int), undef, undef, undef, undef, undef, undef, undef, undef, undef, undef, undef, undef, undef], defers := [] }) ?assign ?body ?done ?stop
    case assign =>
      intro l y W K hK
      unfold encY
      rw [HSZ.out.2.1]
      gi_wp2
      exact hK
    case body =>
      rintro lp pre y W hv ⟨hei, hB⟩
      have hv2 := vy_drew hv
      have hei2 := EI.own _ _ _ _ _ _ none hei (grown_drewN W 1 none) (fun r e => by cases (e : none = some r))
      obtain ⟨hpf, cy, fy, hset, hne, _, hkset, hlt⟩ := vy_cell (Bi := w2.heap.size + 1) hv2 (by have := HSZ.out; omega) hei2.1
      have hbt := pf_bits hpf
      obtain ⟨hn1, hn2, hn3⟩ := pf_next hpf
      have hin := List.all_eq_true.1 HRG.out _ (List.mem_of_getElem? hn2)
      obtain ⟨a, ha⟩ : ∃ a, a = (pre.map (kd w.heap.size)).foldl (enStep Q) Q.op.toNat := ⟨_, rfl⟩
      have ha48 : a < 281474976710656 := by rw [ha, hn3]; exact en_lt F _ Q HRG.out (by have := HOO.out; omega)
      obtain ⟨z, hz⟩ : ∃ z : Nat, fv Q (kd w.heap.size y).1 = (z : Int) := ⟨(fv Q (kd w.heap.size y).1).toNat, by unfold inR at hin; have := of_decide_eq_true hin; omega⟩
      have hzb : z < 2 ^ y.2 := by
        unfold inR at hin
        have h1 := (of_decide_eq_true hin).2
        rw [hz] at h1
        have h2 : (kd w.heap.size y).2 = y.2 := rfl
        rw [h2] at h1
        exact_mod_cast h1
      have hstep : ((pre ++ [y]).map (kd w.heap.size)).foldl (enStep Q) Q.op.toNat = a * 2 ^ y.2 + z := by
        rw [List.map_append, List.foldl_append, ← ha]
        show a * 2 ^ y.2 + (fv Q (kd w.heap.size y).1).toNat = _
        rw [hz]
        rfl
      rw [hz] at cy
      have hWy : w2.heap.size ≠ y.1.block := hne _ (by have := HSZ.out; omega) (by have := HSZ.out; omega)
      obtain ⟨p, bt⟩ := y
      have cW := hei.2.cell
      have fW := hei.2.frozen
      rw [← ha] at cW
      have cy1 : W.cell? p = some (.int .i64 (z : Int)) := by rw [← cell_drew_own W p]; exact cy
      have HST := Lib.hid hstep
      have HEI := Lib.hid hei2
      have HB := Lib.hid hB
      have HKR := Lib.hid (fun u => kb_box (Bi := w2.heap.size + 1) (base := w5.heap.size) (b := p.block) W.drew w2.heap.size u (by have := HSZ.out; omega) (by have := HSZ.out; omega))
      have hzI : (z : Int) < 4096 := by
        have : z < 4096 := by rcases hbt with h | h | h <;> (dsimp only at h hzb; rw [h] at hzb; omega)
        omega
      have haI : (a : Int) < 281474976710656 := by omega
      have ez : IntKind.u64.wrap (z : Int) = (z : Int) := by rw [IntKind.wrap_u64]; omega
      dsimp only at hbt hzb
      have HZB := Lib.hid hzb
      have HBW := Lib.hid ((hB.drew).setCell (p := ⟨w2.heap.size, 0, none⟩) (by have := HSZ.out; show w.heap.size ≤ w2.heap.size; omega) (.int .u64 ((a * 2 ^ bt + z : Nat) : Int)))
      clear hv hv2 hei hei2 hpf hset hne hkset hstep hz hB hWy hlt cy fy hn1 hn2 hn3 hin ha hzb
      rcases hbt with rfl | rfl | rfl
      · have hor := or_low a z 4 HZB.out (by decide) (by omega)
        have hor2 : bits .or .u64 ((a : Int) * 16) (z : Int) = ((a * 16 + z : Nat) : Int) := by
          rw [← hor]
          push_cast
          rfl
        have e2 : IntKind.u64.wrap ((a : Int) * 16) = (a : Int) * 16 := by rw [IntKind.wrap_u64]; omega
        clear hor
        gi_wp2_with fail
        refine round_of_any (by kernel_rfl) (by kernel_rfl) ?_
        show wpAny _ _ _ _ 9 #[false, false, false, false, false, false, false, false, false] _ _
        refine wpAny_take (i := 1) (oi := { dst := some 20, op := Go.Op.move (Go.Operand.tmp 7), type := 3, pos := "isa.go:68", after := #[], guard := none }) (v := .int .i64 4) rfl (by kernel_rfl) (by kernel_rfl) (by kernel_rfl) (fun _ _ _ h => h) (Or.inl ⟨by rfl, fun w => by go_simp⟩) ?_
        try simp only [Act.put, List.setIfInBounds_toArray, List.set_cons_zero, List.set_cons_succ]
        refine wpAny_take (i := 3) (oi := { dst := some 22, op := Go.Op.move (Go.Operand.tmp 6), type := 60, pos := "isa.go:68", after := #[], guard := none }) (v := .pointer (some p)) rfl (by kernel_rfl) (by kernel_rfl) (by kernel_rfl) (fun _ _ _ h => h) (Or.inl ⟨by rfl, fun w => by go_simp⟩) ?_
        try simp only [Act.put, List.setIfInBounds_toArray, List.set_cons_zero, List.set_cons_succ]
        refine wpAny_take (i := 4) (oi := { dst := some 23, op := Go.Op.nilCheck (Go.Operand.tmp 22), type := 0, pos := "isa.go:68", after := #[{ on := 3, ground := Go.Ground.data }], guard := none }) (v := .pointer (some p)) rfl (by kernel_rfl) (by kernel_rfl) (by kernel_rfl) (fun _ _ _ h => h) (Or.inl ⟨by rfl, fun w => by go_simp⟩) ?_
        try simp only [Act.put, List.setIfInBounds_toArray, List.set_cons_zero, List.set_cons_succ]
        refine wpAny_ready (rs := [0, 5]) (by kernel_rfl) (by simp) ?_
        refine AllReady.cons (o := { dst := some 19, op := Go.Op.load 55 (Go.Operand.tmp 5), type := 55, pos := "isa.go:68", after := #[], guard := none }) rfl (fun K hK => ?_) (AllReady.cons (o := { dst := some 24, op := Go.Op.load 3 (Go.Operand.tmp 23), type := 3, pos := "isa.go:68", after := #[{ on := 4, ground := Go.Ground.data }], guard := none }) rfl (fun K hK => ?_) AllReady.nil)
        · go_simp
          refine hK _ _ ?_
          clear hK K
          refine wpAny_take (i := 2) (oi := { dst := some 21, op := Go.Op.binOp Go.BinOp.shl 55 (Go.Operand.tmp 19) (Go.Operand.tmp 20) 3, type := 55, pos := "isa.go:68", after := #[{ on := 0, ground := Go.Ground.data }, { on := 1, ground := Go.Ground.data }], guard := none }) (v := .int .u64 ((a : Int) * 16)) rfl (by kernel_rfl) (by kernel_rfl) (by kernel_rfl) (fun _ _ _ h => h) (Or.inl ⟨by rfl, fun w => by go_simp⟩) ?_
          try simp only [Act.put, List.setIfInBounds_toArray, List.set_cons_zero, List.set_cons_succ]
          refine wpAny_ready (rs := [5]) (by kernel_rfl) (by simp) ?_
          refine AllReady.cons (o := { dst := some 24, op := Go.Op.load 3 (Go.Operand.tmp 23), type := 3, pos := "isa.go:68", after := #[{ on := 4, ground := Go.Ground.data }], guard := none }) rfl (fun K hK => ?_) AllReady.nil
          go_simp
          refine hK _ _ ?_
          clear hK K
          refine wpAny_take (i := 6) (oi := { dst := some 25, op := Go.Op.convert 3 55 (Go.Operand.tmp 24), type := 55, pos := "isa.go:68", after := #[{ on := 5, ground := Go.Ground.data }], guard := none }) (v := .int .u64 (z : Int)) rfl (by kernel_rfl) (by kernel_rfl) (by kernel_rfl) (fun _ _ _ h => h) (Or.inl ⟨by rfl, fun w => by go_simp⟩) ?_
          try simp only [Act.put, List.setIfInBounds_toArray, List.set_cons_zero, List.set_cons_succ]
          refine wpAny_take (i := 7) (oi := { dst := some 26, op := Go.Op.binOp Go.BinOp.or 55 (Go.Operand.tmp 21) (Go.Operand.tmp 25) 55, type := 55, pos := "isa.go:68", after := #[{ on := 2, ground := Go.Ground.data }, { on := 6, ground := Go.Ground.data }], guard := none }) (v := .int .u64 ((a * 16 + z : Nat) : Int)) rfl (by kernel_rfl) (by kernel_rfl) (by kernel_rfl) (fun _ _ _ h => h) (Or.inl ⟨by rfl, fun w => by go_simp⟩) ?_
          try simp only [Act.put, List.setIfInBounds_toArray, List.set_cons_zero, List.set_cons_succ]
          refine wpAny_ready (rs := [8]) (by kernel_rfl) (by simp) ?_
          refine AllReady.cons (o := { dst := none, op := Go.Op.store 55 (Go.Operand.tmp 5) (Go.Operand.tmp 26), type := 0, pos := "isa.go:68", after := #[{ on := 7, ground := Go.Ground.data }, { on := 0, ground := Go.Ground.phase }, { on := 1, ground := Go.Ground.phase }, { on := 2, ground := Go.Ground.phase }, { on := 3, ground := Go.Ground.phase }, { on := 4, ground := Go.Ground.phase }, { on := 5, ground := Go.Ground.phase }, { on := 6, ground := Go.Ground.phase }, { on := 7, ground := Go.Ground.phase }], guard := none }) rfl (fun K hK => ?_) AllReady.nil
          go_simp
          refine hK _ _ ?_
          clear hK K
          refine wpAny_done (by kernel_rfl) ?_ _
          refine onlyN_normal ?_
          gi_wp2
          exact ⟨((KeepsOthers.drew W).trans (KeepsOthers.setCell _ _ _)).from _, kb_drew (HKR.out _), ⟨HEI.out.1.far (by show w2.heap.size ≠ w.heap.size; have := HSZ.out; omega) _, by rw [HST.out]; exact HEI.out.2.set _⟩, HBW.out⟩
        · go_simp
          refine hK _ _ ?_
          clear hK K
          refine wpAny_take (i := 6) (oi := { dst := some 25, op := Go.Op.convert 3 55 (Go.Operand.tmp 24), type := 55, pos := "isa.go:68", after := #[{ on := 5, ground := Go.Ground.data }], guard := none }) (v := .int .u64 (z : Int)) rfl (by kernel_rfl) (by kernel_rfl) (by kernel_rfl) (fun _ _ _ h => h) (Or.inl ⟨by rfl, fun w => by go_simp⟩) ?_
          try simp only [Act.put, List.setIfInBounds_toArray, List.set_cons_zero, List.set_cons_succ]
          refine wpAny_ready (rs := [0]) (by kernel_rfl) (by simp) ?_
          refine AllReady.cons (o := { dst := some 19, op := Go.Op.load 55 (Go.Operand.tmp 5), type := 55, pos := "isa.go:68", after := #[], guard := none }) rfl (fun K hK => ?_) AllReady.nil
          go_simp
          refine hK _ _ ?_
          clear hK K
          refine wpAny_take (i := 2) (oi := { dst := some 21, op := Go.Op.binOp Go.BinOp.shl 55 (Go.Operand.tmp 19) (Go.Operand.tmp 20) 3, type := 55, pos := "isa.go:68", after := #[{ on := 0, ground := Go.Ground.data }, { on := 1, ground := Go.Ground.data }], guard := none }) (v := .int .u64 ((a : Int) * 16)) rfl (by kernel_rfl) (by kernel_rfl) (by kernel_rfl) (fun _ _ _ h => h) (Or.inl ⟨by rfl, fun w => by go_simp⟩) ?_
          try simp only [Act.put, List.setIfInBounds_toArray, List.set_cons_zero, List.set_cons_succ]
          refine wpAny_take (i := 7) (oi := { dst := some 26, op := Go.Op.binOp Go.BinOp.or 55 (Go.Operand.tmp 21) (Go.Operand.tmp 25) 55, type := 55, pos := "isa.go:68", after := #[{ on := 2, ground := Go.Ground.data }, { on := 6, ground := Go.Ground.data }], guard := none }) (v := .int .u64 ((a * 16 + z : Nat) : Int)) rfl (by kernel_rfl) (by kernel_rfl) (by kernel_rfl) (fun _ _ _ h => h) (Or.inl ⟨by rfl, fun w => by go_simp⟩) ?_
          try simp only [Act.put, List.setIfInBounds_toArray, List.set_cons_zero, List.set_cons_succ]
          refine wpAny_ready (rs := [8]) (by kernel_rfl) (by simp) ?_
          refine AllReady.cons (o := { dst := none, op := Go.Op.store 55 (Go.Operand.tmp 5) (Go.Operand.tmp 26), type := 0, pos := "isa.go:68", after := #[{ on := 7, ground := Go.Ground.data }, { on := 0, ground := Go.Ground.phase }, { on := 1, ground := Go.Ground.phase }, { on := 2, ground := Go.Ground.phase }, { on := 3, ground := Go.Ground.phase }, { on := 4, ground := Go.Ground.phase }, { on := 5, ground := Go.Ground.phase }, { on := 6, ground := Go.Ground.phase }, { on := 7, ground := Go.Ground.phase }], guard := none }) rfl (fun K hK => ?_) AllReady.nil
          go_simp
          refine hK _ _ ?_
          clear hK K
          refine wpAny_done (by kernel_rfl) ?_ _
          refine onlyN_normal ?_
          gi_wp2
          exact ⟨((KeepsOthers.drew W).trans (KeepsOthers.setCell _ _ _)).from _, kb_drew (HKR.out _), ⟨HEI.out.1.far (by show w2.heap.size ≠ w.heap.size; have := HSZ.out; omega) _, by rw [HST.out]; exact HEI.out.2.set _⟩, HBW.out⟩
      · have hor := or_low a z 8 HZB.out (by decide) (by omega)
        have hor2 : bits .or .u64 ((a : Int) * 256) (z : Int) = ((a * 256 + z : Nat) : Int) := by
          rw [← hor]
          push_cast
          rfl
        have e2 : IntKind.u64.wrap ((a : Int) * 256) = (a : Int) * 256 := by rw [IntKind.wrap_u64]; omega
        clear hor
        gi_wp2_with fail
        refine round_of_any (by kernel_rfl) (by kernel_rfl) ?_
        show wpAny _ _ _ _ 9 #[false, false, false, false, false, false, false, false, false] _ _
        refine wpAny_take (i := 1) (oi := { dst := some 20, op := Go.Op.move (Go.Operand.tmp 7), type := 3, pos := "isa.go:68", after := #[], guard := none }) (v := .int .i64 8) rfl (by kernel_rfl) (by kernel_rfl) (by kernel_rfl) (fun _ _ _ h => h) (Or.inl ⟨by rfl, fun w => by go_simp⟩) ?_
        try simp only [Act.put, List.setIfInBounds_toArray, List.set_cons_zero, List.set_cons_succ]
        refine wpAny_take (i := 3) (oi := { dst := some 22, op := Go.Op.move (Go.Operand.tmp 6), type := 60, pos := "isa.go:68", after := #[], guard := none }) (v := .pointer (some p)) rfl (by kernel_rfl) (by kernel_rfl) (by kernel_rfl) (fun _ _ _ h => h) (Or.inl ⟨by rfl, fun w => by go_simp⟩) ?_
        try simp only [Act.put, List.setIfInBounds_toArray, List.set_cons_zero, List.set_cons_succ]
        refine wpAny_take (i := 4) (oi := { dst := some 23, op := Go.Op.nilCheck (Go.Operand.tmp 22), type := 0, pos := "isa.go:68", after := #[{ on := 3, ground := Go.Ground.data }], guard := none }) (v := .pointer (some p)) rfl (by kernel_rfl) (by kernel_rfl) (by kernel_rfl) (fun _ _ _ h => h) (Or.inl ⟨by rfl, fun w => by go_simp⟩) ?_
        try simp only [Act.put, List.setIfInBounds_toArray, List.set_cons_zero, List.set_cons_succ]
        refine wpAny_ready (rs := [0, 5]) (by kernel_rfl) (by simp) ?_
        refine AllReady.cons (o := { dst := some 19, op := Go.Op.load 55 (Go.Operand.tmp 5), type := 55, pos := "isa.go:68", after := #[], guard := none }) rfl (fun K hK => ?_) (AllReady.cons (o := { dst := some 24, op := Go.Op.load 3 (Go.Operand.tmp 23), type := 3, pos := "isa.go:68", after := #[{ on := 4, ground := Go.Ground.data }], guard := none }) rfl (fun K hK => ?_) AllReady.nil)
        · go_simp
          refine hK _ _ ?_
          clear hK K
          refine wpAny_take (i := 2) (oi := { dst := some 21, op := Go.Op.binOp Go.BinOp.shl 55 (Go.Operand.tmp 19) (Go.Operand.tmp 20) 3, type := 55, pos := "isa.go:68", after := #[{ on := 0, ground := Go.Ground.data }, { on := 1, ground := Go.Ground.data }], guard := none }) (v := .int .u64 ((a : Int) * 256)) rfl (by kernel_rfl) (by kernel_rfl) (by kernel_rfl) (fun _ _ _ h => h) (Or.inl ⟨by rfl, fun w => by go_simp⟩) ?_
          try simp only [Act.put, List.setIfInBounds_toArray, List.set_cons_zero, List.set_cons_succ]
          refine wpAny_ready (rs := [5]) (by kernel_rfl) (by simp) ?_
          refine AllReady.cons (o := { dst := some 24, op := Go.Op.load 3 (Go.Operand.tmp 23), type := 3, pos := "isa.go:68", after := #[{ on := 4, ground := Go.Ground.data }], guard := none }) rfl (fun K hK => ?_) AllReady.nil
          go_simp
          refine hK _ _ ?_
          clear hK K
          refine wpAny_take (i := 6) (oi := { dst := some 25, op := Go.Op.convert 3 55 (Go.Operand.tmp 24), type := 55, pos := "isa.go:68", after := #[{ on := 5, ground := Go.Ground.data }], guard := none }) (v := .int .u64 (z : Int)) rfl (by kernel_rfl) (by kernel_rfl) (by kernel_rfl) (fun _ _ _ h => h) (Or.inl ⟨by rfl, fun w => by go_simp⟩) ?_
          try simp only [Act.put, List.setIfInBounds_toArray, List.set_cons_zero, List.set_cons_succ]
          refine wpAny_take (i := 7) (oi := { dst := some 26, op := Go.Op.binOp Go.BinOp.or 55 (Go.Operand.tmp 21) (Go.Operand.tmp 25) 55, type := 55, pos := "isa.go:68", after := #[{ on := 2, ground := Go.Ground.data }, { on := 6, ground := Go.Ground.data }], guard := none }) (v := .int .u64 ((a * 256 + z : Nat) : Int)) rfl (by kernel_rfl) (by kernel_rfl) (by kernel_rfl) (fun _ _ _ h => h) (Or.inl ⟨by rfl, fun w => by go_simp⟩) ?_
          try simp only [Act.put, List.setIfInBounds_toArray, List.set_cons_zero, List.set_cons_succ]
          refine wpAny_ready (rs := [8]) (by kernel_rfl) (by simp) ?_
          refine AllReady.cons (o := { dst := none, op := Go.Op.store 55 (Go.Operand.tmp 5) (Go.Operand.tmp 26), type := 0, pos := "isa.go:68", after := #[{ on := 7, ground := Go.Ground.data }, { on := 0, ground := Go.Ground.phase }, { on := 1, ground := Go.Ground.phase }, { on := 2, ground := Go.Ground.phase }, { on := 3, ground := Go.Ground.phase }, { on := 4, ground := Go.Ground.phase }, { on := 5, ground := Go.Ground.phase }, { on := 6, ground := Go.Ground.phase }, { on := 7, ground := Go.Ground.phase }], guard := none }) rfl (fun K hK => ?_) AllReady.nil
          go_simp
          refine hK _ _ ?_
          clear hK K
          refine wpAny_done (by kernel_rfl) ?_ _
          refine onlyN_normal ?_
          gi_wp2
          exact ⟨((KeepsOthers.drew W).trans (KeepsOthers.setCell _ _ _)).from _, kb_drew (HKR.out _), ⟨HEI.out.1.far (by show w2.heap.size ≠ w.heap.size; have := HSZ.out; omega) _, by rw [HST.out]; exact HEI.out.2.set _⟩, HBW.out⟩
        · go_simp
          refine hK _ _ ?_
          clear hK K
          refine wpAny_take (i := 6) (oi := { dst := some 25, op := Go.Op.convert 3 55 (Go.Operand.tmp 24), type := 55, pos := "isa.go:68", after := #[{ on := 5, ground := Go.Ground.data }], guard := none }) (v := .int .u64 (z : Int)) rfl (by kernel_rfl) (by kernel_rfl) (by kernel_rfl) (fun _ _ _ h => h) (Or.inl ⟨by rfl, fun w => by go_simp⟩) ?_
          try simp only [Act.put, List.setIfInBounds_toArray, List.set_cons_zero, List.set_cons_succ]
          refine wpAny_ready (rs := [0]) (by kernel_rfl) (by simp) ?_
          refine AllReady.cons (o := { dst := some 19, op := Go.Op.load 55 (Go.Operand.tmp 5), type := 55, pos := "isa.go:68", after := #[], guard := none }) rfl (fun K hK => ?_) AllReady.nil
          go_simp
          refine hK _ _ ?_
          clear hK K
          refine wpAny_take (i := 2) (oi := { dst := some 21, op := Go.Op.binOp Go.BinOp.shl 55 (Go.Operand.tmp 19) (Go.Operand.tmp 20) 3, type := 55, pos := "isa.go:68", after := #[{ on := 0, ground := Go.Ground.data }, { on := 1, ground := Go.Ground.data }], guard := none }) (v := .int .u64 ((a : Int) * 256)) rfl (by kernel_rfl) (by kernel_rfl) (by kernel_rfl) (fun _ _ _ h => h) (Or.inl ⟨by rfl, fun w => by go_simp⟩) ?_
          try simp only [Act.put, List.setIfInBounds_toArray, List.set_cons_zero, List.set_cons_succ]
          refine wpAny_take (i := 7) (oi := { dst := some 26, op := Go.Op.binOp Go.BinOp.or 55 (Go.Operand.tmp 21) (Go.Operand.tmp 25) 55, type := 55, pos := "isa.go:68", after := #[{ on := 2, ground := Go.Ground.data }, { on := 6, ground := Go.Ground.data }], guard := none }) (v := .int .u64 ((a * 256 + z : Nat) : Int)) rfl (by kernel_rfl) (by kernel_rfl) (by kernel_rfl) (fun _ _ _ h => h) (Or.inl ⟨by rfl, fun w => by go_simp⟩) ?_
          try simp only [Act.put, List.setIfInBounds_toArray, List.set_cons_zero, List.set_cons_succ]
          refine wpAny_ready (rs := [8]) (by kernel_rfl) (by simp) ?_
          refine AllReady.cons (o := { dst := none, op := Go.Op.store 55 (Go.Operand.tmp 5) (Go.Operand.tmp 26), type := 0, pos := "isa.go:68", after := #[{ on := 7, ground := Go.Ground.data }, { on := 0, ground := Go.Ground.phase }, { on := 1, ground := Go.Ground.phase }, { on := 2, ground := Go.Ground.phase }, { on := 3, ground := Go.Ground.phase }, { on := 4, ground := Go.Ground.phase }, { on := 5, ground := Go.Ground.phase }, { on := 6, ground := Go.Ground.phase }, { on := 7, ground := Go.Ground.phase }], guard := none }) rfl (fun K hK => ?_) AllReady.nil
          go_simp
          refine hK _ _ ?_
          clear hK K
          refine wpAny_done (by kernel_rfl) ?_ _
          refine onlyN_normal ?_
          gi_wp2
          exact ⟨((KeepsOthers.drew W).trans (KeepsOthers.setCell _ _ _)).from _, kb_drew (HKR.out _), ⟨HEI.out.1.far (by show w2.heap.size ≠ w.heap.size; have := HSZ.out; omega) _, by rw [HST.out]; exact HEI.out.2.set _⟩, HBW.out⟩
      · have hor := or_low a z 12 HZB.out (by decide) (by omega)
        have hor2 : bits .or .u64 ((a : Int) * 4096) (z : Int) = ((a * 4096 + z : Nat) : Int) := by
          rw [← hor]
          push_cast
          rfl
        have e2 : IntKind.u64.wrap ((a : Int) * 4096) = (a : Int) * 4096 := by rw [IntKind.wrap_u64]; omega
        clear hor
        gi_wp2_with fail
        refine round_of_any (by kernel_rfl) (by kernel_rfl) ?_
        show wpAny _ _ _ _ 9 #[false, false, false, false, false, false, false, false, false] _ _
        refine wpAny_take (i := 1) (oi := { dst := some 20, op := Go.Op.move (Go.Operand.tmp 7), type := 3, pos := "isa.go:68", after := #[], guard := none }) (v := .int .i64 12) rfl (by kernel_rfl) (by kernel_rfl) (by kernel_rfl) (fun _ _ _ h => h) (Or.inl ⟨by rfl, fun w => by go_simp⟩) ?_
        try simp only [Act.put, List.setIfInBounds_toArray, List.set_cons_zero, List.set_cons_succ]
        refine wpAny_take (i := 3) (oi := { dst := some 22, op := Go.Op.move (Go.Operand.tmp 6), type := 60, pos := "isa.go:68", after := #[], guard := none }) (v := .pointer (some p)) rfl (by kernel_rfl) (by kernel_rfl) (by kernel_rfl) (fun _ _ _ h => h) (Or.inl ⟨by rfl, fun w => by go_simp⟩) ?_
        try simp only [Act.put, List.setIfInBounds_toArray, List.set_cons_zero, List.set_cons_succ]
        refine wpAny_take (i := 4) (oi := { dst := some 23, op := Go.Op.nilCheck (Go.Operand.tmp 22), type := 0, pos := "isa.go:68", after := #[{ on := 3, ground := Go.Ground.data }], guard := none }) (v := .pointer (some p)) rfl (by kernel_rfl) (by kernel_rfl) (by kernel_rfl) (fun _ _ _ h => h) (Or.inl ⟨by rfl, fun w => by go_simp⟩) ?_
        try simp only [Act.put, List.setIfInBounds_toArray, List.set_cons_zero, List.set_cons_succ]
        refine wpAny_ready (rs := [0, 5]) (by kernel_rfl) (by simp) ?_
        refine AllReady.cons (o := { dst := some 19, op := Go.Op.load 55 (Go.Operand.tmp 5), type := 55, pos := "isa.go:68", after := #[], guard := none }) rfl (fun K hK => ?_) (AllReady.cons (o := { dst := some 24, op := Go.Op.load 3 (Go.Operand.tmp 23), type := 3, pos := "isa.go:68", after := #[{ on := 4, ground := Go.Ground.data }], guard := none }) rfl (fun K hK => ?_) AllReady.nil)
        · go_simp
          refine hK _ _ ?_
          clear hK K
          refine wpAny_take (i := 2) (oi := { dst := some 21, op := Go.Op.binOp Go.BinOp.shl 55 (Go.Operand.tmp 19) (Go.Operand.tmp 20) 3, type := 55, pos := "isa.go:68", after := #[{ on := 0, ground := Go.Ground.data }, { on := 1, ground := Go.Ground.data }], guard := none }) (v := .int .u64 ((a : Int) * 4096)) rfl (by kernel_rfl) (by kernel_rfl) (by kernel_rfl) (fun _ _ _ h => h) (Or.inl ⟨by rfl, fun w => by go_simp⟩) ?_
          try simp only [Act.put, List.setIfInBounds_toArray, List.set_cons_zero, List.set_cons_succ]
          refine wpAny_ready (rs := [5]) (by kernel_rfl) (by simp) ?_
          refine AllReady.cons (o := { dst := some 24, op := Go.Op.load 3 (Go.Operand.tmp 23), type := 3, pos := "isa.go:68", after := #[{ on := 4, ground := Go.Ground.data }], guard := none }) rfl (fun K hK => ?_) AllReady.nil
          go_simp
          refine hK _ _ ?_
          clear hK K
          refine wpAny_take (i := 6) (oi := { dst := some 25, op := Go.Op.convert 3 55 (Go.Operand.tmp 24), type := 55, pos := "isa.go:68", after := #[{ on := 5, ground := Go.Ground.data }], guard := none }) (v := .int .u64 (z : Int)) rfl (by kernel_rfl) (by kernel_rfl) (by kernel_rfl) (fun _ _ _ h => h) (Or.inl ⟨by rfl, fun w => by go_simp⟩) ?_
          try simp only [Act.put, List.setIfInBounds_toArray, List.set_cons_zero, List.set_cons_succ]
          refine wpAny_take (i := 7) (oi := { dst := some 26, op := Go.Op.binOp Go.BinOp.or 55 (Go.Operand.tmp 21) (Go.Operand.tmp 25) 55, type := 55, pos := "isa.go:68", after := #[{ on := 2, ground := Go.Ground.data }, { on := 6, ground := Go.Ground.data }], guard := none }) (v := .int .u64 ((a * 4096 + z : Nat) : Int)) rfl (by kernel_rfl) (by kernel_rfl) (by kernel_rfl) (fun _ _ _ h => h) (Or.inl ⟨by rfl, fun w => by go_simp⟩) ?_
          try simp only [Act.put, List.setIfInBounds_toArray, List.set_cons_zero, List.set_cons_succ]
          refine wpAny_ready (rs := [8]) (by kernel_rfl) (by simp) ?_
          refine AllReady.cons (o := { dst := none, op := Go.Op.store 55 (Go.Operand.tmp 5) (Go.Operand.tmp 26), type := 0, pos := "isa.go:68", after := #[{ on := 7, ground := Go.Ground.data }, { on := 0, ground := Go.Ground.phase }, { on := 1, ground := Go.Ground.phase }, { on := 2, ground := Go.Ground.phase }, { on := 3, ground := Go.Ground.phase }, { on := 4, ground := Go.Ground.phase }, { on := 5, ground := Go.Ground.phase }, { on := 6, ground := Go.Ground.phase }, { on := 7, ground := Go.Ground.phase }], guard := none }) rfl (fun K hK => ?_) AllReady.nil
          go_simp
          refine hK _ _ ?_
          clear hK K
          refine wpAny_done (by kernel_rfl) ?_ _
          refine onlyN_normal ?_
          gi_wp2
          exact ⟨((KeepsOthers.drew W).trans (KeepsOthers.setCell _ _ _)).from _, kb_drew (HKR.out _), ⟨HEI.out.1.far (by show w2.heap.size ≠ w.heap.size; have := HSZ.out; omega) _, by rw [HST.out]; exact HEI.out.2.set _⟩, HBW.out⟩
        · go_simp
          refine hK _ _ ?_
          clear hK K
          refine wpAny_take (i := 6) (oi := { dst := some 25, op := Go.Op.convert 3 55 (Go.Operand.tmp 24), type := 55, pos := "isa.go:68", after := #[{ on := 5, ground := Go.Ground.data }], guard := none }) (v := .int .u64 (z : Int)) rfl (by kernel_rfl) (by kernel_rfl) (by kernel_rfl) (fun _ _ _ h => h) (Or.inl ⟨by rfl, fun w => by go_simp⟩) ?_
          try simp only [Act.put, List.setIfInBounds_toArray, List.set_cons_zero, List.set_cons_succ]
          refine wpAny_ready (rs := [0]) (by kernel_rfl) (by simp) ?_
          refine AllReady.cons (o := { dst := some 19, op := Go.Op.load 55 (Go.Operand.tmp 5), type := 55, pos := "isa.go:68", after := #[], guard := none }) rfl (fun K hK => ?_) AllReady.nil
          go_simp
          refine hK _ _ ?_
          clear hK K
          refine wpAny_take (i := 2) (oi := { dst := some 21, op := Go.Op.binOp Go.BinOp.shl 55 (Go.Operand.tmp 19) (Go.Operand.tmp 20) 3, type := 55, pos := "isa.go:68", after := #[{ on := 0, ground := Go.Ground.data }, { on := 1, ground := Go.Ground.data }], guard := none }) (v := .int .u64 ((a : Int) * 4096)) rfl (by kernel_rfl) (by kernel_rfl) (by kernel_rfl) (fun _ _ _ h => h) (Or.inl ⟨by rfl, fun w => by go_simp⟩) ?_
          try simp only [Act.put, List.setIfInBounds_toArray, List.set_cons_zero, List.set_cons_succ]
          refine wpAny_take (i := 7) (oi := { dst := some 26, op := Go.Op.binOp Go.BinOp.or 55 (Go.Operand.tmp 21) (Go.Operand.tmp 25) 55, type := 55, pos := "isa.go:68", after := #[{ on := 2, ground := Go.Ground.data }, { on := 6, ground := Go.Ground.data }], guard := none }) (v := .int .u64 ((a * 4096 + z : Nat) : Int)) rfl (by kernel_rfl) (by kernel_rfl) (by kernel_rfl) (fun _ _ _ h => h) (Or.inl ⟨by rfl, fun w => by go_simp⟩) ?_
          try simp only [Act.put, List.setIfInBounds_toArray, List.set_cons_zero, List.set_cons_succ]
          refine wpAny_ready (rs := [8]) (by kernel_rfl) (by simp) ?_
          refine AllReady.cons (o := { dst := none, op := Go.Op.store 55 (Go.Operand.tmp 5) (Go.Operand.tmp 26), type := 0, pos := "isa.go:68", after := #[{ on := 7, ground := Go.Ground.data }, { on := 0, ground := Go.Ground.phase }, { on := 1, ground := Go.Ground.phase }, { on := 2, ground := Go.Ground.phase }, { on := 3, ground := Go.Ground.phase }, { on := 4, ground := Go.Ground.phase }, { on := 5, ground := Go.Ground.phase }, { on := 6, ground := Go.Ground.phase }, { on := 7, ground := Go.Ground.phase }], guard := none }) rfl (fun K hK => ?_) AllReady.nil
          go_simp
          refine hK _ _ ?_
          clear hK K
          refine wpAny_done (by kernel_rfl) ?_ _
          refine onlyN_normal ?_
          gi_wp2
          exact ⟨((KeepsOthers.drew W).trans (KeepsOthers.setCell _ _ _)).from _, kb_drew (HKR.out _), ⟨HEI.out.1.far (by show w2.heap.size ≠ w.heap.size; have := HSZ.out; omega) _, by rw [HST.out]; exact HEI.out.2.set _⟩, HBW.out⟩
    case done =>
      rintro D ys W hD ⟨U, hU, rfl⟩ ⟨hei, hB⟩ hK
      obtain ⟨bA, bW⟩ := hei
      rw [kd_adr F (show U ≠ w.heap.size by have := HSZ.out; omega)] at bW
      obtain ⟨a, ha⟩ : ∃ a, a = enW F Q := ⟨_, rfl⟩
      rw [show (fldsT F).foldl (enStep Q) Q.op.toNat = a from ha.symm] at bW
      have ha64 : a < 18446744073709551616 := by
        have := en_lt F (fldsT F).length Q HRG.out (by have := HOO.out; omega)
        rw [List.take_length] at this
        rw [ha]
        exact Nat.lt_trans this (by decide)
      have hlen1 := len_pos HE.out.2.2.2.1 HE.out.2.2.2.2
      have hlen2 := len_small Q.op
      have hS0 : Boxed W.drew w2.heap.size 55 (.int .u64 (a : Int)) ∧ Bx W.drew w.heap.size 28 Q.cs := ⟨bW.kept (grown_drewN W 1 none) (by simp), Bx.ab bA (grown_drewN W 1 none) (fun r e => by cases (e : none = some r))⟩
      have HLN := Lib.hid (fun Y => length_any Q.op Y)
      have HLB := Lib.hid (fun Y => lastBytes_any a (lenO Q.op) Y (by omega) (by omega) ha64)
      have hB' := hB.drew
      have HB := Lib.hid hB'
      have HK := Lib.hid (show W.drew.heap[D]? = some (.deferred (some [])) from hK)
      have HDD := Lib.hid (show w.heap.size ≤ D by have := HSZ.out; omega)
      have HEN := Lib.hid ha
      clear bA bW ha ha64 hlen1 hlen2 hB hB' hK
      gi_wp2_with fail
      refine wpIn_wide.2 ?_
      refine only_wp ?_
      refine wp_region_held_drew (S := fun Y => Boxed Y w2.heap.size 55 (.int .u64 (a : Int)) ∧ Bx Y w.heap.size 28 Q.cs) (by kernel_rfl) hS0 (fun k0 => ?_)
      show wpAnyH _ _ _ _ _ 7 #[false, false, false, false, false, false, false] _ _
      refine wpAnyH_take (i := 0) (oi := { dst := some 27, op := Go.Op.load 55 (Go.Operand.tmp 5), type := 55, pos := "isa.go:70", after := #[], guard := none }) (v := .int .u64 (a : Int)) rfl (by kernel_rfl) (by kernel_rfl) (by kernel_rfl) (fun _ _ _ h => h) (Or.inl ⟨by rfl, fun W hSw => by obtain ⟨s1, s2⟩ := hSw; have c1 := s1.cell; have c2 := (bx_cells s2).1; clear s1 s2; go_simp⟩) k0 ?_
      try simp only [Act.put, List.setIfInBounds_toArray, List.set_cons_zero, List.set_cons_succ]
      refine wpAnyH_take (i := 1) (oi := { dst := some 28, op := Go.Op.fieldAddr 28 (Go.Operand.tmp 1) 0, type := 0, pos := "isa.go:70", after := #[], guard := none }) (v := .pointer (some ⟨w.heap.size, 0, none⟩)) rfl (by kernel_rfl) (by kernel_rfl) (by kernel_rfl) (fun _ _ _ h => h) (Or.inl ⟨by rfl, fun W hSw => by clear hSw; go_simp⟩) k0 ?_
      try simp only [Act.put, List.setIfInBounds_toArray, List.set_cons_zero, List.set_cons_succ]
      refine wpAnyH_take (i := 2) (oi := { dst := some 29, op := Go.Op.load 3 (Go.Operand.tmp 28), type := 3, pos := "isa.go:70", after := #[{ on := 1, ground := Go.Ground.data }], guard := none }) (v := .int .i64 Q.op) rfl (by kernel_rfl) (by kernel_rfl) (by kernel_rfl) (fun _ _ _ h => h) (Or.inl ⟨by rfl, fun W hSw => by obtain ⟨s1, s2⟩ := hSw; have c1 := s1.cell; have c2 := (bx_cells s2).1; clear s1 s2; go_simp⟩) k0 ?_
      try simp only [Act.put, List.setIfInBounds_toArray, List.set_cons_zero, List.set_cons_succ]
      refine wpAnyH_ready (rs := [3]) (by kernel_rfl) (by simp) ?_
      refine AllReadyH.cons (o := { dst := some 30, op := Go.Op.call { callee := Go.Callee.value (Go.Operand.func 12), args := #[Go.Operand.tmp 29], argTypes := #[3] }, type := 3, pos := "isa.go:70", after := #[{ on := 2, ground := Go.Ground.data }], guard := none }) rfl (fun K hK => ?_) AllReadyH.nil
      go_simp
      go_at_call 12
      refine (HLN.out _).mono ?_
      rintro e w7 ⟨rfl, rfl⟩
      go_wp2_with fail
      refine hK.out _ _ k0 (fun k1 => ?_)
      clear hK K
      try simp only [List.setIfInBounds_toArray, List.set_cons_zero, List.set_cons_succ]
      refine wpAnyH_ready (rs := [4]) (by kernel_rfl) (by simp) ?_
      refine AllReadyH.cons (o := { dst := some 31, op := Go.Op.call { callee := Go.Callee.value (Go.Operand.func 35), args := #[Go.Operand.tmp 27, Go.Operand.tmp 30], argTypes := #[55, 3] }, type := 29, pos := "isa.go:70", after := #[{ on := 0, ground := Go.Ground.data }, { on := 3, ground := Go.Ground.data }, { on := 3, ground := Go.Ground.chain }], guard := none }) rfl (fun K hK => ?_) AllReadyH.nil
      go_simp
      go_at_call 35
      refine (HLB.out _).mono ?_
      rintro e w8 ⟨sv, rfl, ho8, hb8⟩
      have HO8 := Lib.hid ho8
      have HB8 := Lib.hid hb8
      clear ho8
      go_wp2_with fail
      refine hK.out _ _ ⟨k1.1.kept (grown_of hb8 none) (by simp), k1.2.below hb8⟩ (fun k2 => ?_)
      clear hb8
      clear hK K
      try simp only [List.setIfInBounds_toArray, List.set_cons_zero, List.set_cons_succ]
      refine wpAnyH_take (i := 5) (oi := { dst := some 2, op := Go.Op.assign (Go.Operand.tmp 31), type := 29, pos := "isa.go:70", after := #[{ on := 4, ground := Go.Ground.data }, { on := 4, ground := Go.Ground.chain }, { on := 0, ground := Go.Ground.phase }, { on := 1, ground := Go.Ground.phase }, { on := 2, ground := Go.Ground.phase }, { on := 3, ground := Go.Ground.phase }, { on := 4, ground := Go.Ground.phase }], guard := none }) (v := sv) rfl (by kernel_rfl) (by kernel_rfl) (by kernel_rfl) (fun _ _ _ h => h) (Or.inl ⟨by rfl, fun W hSw => by clear hSw; go_simp⟩) k2 ?_
      try simp only [Act.put, List.setIfInBounds_toArray, List.set_cons_zero, List.set_cons_succ]
      refine wpAnyH_take (i := 6) (oi := { dst := some 3, op := Go.Op.assign (Go.Operand.const (Go.Value.int Go.IntKind.i64 0)), type := 30, pos := "isa.go:70", after := #[{ on := 5, ground := Go.Ground.chain }, { on := 0, ground := Go.Ground.phase }, { on := 1, ground := Go.Ground.phase }, { on := 2, ground := Go.Ground.phase }, { on := 3, ground := Go.Ground.phase }, { on := 4, ground := Go.Ground.phase }, { on := 5, ground := Go.Ground.phase }], guard := none }) (v := .int .i64 0) rfl (by kernel_rfl) (by kernel_rfl) (by kernel_rfl) (fun _ _ _ h => h) (Or.inl ⟨by rfl, fun W hSw => by clear hSw; go_simp⟩) k2 ?_
      try simp only [Act.put, List.setIfInBounds_toArray, List.set_cons_zero, List.set_cons_succ]
      refine wpAnyH_done (by kernel_rfl) ?_ _
      refine onlyN_normal ?_
      gi_wp2
      have hK2 := (HB8.out.block D (Array.getElem?_eq_some_iff.1 HK.out).1).trans HK.out
      refine ⟨by simp, .inl ⟨_, _, rfl, run_takeDeferred hK2, ?_⟩⟩
      refine ⟨_, results_tt rfl rfl rfl, .inr ⟨HE.out.1, sv, rfl, ?_, ?_⟩⟩
      · rw [← HE.out.2.1, ← HEN.out]
        exact Hold.base (ownsRow_putObj HO8.out (.deferred none) hK2 rfl) HB.out.size
      · exact (bel0 HB.out HB8.out).trans (belowK_b (w := w) (Nat.le_refl _) _ D _ _ HDD.out hK2 rfl rfl)
    case stop =>
      rintro D pre W hD h
      exact h.elim
  · have HE := Lib.hid h0
    have herr : (chkV Q != 0) = true := by rw [bne_iff_ne]; exact h0
    clear h0 d0
    gi_wp2
    exact ⟨_, results_tt rfl rfl rfl, .inl ⟨HE.out, rfl, HB2.out⟩⟩

end E
end Go.Proofs.YtaodghaicmjadaaDoor

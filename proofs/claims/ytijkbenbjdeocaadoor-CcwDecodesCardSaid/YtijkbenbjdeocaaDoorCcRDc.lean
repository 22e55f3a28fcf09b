/- The given answers' decoding of command words. -/
import Derived.Test.YtijkbenbjdeocaaDoorCcRDe
namespace Go.Proofs.YtijkbenbjdeocaaDoor
open Go.RowKit
set_option linter.unusedVariables false
namespace E

/-- What is kept beside the bytes and the result's block. -/
structure Dk (w : World) (B off P : Nat) (l : List UInt8) (W : World) : Prop where
  rb : Rb w P W
  b8 : B8 W B off l
  l8 : l.length = 8
theorem Dk.next {w W W' : World} {B off P : Nat} {l : List UInt8} (h : Dk w B off P l W) (hb : Below W.heap.size W W') : Dk w B off P l W' := ⟨h.rb.next hb, h.b8.below hb, h.l8⟩
theorem Dk.d0 {w W : World} {B off P : Nat} {l : List UInt8} (h : Dk w B off P l W) : W.cell? ⟨B, off, none⟩ = some (.int .u8 (b1 l 0)) := h.b8 0 (by have := h.l8; omega)
theorem Dk.d4 {w W : World} {B off P : Nat} {l : List UInt8} (h : Dk w B off P l W) : W.cell? ⟨B, off + 4, none⟩ = some (.int .u8 (b1 l 4)) := h.b8 4 (by have := h.l8; omega)
set_option maxRecDepth 100000 in
set_option maxHeartbeats 2000000 in
theorem rdecode_any {w : World} {sv : Value} {l : List UInt8} (h : SvB w sv l) : Calls Tryd.prog 16 #[sv] w (New w (.tuple #[(decR l).1.v, .bool (decR l).2])) := by
  have HE : Hid (decR l = if l.length = 8 then
    if dirI (b1 l 0) = 6 then (decJ l, true)
    else if b1 l 4 % 8 = 0 ∧ dirI (b1 l 0) ≠ 0 ∧ 0 < n2 l 6 then (decF l, true) else (zC, false)
  else (zC, false)) := Lib.hid rfl
  have KR : Hid (Rb w w.heap.size (w.alloc (.cells #[.int .i64 0, .int .i64 0, .bool false, .bool false, .bool false, .bool false, .bool false, .int .i64 0] 26))) := Lib.hid ⟨below_new _ _, Bx.new _ _ _, Nat.le_refl _⟩
  obtain ⟨p, c, rfl, hr, h1, h2, _⟩ := h
  obtain ⟨n0, hn⟩ : ∃ n, l.length = n := ⟨_, rfl⟩
  have HN := Lib.hid hn
  rw [hn] at h1 ⊢
  obtain ⟨R, hR⟩ : ∃ R, decR l = R := ⟨_, rfl⟩
  rw [hR] at HE ⊢
  clear hR
  obtain ⟨W0, hW0⟩ : ∃ W0, W0 = w.alloc (.cells #[.int .i64 0, .int .i64 0, .bool false, .bool false, .bool false, .bool false, .bool false, .int .i64 0] 26) := ⟨_, rfl⟩
  rw [← hW0] at KR
  by_cases h8 : n0 = 8
  · subst h8
    obtain ⟨B, off, rfl, hc⟩ := hr.resolve_left (fun h0 => by rw [h0] at hn; simp at hn)
    have KD : Hid (Dk w B off w.heap.size l W0) := Lib.hid ⟨KR.out, by
      rw [hW0]
      exact B8.below hc (below_new _ _), hn⟩
    have e0 := KD.out.d0
    rw [hW0] at e0
    have hc4 : 4 ≤ (c : Int) := by omega
    have hc8 : 8 ≤ (c : Int) := by omega
    have hc1 : ¬ c = 1 := by omega
    have hc6 : ¬ c = 6 := by omega
    have HB0 : Hid (B8 w B off l) := Lib.hid hc
    have HM := Lib.hid (fun W (h : B8 W B off l) => num3_any h 1 (c - 1) (by omega) (by omega) (by omega))
    have HM2 := Lib.hid (fun W (h : B8 W B off l) => num2_any h 6 (c - 6) (by omega) (by omega) (by omega))
    have w0 : wrap64 (b1 l 0) = b1 l 0 := w64b (gt l 0)
    have w4 : wrap64 (b1 l 4) = b1 l 4 := w64b (gt l 4)
    have i4 := b1_bd l 4
    have i6 := n2_bd l 6
    have HU := Lib.hid (u64b l 0)
    have q0 := qr (b1 l 4) 128 i4.1 i4.2 (by decide)
    have q1 := qr (b1 l 4) 64 i4.1 i4.2 (by decide)
    have q2 := qr (b1 l 4) 32 i4.1 i4.2 (by decide)
    have q3 := qr (b1 l 4) 16 i4.1 i4.2 (by decide)
    have q4 := qr (b1 l 4) 8 i4.1 i4.2 (by decide)
    have m4 : (b1 l 4).tmod 8 = b1 l 4 % 8 := Int.tmod_eq_emod_of_nonneg i4.1
    have HD := Lib.hid (fun W => rdir_any (b1 l 0) W)
    have HE1 : Hid (R = if dirI (b1 l 0) = 6 then (decJ l, true) else if b1 l 4 % 8 = 0 ∧ dirI (b1 l 0) ≠ 0 ∧ 0 < n2 l 6 then (decF l, true) else (zC, false)) := Lib.hid (by rw [HE.out, if_pos HN.out])
    have HQ : Hid (0 ≤ n2 l 6) := Lib.hid i6.1
    clear HE hr hn hc i4 i6 HN KR h1
    have e0' := e0
    clear e0
    generalize hd : dirI (b1 l 0) = d at *
    have e0 := e0'
    clear e0' hd
    go_enter Tryd.func16, Tryd.ntmps16
    go_wp2_with fail
    rw [← hW0]
    clear e0
    generalize hP : w.heap.size = P at KD ⊢
    clear hW0 hP
    refine (HD.out _).mono ?_
    rintro e x9 ⟨rfl, rfl⟩
    by_cases h0 : d = 0
    · subst h0
      have HE2 : Hid (R = (zC, false)) := Lib.hid (by rw [HE1.out, if_neg (by decide), if_neg (by simp)])
      have r0 := KD.out.rb.box.cell 0
      change _ = some (Value.int .i64 0) at r0
      have rf0 := KD.out.rb.box.frozen 0
      have r1 := KD.out.rb.box.cell 1
      change _ = some (Value.int .i64 0) at r1
      have rf1 := KD.out.rb.box.frozen 1
      have r2 := KD.out.rb.box.cell 2
      change _ = some (Value.bool false) at r2
      have rf2 := KD.out.rb.box.frozen 2
      have r3 := KD.out.rb.box.cell 3
      change _ = some (Value.bool false) at r3
      have rf3 := KD.out.rb.box.frozen 3
      have r4 := KD.out.rb.box.cell 4
      change _ = some (Value.bool false) at r4
      have rf4 := KD.out.rb.box.frozen 4
      have r5 := KD.out.rb.box.cell 5
      change _ = some (Value.bool false) at r5
      have rf5 := KD.out.rb.box.frozen 5
      have r6 := KD.out.rb.box.cell 6
      change _ = some (Value.bool false) at r6
      have rf6 := KD.out.rb.box.frozen 6
      have r7 := KD.out.rb.box.cell 7
      change _ = some (Value.int .i64 0) at r7
      have rf7 := KD.out.rb.box.frozen 7
      go_wp2
      refine bodyPost_ret (results_ct rfl rfl rfl (load_cc (put8_at KD.out.rb.box _ _ _ _ _ _ _ _))) rfl ?_
      exact ⟨by rw [HE2.out]; rfl, put8_below KD.out.rb.bel KD.out.rb.ge _ _ _ _ _ _ _ _⟩
    · have h0b : (d == 0) = false := by simpa using h0
      go_wp2_with fail
      clear h0b
      have KD0 : Hid (Dk w B off P l W0.drew) := Lib.hid (KD.out.next (bel_drew _))
      clear KD
      refine wp_region_held_drew (S := Dk w B off P l) (by kernel_rfl) KD0.out (fun k0 => ?_)
      generalize W0.drew = y0 at k0 ⊢
      show wpAnyH _ _ _ _ _ 10 #[false, false, false, false, false, false, false, false, false, false] _ _
      refine wpAnyH_take (i := 0) (oi := { dst := some 18, op := Go.Op.move (Go.Operand.tmp 0), type := 27, pos := "ref.go:84", after := #[], guard := none }) (v := .slice (some ⟨B, off, none⟩) 8 c) rfl (by kernel_rfl) (by kernel_rfl) (by kernel_rfl) (fun _ _ _ h => h) (Or.inl ⟨by rfl, fun W hSw => by (try dsimp only at hSw); go_simp⟩) k0 ?_
      try simp only [Act.put, List.setIfInBounds_toArray, List.set_cons_zero, List.set_cons_succ]
      refine wpAnyH_take (i := 1) (oi := { dst := some 19, op := Go.Op.indexAddr 27 (Go.Operand.tmp 18) (Go.Operand.const (Go.Value.int Go.IntKind.i64 0)), type := 0, pos := "ref.go:84", after := #[{ on := 0, ground := Go.Ground.data }], guard := none }) (v := .pointer (some ⟨B, off, none⟩)) rfl (by kernel_rfl) (by kernel_rfl) (by kernel_rfl) (fun _ _ _ h => h) (Or.inl ⟨by rfl, fun W hSw => by (try dsimp only at hSw); go_simp⟩) k0 ?_
      try simp only [Act.put, List.setIfInBounds_toArray, List.set_cons_zero, List.set_cons_succ]
      refine wpAnyH_take (i := 2) (oi := { dst := some 20, op := Go.Op.load 5 (Go.Operand.tmp 19), type := 5, pos := "ref.go:84", after := #[{ on := 1, ground := Go.Ground.data }], guard := none }) (v := .int .u8 (b1 l 0)) rfl (by kernel_rfl) (by kernel_rfl) (by kernel_rfl) (fun _ _ _ h => h) (Or.inl ⟨by rfl, fun W hSw => by have cq := hSw.d0; clear hSw; go_simp⟩) k0 ?_
      try simp only [Act.put, List.setIfInBounds_toArray, List.set_cons_zero, List.set_cons_succ]
      refine wpAnyH_take (i := 3) (oi := { dst := some 21, op := Go.Op.convert 5 3 (Go.Operand.tmp 20), type := 3, pos := "ref.go:84", after := #[{ on := 2, ground := Go.Ground.data }], guard := none }) (v := .int .i64 (b1 l 0)) rfl (by kernel_rfl) (by kernel_rfl) (by kernel_rfl) (fun _ _ _ h => h) (Or.inl ⟨by rfl, fun W hSw => by clear hSw; go_simp; exact HU.out⟩) k0 ?_
      try simp only [Act.put, List.setIfInBounds_toArray, List.set_cons_zero, List.set_cons_succ]
      refine wpAnyH_take (i := 4) (oi := { dst := some 22, op := Go.Op.move (Go.Operand.tmp 0), type := 27, pos := "ref.go:84", after := #[], guard := none }) (v := .slice (some ⟨B, off, none⟩) 8 c) rfl (by kernel_rfl) (by kernel_rfl) (by kernel_rfl) (fun _ _ _ h => h) (Or.inl ⟨by rfl, fun W hSw => by (try dsimp only at hSw); go_simp⟩) k0 ?_
      try simp only [Act.put, List.setIfInBounds_toArray, List.set_cons_zero, List.set_cons_succ]
      refine wpAnyH_take (i := 5) (oi := { dst := some 23, op := Go.Op.slice 27 (Go.Operand.tmp 22) (some (Go.Operand.const (Go.Value.int Go.IntKind.i64 1))) (some (Go.Operand.const (Go.Value.int Go.IntKind.i64 4))) none, type := 27, pos := "ref.go:84", after := #[{ on := 4, ground := Go.Ground.data }], guard := none }) (v := .slice (some ⟨B, off + 1, none⟩) 3 (c - 1)) rfl (by kernel_rfl) (by kernel_rfl) (by kernel_rfl) (fun _ _ _ h => h) (Or.inl ⟨by rfl, fun W hSw => by (try dsimp only at hSw); go_simp⟩) k0 ?_
      try simp only [Act.put, List.setIfInBounds_toArray, List.set_cons_zero, List.set_cons_succ]
      refine wpAnyH_ready (rs := [6, 8]) (by kernel_rfl) (by simp) ?_
      refine AllReadyH.cons (o := { dst := some 24, op := Go.Op.call { callee := Go.Callee.value (Go.Operand.func 35), args := #[Go.Operand.tmp 23], argTypes := #[27] }, type := 3, pos := "ref.go:84", after := #[{ on := 5, ground := Go.Ground.data }], guard := none }) rfl (fun K hK => ?_) (AllReadyH.cons (o := { dst := some 4, op := Go.Op.alloc 26, type := 0, pos := "ref.go:84", after := #[], guard := none }) rfl (fun K hK => ?_) AllReadyH.nil)
      · go_simp
        go_at_call 35
        refine (HM.out _ k0.b8).mono ?_
        rintro e x9 ⟨rfl, rfl⟩
        go_wp2_with fail
        refine hK.out _ _ k0 (fun k1 => ?_)
        clear hK K
        try simp only [List.setIfInBounds_toArray, List.set_cons_zero, List.set_cons_succ]
        refine wpAnyH_take (i := 7) (oi := { dst := some 25, op := Go.Op.build 26 #[(0, Go.Operand.tmp 21), (1, Go.Operand.tmp 24)], type := 26, pos := "ref.go:84", after := #[{ on := 3, ground := Go.Ground.data }, { on := 6, ground := Go.Ground.data }], guard := none }) (v := .agg #[.int .i64 (b1 l 0), .int .i64 (n3 l 1), .bool false, .bool false, .bool false, .bool false, .bool false, .int .i64 0]) rfl (by kernel_rfl) (by kernel_rfl) (by kernel_rfl) (fun _ _ _ h => h) (Or.inl ⟨by rfl, fun W hSw => by (try dsimp only at hSw); go_simp⟩) k1 ?_
        try simp only [Act.put, List.setIfInBounds_toArray, List.set_cons_zero, List.set_cons_succ]
        refine wpAnyH_ready (rs := [8]) (by kernel_rfl) (by simp) ?_
        refine AllReadyH.cons (o := { dst := some 4, op := Go.Op.alloc 26, type := 0, pos := "ref.go:84", after := #[], guard := none }) rfl (fun K hK => ?_) AllReadyH.nil
        go_simp
        refine hK.out _ _ (k1.next (below_new _ _)) (fun k2 => ?_)
        clear hK K
        try simp only [List.setIfInBounds_toArray, List.set_cons_zero, List.set_cons_succ]
        refine wpAnyH_ready (rs := [9]) (by kernel_rfl) (by simp) ?_
        refine AllReadyH.cons (o := { dst := none, op := Go.Op.store 26 (Go.Operand.tmp 4) (Go.Operand.tmp 25), type := 0, pos := "ref.go:84", after := #[{ on := 8, ground := Go.Ground.data }, { on := 7, ground := Go.Ground.data }, { on := 6, ground := Go.Ground.chain }, { on := 0, ground := Go.Ground.phase }, { on := 1, ground := Go.Ground.phase }, { on := 2, ground := Go.Ground.phase }, { on := 3, ground := Go.Ground.phase }, { on := 4, ground := Go.Ground.phase }, { on := 5, ground := Go.Ground.phase }, { on := 6, ground := Go.Ground.phase }, { on := 7, ground := Go.Ground.phase }, { on := 8, ground := Go.Ground.phase }], guard := none }) rfl (fun K hK => ?_) AllReadyH.nil
        go_simp
        refine hK.out _ _ (k0.next (below_new _ _)) (fun k3 => ?_)
        clear hK K
        try simp only [List.setIfInBounds_toArray, List.set_cons_zero, List.set_cons_succ]
        refine wpAnyH_done (by kernel_rfl) ?_ _
        refine id ?_
        obtain ⟨y1, hy1⟩ : ∃ y1, y1 = y0.alloc (.cells #[.int .i64 (b1 l 0), .int .i64 (n3 l 1), .bool false, .bool false, .bool false, .bool false, .bool false, .int .i64 0] 26) := ⟨_, rfl⟩
        have KG : Hid (Dk w B off P l y1) := Lib.hid (by rw [hy1]; exact k0.next (below_new _ _))
        have HG : Hid (Bx y1 y0.heap.size 26 #[.int .i64 (b1 l 0), .int .i64 (n3 l 1), .bool false, .bool false, .bool false, .bool false, .bool false, .int .i64 0]) := Lib.hid (by rw [hy1]; exact Bx.new _ _ _)
        have HP : Hid (w.heap.size ≤ y0.heap.size ∧ P ≠ y0.heap.size) := Lib.hid ⟨k0.rb.bel.size, by have := k0.rb.box.lt; omega⟩
        rw [← hy1]
        clear hy1 HM
        generalize hGG : y0.heap.size = G at HG HP ⊢
        clear hGG
        have g0 := HG.out.cell 0
        change _ = some (Value.int .i64 (b1 l 0)) at g0
        go_wp2_with fail
        refine (HD.out _).mono ?_
        rintro e x9 ⟨rfl, rfl⟩
        clear g0
        have g0 := HG.out.cell 0
        change _ = some (Value.int .i64 (b1 l 0)) at g0
        have gf0 := HG.out.frozen 0
        have g1 := HG.out.cell 1
        change _ = some (Value.int .i64 (n3 l 1)) at g1
        have gf1 := HG.out.frozen 1
        have g2 := HG.out.cell 2
        change _ = some (Value.bool false) at g2
        have gf2 := HG.out.frozen 2
        have g3 := HG.out.cell 3
        change _ = some (Value.bool false) at g3
        have gf3 := HG.out.frozen 3
        have g4 := HG.out.cell 4
        change _ = some (Value.bool false) at g4
        have gf4 := HG.out.frozen 4
        have g5 := HG.out.cell 5
        change _ = some (Value.bool false) at g5
        have gf5 := HG.out.frozen 5
        have g6 := HG.out.cell 6
        change _ = some (Value.bool false) at g6
        have gf6 := HG.out.frozen 6
        have g7 := HG.out.cell 7
        change _ = some (Value.int .i64 0) at g7
        have gf7 := HG.out.frozen 7
        by_cases h6 : d = 6
        · subst h6
          have HE2 : Hid (R = (decJ l, true)) := Lib.hid (by rw [HE1.out, if_pos rfl])
          clear h0
          have r0 := KG.out.rb.box.cell 0
          change _ = some (Value.int .i64 0) at r0
          have rf0 := KG.out.rb.box.frozen 0
          have r1 := KG.out.rb.box.cell 1
          change _ = some (Value.int .i64 0) at r1
          have rf1 := KG.out.rb.box.frozen 1
          have r2 := KG.out.rb.box.cell 2
          change _ = some (Value.bool false) at r2
          have rf2 := KG.out.rb.box.frozen 2
          have r3 := KG.out.rb.box.cell 3
          change _ = some (Value.bool false) at r3
          have rf3 := KG.out.rb.box.frozen 3
          have r4 := KG.out.rb.box.cell 4
          change _ = some (Value.bool false) at r4
          have rf4 := KG.out.rb.box.frozen 4
          have r5 := KG.out.rb.box.cell 5
          change _ = some (Value.bool false) at r5
          have rf5 := KG.out.rb.box.frozen 5
          have r6 := KG.out.rb.box.cell 6
          change _ = some (Value.bool false) at r6
          have rf6 := KG.out.rb.box.frozen 6
          have r7 := KG.out.rb.box.cell 7
          change _ = some (Value.int .i64 0) at r7
          have rf7 := KG.out.rb.box.frozen 7
          go_wp2
          refine bodyPost_ret (results_ct rfl rfl rfl (load_cc (put8_at KG.out.rb.box _ _ _ _ _ _ _ _))) rfl ?_
          exact ⟨by rw [HE2.out]; rfl, put8_below KG.out.rb.bel KG.out.rb.ge _ _ _ _ _ _ _ _⟩
        · have h6b : (d == 6) = false := by simpa using h6
          have e4 := KG.out.d4
          have HE2 : Hid (R = if b1 l 4 % 8 = 0 ∧ 0 < n2 l 6 then (decF l, true) else (zC, false)) := Lib.hid (by
            rw [HE1.out, if_neg h6]
            simp [h0])
          go_wp2_with fail
          clear e4 g0 gf0 g1 gf1 g2 gf2 g3 gf3 g4 gf4 g5 gf5 g6 gf6 g7 gf7 h6b
          have HB2 : ∀ W, Below w.heap.size w W → B8 W B off l := fun W hb => HB0.out.below hb
          have hbel : Below w.heap.size w (((((y1.setCell ⟨G, 2, none⟩ (.bool (b1 l 4 / 128 % 2 == 1))).setCell ⟨G, 3, none⟩ (.bool (b1 l 4 / 64 % 2 == 1))).setCell ⟨G, 4, none⟩ (.bool (b1 l 4 / 32 % 2 == 1))).setCell ⟨G, 5, none⟩ (.bool (b1 l 4 / 16 % 2 == 1))).setCell ⟨G, 6, none⟩ (.bool (b1 l 4 / 8 % 2 == 1))) :=
            ((((KG.out.rb.bel.setCell (p := ⟨G, 2, none⟩) HP.out.1 _).setCell (p := ⟨G, 3, none⟩) HP.out.1 _).setCell (p := ⟨G, 4, none⟩) HP.out.1 _).setCell (p := ⟨G, 5, none⟩) HP.out.1 _).setCell (p := ⟨G, 6, none⟩) HP.out.1 _
          refine (HM2.out _ (HB2 _ hbel)).mono ?_
          rintro e y2 ⟨rfl, hy2⟩
          have HG2 : Hid (Bx y2 G 26 #[.int .i64 (b1 l 0), .int .i64 (n3 l 1), .bool (b1 l 4 / 128 % 2 == 1), .bool (b1 l 4 / 64 % 2 == 1), .bool (b1 l 4 / 32 % 2 == 1), .bool (b1 l 4 / 16 % 2 == 1), .bool (b1 l 4 / 8 % 2 == 1), .int .i64 0]) := Lib.hid (by
            rw [← hy2]
            have h := ((((HG.out.set 2 (.bool (b1 l 4 / 128 % 2 == 1))).set 3 (.bool (b1 l 4 / 64 % 2 == 1))).set 4 (.bool (b1 l 4 / 32 % 2 == 1))).set 5 (.bool (b1 l 4 / 16 % 2 == 1))).set 6 (.bool (b1 l 4 / 8 % 2 == 1))
            simp only [List.setIfInBounds_toArray, List.set_cons_zero, List.set_cons_succ] at h
            exact h)
          have HR2 : Hid (Rb w P y2) := Lib.hid ⟨by rw [← hy2]; exact hbel, by
            rw [← hy2]
            exact ((((KG.out.rb.box.far (p := ⟨G, 2, none⟩) (fun e => HP.out.2 e.symm) _).far (p := ⟨G, 3, none⟩) (fun e => HP.out.2 e.symm) _).far (p := ⟨G, 4, none⟩) (fun e => HP.out.2 e.symm) _).far (p := ⟨G, 5, none⟩) (fun e => HP.out.2 e.symm) _).far (p := ⟨G, 6, none⟩) (fun e => HP.out.2 e.symm) _, KG.out.rb.ge⟩
          clear hy2 hbel HB2 HG KG
          have HG3 : Hid (Bx (y2.setCell ⟨G, 7, none⟩ (.int .i64 (n2 l 6))) G 26 #[.int .i64 (b1 l 0), .int .i64 (n3 l 1), .bool (b1 l 4 / 128 % 2 == 1), .bool (b1 l 4 / 64 % 2 == 1), .bool (b1 l 4 / 32 % 2 == 1), .bool (b1 l 4 / 16 % 2 == 1), .bool (b1 l 4 / 8 % 2 == 1), .int .i64 (n2 l 6)]) := Lib.hid (by
            have h := HG2.out.set 7 (.int .i64 (n2 l 6))
            simp only [List.setIfInBounds_toArray, List.set_cons_zero, List.set_cons_succ] at h
            exact h)
          have HR3 : Hid (Rb w P (y2.setCell ⟨G, 7, none⟩ (.int .i64 (n2 l 6)))) := Lib.hid ⟨HR2.out.bel.setCell (p := ⟨G, 7, none⟩) HP.out.1 _, HR2.out.box.far (p := ⟨G, 7, none⟩) (fun e => HP.out.2 e.symm) _, HR2.out.ge⟩
          have z7 := HG2.out.cell 7
          change _ = some (Value.int .i64 0) at z7
          have zf7 := HG2.out.frozen 7
          have g0 := HG3.out.cell 0
          change _ = some (Value.int .i64 (b1 l 0)) at g0
          have g1 := HG3.out.cell 1
          change _ = some (Value.int .i64 (n3 l 1)) at g1
          have g2 := HG3.out.cell 2
          change _ = some (Value.bool (b1 l 4 / 128 % 2 == 1)) at g2
          have g3 := HG3.out.cell 3
          change _ = some (Value.bool (b1 l 4 / 64 % 2 == 1)) at g3
          have g4 := HG3.out.cell 4
          change _ = some (Value.bool (b1 l 4 / 32 % 2 == 1)) at g4
          have g5 := HG3.out.cell 5
          change _ = some (Value.bool (b1 l 4 / 16 % 2 == 1)) at g5
          have g6 := HG3.out.cell 6
          change _ = some (Value.bool (b1 l 4 / 8 % 2 == 1)) at g6
          have g7 := HG3.out.cell 7
          change _ = some (Value.int .i64 (n2 l 6)) at g7
          have r0 := HR3.out.box.cell 0
          change _ = some (Value.int .i64 0) at r0
          have rf0 := HR3.out.box.frozen 0
          have r1 := HR3.out.box.cell 1
          change _ = some (Value.int .i64 0) at r1
          have rf1 := HR3.out.box.frozen 1
          have r2 := HR3.out.box.cell 2
          change _ = some (Value.bool false) at r2
          have rf2 := HR3.out.box.frozen 2
          have r3 := HR3.out.box.cell 3
          change _ = some (Value.bool false) at r3
          have rf3 := HR3.out.box.frozen 3
          have r4 := HR3.out.box.cell 4
          change _ = some (Value.bool false) at r4
          have rf4 := HR3.out.box.frozen 4
          have r5 := HR3.out.box.cell 5
          change _ = some (Value.bool false) at r5
          have rf5 := HR3.out.box.frozen 5
          have r6 := HR3.out.box.cell 6
          change _ = some (Value.bool false) at r6
          have rf6 := HR3.out.box.frozen 6
          have r7 := HR3.out.box.cell 7
          change _ = some (Value.int .i64 0) at r7
          have rf7 := HR3.out.box.frozen 7
          by_cases hf : b1 l 4 % 8 = 0
          · have hf8 : (b1 l 4 % 8 != 0) = false := by simp [hf]
            by_cases hn : n2 l 6 = 0
            · have HE3 : Hid (R = (zC, false)) := Lib.hid (by rw [HE2.out, hn]; simp)
              have hnb : (n2 l 6 == 0) = true := by simp [hn]
              clear hn hf
              go_wp2
              refine bodyPost_ret (results_ct rfl rfl rfl (load_cc (put8_at HR3.out.box _ _ _ _ _ _ _ _))) rfl ?_
              exact ⟨by rw [HE3.out]; rfl, put8_below HR3.out.bel HR3.out.ge _ _ _ _ _ _ _ _⟩
            · have HE3 : Hid (R = (decF l, true)) := Lib.hid (by rw [HE2.out, if_pos ⟨hf, by have := HQ.out; omega⟩])
              have hnb : (n2 l 6 == 0) = false := by simpa using hn
              clear hn hf
              go_wp2
              refine bodyPost_ret (results_ct rfl rfl rfl (load_cc (put8_at HR3.out.box _ _ _ _ _ _ _ _))) rfl ?_
              exact ⟨by rw [HE3.out]; rfl, put8_below HR3.out.bel HR3.out.ge _ _ _ _ _ _ _ _⟩
          · have HE3 : Hid (R = (zC, false)) := Lib.hid (by rw [HE2.out, if_neg (fun h => hf h.1)])
            have hf8 : (b1 l 4 % 8 != 0) = true := by simpa using hf
            clear hf
            go_wp2
            refine bodyPost_ret (results_ct rfl rfl rfl (load_cc (put8_at HR3.out.box _ _ _ _ _ _ _ _))) rfl ?_
            exact ⟨by rw [HE3.out]; rfl, put8_below HR3.out.bel HR3.out.ge _ _ _ _ _ _ _ _⟩
      · go_simp
        refine hK.out _ _ (k0.next (below_new _ _)) (fun k1 => ?_)
        clear hK K
        try simp only [List.setIfInBounds_toArray, List.set_cons_zero, List.set_cons_succ]
        refine wpAnyH_ready (rs := [6]) (by kernel_rfl) (by simp) ?_
        refine AllReadyH.cons (o := { dst := some 24, op := Go.Op.call { callee := Go.Callee.value (Go.Operand.func 35), args := #[Go.Operand.tmp 23], argTypes := #[27] }, type := 3, pos := "ref.go:84", after := #[{ on := 5, ground := Go.Ground.data }], guard := none }) rfl (fun K hK => ?_) AllReadyH.nil
        go_simp
        go_at_call 35
        refine (HM.out _ k1.b8).mono ?_
        rintro e x9 ⟨rfl, rfl⟩
        go_wp2_with fail
        refine hK.out _ _ k1 (fun k2 => ?_)
        clear hK K
        try simp only [List.setIfInBounds_toArray, List.set_cons_zero, List.set_cons_succ]
        refine wpAnyH_take (i := 7) (oi := { dst := some 25, op := Go.Op.build 26 #[(0, Go.Operand.tmp 21), (1, Go.Operand.tmp 24)], type := 26, pos := "ref.go:84", after := #[{ on := 3, ground := Go.Ground.data }, { on := 6, ground := Go.Ground.data }], guard := none }) (v := .agg #[.int .i64 (b1 l 0), .int .i64 (n3 l 1), .bool false, .bool false, .bool false, .bool false, .bool false, .int .i64 0]) rfl (by kernel_rfl) (by kernel_rfl) (by kernel_rfl) (fun _ _ _ h => h) (Or.inl ⟨by rfl, fun W hSw => by (try dsimp only at hSw); go_simp⟩) k2 ?_
        try simp only [Act.put, List.setIfInBounds_toArray, List.set_cons_zero, List.set_cons_succ]
        refine wpAnyH_ready (rs := [9]) (by kernel_rfl) (by simp) ?_
        refine AllReadyH.cons (o := { dst := none, op := Go.Op.store 26 (Go.Operand.tmp 4) (Go.Operand.tmp 25), type := 0, pos := "ref.go:84", after := #[{ on := 8, ground := Go.Ground.data }, { on := 7, ground := Go.Ground.data }, { on := 6, ground := Go.Ground.chain }, { on := 0, ground := Go.Ground.phase }, { on := 1, ground := Go.Ground.phase }, { on := 2, ground := Go.Ground.phase }, { on := 3, ground := Go.Ground.phase }, { on := 4, ground := Go.Ground.phase }, { on := 5, ground := Go.Ground.phase }, { on := 6, ground := Go.Ground.phase }, { on := 7, ground := Go.Ground.phase }, { on := 8, ground := Go.Ground.phase }], guard := none }) rfl (fun K hK => ?_) AllReadyH.nil
        go_simp
        refine hK.out _ _ (k0.next (below_new _ _)) (fun k3 => ?_)
        clear hK K
        try simp only [List.setIfInBounds_toArray, List.set_cons_zero, List.set_cons_succ]
        refine wpAnyH_done (by kernel_rfl) ?_ _
        refine id ?_
        obtain ⟨y1, hy1⟩ : ∃ y1, y1 = y0.alloc (.cells #[.int .i64 (b1 l 0), .int .i64 (n3 l 1), .bool false, .bool false, .bool false, .bool false, .bool false, .int .i64 0] 26) := ⟨_, rfl⟩
        have KG : Hid (Dk w B off P l y1) := Lib.hid (by rw [hy1]; exact k0.next (below_new _ _))
        have HG : Hid (Bx y1 y0.heap.size 26 #[.int .i64 (b1 l 0), .int .i64 (n3 l 1), .bool false, .bool false, .bool false, .bool false, .bool false, .int .i64 0]) := Lib.hid (by rw [hy1]; exact Bx.new _ _ _)
        have HP : Hid (w.heap.size ≤ y0.heap.size ∧ P ≠ y0.heap.size) := Lib.hid ⟨k0.rb.bel.size, by have := k0.rb.box.lt; omega⟩
        rw [← hy1]
        clear hy1 HM
        generalize hGG : y0.heap.size = G at HG HP ⊢
        clear hGG
        have g0 := HG.out.cell 0
        change _ = some (Value.int .i64 (b1 l 0)) at g0
        go_wp2_with fail
        refine (HD.out _).mono ?_
        rintro e x9 ⟨rfl, rfl⟩
        clear g0
        have g0 := HG.out.cell 0
        change _ = some (Value.int .i64 (b1 l 0)) at g0
        have gf0 := HG.out.frozen 0
        have g1 := HG.out.cell 1
        change _ = some (Value.int .i64 (n3 l 1)) at g1
        have gf1 := HG.out.frozen 1
        have g2 := HG.out.cell 2
        change _ = some (Value.bool false) at g2
        have gf2 := HG.out.frozen 2
        have g3 := HG.out.cell 3
        change _ = some (Value.bool false) at g3
        have gf3 := HG.out.frozen 3
        have g4 := HG.out.cell 4
        change _ = some (Value.bool false) at g4
        have gf4 := HG.out.frozen 4
        have g5 := HG.out.cell 5
        change _ = some (Value.bool false) at g5
        have gf5 := HG.out.frozen 5
        have g6 := HG.out.cell 6
        change _ = some (Value.bool false) at g6
        have gf6 := HG.out.frozen 6
        have g7 := HG.out.cell 7
        change _ = some (Value.int .i64 0) at g7
        have gf7 := HG.out.frozen 7
        by_cases h6 : d = 6
        · subst h6
          have HE2 : Hid (R = (decJ l, true)) := Lib.hid (by rw [HE1.out, if_pos rfl])
          clear h0
          have r0 := KG.out.rb.box.cell 0
          change _ = some (Value.int .i64 0) at r0
          have rf0 := KG.out.rb.box.frozen 0
          have r1 := KG.out.rb.box.cell 1
          change _ = some (Value.int .i64 0) at r1
          have rf1 := KG.out.rb.box.frozen 1
          have r2 := KG.out.rb.box.cell 2
          change _ = some (Value.bool false) at r2
          have rf2 := KG.out.rb.box.frozen 2
          have r3 := KG.out.rb.box.cell 3
          change _ = some (Value.bool false) at r3
          have rf3 := KG.out.rb.box.frozen 3
          have r4 := KG.out.rb.box.cell 4
          change _ = some (Value.bool false) at r4
          have rf4 := KG.out.rb.box.frozen 4
          have r5 := KG.out.rb.box.cell 5
          change _ = some (Value.bool false) at r5
          have rf5 := KG.out.rb.box.frozen 5
          have r6 := KG.out.rb.box.cell 6
          change _ = some (Value.bool false) at r6
          have rf6 := KG.out.rb.box.frozen 6
          have r7 := KG.out.rb.box.cell 7
          change _ = some (Value.int .i64 0) at r7
          have rf7 := KG.out.rb.box.frozen 7
          go_wp2
          refine bodyPost_ret (results_ct rfl rfl rfl (load_cc (put8_at KG.out.rb.box _ _ _ _ _ _ _ _))) rfl ?_
          exact ⟨by rw [HE2.out]; rfl, put8_below KG.out.rb.bel KG.out.rb.ge _ _ _ _ _ _ _ _⟩
        · have h6b : (d == 6) = false := by simpa using h6
          have e4 := KG.out.d4
          have HE2 : Hid (R = if b1 l 4 % 8 = 0 ∧ 0 < n2 l 6 then (decF l, true) else (zC, false)) := Lib.hid (by
            rw [HE1.out, if_neg h6]
            simp [h0])
          go_wp2_with fail
          clear e4 g0 gf0 g1 gf1 g2 gf2 g3 gf3 g4 gf4 g5 gf5 g6 gf6 g7 gf7 h6b
          have HB2 : ∀ W, Below w.heap.size w W → B8 W B off l := fun W hb => HB0.out.below hb
          have hbel : Below w.heap.size w (((((y1.setCell ⟨G, 2, none⟩ (.bool (b1 l 4 / 128 % 2 == 1))).setCell ⟨G, 3, none⟩ (.bool (b1 l 4 / 64 % 2 == 1))).setCell ⟨G, 4, none⟩ (.bool (b1 l 4 / 32 % 2 == 1))).setCell ⟨G, 5, none⟩ (.bool (b1 l 4 / 16 % 2 == 1))).setCell ⟨G, 6, none⟩ (.bool (b1 l 4 / 8 % 2 == 1))) :=
            ((((KG.out.rb.bel.setCell (p := ⟨G, 2, none⟩) HP.out.1 _).setCell (p := ⟨G, 3, none⟩) HP.out.1 _).setCell (p := ⟨G, 4, none⟩) HP.out.1 _).setCell (p := ⟨G, 5, none⟩) HP.out.1 _).setCell (p := ⟨G, 6, none⟩) HP.out.1 _
          refine (HM2.out _ (HB2 _ hbel)).mono ?_
          rintro e y2 ⟨rfl, hy2⟩
          have HG2 : Hid (Bx y2 G 26 #[.int .i64 (b1 l 0), .int .i64 (n3 l 1), .bool (b1 l 4 / 128 % 2 == 1), .bool (b1 l 4 / 64 % 2 == 1), .bool (b1 l 4 / 32 % 2 == 1), .bool (b1 l 4 / 16 % 2 == 1), .bool (b1 l 4 / 8 % 2 == 1), .int .i64 0]) := Lib.hid (by
            rw [← hy2]
            have h := ((((HG.out.set 2 (.bool (b1 l 4 / 128 % 2 == 1))).set 3 (.bool (b1 l 4 / 64 % 2 == 1))).set 4 (.bool (b1 l 4 / 32 % 2 == 1))).set 5 (.bool (b1 l 4 / 16 % 2 == 1))).set 6 (.bool (b1 l 4 / 8 % 2 == 1))
            simp only [List.setIfInBounds_toArray, List.set_cons_zero, List.set_cons_succ] at h
            exact h)
          have HR2 : Hid (Rb w P y2) := Lib.hid ⟨by rw [← hy2]; exact hbel, by
            rw [← hy2]
            exact ((((KG.out.rb.box.far (p := ⟨G, 2, none⟩) (fun e => HP.out.2 e.symm) _).far (p := ⟨G, 3, none⟩) (fun e => HP.out.2 e.symm) _).far (p := ⟨G, 4, none⟩) (fun e => HP.out.2 e.symm) _).far (p := ⟨G, 5, none⟩) (fun e => HP.out.2 e.symm) _).far (p := ⟨G, 6, none⟩) (fun e => HP.out.2 e.symm) _, KG.out.rb.ge⟩
          clear hy2 hbel HB2 HG KG
          have HG3 : Hid (Bx (y2.setCell ⟨G, 7, none⟩ (.int .i64 (n2 l 6))) G 26 #[.int .i64 (b1 l 0), .int .i64 (n3 l 1), .bool (b1 l 4 / 128 % 2 == 1), .bool (b1 l 4 / 64 % 2 == 1), .bool (b1 l 4 / 32 % 2 == 1), .bool (b1 l 4 / 16 % 2 == 1), .bool (b1 l 4 / 8 % 2 == 1), .int .i64 (n2 l 6)]) := Lib.hid (by
            have h := HG2.out.set 7 (.int .i64 (n2 l 6))
            simp only [List.setIfInBounds_toArray, List.set_cons_zero, List.set_cons_succ] at h
            exact h)
          have HR3 : Hid (Rb w P (y2.setCell ⟨G, 7, none⟩ (.int .i64 (n2 l 6)))) := Lib.hid ⟨HR2.out.bel.setCell (p := ⟨G, 7, none⟩) HP.out.1 _, HR2.out.box.far (p := ⟨G, 7, none⟩) (fun e => HP.out.2 e.symm) _, HR2.out.ge⟩
          have z7 := HG2.out.cell 7
          change _ = some (Value.int .i64 0) at z7
          have zf7 := HG2.out.frozen 7
          have g0 := HG3.out.cell 0
          change _ = some (Value.int .i64 (b1 l 0)) at g0
          have g1 := HG3.out.cell 1
          change _ = some (Value.int .i64 (n3 l 1)) at g1
          have g2 := HG3.out.cell 2
          change _ = some (Value.bool (b1 l 4 / 128 % 2 == 1)) at g2
          have g3 := HG3.out.cell 3
          change _ = some (Value.bool (b1 l 4 / 64 % 2 == 1)) at g3
          have g4 := HG3.out.cell 4
          change _ = some (Value.bool (b1 l 4 / 32 % 2 == 1)) at g4
          have g5 := HG3.out.cell 5
          change _ = some (Value.bool (b1 l 4 / 16 % 2 == 1)) at g5
          have g6 := HG3.out.cell 6
          change _ = some (Value.bool (b1 l 4 / 8 % 2 == 1)) at g6
          have g7 := HG3.out.cell 7
          change _ = some (Value.int .i64 (n2 l 6)) at g7
          have r0 := HR3.out.box.cell 0
          change _ = some (Value.int .i64 0) at r0
          have rf0 := HR3.out.box.frozen 0
          have r1 := HR3.out.box.cell 1
          change _ = some (Value.int .i64 0) at r1
          have rf1 := HR3.out.box.frozen 1
          have r2 := HR3.out.box.cell 2
          change _ = some (Value.bool false) at r2
          have rf2 := HR3.out.box.frozen 2
          have r3 := HR3.out.box.cell 3
          change _ = some (Value.bool false) at r3
          have rf3 := HR3.out.box.frozen 3
          have r4 := HR3.out.box.cell 4
          change _ = some (Value.bool false) at r4
          have rf4 := HR3.out.box.frozen 4
          have r5 := HR3.out.box.cell 5
          change _ = some (Value.bool false) at r5
          have rf5 := HR3.out.box.frozen 5
          have r6 := HR3.out.box.cell 6
          change _ = some (Value.bool false) at r6
          have rf6 := HR3.out.box.frozen 6
          have r7 := HR3.out.box.cell 7
          change _ = some (Value.int .i64 0) at r7
          have rf7 := HR3.out.box.frozen 7
          by_cases hf : b1 l 4 % 8 = 0
          · have hf8 : (b1 l 4 % 8 != 0) = false := by simp [hf]
            by_cases hn : n2 l 6 = 0
            · have HE3 : Hid (R = (zC, false)) := Lib.hid (by rw [HE2.out, hn]; simp)
              have hnb : (n2 l 6 == 0) = true := by simp [hn]
              clear hn hf
              go_wp2
              refine bodyPost_ret (results_ct rfl rfl rfl (load_cc (put8_at HR3.out.box _ _ _ _ _ _ _ _))) rfl ?_
              exact ⟨by rw [HE3.out]; rfl, put8_below HR3.out.bel HR3.out.ge _ _ _ _ _ _ _ _⟩
            · have HE3 : Hid (R = (decF l, true)) := Lib.hid (by rw [HE2.out, if_pos ⟨hf, by have := HQ.out; omega⟩])
              have hnb : (n2 l 6 == 0) = false := by simpa using hn
              clear hn hf
              go_wp2
              refine bodyPost_ret (results_ct rfl rfl rfl (load_cc (put8_at HR3.out.box _ _ _ _ _ _ _ _))) rfl ?_
              exact ⟨by rw [HE3.out]; rfl, put8_below HR3.out.bel HR3.out.ge _ _ _ _ _ _ _ _⟩
          · have HE3 : Hid (R = (zC, false)) := Lib.hid (by rw [HE2.out, if_neg (fun h => hf h.1)])
            have hf8 : (b1 l 4 % 8 != 0) = true := by simpa using hf
            clear hf
            go_wp2
            refine bodyPost_ret (results_ct rfl rfl rfl (load_cc (put8_at HR3.out.box _ _ _ _ _ _ _ _))) rfl ?_
            exact ⟨by rw [HE3.out]; rfl, put8_below HR3.out.bel HR3.out.ge _ _ _ _ _ _ _ _⟩
  · have HE1 : Hid (R = (zC, false)) := Lib.hid (by rw [HE.out, if_neg (by rw [HN.out]; exact h8)])
    have h8' : ¬ (n0 : Int) = 8 := by omega
    have hb : ((n0 : Int) != 8) = true := by simpa using h8'
    clear HE h8 hr hn
    go_enter Tryd.func16, Tryd.ntmps16
    go_wp2_with fail
    rw [← hW0]
    clear hW0
    refine bodyPost_ret (results_ct rfl rfl rfl (load_cc KR.out.box)) rfl ?_
    exact ⟨by rw [HE1.out]; rfl, KR.out.bel⟩
end E
end Go.Proofs.YtijkbenbjdeocaaDoor

/- The given answers' encodings. -/
import Derived.Test.YtijkbenbjdeocaaDoorCcRFl
import Derived.Laws.AppendOwn
namespace Go.Proofs.YtijkbenbjdeocaaDoor
open Go.RowKit
set_option linter.unusedVariables false
namespace E

theorem Ck.grown {w W W' : World} {E : Nat} {Q : Cw} {row : Option Nat} (h : Ck w E Q W) (hw : w.heap.size ≤ E) (hf : Fb w) (hg : W.grownBy W' row) (hr : ∀ r, row = some r → E < r) : Ck w E Q W' := by
  have hb : Below w.heap.size w W' := h.bel.grown hg h.bel.size (fun r hr' => by have := hr r hr'; omega)
  exact ⟨hb, h.box.grown hg (fun e => by have := hr E e.symm; omega), hf.below hb⟩
theorem Cx.grown {w W W' : World} {E : Nat} {S : Cs} {row : Option Nat} (h : Cx w E S W) (hw : w.heap.size ≤ E) (hg : W.grownBy W' row) (hr : ∀ r, row = some r → E < r) : Cx w E S W' := by
  have hb : Below w.heap.size w W' := h.bel.grown hg h.bel.size (fun r hr' => by have := hr r hr'; omega)
  exact ⟨hb, h.box.grown hg (fun e => by have := hr E e.symm; omega)⟩
theorem u8_by {x : Int} (h0 : 0 ≤ x) (h1 : x ≤ 255) : IntKind.u8.wrap x = ((by8 x).toNat : Int) := by
  rw [by8_nat h0 (by omega)]
  simp [IntKind.wrap, IntKind.bits, IntKind.signed]
  omega
theorem svb_rd {w : World} {p : Option Addr} {n c : Nat} {l : List UInt8} (h : SvB w (.slice p n c) l) : Rd w p l := by
  obtain ⟨p', c', he, hr, -⟩ := h
  obtain ⟨rfl, -, -⟩ : p = p' ∧ n = l.length ∧ c = c' := by simpa using he
  exact hr
theorem Hold.bel {w w' : World} {b : Nat} {sv : Value} {l : List UInt8} (h : Hold w b sv l) (hb : Below w.heap.size w w') : Hold w' b sv l := own_kept h hb
set_option maxRecDepth 100000 in
set_option maxHeartbeats 2000000 in
theorem rencode_any (Q : Cw) (w : World) (hf : Fb w) : Calls Tryd.prog 13 #[Q.v] w fun e w' => ∃ sv, e = .returned (.tuple #[sv, .int .i64 (encC Q)]) ∧ SvB w' sv (encS Q) ∧ Below w.heap.size w w' := by
  have HRF := Lib.hid (fun W (h : Fb W) => rflags_any Q W h)
  have HD := Lib.hid (fun W => rdir_any Q.o W)
  have HF := Lib.hid hf
  have HC : Hid (encC Q = if rngB Q = true then (if alwB (dirI Q.o) (flI Q) Q.n = true then 0 else 1) else 6) := Lib.hid rfl
  have HR : Hid (rngB Q = (inr Q.o 255 && (inr Q.a 16777215 && inr Q.n 65535))) := Lib.hid rfl
  have HS : Hid (encC Q ≠ 0 → encS Q = []) := Lib.hid (fun h => if_neg h)
  have HL : Hid (encC Q = 0 → encS Q = w4 Q.o Q.a ++ w4 (flI Q) Q.n) := Lib.hid (fun h => if_pos h)
  have H0 : Hid (Ck w w.heap.size Q (w.alloc (.cells #[.int .i64 Q.o, .int .i64 Q.a, .bool Q.cd, .bool Q.cc, .bool Q.sl, .bool Q.sk, .bool Q.pc, .int .i64 Q.n] 26))) := Lib.hid (Ck.mk (below_new _ _) (Bx.new _ _ _) (hf.below (below_new _ _)))
  clear hf
  unfold Cw.v at *
  obtain ⟨bo, ho⟩ : ∃ b, inr Q.o 255 = b := ⟨_, rfl⟩
  obtain ⟨ba, ha⟩ : ∃ b, inr Q.a 16777215 = b := ⟨_, rfl⟩
  obtain ⟨bn, hn⟩ : ∃ b, inr Q.n 65535 = b := ⟨_, rfl⟩
  have U0 := Lib.hid (fun W => in_any Q.o 255 W)
  have U1 := Lib.hid (fun W => in_any Q.a 16777215 W)
  have U2 := Lib.hid (fun W => in_any Q.n 65535 W)
  have HI : Hid (bo = true → ba = true → bn = true → (0 ≤ Q.o ∧ Q.o ≤ 255) ∧ (0 ≤ Q.a ∧ Q.a ≤ 16777215) ∧ (0 ≤ Q.n ∧ Q.n ≤ 65535)) := Lib.hid (fun h1 h2 h3 => ⟨inr_iff.1 (ho.trans h1), inr_iff.1 (ha.trans h2), inr_iff.1 (hn.trans h3)⟩)
  rw [ho] at U0 HR
  rw [ha] at U1 HR
  rw [hn] at U2 HR
  clear ho ha hn
  have HN6 : Hid ((bo && (ba && bn)) = false → encC Q = 6) := Lib.hid (fun h => by rw [HC.out, HR.out, h, if_neg (by decide)])
  go_enter Tryd.func13, Tryd.ntmps13
  go_wp2_with fail
  obtain ⟨W0, hW⟩ : ∃ W0, W0 = w.alloc (.cells #[.int .i64 Q.o, .int .i64 Q.a, .bool Q.cd, .bool Q.cc, .bool Q.sl, .bool Q.sk, .bool Q.pc, .int .i64 Q.n] 26) := ⟨_, rfl⟩
  rw [← hW] at H0 ⊢
  clear hW
  generalize hE : w.heap.size = E at H0 ⊢
  have HE : Hid (w.heap.size ≤ E) := Lib.hid (by omega)
  clear hE
  have c0 := H0.out.c0
  have c1 := H0.out.c1
  have c2 := H0.out.c2
  have c3 := H0.out.c3
  have c4 := H0.out.c4
  have c5 := H0.out.c5
  have c6 := H0.out.c6
  have c7 := H0.out.c7
  refine (U0.out _).mono ?_
  rintro e w2 ⟨rfl, rfl⟩
  cases bo with
  | false =>
    go_wp2
    go_ret2
    exact ⟨.slice none 0 0, ret_sv (HN6.out rfl).symm, by rw [HS.out (by rw [(HN6.out rfl)]; decide)]; exact SvB.nil _, H0.out.bel⟩
  | true =>
  go_wp2_with fail
  refine (U1.out _).mono ?_
  rintro e w2 ⟨rfl, rfl⟩
  cases ba with
  | false =>
    go_wp2
    go_ret2
    exact ⟨.slice none 0 0, ret_sv (HN6.out rfl).symm, by rw [HS.out (by rw [(HN6.out rfl)]; decide)]; exact SvB.nil _, H0.out.bel⟩
  | true =>
  go_wp2_with fail
  refine (U2.out _).mono ?_
  rintro e w2 ⟨rfl, rfl⟩
  cases bn with
  | false =>
    go_wp2
    go_ret2
    exact ⟨.slice none 0 0, ret_sv (HN6.out rfl).symm, by rw [HS.out (by rw [(HN6.out rfl)]; decide)]; exact SvB.nil _, H0.out.bel⟩
  | true =>
  go_wp2_with fail
  refine (HD.out _).mono ?_
  rintro e w2 ⟨rfl, rfl⟩
  obtain ⟨i1, i2, i3⟩ := HI.out (by trivial) (by trivial) (by trivial)
  have HY : Hid (encC Q = if alwB (dirI Q.o) (flI Q) Q.n = true then 0 else 1) := Lib.hid (by rw [HC.out, HR.out]; rfl)
  have hfb := flI_bd Q
  have HBY := Lib.hid (fun W => rbytes3_any Q.a W i2.1 i2.2)
  have HBN := Lib.hid (fun W => rbytes2_any Q.n W i3.1 i3.2)
  have HU := Lib.hid (u8_by i1.1 i1.2)
  have HV := Lib.hid (u8_by (x := flI Q) (by omega) (by omega))
  have HN0 : Hid (0 ≤ Q.n) := Lib.hid i3.1
  have HLL : Hid (encC Q = 0 → encS Q = ([by8 Q.o] ++ [by8 (Q.a / 65536), by8 (Q.a / 256 % 256), by8 (Q.a % 256)]) ++ [by8 (flI Q), 0] ++ [by8 (Q.n / 256 % 256), by8 (Q.n % 256)]) := Lib.hid (fun h => by
    rw [HL.out h]
    have e0 : by8 (Q.n / 65536) = 0 := by rw [show Q.n / 65536 = 0 by omega]; rfl
    simp [w4, e0])
  clear HI HC HR HN6 i1 i2 i3 hfb U0 U1 U2 HD HL
  generalize dirI Q.o = d at *
  generalize flI Q = f at *
  by_cases h0 : d = 0
  · subst h0
    have HE1 : Hid (encC Q = 1) := Lib.hid (by rw [HY.out]; rfl)
    go_wp2
    go_ret2
    exact ⟨.slice none 0 0, ret_sv HE1.out.symm, by rw [HS.out (by rw [HE1.out]; decide)]; exact SvB.nil _, H0.out.bel⟩
  · by_cases h6 : d = 6
    · subst h6
      go_wp2_with fail
      refine (HRF.out _ H0.out.fb).mono ?_
      rintro e W1 ⟨rfl, hb⟩
      have H1 := Lib.hid (H0.out.next hb)
      clear hb c0 c1 c2 c3 c4 c5 c6 c7
      have c0 := H1.out.c0
      have c1 := H1.out.c1
      have c2 := H1.out.c2
      have c3 := H1.out.c3
      have c4 := H1.out.c4
      have c5 := H1.out.c5
      have c6 := H1.out.c6
      have c7 := H1.out.c7
      by_cases hf0 : f = 0
      · by_cases hn0 : Q.n = 0
        · have HE0 : Hid (encC Q = 0) := Lib.hid (by rw [HY.out, hf0, hn0]; rfl)
          clear h0
          have HK0 : Hid (Ck w E Q W1.drew) := Lib.hid (H1.out.next (bel_drew _))
          clear HS HY
          go_wp2_with fail
          clear hn0 hf0
          refine wp_region_held_drew (S := Ck w E Q) (by kernel_rfl) HK0.out (fun k0 => ?_)
          generalize W1.drew = y0 at k0 ⊢
          show wpAnyH _ _ _ _ _ 9 #[false, false, false, false, false, false, false, false, false] _ _
          refine wpAnyH_take (i := 0) (oi := { dst := some 50, op := Go.Op.fieldAddr 26 (Go.Operand.tmp 1) 0, type := 0, pos := "ref.go:74", after := #[], guard := none }) (v := .pointer (some ⟨E, 0, none⟩)) rfl (by kernel_rfl) (by kernel_rfl) (by kernel_rfl) (fun _ _ _ h => h) (Or.inl ⟨by rfl, fun W hSw => by (try dsimp only at hSw); go_simp⟩) k0 ?_
          try simp only [Act.put, List.setIfInBounds_toArray, List.set_cons_zero, List.set_cons_succ]
          refine wpAnyH_take (i := 1) (oi := { dst := some 51, op := Go.Op.load 3 (Go.Operand.tmp 50), type := 3, pos := "ref.go:74", after := #[{ on := 0, ground := Go.Ground.data }], guard := none }) (v := .int .i64 Q.o) rfl (by kernel_rfl) (by kernel_rfl) (by kernel_rfl) (fun _ _ _ h => h) (Or.inl ⟨by rfl, fun W hSw => by have cq := hSw.c0; clear hSw; go_simp⟩) k0 ?_
          try simp only [Act.put, List.setIfInBounds_toArray, List.set_cons_zero, List.set_cons_succ]
          refine wpAnyH_take (i := 2) (oi := { dst := some 52, op := Go.Op.convert 3 5 (Go.Operand.tmp 51), type := 5, pos := "ref.go:74", after := #[{ on := 1, ground := Go.Ground.data }], guard := none }) (v := .int .u8 ((by8 Q.o).toNat : Int)) rfl (by kernel_rfl) (by kernel_rfl) (by kernel_rfl) (fun _ _ _ h => h) (Or.inl ⟨by rfl, fun W hSw => by clear hSw; go_simp; exact HU.out⟩) k0 ?_
          try simp only [Act.put, List.setIfInBounds_toArray, List.set_cons_zero, List.set_cons_succ]
          refine wpAnyH_take (i := 4) (oi := { dst := some 54, op := Go.Op.fieldAddr 26 (Go.Operand.tmp 1) 1, type := 0, pos := "ref.go:74", after := #[], guard := none }) (v := .pointer (some ⟨E, 1, none⟩)) rfl (by kernel_rfl) (by kernel_rfl) (by kernel_rfl) (fun _ _ _ h => h) (Or.inl ⟨by rfl, fun W hSw => by (try dsimp only at hSw); go_simp⟩) k0 ?_
          try simp only [Act.put, List.setIfInBounds_toArray, List.set_cons_zero, List.set_cons_succ]
          refine wpAnyH_take (i := 5) (oi := { dst := some 55, op := Go.Op.load 3 (Go.Operand.tmp 54), type := 3, pos := "ref.go:74", after := #[{ on := 4, ground := Go.Ground.data }], guard := none }) (v := .int .i64 Q.a) rfl (by kernel_rfl) (by kernel_rfl) (by kernel_rfl) (fun _ _ _ h => h) (Or.inl ⟨by rfl, fun W hSw => by have cq := hSw.c1; clear hSw; go_simp⟩) k0 ?_
          try simp only [Act.put, List.setIfInBounds_toArray, List.set_cons_zero, List.set_cons_succ]
          refine wpAnyH_ready (rs := [3, 6]) (by kernel_rfl) (by simp) ?_
          refine AllReadyH.cons (o := { dst := some 53, op := Go.Op.buildSlice 27 1 #[(0, Go.Operand.tmp 52)], type := 27, pos := "ref.go:74", after := #[{ on := 2, ground := Go.Ground.data }], guard := none }) rfl (fun K hK => ?_) (AllReadyH.cons (o := { dst := some 56, op := Go.Op.call { callee := Go.Callee.value (Go.Operand.func 32), args := #[Go.Operand.tmp 55, Go.Operand.const (Go.Value.int Go.IntKind.i64 3)], argTypes := #[3, 3] }, type := 27, pos := "ref.go:74", after := #[{ on := 5, ground := Go.Ground.data }], guard := none }) rfl (fun K hK => ?_) AllReadyH.nil)
          · go_simp
            have hl1 : Hold (y0.alloc (.cells #[.int .u8 ((by8 Q.o).toNat : Int)] 5)) (E + 1) (.slice (some ⟨y0.heap.size, 0, none⟩) 1 1) [by8 Q.o] := hold_lit y0 (E + 1) [by8 Q.o] (by simp) (k0.box.lt)
            have hb1 := below_new y0 (.cells #[.int .u8 ((by8 Q.o).toNat : Int)] 5)
            have kk := k0.next hb1
            generalize Value.slice (some ⟨y0.heap.size, 0, none⟩) 1 1 = sl at hl1 ⊢
            generalize y0.alloc (.cells #[.int .u8 ((by8 Q.o).toNat : Int)] 5) = y1 at hl1 hb1 kk ⊢
            refine hK.out _ _ kk (fun k1 => ?_)
            clear kk
            have hsl := hl1
            clear hK K
            try simp only [List.setIfInBounds_toArray, List.set_cons_zero, List.set_cons_succ]
            refine wpAnyH_ready (rs := [6]) (by kernel_rfl) (by simp) ?_
            refine AllReadyH.cons (o := { dst := some 56, op := Go.Op.call { callee := Go.Callee.value (Go.Operand.func 32), args := #[Go.Operand.tmp 55, Go.Operand.const (Go.Value.int Go.IntKind.i64 3)], argTypes := #[3, 3] }, type := 27, pos := "ref.go:74", after := #[{ on := 5, ground := Go.Ground.data }], guard := none }) rfl (fun K hK => ?_) AllReadyH.nil
            go_simp
            go_at_call 32
            refine (HBY.out _).mono ?_
            rintro e y2 ⟨sb, rfl, hsb, hb2⟩
            have kk := k1.next hb2
            have hl2 := hsl.bel hb2
            clear hsl
            have hsl := hl2
            go_wp2_with fail
            refine hK.out _ _ kk (fun k2 => ?_)
            clear kk
            clear hK K
            try simp only [List.setIfInBounds_toArray, List.set_cons_zero, List.set_cons_succ]
            refine wpAnyH_ready (rs := [7]) (by kernel_rfl) (by simp) ?_
            refine AllReadyH.cons (o := { dst := some 57, op := Go.Op.call { callee := Go.Callee.builtin Go.Builtin.append, args := #[Go.Operand.tmp 53, Go.Operand.tmp 56], argTypes := #[27, 27] }, type := 27, pos := "ref.go:74", after := #[{ on := 3, ground := Go.Ground.data }, { on := 6, ground := Go.Ground.data }, { on := 6, ground := Go.Ground.chain }], guard := none }) rfl (fun K hK => ?_) AllReadyH.nil
            rw [if_pos (by rfl)]
            refine op_append_sv (.tmp 53) (.tmp 56) rfl (E + 1) sl sb 1 (bsU [by8 Q.o]) ([by8 (Q.a / 65536), by8 (Q.a / 256 % 256), by8 (Q.a % 256)]) rfl rfl (hold_own hsl) hsb (by simp) k2.box.lt ?_
            intro vv y3 ho hg
            have kk := k2.grown HE.out HF.out hg (fun r hr => (World.ownsRow.lt (hold_own hsl) r hr).1)
            have hap : Hold y3 (E + 1) vv ([by8 Q.o] ++ [by8 (Q.a / 65536), by8 (Q.a / 256 % 256), by8 (Q.a % 256)]) := hold_app ho
            refine hK.out _ _ kk (fun k3 => ?_)
            clear kk
            clear hK K
            try simp only [List.setIfInBounds_toArray, List.set_cons_zero, List.set_cons_succ]
            refine wpAnyH_take (i := 8) (oi := { dst := some 5, op := Go.Op.assign (Go.Operand.tmp 57), type := 27, pos := "ref.go:74", after := #[{ on := 7, ground := Go.Ground.data }, { on := 7, ground := Go.Ground.chain }, { on := 0, ground := Go.Ground.phase }, { on := 1, ground := Go.Ground.phase }, { on := 2, ground := Go.Ground.phase }, { on := 3, ground := Go.Ground.phase }, { on := 4, ground := Go.Ground.phase }, { on := 5, ground := Go.Ground.phase }, { on := 6, ground := Go.Ground.phase }, { on := 7, ground := Go.Ground.phase }], guard := none }) (v := vv) rfl (by kernel_rfl) (by kernel_rfl) (by kernel_rfl) (fun _ _ _ h => h) (Or.inl ⟨by rfl, fun W hSw => by (try dsimp only at hSw); go_simp⟩) k3 ?_
            try simp only [Act.put, List.setIfInBounds_toArray, List.set_cons_zero, List.set_cons_succ]
            refine wpAnyH_done (by kernel_rfl) ?_ _
            refine id ?_
            have K6 := Lib.hid k3
            have A6 := Lib.hid hap
            clear hsl hsb ho hg hap k0 HBY
            have hcs := K6.out
            have c0 := hcs.c0
            have c1 := hcs.c1
            have c2 := hcs.c2
            have c3 := hcs.c3
            have c4 := hcs.c4
            have c5 := hcs.c5
            have c6 := hcs.c6
            have c7 := hcs.c7
            clear hcs
            go_wp2_with fail
            refine (HRF.out _ K6.out.fb).mono ?_
            rintro e y7 ⟨rfl, hb⟩
            have K7 := Lib.hid (K6.out.next hb)
            have A7 := Lib.hid (A6.out.bel hb)
            have VV := HV.out
            clear hb K6 A6 c0 c1 c2 c3 c4 c5 c6 c7
            have B8 := Lib.hid (below_new y7 (.cells #[.int .u8 ((by8 f).toNat : Int), .int .u8 0] 5))
            have S8 : Hid (SvB (y7.alloc (.cells #[.int .u8 ((by8 f).toNat : Int), .int .u8 0] 5)) (.slice (some ⟨y7.heap.size, 0, none⟩) 2 2) [by8 f, 0]) := Lib.hid (svb_new y7 [by8 f, 0] (by simp))
            go_wp2_with (at_builtin; go_must (refine wpList_append_sv rfl (.tmp 58) (.tmp 62) rfl (E + 1) vv 4 _ rfl (hold_own (A7.out.bel B8.out)) _ 2 2 [by8 f, 0] rfl rfl (svb_rd S8.out) (Nat.le_refl _) (fun h => by cases h) (by simp) (K7.out.next B8.out).box.lt ?_))
            intro v9 y9 ho hg
            have K9 := Lib.hid ((K7.out.next B8.out).grown HE.out HF.out hg (fun r hr => (World.ownsRow.lt (hold_own (A7.out.bel B8.out)) r hr).1))
            have A9 : Hid (Hold y9 (E + 1) v9 (([by8 Q.o] ++ [by8 (Q.a / 65536), by8 (Q.a / 256 % 256), by8 (Q.a % 256)]) ++ [by8 f, 0])) := Lib.hid (hold_app ho)
            clear ho hg K7 A7 B8 S8 VV
            have c7 := K9.out.c7
            go_wp2_with fail
            refine (HBN.out _).mono ?_
            rintro e y10 ⟨sb, rfl, hsb, hb⟩
            have K10 := Lib.hid (K9.out.next hb)
            have A10 := Lib.hid (A9.out.bel hb)
            have S10 := Lib.hid hsb
            obtain ⟨p10, d10, rfl, hr10, hc10, -, hn10⟩ := hsb
            clear hb K9 A9 c7
            go_wp2_with (at_builtin; go_must (refine wpList_append_sv rfl (.tmp 64) (.tmp 67) rfl (E + 1) v9 6 _ rfl (hold_own A10.out) _ _ _ _ rfl rfl hr10 hc10 hn10 (by simp) K10.out.box.lt ?_))
            intro v11 y11 ho hg
            have K11 := Lib.hid (K10.out.grown HE.out HF.out hg (fun r hr => (World.ownsRow.lt (hold_own A10.out) r hr).1))
            have A11 : Hid (Hold y11 (E + 1) v11 ((([by8 Q.o] ++ [by8 (Q.a / 65536), by8 (Q.a / 256 % 256), by8 (Q.a % 256)]) ++ [by8 f, 0]) ++ [by8 (Q.n / 256 % 256), by8 (Q.n % 256)])) := Lib.hid (hold_app ho)
            clear ho hg K10 A10 hr10 hc10 hn10
            go_wp2
            go_ret2
            exact ⟨v11, ret_sv HE0.out.symm, by rw [HLL.out HE0.out]; exact A11.out.svb, K11.out.bel⟩
          · go_simp
            go_at_call 32
            refine (HBY.out _).mono ?_
            rintro e y1 ⟨sb, rfl, hsb, hb1⟩
            have kk := k0.next hb1
            go_wp2_with fail
            refine hK.out _ _ kk (fun k1 => ?_)
            clear kk
            clear hK K
            try simp only [List.setIfInBounds_toArray, List.set_cons_zero, List.set_cons_succ]
            refine wpAnyH_ready (rs := [3]) (by kernel_rfl) (by simp) ?_
            refine AllReadyH.cons (o := { dst := some 53, op := Go.Op.buildSlice 27 1 #[(0, Go.Operand.tmp 52)], type := 27, pos := "ref.go:74", after := #[{ on := 2, ground := Go.Ground.data }], guard := none }) rfl (fun K hK => ?_) AllReadyH.nil
            go_simp
            have hl2 : Hold (y1.alloc (.cells #[.int .u8 ((by8 Q.o).toNat : Int)] 5)) (E + 1) (.slice (some ⟨y1.heap.size, 0, none⟩) 1 1) [by8 Q.o] := hold_lit y1 (E + 1) [by8 Q.o] (by simp) (k1.box.lt)
            have hb2 := below_new y1 (.cells #[.int .u8 ((by8 Q.o).toNat : Int)] 5)
            have kk := k1.next hb2
            generalize Value.slice (some ⟨y1.heap.size, 0, none⟩) 1 1 = sl at hl2 ⊢
            generalize y1.alloc (.cells #[.int .u8 ((by8 Q.o).toNat : Int)] 5) = y2 at hl2 hb2 kk ⊢
            have hs2 := hsb.below hb2
            clear hsb
            have hsb := hs2
            refine hK.out _ _ kk (fun k2 => ?_)
            clear kk
            have hsl := hl2
            clear hK K
            try simp only [List.setIfInBounds_toArray, List.set_cons_zero, List.set_cons_succ]
            refine wpAnyH_ready (rs := [7]) (by kernel_rfl) (by simp) ?_
            refine AllReadyH.cons (o := { dst := some 57, op := Go.Op.call { callee := Go.Callee.builtin Go.Builtin.append, args := #[Go.Operand.tmp 53, Go.Operand.tmp 56], argTypes := #[27, 27] }, type := 27, pos := "ref.go:74", after := #[{ on := 3, ground := Go.Ground.data }, { on := 6, ground := Go.Ground.data }, { on := 6, ground := Go.Ground.chain }], guard := none }) rfl (fun K hK => ?_) AllReadyH.nil
            rw [if_pos (by rfl)]
            refine op_append_sv (.tmp 53) (.tmp 56) rfl (E + 1) sl sb 1 (bsU [by8 Q.o]) ([by8 (Q.a / 65536), by8 (Q.a / 256 % 256), by8 (Q.a % 256)]) rfl rfl (hold_own hsl) hsb (by simp) k2.box.lt ?_
            intro vv y3 ho hg
            have kk := k2.grown HE.out HF.out hg (fun r hr => (World.ownsRow.lt (hold_own hsl) r hr).1)
            have hap : Hold y3 (E + 1) vv ([by8 Q.o] ++ [by8 (Q.a / 65536), by8 (Q.a / 256 % 256), by8 (Q.a % 256)]) := hold_app ho
            refine hK.out _ _ kk (fun k3 => ?_)
            clear kk
            clear hK K
            try simp only [List.setIfInBounds_toArray, List.set_cons_zero, List.set_cons_succ]
            refine wpAnyH_take (i := 8) (oi := { dst := some 5, op := Go.Op.assign (Go.Operand.tmp 57), type := 27, pos := "ref.go:74", after := #[{ on := 7, ground := Go.Ground.data }, { on := 7, ground := Go.Ground.chain }, { on := 0, ground := Go.Ground.phase }, { on := 1, ground := Go.Ground.phase }, { on := 2, ground := Go.Ground.phase }, { on := 3, ground := Go.Ground.phase }, { on := 4, ground := Go.Ground.phase }, { on := 5, ground := Go.Ground.phase }, { on := 6, ground := Go.Ground.phase }, { on := 7, ground := Go.Ground.phase }], guard := none }) (v := vv) rfl (by kernel_rfl) (by kernel_rfl) (by kernel_rfl) (fun _ _ _ h => h) (Or.inl ⟨by rfl, fun W hSw => by (try dsimp only at hSw); go_simp⟩) k3 ?_
            try simp only [Act.put, List.setIfInBounds_toArray, List.set_cons_zero, List.set_cons_succ]
            refine wpAnyH_done (by kernel_rfl) ?_ _
            refine id ?_
            have K6 := Lib.hid k3
            have A6 := Lib.hid hap
            clear hsl hsb ho hg hap k0 HBY
            have hcs := K6.out
            have c0 := hcs.c0
            have c1 := hcs.c1
            have c2 := hcs.c2
            have c3 := hcs.c3
            have c4 := hcs.c4
            have c5 := hcs.c5
            have c6 := hcs.c6
            have c7 := hcs.c7
            clear hcs
            go_wp2_with fail
            refine (HRF.out _ K6.out.fb).mono ?_
            rintro e y7 ⟨rfl, hb⟩
            have K7 := Lib.hid (K6.out.next hb)
            have A7 := Lib.hid (A6.out.bel hb)
            have VV := HV.out
            clear hb K6 A6 c0 c1 c2 c3 c4 c5 c6 c7
            have B8 := Lib.hid (below_new y7 (.cells #[.int .u8 ((by8 f).toNat : Int), .int .u8 0] 5))
            have S8 : Hid (SvB (y7.alloc (.cells #[.int .u8 ((by8 f).toNat : Int), .int .u8 0] 5)) (.slice (some ⟨y7.heap.size, 0, none⟩) 2 2) [by8 f, 0]) := Lib.hid (svb_new y7 [by8 f, 0] (by simp))
            go_wp2_with (at_builtin; go_must (refine wpList_append_sv rfl (.tmp 58) (.tmp 62) rfl (E + 1) vv 4 _ rfl (hold_own (A7.out.bel B8.out)) _ 2 2 [by8 f, 0] rfl rfl (svb_rd S8.out) (Nat.le_refl _) (fun h => by cases h) (by simp) (K7.out.next B8.out).box.lt ?_))
            intro v9 y9 ho hg
            have K9 := Lib.hid ((K7.out.next B8.out).grown HE.out HF.out hg (fun r hr => (World.ownsRow.lt (hold_own (A7.out.bel B8.out)) r hr).1))
            have A9 : Hid (Hold y9 (E + 1) v9 (([by8 Q.o] ++ [by8 (Q.a / 65536), by8 (Q.a / 256 % 256), by8 (Q.a % 256)]) ++ [by8 f, 0])) := Lib.hid (hold_app ho)
            clear ho hg K7 A7 B8 S8 VV
            have c7 := K9.out.c7
            go_wp2_with fail
            refine (HBN.out _).mono ?_
            rintro e y10 ⟨sb, rfl, hsb, hb⟩
            have K10 := Lib.hid (K9.out.next hb)
            have A10 := Lib.hid (A9.out.bel hb)
            have S10 := Lib.hid hsb
            obtain ⟨p10, d10, rfl, hr10, hc10, -, hn10⟩ := hsb
            clear hb K9 A9 c7
            go_wp2_with (at_builtin; go_must (refine wpList_append_sv rfl (.tmp 64) (.tmp 67) rfl (E + 1) v9 6 _ rfl (hold_own A10.out) _ _ _ _ rfl rfl hr10 hc10 hn10 (by simp) K10.out.box.lt ?_))
            intro v11 y11 ho hg
            have K11 := Lib.hid (K10.out.grown HE.out HF.out hg (fun r hr => (World.ownsRow.lt (hold_own A10.out) r hr).1))
            have A11 : Hid (Hold y11 (E + 1) v11 ((([by8 Q.o] ++ [by8 (Q.a / 65536), by8 (Q.a / 256 % 256), by8 (Q.a % 256)]) ++ [by8 f, 0]) ++ [by8 (Q.n / 256 % 256), by8 (Q.n % 256)])) := Lib.hid (hold_app ho)
            clear ho hg K10 A10 hr10 hc10 hn10
            go_wp2
            go_ret2
            exact ⟨v11, ret_sv HE0.out.symm, by rw [HLL.out HE0.out]; exact A11.out.svb, K11.out.bel⟩
        · have HE1 : Hid (encC Q = 1) := Lib.hid (by rw [HY.out, if_neg (by simp [alwB, hf0, hn0])])
          have en : (Q.n != 0) = true := by simpa using hn0
          go_wp2
          go_ret2
          exact ⟨.slice none 0 0, ret_sv HE1.out.symm, by rw [HS.out (by rw [HE1.out]; decide)]; exact SvB.nil _, H1.out.bel⟩
      · have HE1 : Hid (encC Q = 1) := Lib.hid (by rw [HY.out, if_neg (by simp [alwB, hf0])])
        have ef : (f != 0) = true := by simpa using hf0
        go_wp2
        go_ret2
        exact ⟨.slice none 0 0, ret_sv HE1.out.symm, by rw [HS.out (by rw [HE1.out]; decide)]; exact SvB.nil _, H1.out.bel⟩
    · have e0 : (d == 0) = false := by simpa using h0
      have e6 : (d == 6) = false := by simpa using h6
      have e6' : (d != 6) = true := by simpa using h6
      by_cases hn0 : Q.n = 0
      · have HE1 : Hid (encC Q = 1) := Lib.hid (by rw [HY.out, if_neg (by simp [alwB, h0, h6, hn0])])
        go_wp2
        go_ret2
        exact ⟨.slice none 0 0, ret_sv HE1.out.symm, by rw [HS.out (by rw [HE1.out]; decide)]; exact SvB.nil _, H0.out.bel⟩
      · have HE0 : Hid (encC Q = 0) := Lib.hid (by rw [HY.out, if_pos (by have := HN0.out; simp [alwB, h0, h6]; omega)])
        have en : (Q.n == 0) = false := by simpa using hn0
        have HK0 : Hid (Ck w E Q W0.drew) := Lib.hid (H0.out.next (bel_drew _))
        clear HS HY
        go_wp2_with fail
        clear hn0 en e0 e6
        refine wp_region_held_drew (S := Ck w E Q) (by kernel_rfl) HK0.out (fun k0 => ?_)
        generalize W0.drew = y0 at k0 ⊢
        show wpAnyH _ _ _ _ _ 9 #[false, false, false, false, false, false, false, false, false] _ _
        refine wpAnyH_take (i := 0) (oi := { dst := some 50, op := Go.Op.fieldAddr 26 (Go.Operand.tmp 1) 0, type := 0, pos := "ref.go:74", after := #[], guard := none }) (v := .pointer (some ⟨E, 0, none⟩)) rfl (by kernel_rfl) (by kernel_rfl) (by kernel_rfl) (fun _ _ _ h => h) (Or.inl ⟨by rfl, fun W hSw => by (try dsimp only at hSw); go_simp⟩) k0 ?_
        try simp only [Act.put, List.setIfInBounds_toArray, List.set_cons_zero, List.set_cons_succ]
        refine wpAnyH_take (i := 1) (oi := { dst := some 51, op := Go.Op.load 3 (Go.Operand.tmp 50), type := 3, pos := "ref.go:74", after := #[{ on := 0, ground := Go.Ground.data }], guard := none }) (v := .int .i64 Q.o) rfl (by kernel_rfl) (by kernel_rfl) (by kernel_rfl) (fun _ _ _ h => h) (Or.inl ⟨by rfl, fun W hSw => by have cq := hSw.c0; clear hSw; go_simp⟩) k0 ?_
        try simp only [Act.put, List.setIfInBounds_toArray, List.set_cons_zero, List.set_cons_succ]
        refine wpAnyH_take (i := 2) (oi := { dst := some 52, op := Go.Op.convert 3 5 (Go.Operand.tmp 51), type := 5, pos := "ref.go:74", after := #[{ on := 1, ground := Go.Ground.data }], guard := none }) (v := .int .u8 ((by8 Q.o).toNat : Int)) rfl (by kernel_rfl) (by kernel_rfl) (by kernel_rfl) (fun _ _ _ h => h) (Or.inl ⟨by rfl, fun W hSw => by clear hSw; go_simp; exact HU.out⟩) k0 ?_
        try simp only [Act.put, List.setIfInBounds_toArray, List.set_cons_zero, List.set_cons_succ]
        refine wpAnyH_take (i := 4) (oi := { dst := some 54, op := Go.Op.fieldAddr 26 (Go.Operand.tmp 1) 1, type := 0, pos := "ref.go:74", after := #[], guard := none }) (v := .pointer (some ⟨E, 1, none⟩)) rfl (by kernel_rfl) (by kernel_rfl) (by kernel_rfl) (fun _ _ _ h => h) (Or.inl ⟨by rfl, fun W hSw => by (try dsimp only at hSw); go_simp⟩) k0 ?_
        try simp only [Act.put, List.setIfInBounds_toArray, List.set_cons_zero, List.set_cons_succ]
        refine wpAnyH_take (i := 5) (oi := { dst := some 55, op := Go.Op.load 3 (Go.Operand.tmp 54), type := 3, pos := "ref.go:74", after := #[{ on := 4, ground := Go.Ground.data }], guard := none }) (v := .int .i64 Q.a) rfl (by kernel_rfl) (by kernel_rfl) (by kernel_rfl) (fun _ _ _ h => h) (Or.inl ⟨by rfl, fun W hSw => by have cq := hSw.c1; clear hSw; go_simp⟩) k0 ?_
        try simp only [Act.put, List.setIfInBounds_toArray, List.set_cons_zero, List.set_cons_succ]
        refine wpAnyH_ready (rs := [3, 6]) (by kernel_rfl) (by simp) ?_
        refine AllReadyH.cons (o := { dst := some 53, op := Go.Op.buildSlice 27 1 #[(0, Go.Operand.tmp 52)], type := 27, pos := "ref.go:74", after := #[{ on := 2, ground := Go.Ground.data }], guard := none }) rfl (fun K hK => ?_) (AllReadyH.cons (o := { dst := some 56, op := Go.Op.call { callee := Go.Callee.value (Go.Operand.func 32), args := #[Go.Operand.tmp 55, Go.Operand.const (Go.Value.int Go.IntKind.i64 3)], argTypes := #[3, 3] }, type := 27, pos := "ref.go:74", after := #[{ on := 5, ground := Go.Ground.data }], guard := none }) rfl (fun K hK => ?_) AllReadyH.nil)
        · go_simp
          have hl1 : Hold (y0.alloc (.cells #[.int .u8 ((by8 Q.o).toNat : Int)] 5)) (E + 1) (.slice (some ⟨y0.heap.size, 0, none⟩) 1 1) [by8 Q.o] := hold_lit y0 (E + 1) [by8 Q.o] (by simp) (k0.box.lt)
          have hb1 := below_new y0 (.cells #[.int .u8 ((by8 Q.o).toNat : Int)] 5)
          have kk := k0.next hb1
          generalize Value.slice (some ⟨y0.heap.size, 0, none⟩) 1 1 = sl at hl1 ⊢
          generalize y0.alloc (.cells #[.int .u8 ((by8 Q.o).toNat : Int)] 5) = y1 at hl1 hb1 kk ⊢
          refine hK.out _ _ kk (fun k1 => ?_)
          clear kk
          have hsl := hl1
          clear hK K
          try simp only [List.setIfInBounds_toArray, List.set_cons_zero, List.set_cons_succ]
          refine wpAnyH_ready (rs := [6]) (by kernel_rfl) (by simp) ?_
          refine AllReadyH.cons (o := { dst := some 56, op := Go.Op.call { callee := Go.Callee.value (Go.Operand.func 32), args := #[Go.Operand.tmp 55, Go.Operand.const (Go.Value.int Go.IntKind.i64 3)], argTypes := #[3, 3] }, type := 27, pos := "ref.go:74", after := #[{ on := 5, ground := Go.Ground.data }], guard := none }) rfl (fun K hK => ?_) AllReadyH.nil
          go_simp
          go_at_call 32
          refine (HBY.out _).mono ?_
          rintro e y2 ⟨sb, rfl, hsb, hb2⟩
          have kk := k1.next hb2
          have hl2 := hsl.bel hb2
          clear hsl
          have hsl := hl2
          go_wp2_with fail
          refine hK.out _ _ kk (fun k2 => ?_)
          clear kk
          clear hK K
          try simp only [List.setIfInBounds_toArray, List.set_cons_zero, List.set_cons_succ]
          refine wpAnyH_ready (rs := [7]) (by kernel_rfl) (by simp) ?_
          refine AllReadyH.cons (o := { dst := some 57, op := Go.Op.call { callee := Go.Callee.builtin Go.Builtin.append, args := #[Go.Operand.tmp 53, Go.Operand.tmp 56], argTypes := #[27, 27] }, type := 27, pos := "ref.go:74", after := #[{ on := 3, ground := Go.Ground.data }, { on := 6, ground := Go.Ground.data }, { on := 6, ground := Go.Ground.chain }], guard := none }) rfl (fun K hK => ?_) AllReadyH.nil
          rw [if_pos (by rfl)]
          refine op_append_sv (.tmp 53) (.tmp 56) rfl (E + 1) sl sb 1 (bsU [by8 Q.o]) ([by8 (Q.a / 65536), by8 (Q.a / 256 % 256), by8 (Q.a % 256)]) rfl rfl (hold_own hsl) hsb (by simp) k2.box.lt ?_
          intro vv y3 ho hg
          have kk := k2.grown HE.out HF.out hg (fun r hr => (World.ownsRow.lt (hold_own hsl) r hr).1)
          have hap : Hold y3 (E + 1) vv ([by8 Q.o] ++ [by8 (Q.a / 65536), by8 (Q.a / 256 % 256), by8 (Q.a % 256)]) := hold_app ho
          refine hK.out _ _ kk (fun k3 => ?_)
          clear kk
          clear hK K
          try simp only [List.setIfInBounds_toArray, List.set_cons_zero, List.set_cons_succ]
          refine wpAnyH_take (i := 8) (oi := { dst := some 5, op := Go.Op.assign (Go.Operand.tmp 57), type := 27, pos := "ref.go:74", after := #[{ on := 7, ground := Go.Ground.data }, { on := 7, ground := Go.Ground.chain }, { on := 0, ground := Go.Ground.phase }, { on := 1, ground := Go.Ground.phase }, { on := 2, ground := Go.Ground.phase }, { on := 3, ground := Go.Ground.phase }, { on := 4, ground := Go.Ground.phase }, { on := 5, ground := Go.Ground.phase }, { on := 6, ground := Go.Ground.phase }, { on := 7, ground := Go.Ground.phase }], guard := none }) (v := vv) rfl (by kernel_rfl) (by kernel_rfl) (by kernel_rfl) (fun _ _ _ h => h) (Or.inl ⟨by rfl, fun W hSw => by (try dsimp only at hSw); go_simp⟩) k3 ?_
          try simp only [Act.put, List.setIfInBounds_toArray, List.set_cons_zero, List.set_cons_succ]
          refine wpAnyH_done (by kernel_rfl) ?_ _
          refine id ?_
          have K6 := Lib.hid k3
          have A6 := Lib.hid hap
          clear hsl hsb ho hg hap k0 HBY
          have hcs := K6.out
          have c0 := hcs.c0
          have c1 := hcs.c1
          have c2 := hcs.c2
          have c3 := hcs.c3
          have c4 := hcs.c4
          have c5 := hcs.c5
          have c6 := hcs.c6
          have c7 := hcs.c7
          clear hcs
          go_wp2_with fail
          refine (HRF.out _ K6.out.fb).mono ?_
          rintro e y7 ⟨rfl, hb⟩
          have K7 := Lib.hid (K6.out.next hb)
          have A7 := Lib.hid (A6.out.bel hb)
          have VV := HV.out
          clear hb K6 A6 c0 c1 c2 c3 c4 c5 c6 c7
          have B8 := Lib.hid (below_new y7 (.cells #[.int .u8 ((by8 f).toNat : Int), .int .u8 0] 5))
          have S8 : Hid (SvB (y7.alloc (.cells #[.int .u8 ((by8 f).toNat : Int), .int .u8 0] 5)) (.slice (some ⟨y7.heap.size, 0, none⟩) 2 2) [by8 f, 0]) := Lib.hid (svb_new y7 [by8 f, 0] (by simp))
          go_wp2_with (at_builtin; go_must (refine wpList_append_sv rfl (.tmp 58) (.tmp 62) rfl (E + 1) vv 4 _ rfl (hold_own (A7.out.bel B8.out)) _ 2 2 [by8 f, 0] rfl rfl (svb_rd S8.out) (Nat.le_refl _) (fun h => by cases h) (by simp) (K7.out.next B8.out).box.lt ?_))
          intro v9 y9 ho hg
          have K9 := Lib.hid ((K7.out.next B8.out).grown HE.out HF.out hg (fun r hr => (World.ownsRow.lt (hold_own (A7.out.bel B8.out)) r hr).1))
          have A9 : Hid (Hold y9 (E + 1) v9 (([by8 Q.o] ++ [by8 (Q.a / 65536), by8 (Q.a / 256 % 256), by8 (Q.a % 256)]) ++ [by8 f, 0])) := Lib.hid (hold_app ho)
          clear ho hg K7 A7 B8 S8 VV
          have c7 := K9.out.c7
          go_wp2_with fail
          refine (HBN.out _).mono ?_
          rintro e y10 ⟨sb, rfl, hsb, hb⟩
          have K10 := Lib.hid (K9.out.next hb)
          have A10 := Lib.hid (A9.out.bel hb)
          have S10 := Lib.hid hsb
          obtain ⟨p10, d10, rfl, hr10, hc10, -, hn10⟩ := hsb
          clear hb K9 A9 c7
          go_wp2_with (at_builtin; go_must (refine wpList_append_sv rfl (.tmp 64) (.tmp 67) rfl (E + 1) v9 6 _ rfl (hold_own A10.out) _ _ _ _ rfl rfl hr10 hc10 hn10 (by simp) K10.out.box.lt ?_))
          intro v11 y11 ho hg
          have K11 := Lib.hid (K10.out.grown HE.out HF.out hg (fun r hr => (World.ownsRow.lt (hold_own A10.out) r hr).1))
          have A11 : Hid (Hold y11 (E + 1) v11 ((([by8 Q.o] ++ [by8 (Q.a / 65536), by8 (Q.a / 256 % 256), by8 (Q.a % 256)]) ++ [by8 f, 0]) ++ [by8 (Q.n / 256 % 256), by8 (Q.n % 256)])) := Lib.hid (hold_app ho)
          clear ho hg K10 A10 hr10 hc10 hn10
          go_wp2
          go_ret2
          exact ⟨v11, ret_sv HE0.out.symm, by rw [HLL.out HE0.out]; exact A11.out.svb, K11.out.bel⟩
        · go_simp
          go_at_call 32
          refine (HBY.out _).mono ?_
          rintro e y1 ⟨sb, rfl, hsb, hb1⟩
          have kk := k0.next hb1
          go_wp2_with fail
          refine hK.out _ _ kk (fun k1 => ?_)
          clear kk
          clear hK K
          try simp only [List.setIfInBounds_toArray, List.set_cons_zero, List.set_cons_succ]
          refine wpAnyH_ready (rs := [3]) (by kernel_rfl) (by simp) ?_
          refine AllReadyH.cons (o := { dst := some 53, op := Go.Op.buildSlice 27 1 #[(0, Go.Operand.tmp 52)], type := 27, pos := "ref.go:74", after := #[{ on := 2, ground := Go.Ground.data }], guard := none }) rfl (fun K hK => ?_) AllReadyH.nil
          go_simp
          have hl2 : Hold (y1.alloc (.cells #[.int .u8 ((by8 Q.o).toNat : Int)] 5)) (E + 1) (.slice (some ⟨y1.heap.size, 0, none⟩) 1 1) [by8 Q.o] := hold_lit y1 (E + 1) [by8 Q.o] (by simp) (k1.box.lt)
          have hb2 := below_new y1 (.cells #[.int .u8 ((by8 Q.o).toNat : Int)] 5)
          have kk := k1.next hb2
          generalize Value.slice (some ⟨y1.heap.size, 0, none⟩) 1 1 = sl at hl2 ⊢
          generalize y1.alloc (.cells #[.int .u8 ((by8 Q.o).toNat : Int)] 5) = y2 at hl2 hb2 kk ⊢
          have hs2 := hsb.below hb2
          clear hsb
          have hsb := hs2
          refine hK.out _ _ kk (fun k2 => ?_)
          clear kk
          have hsl := hl2
          clear hK K
          try simp only [List.setIfInBounds_toArray, List.set_cons_zero, List.set_cons_succ]
          refine wpAnyH_ready (rs := [7]) (by kernel_rfl) (by simp) ?_
          refine AllReadyH.cons (o := { dst := some 57, op := Go.Op.call { callee := Go.Callee.builtin Go.Builtin.append, args := #[Go.Operand.tmp 53, Go.Operand.tmp 56], argTypes := #[27, 27] }, type := 27, pos := "ref.go:74", after := #[{ on := 3, ground := Go.Ground.data }, { on := 6, ground := Go.Ground.data }, { on := 6, ground := Go.Ground.chain }], guard := none }) rfl (fun K hK => ?_) AllReadyH.nil
          rw [if_pos (by rfl)]
          refine op_append_sv (.tmp 53) (.tmp 56) rfl (E + 1) sl sb 1 (bsU [by8 Q.o]) ([by8 (Q.a / 65536), by8 (Q.a / 256 % 256), by8 (Q.a % 256)]) rfl rfl (hold_own hsl) hsb (by simp) k2.box.lt ?_
          intro vv y3 ho hg
          have kk := k2.grown HE.out HF.out hg (fun r hr => (World.ownsRow.lt (hold_own hsl) r hr).1)
          have hap : Hold y3 (E + 1) vv ([by8 Q.o] ++ [by8 (Q.a / 65536), by8 (Q.a / 256 % 256), by8 (Q.a % 256)]) := hold_app ho
          refine hK.out _ _ kk (fun k3 => ?_)
          clear kk
          clear hK K
          try simp only [List.setIfInBounds_toArray, List.set_cons_zero, List.set_cons_succ]
          refine wpAnyH_take (i := 8) (oi := { dst := some 5, op := Go.Op.assign (Go.Operand.tmp 57), type := 27, pos := "ref.go:74", after := #[{ on := 7, ground := Go.Ground.data }, { on := 7, ground := Go.Ground.chain }, { on := 0, ground := Go.Ground.phase }, { on := 1, ground := Go.Ground.phase }, { on := 2, ground := Go.Ground.phase }, { on := 3, ground := Go.Ground.phase }, { on := 4, ground := Go.Ground.phase }, { on := 5, ground := Go.Ground.phase }, { on := 6, ground := Go.Ground.phase }, { on := 7, ground := Go.Ground.phase }], guard := none }) (v := vv) rfl (by kernel_rfl) (by kernel_rfl) (by kernel_rfl) (fun _ _ _ h => h) (Or.inl ⟨by rfl, fun W hSw => by (try dsimp only at hSw); go_simp⟩) k3 ?_
          try simp only [Act.put, List.setIfInBounds_toArray, List.set_cons_zero, List.set_cons_succ]
          refine wpAnyH_done (by kernel_rfl) ?_ _
          refine id ?_
          have K6 := Lib.hid k3
          have A6 := Lib.hid hap
          clear hsl hsb ho hg hap k0 HBY
          have hcs := K6.out
          have c0 := hcs.c0
          have c1 := hcs.c1
          have c2 := hcs.c2
          have c3 := hcs.c3
          have c4 := hcs.c4
          have c5 := hcs.c5
          have c6 := hcs.c6
          have c7 := hcs.c7
          clear hcs
          go_wp2_with fail
          refine (HRF.out _ K6.out.fb).mono ?_
          rintro e y7 ⟨rfl, hb⟩
          have K7 := Lib.hid (K6.out.next hb)
          have A7 := Lib.hid (A6.out.bel hb)
          have VV := HV.out
          clear hb K6 A6 c0 c1 c2 c3 c4 c5 c6 c7
          have B8 := Lib.hid (below_new y7 (.cells #[.int .u8 ((by8 f).toNat : Int), .int .u8 0] 5))
          have S8 : Hid (SvB (y7.alloc (.cells #[.int .u8 ((by8 f).toNat : Int), .int .u8 0] 5)) (.slice (some ⟨y7.heap.size, 0, none⟩) 2 2) [by8 f, 0]) := Lib.hid (svb_new y7 [by8 f, 0] (by simp))
          go_wp2_with (at_builtin; go_must (refine wpList_append_sv rfl (.tmp 58) (.tmp 62) rfl (E + 1) vv 4 _ rfl (hold_own (A7.out.bel B8.out)) _ 2 2 [by8 f, 0] rfl rfl (svb_rd S8.out) (Nat.le_refl _) (fun h => by cases h) (by simp) (K7.out.next B8.out).box.lt ?_))
          intro v9 y9 ho hg
          have K9 := Lib.hid ((K7.out.next B8.out).grown HE.out HF.out hg (fun r hr => (World.ownsRow.lt (hold_own (A7.out.bel B8.out)) r hr).1))
          have A9 : Hid (Hold y9 (E + 1) v9 (([by8 Q.o] ++ [by8 (Q.a / 65536), by8 (Q.a / 256 % 256), by8 (Q.a % 256)]) ++ [by8 f, 0])) := Lib.hid (hold_app ho)
          clear ho hg K7 A7 B8 S8 VV
          have c7 := K9.out.c7
          go_wp2_with fail
          refine (HBN.out _).mono ?_
          rintro e y10 ⟨sb, rfl, hsb, hb⟩
          have K10 := Lib.hid (K9.out.next hb)
          have A10 := Lib.hid (A9.out.bel hb)
          have S10 := Lib.hid hsb
          obtain ⟨p10, d10, rfl, hr10, hc10, -, hn10⟩ := hsb
          clear hb K9 A9 c7
          go_wp2_with (at_builtin; go_must (refine wpList_append_sv rfl (.tmp 64) (.tmp 67) rfl (E + 1) v9 6 _ rfl (hold_own A10.out) _ _ _ _ rfl rfl hr10 hc10 hn10 (by simp) K10.out.box.lt ?_))
          intro v11 y11 ho hg
          have K11 := Lib.hid (K10.out.grown HE.out HF.out hg (fun r hr => (World.ownsRow.lt (hold_own A10.out) r hr).1))
          have A11 : Hid (Hold y11 (E + 1) v11 ((([by8 Q.o] ++ [by8 (Q.a / 65536), by8 (Q.a / 256 % 256), by8 (Q.a % 256)]) ++ [by8 f, 0]) ++ [by8 (Q.n / 256 % 256), by8 (Q.n % 256)])) := Lib.hid (hold_app ho)
          clear ho hg K10 A10 hr10 hc10 hn10
          go_wp2
          go_ret2
          exact ⟨v11, ret_sv HE0.out.symm, by rw [HLL.out HE0.out]; exact A11.out.svb, K11.out.bel⟩
set_option maxRecDepth 100000 in
set_option maxHeartbeats 2000000 in
theorem rencodeCsw_any (S : Cs) (w : World) : Calls Tryd.prog 22 #[S.v] w fun e w' => ∃ sv, e = .returned (.tuple #[sv, .int .i64 (encSC S)]) ∧ SvB w' sv (encSS S) ∧ Below w.heap.size w w' := by
  have HC : Hid (encSC S = if rngS S = true then 0 else 6) := Lib.hid rfl
  have HR : Hid (rngS S = (inr S.k 15 && (inr S.a 16777215 && ((inr S.u 255 && inr S.c 255) && inr S.n 65535)))) := Lib.hid rfl
  have HS : Hid (encSC S ≠ 0 → encSS S = []) := Lib.hid (fun h => if_neg (fun h2 => h (if_pos h2)))
  have HL : Hid (rngS S = true → encSS S = w4 (S.k * 16) S.a ++ w4 S.u (S.c * 65536 + S.n)) := Lib.hid (fun h => if_pos h)
  have H0 : Hid (Cx w w.heap.size S (w.alloc (.cells #[.int .i64 S.k, .int .i64 S.a, .int .i64 S.u, .int .i64 S.c, .int .i64 S.n] 36))) := Lib.hid ⟨below_new _ _, Bx.new _ _ _⟩
  unfold Cs.v
  obtain ⟨bk, hbk⟩ : ∃ b, inr S.k 15 = b := ⟨_, rfl⟩
  have Ubk := Lib.hid (fun W => in_any S.k 15 W)
  rw [hbk] at Ubk HR
  obtain ⟨ba, hba⟩ : ∃ b, inr S.a 16777215 = b := ⟨_, rfl⟩
  have Uba := Lib.hid (fun W => in_any S.a 16777215 W)
  rw [hba] at Uba HR
  obtain ⟨bu, hbu⟩ : ∃ b, inr S.u 255 = b := ⟨_, rfl⟩
  have Ubu := Lib.hid (fun W => in_any S.u 255 W)
  rw [hbu] at Ubu HR
  obtain ⟨bc, hbc⟩ : ∃ b, inr S.c 255 = b := ⟨_, rfl⟩
  have Ubc := Lib.hid (fun W => in_any S.c 255 W)
  rw [hbc] at Ubc HR
  obtain ⟨bn, hbn⟩ : ∃ b, inr S.n 65535 = b := ⟨_, rfl⟩
  have Ubn := Lib.hid (fun W => in_any S.n 65535 W)
  rw [hbn] at Ubn HR
  have HI : Hid (bk = true → ba = true → bu = true → bc = true → bn = true → (0 ≤ S.k ∧ S.k ≤ 15) ∧ (0 ≤ S.a ∧ S.a ≤ 16777215) ∧ (0 ≤ S.u ∧ S.u ≤ 255) ∧ (0 ≤ S.c ∧ S.c ≤ 255) ∧ (0 ≤ S.n ∧ S.n ≤ 65535)) := Lib.hid (fun h1 h2 h3 h4 h5 => ⟨inr_iff.1 (hbk.trans h1), inr_iff.1 (hba.trans h2), inr_iff.1 (hbu.trans h3), inr_iff.1 (hbc.trans h4), inr_iff.1 (hbn.trans h5)⟩)
  clear hbk hba hbu hbc hbn
  have HN6 : Hid ((bk && (ba && ((bu && bc) && bn))) = false → encSC S = 6) := Lib.hid (fun h => by rw [HC.out, HR.out, h, if_neg (by decide)])
  go_enter Tryd.func22, Tryd.ntmps22
  go_wp2_with fail
  obtain ⟨W0, hW⟩ : ∃ W0, W0 = w.alloc (.cells #[.int .i64 S.k, .int .i64 S.a, .int .i64 S.u, .int .i64 S.c, .int .i64 S.n] 36) := ⟨_, rfl⟩
  rw [← hW] at H0 ⊢
  clear hW
  generalize hE : w.heap.size = E at H0 ⊢
  have HE : Hid (w.heap.size ≤ E) := Lib.hid (by omega)
  clear hE
  have c0 := H0.out.c0
  have c1 := H0.out.c1
  have c2 := H0.out.c2
  have c3 := H0.out.c3
  have c4 := H0.out.c4
  refine (Ubk.out _).mono ?_
  rintro e w2 ⟨rfl, rfl⟩
  cases bk with
  | false =>
    go_wp2
    go_ret2
    exact ⟨.slice none 0 0, ret_sv (HN6.out (by simp)).symm, by rw [HS.out (by rw [(HN6.out (by simp))]; decide)]; exact SvB.nil _, H0.out.bel⟩
  | true =>
  go_wp2_with fail
  refine (Uba.out _).mono ?_
  rintro e w2 ⟨rfl, rfl⟩
  cases ba with
  | false =>
    go_wp2
    go_ret2
    exact ⟨.slice none 0 0, ret_sv (HN6.out (by simp)).symm, by rw [HS.out (by rw [(HN6.out (by simp))]; decide)]; exact SvB.nil _, H0.out.bel⟩
  | true =>
  go_wp2_with fail
  refine (Ubu.out _).mono ?_
  rintro e w2 ⟨rfl, rfl⟩
  cases bu with
  | false =>
    go_wp2
    go_ret2
    exact ⟨.slice none 0 0, ret_sv (HN6.out (by simp)).symm, by rw [HS.out (by rw [(HN6.out (by simp))]; decide)]; exact SvB.nil _, H0.out.bel⟩
  | true =>
  go_wp2_with fail
  refine (Ubc.out _).mono ?_
  rintro e w2 ⟨rfl, rfl⟩
  cases bc with
  | false =>
    go_wp2
    go_ret2
    exact ⟨.slice none 0 0, ret_sv (HN6.out (by simp)).symm, by rw [HS.out (by rw [(HN6.out (by simp))]; decide)]; exact SvB.nil _, H0.out.bel⟩
  | true =>
  go_wp2_with fail
  refine (Ubn.out _).mono ?_
  rintro e w2 ⟨rfl, rfl⟩
  cases bn with
  | false =>
    go_wp2
    go_ret2
    exact ⟨.slice none 0 0, ret_sv (HN6.out (by simp)).symm, by rw [HS.out (by rw [(HN6.out (by simp))]; decide)]; exact SvB.nil _, H0.out.bel⟩
  | true =>
  go_wp2_with fail
  obtain ⟨i1, i2, i3, i4, i5⟩ := HI.out (by trivial) (by trivial) (by trivial) (by trivial) (by trivial)
  have HE0 : Hid (encSC S = 0) := Lib.hid (by rw [HC.out, HR.out]; rfl)
  have HBY := Lib.hid (fun W => rbytes3_any S.a W i2.1 i2.2)
  have HBN := Lib.hid (fun W => rbytes2_any S.n W i5.1 i5.2)
  have HM : Hid (IntKind.i64.wrap (16 * S.k) = S.k * 16) := Lib.hid ((wrap_i64s (by omega) (by omega)).trans (by omega))
  have HU := Lib.hid (u8_by (x := S.k * 16) (by omega) (by omega))
  have HV := Lib.hid (u8_by i3.1 i3.2)
  have HVc := Lib.hid (u8_by i4.1 i4.2)
  have HLL : Hid (encSS S = ([by8 (S.k * 16)] ++ [by8 (S.a / 65536), by8 (S.a / 256 % 256), by8 (S.a % 256)]) ++ [by8 S.u, by8 S.c] ++ [by8 (S.n / 256 % 256), by8 (S.n % 256)]) := Lib.hid (by
    rw [HL.out HR.out]
    have e0 : (S.c * 65536 + S.n) / 65536 = S.c := by omega
    have e1 : (S.c * 65536 + S.n) / 256 % 256 = S.n / 256 % 256 := by omega
    have e2 : (S.c * 65536 + S.n) % 256 = S.n % 256 := by omega
    simp [w4, e0, e1, e2])
  have HK0 : Hid (Cx w E S W0.drew) := Lib.hid (H0.out.next (bel_drew _))
  clear HI HC HR HN6 i1 i2 i3 i4 i5 Ubk Uba Ubu Ubc Ubn HL HS
  refine wp_region_held_drew (S := Cx w E S) (by kernel_rfl) HK0.out (fun k0 => ?_)
  generalize W0.drew = y0 at k0 ⊢
  show wpAnyH _ _ _ _ _ 10 #[false, false, false, false, false, false, false, false, false, false] _ _
  refine wpAnyH_take (i := 0) (oi := { dst := some 33, op := Go.Op.fieldAddr 36 (Go.Operand.tmp 1) 0, type := 0, pos := "ref.go:106", after := #[], guard := none }) (v := .pointer (some ⟨E, 0, none⟩)) rfl (by kernel_rfl) (by kernel_rfl) (by kernel_rfl) (fun _ _ _ h => h) (Or.inl ⟨by rfl, fun W hSw => by (try dsimp only at hSw); go_simp⟩) k0 ?_
  try simp only [Act.put, List.setIfInBounds_toArray, List.set_cons_zero, List.set_cons_succ]
  refine wpAnyH_take (i := 1) (oi := { dst := some 34, op := Go.Op.load 3 (Go.Operand.tmp 33), type := 3, pos := "ref.go:106", after := #[{ on := 0, ground := Go.Ground.data }], guard := none }) (v := .int .i64 S.k) rfl (by kernel_rfl) (by kernel_rfl) (by kernel_rfl) (fun _ _ _ h => h) (Or.inl ⟨by rfl, fun W hSw => by have cq := hSw.c0; clear hSw; go_simp⟩) k0 ?_
  try simp only [Act.put, List.setIfInBounds_toArray, List.set_cons_zero, List.set_cons_succ]
  refine wpAnyH_take (i := 2) (oi := { dst := some 35, op := Go.Op.binOp Go.BinOp.mul 3 (Go.Operand.const (Go.Value.int Go.IntKind.i64 16)) (Go.Operand.tmp 34) 3, type := 3, pos := "ref.go:106", after := #[{ on := 1, ground := Go.Ground.data }], guard := none }) (v := .int .i64 (S.k * 16)) rfl (by kernel_rfl) (by kernel_rfl) (by kernel_rfl) (fun _ _ _ h => h) (Or.inl ⟨by rfl, fun W hSw => by clear hSw; go_simp; exact HM.out⟩) k0 ?_
  try simp only [Act.put, List.setIfInBounds_toArray, List.set_cons_zero, List.set_cons_succ]
  refine wpAnyH_take (i := 3) (oi := { dst := some 36, op := Go.Op.convert 3 5 (Go.Operand.tmp 35), type := 5, pos := "ref.go:106", after := #[{ on := 2, ground := Go.Ground.data }], guard := none }) (v := .int .u8 ((by8 (S.k * 16)).toNat : Int)) rfl (by kernel_rfl) (by kernel_rfl) (by kernel_rfl) (fun _ _ _ h => h) (Or.inl ⟨by rfl, fun W hSw => by clear hSw; go_simp; exact HU.out⟩) k0 ?_
  try simp only [Act.put, List.setIfInBounds_toArray, List.set_cons_zero, List.set_cons_succ]
  refine wpAnyH_take (i := 5) (oi := { dst := some 38, op := Go.Op.fieldAddr 36 (Go.Operand.tmp 1) 1, type := 0, pos := "ref.go:106", after := #[], guard := none }) (v := .pointer (some ⟨E, 1, none⟩)) rfl (by kernel_rfl) (by kernel_rfl) (by kernel_rfl) (fun _ _ _ h => h) (Or.inl ⟨by rfl, fun W hSw => by (try dsimp only at hSw); go_simp⟩) k0 ?_
  try simp only [Act.put, List.setIfInBounds_toArray, List.set_cons_zero, List.set_cons_succ]
  refine wpAnyH_take (i := 6) (oi := { dst := some 39, op := Go.Op.load 3 (Go.Operand.tmp 38), type := 3, pos := "ref.go:106", after := #[{ on := 5, ground := Go.Ground.data }], guard := none }) (v := .int .i64 S.a) rfl (by kernel_rfl) (by kernel_rfl) (by kernel_rfl) (fun _ _ _ h => h) (Or.inl ⟨by rfl, fun W hSw => by have cq := hSw.c1; clear hSw; go_simp⟩) k0 ?_
  try simp only [Act.put, List.setIfInBounds_toArray, List.set_cons_zero, List.set_cons_succ]
  refine wpAnyH_ready (rs := [4, 7]) (by kernel_rfl) (by simp) ?_
  refine AllReadyH.cons (o := { dst := some 37, op := Go.Op.buildSlice 27 1 #[(0, Go.Operand.tmp 36)], type := 27, pos := "ref.go:106", after := #[{ on := 3, ground := Go.Ground.data }], guard := none }) rfl (fun K hK => ?_) (AllReadyH.cons (o := { dst := some 40, op := Go.Op.call { callee := Go.Callee.value (Go.Operand.func 32), args := #[Go.Operand.tmp 39, Go.Operand.const (Go.Value.int Go.IntKind.i64 3)], argTypes := #[3, 3] }, type := 27, pos := "ref.go:106", after := #[{ on := 6, ground := Go.Ground.data }], guard := none }) rfl (fun K hK => ?_) AllReadyH.nil)
  · go_simp
    have hl1 : Hold (y0.alloc (.cells #[.int .u8 ((by8 (S.k * 16)).toNat : Int)] 5)) (E + 1) (.slice (some ⟨y0.heap.size, 0, none⟩) 1 1) [by8 (S.k * 16)] := hold_lit y0 (E + 1) [by8 (S.k * 16)] (by simp) (k0.box.lt)
    have hb1 := below_new y0 (.cells #[.int .u8 ((by8 (S.k * 16)).toNat : Int)] 5)
    have kk := k0.next hb1
    generalize Value.slice (some ⟨y0.heap.size, 0, none⟩) 1 1 = sl at hl1 ⊢
    generalize y0.alloc (.cells #[.int .u8 ((by8 (S.k * 16)).toNat : Int)] 5) = y1 at hl1 hb1 kk ⊢
    refine hK.out _ _ kk (fun k1 => ?_)
    clear kk
    have hsl := hl1
    clear hK K
    try simp only [List.setIfInBounds_toArray, List.set_cons_zero, List.set_cons_succ]
    refine wpAnyH_ready (rs := [7]) (by kernel_rfl) (by simp) ?_
    refine AllReadyH.cons (o := { dst := some 40, op := Go.Op.call { callee := Go.Callee.value (Go.Operand.func 32), args := #[Go.Operand.tmp 39, Go.Operand.const (Go.Value.int Go.IntKind.i64 3)], argTypes := #[3, 3] }, type := 27, pos := "ref.go:106", after := #[{ on := 6, ground := Go.Ground.data }], guard := none }) rfl (fun K hK => ?_) AllReadyH.nil
    go_simp
    go_at_call 32
    refine (HBY.out _).mono ?_
    rintro e y2 ⟨sb, rfl, hsb, hb2⟩
    have kk := k1.next hb2
    have hl2 := hsl.bel hb2
    clear hsl
    have hsl := hl2
    go_wp2_with fail
    refine hK.out _ _ kk (fun k2 => ?_)
    clear kk
    clear hK K
    try simp only [List.setIfInBounds_toArray, List.set_cons_zero, List.set_cons_succ]
    refine wpAnyH_ready (rs := [8]) (by kernel_rfl) (by simp) ?_
    refine AllReadyH.cons (o := { dst := some 41, op := Go.Op.call { callee := Go.Callee.builtin Go.Builtin.append, args := #[Go.Operand.tmp 37, Go.Operand.tmp 40], argTypes := #[27, 27] }, type := 27, pos := "ref.go:106", after := #[{ on := 4, ground := Go.Ground.data }, { on := 7, ground := Go.Ground.data }, { on := 7, ground := Go.Ground.chain }], guard := none }) rfl (fun K hK => ?_) AllReadyH.nil
    rw [if_pos (by rfl)]
    refine op_append_sv (.tmp 37) (.tmp 40) rfl (E + 1) sl sb 1 (bsU [by8 (S.k * 16)]) ([by8 (S.a / 65536), by8 (S.a / 256 % 256), by8 (S.a % 256)]) rfl rfl (hold_own hsl) hsb (by simp) k2.box.lt ?_
    intro vv y3 ho hg
    have kk := k2.grown HE.out hg (fun r hr => (World.ownsRow.lt (hold_own hsl) r hr).1)
    have hap : Hold y3 (E + 1) vv ([by8 (S.k * 16)] ++ [by8 (S.a / 65536), by8 (S.a / 256 % 256), by8 (S.a % 256)]) := hold_app ho
    refine hK.out _ _ kk (fun k3 => ?_)
    clear kk
    clear hK K
    try simp only [List.setIfInBounds_toArray, List.set_cons_zero, List.set_cons_succ]
    refine wpAnyH_take (i := 9) (oi := { dst := some 4, op := Go.Op.assign (Go.Operand.tmp 41), type := 27, pos := "ref.go:106", after := #[{ on := 8, ground := Go.Ground.data }, { on := 8, ground := Go.Ground.chain }, { on := 0, ground := Go.Ground.phase }, { on := 1, ground := Go.Ground.phase }, { on := 2, ground := Go.Ground.phase }, { on := 3, ground := Go.Ground.phase }, { on := 4, ground := Go.Ground.phase }, { on := 5, ground := Go.Ground.phase }, { on := 6, ground := Go.Ground.phase }, { on := 7, ground := Go.Ground.phase }, { on := 8, ground := Go.Ground.phase }], guard := none }) (v := vv) rfl (by kernel_rfl) (by kernel_rfl) (by kernel_rfl) (fun _ _ _ h => h) (Or.inl ⟨by rfl, fun W hSw => by (try dsimp only at hSw); go_simp⟩) k3 ?_
    try simp only [Act.put, List.setIfInBounds_toArray, List.set_cons_zero, List.set_cons_succ]
    refine wpAnyH_done (by kernel_rfl) ?_ _
    refine id ?_
    have K6 := Lib.hid k3
    have A6 := Lib.hid hap
    clear hsl hsb ho hg hap k0 HBY
    have c2 := K6.out.c2
    have c3 := K6.out.c3
    have VV := HV.out
    have VC := HVc.out
    generalize hy6 : y3 = y6 at K6 A6 c2 c3 ⊢
    clear hy6
    have B8 := Lib.hid (below_new y6 (.cells #[.int .u8 ((by8 S.u).toNat : Int), .int .u8 ((by8 S.c).toNat : Int)] 5))
    have S8 : Hid (SvB (y6.alloc (.cells #[.int .u8 ((by8 S.u).toNat : Int), .int .u8 ((by8 S.c).toNat : Int)] 5)) (.slice (some ⟨y6.heap.size, 0, none⟩) 2 2) [by8 S.u, by8 S.c]) := Lib.hid (svb_new y6 [by8 S.u, by8 S.c] (by simp))
    go_wp2_with (at_builtin; go_must (refine wpList_append_sv rfl (.tmp 42) (.tmp 49) rfl (E + 1) vv 4 _ rfl (hold_own (A6.out.bel B8.out)) _ 2 2 [by8 S.u, by8 S.c] rfl rfl (svb_rd S8.out) (Nat.le_refl _) (fun h => by cases h) (by simp) (K6.out.next B8.out).box.lt ?_))
    intro v9 y9 ho hg
    have K9 := Lib.hid ((K6.out.next B8.out).grown HE.out hg (fun r hr => (World.ownsRow.lt (hold_own (A6.out.bel B8.out)) r hr).1))
    have A9 : Hid (Hold y9 (E + 1) v9 (([by8 (S.k * 16)] ++ [by8 (S.a / 65536), by8 (S.a / 256 % 256), by8 (S.a % 256)]) ++ [by8 S.u, by8 S.c])) := Lib.hid (hold_app ho)
    clear ho hg K6 A6 B8 S8 VV VC c2 c3
    have c4 := K9.out.c4
    go_wp2_with fail
    refine (HBN.out _).mono ?_
    rintro e y10 ⟨sb, rfl, hsb, hb⟩
    have K10 := Lib.hid (K9.out.next hb)
    have A10 := Lib.hid (A9.out.bel hb)
    obtain ⟨p10, d10, rfl, hr10, hc10, -, hn10⟩ := hsb
    clear hb K9 A9 c4
    go_wp2_with (at_builtin; go_must (refine wpList_append_sv rfl (.tmp 51) (.tmp 54) rfl (E + 1) v9 6 _ rfl (hold_own A10.out) _ _ _ _ rfl rfl hr10 hc10 hn10 (by simp) K10.out.box.lt ?_))
    intro v11 y11 ho hg
    have K11 := Lib.hid (K10.out.grown HE.out hg (fun r hr => (World.ownsRow.lt (hold_own A10.out) r hr).1))
    have A11 : Hid (Hold y11 (E + 1) v11 ((([by8 (S.k * 16)] ++ [by8 (S.a / 65536), by8 (S.a / 256 % 256), by8 (S.a % 256)]) ++ [by8 S.u, by8 S.c]) ++ [by8 (S.n / 256 % 256), by8 (S.n % 256)])) := Lib.hid (hold_app ho)
    clear ho hg K10 A10 hr10 hc10 hn10
    go_wp2
    go_ret2
    exact ⟨v11, ret_sv HE0.out.symm, by rw [HLL.out]; exact A11.out.svb, K11.out.bel⟩
  · go_simp
    go_at_call 32
    refine (HBY.out _).mono ?_
    rintro e y1 ⟨sb, rfl, hsb, hb1⟩
    have kk := k0.next hb1
    go_wp2_with fail
    refine hK.out _ _ kk (fun k1 => ?_)
    clear kk
    clear hK K
    try simp only [List.setIfInBounds_toArray, List.set_cons_zero, List.set_cons_succ]
    refine wpAnyH_ready (rs := [4]) (by kernel_rfl) (by simp) ?_
    refine AllReadyH.cons (o := { dst := some 37, op := Go.Op.buildSlice 27 1 #[(0, Go.Operand.tmp 36)], type := 27, pos := "ref.go:106", after := #[{ on := 3, ground := Go.Ground.data }], guard := none }) rfl (fun K hK => ?_) AllReadyH.nil
    go_simp
    have hl2 : Hold (y1.alloc (.cells #[.int .u8 ((by8 (S.k * 16)).toNat : Int)] 5)) (E + 1) (.slice (some ⟨y1.heap.size, 0, none⟩) 1 1) [by8 (S.k * 16)] := hold_lit y1 (E + 1) [by8 (S.k * 16)] (by simp) (k1.box.lt)
    have hb2 := below_new y1 (.cells #[.int .u8 ((by8 (S.k * 16)).toNat : Int)] 5)
    have kk := k1.next hb2
    generalize Value.slice (some ⟨y1.heap.size, 0, none⟩) 1 1 = sl at hl2 ⊢
    generalize y1.alloc (.cells #[.int .u8 ((by8 (S.k * 16)).toNat : Int)] 5) = y2 at hl2 hb2 kk ⊢
    have hs2 := hsb.below hb2
    clear hsb
    have hsb := hs2
    refine hK.out _ _ kk (fun k2 => ?_)
    clear kk
    have hsl := hl2
    clear hK K
    try simp only [List.setIfInBounds_toArray, List.set_cons_zero, List.set_cons_succ]
    refine wpAnyH_ready (rs := [8]) (by kernel_rfl) (by simp) ?_
    refine AllReadyH.cons (o := { dst := some 41, op := Go.Op.call { callee := Go.Callee.builtin Go.Builtin.append, args := #[Go.Operand.tmp 37, Go.Operand.tmp 40], argTypes := #[27, 27] }, type := 27, pos := "ref.go:106", after := #[{ on := 4, ground := Go.Ground.data }, { on := 7, ground := Go.Ground.data }, { on := 7, ground := Go.Ground.chain }], guard := none }) rfl (fun K hK => ?_) AllReadyH.nil
    rw [if_pos (by rfl)]
    refine op_append_sv (.tmp 37) (.tmp 40) rfl (E + 1) sl sb 1 (bsU [by8 (S.k * 16)]) ([by8 (S.a / 65536), by8 (S.a / 256 % 256), by8 (S.a % 256)]) rfl rfl (hold_own hsl) hsb (by simp) k2.box.lt ?_
    intro vv y3 ho hg
    have kk := k2.grown HE.out hg (fun r hr => (World.ownsRow.lt (hold_own hsl) r hr).1)
    have hap : Hold y3 (E + 1) vv ([by8 (S.k * 16)] ++ [by8 (S.a / 65536), by8 (S.a / 256 % 256), by8 (S.a % 256)]) := hold_app ho
    refine hK.out _ _ kk (fun k3 => ?_)
    clear kk
    clear hK K
    try simp only [List.setIfInBounds_toArray, List.set_cons_zero, List.set_cons_succ]
    refine wpAnyH_take (i := 9) (oi := { dst := some 4, op := Go.Op.assign (Go.Operand.tmp 41), type := 27, pos := "ref.go:106", after := #[{ on := 8, ground := Go.Ground.data }, { on := 8, ground := Go.Ground.chain }, { on := 0, ground := Go.Ground.phase }, { on := 1, ground := Go.Ground.phase }, { on := 2, ground := Go.Ground.phase }, { on := 3, ground := Go.Ground.phase }, { on := 4, ground := Go.Ground.phase }, { on := 5, ground := Go.Ground.phase }, { on := 6, ground := Go.Ground.phase }, { on := 7, ground := Go.Ground.phase }, { on := 8, ground := Go.Ground.phase }], guard := none }) (v := vv) rfl (by kernel_rfl) (by kernel_rfl) (by kernel_rfl) (fun _ _ _ h => h) (Or.inl ⟨by rfl, fun W hSw => by (try dsimp only at hSw); go_simp⟩) k3 ?_
    try simp only [Act.put, List.setIfInBounds_toArray, List.set_cons_zero, List.set_cons_succ]
    refine wpAnyH_done (by kernel_rfl) ?_ _
    refine id ?_
    have K6 := Lib.hid k3
    have A6 := Lib.hid hap
    clear hsl hsb ho hg hap k0 HBY
    have c2 := K6.out.c2
    have c3 := K6.out.c3
    have VV := HV.out
    have VC := HVc.out
    generalize hy6 : y3 = y6 at K6 A6 c2 c3 ⊢
    clear hy6
    have B8 := Lib.hid (below_new y6 (.cells #[.int .u8 ((by8 S.u).toNat : Int), .int .u8 ((by8 S.c).toNat : Int)] 5))
    have S8 : Hid (SvB (y6.alloc (.cells #[.int .u8 ((by8 S.u).toNat : Int), .int .u8 ((by8 S.c).toNat : Int)] 5)) (.slice (some ⟨y6.heap.size, 0, none⟩) 2 2) [by8 S.u, by8 S.c]) := Lib.hid (svb_new y6 [by8 S.u, by8 S.c] (by simp))
    go_wp2_with (at_builtin; go_must (refine wpList_append_sv rfl (.tmp 42) (.tmp 49) rfl (E + 1) vv 4 _ rfl (hold_own (A6.out.bel B8.out)) _ 2 2 [by8 S.u, by8 S.c] rfl rfl (svb_rd S8.out) (Nat.le_refl _) (fun h => by cases h) (by simp) (K6.out.next B8.out).box.lt ?_))
    intro v9 y9 ho hg
    have K9 := Lib.hid ((K6.out.next B8.out).grown HE.out hg (fun r hr => (World.ownsRow.lt (hold_own (A6.out.bel B8.out)) r hr).1))
    have A9 : Hid (Hold y9 (E + 1) v9 (([by8 (S.k * 16)] ++ [by8 (S.a / 65536), by8 (S.a / 256 % 256), by8 (S.a % 256)]) ++ [by8 S.u, by8 S.c])) := Lib.hid (hold_app ho)
    clear ho hg K6 A6 B8 S8 VV VC c2 c3
    have c4 := K9.out.c4
    go_wp2_with fail
    refine (HBN.out _).mono ?_
    rintro e y10 ⟨sb, rfl, hsb, hb⟩
    have K10 := Lib.hid (K9.out.next hb)
    have A10 := Lib.hid (A9.out.bel hb)
    obtain ⟨p10, d10, rfl, hr10, hc10, -, hn10⟩ := hsb
    clear hb K9 A9 c4
    go_wp2_with (at_builtin; go_must (refine wpList_append_sv rfl (.tmp 51) (.tmp 54) rfl (E + 1) v9 6 _ rfl (hold_own A10.out) _ _ _ _ rfl rfl hr10 hc10 hn10 (by simp) K10.out.box.lt ?_))
    intro v11 y11 ho hg
    have K11 := Lib.hid (K10.out.grown HE.out hg (fun r hr => (World.ownsRow.lt (hold_own A10.out) r hr).1))
    have A11 : Hid (Hold y11 (E + 1) v11 ((([by8 (S.k * 16)] ++ [by8 (S.a / 65536), by8 (S.a / 256 % 256), by8 (S.a % 256)]) ++ [by8 S.u, by8 S.c]) ++ [by8 (S.n / 256 % 256), by8 (S.n % 256)])) := Lib.hid (hold_app ho)
    clear ho hg K10 A10 hr10 hc10 hn10
    go_wp2
    go_ret2
    exact ⟨v11, ret_sv HE0.out.symm, by rw [HLL.out]; exact A11.out.svb, K11.out.bel⟩
set_option maxRecDepth 100000 in
set_option maxHeartbeats 2000000 in
theorem rencodeCaw_any (k a : Int) (w : World) : Calls Tryd.prog 24 #[.int .i64 k, .int .i64 a] w fun e w' => ∃ sv, e = .returned (.tuple #[sv, .int .i64 (cawC k a)]) ∧ SvB w' sv (cawL k a) ∧ Below w.heap.size w w' := by
  have HC : Hid (cawC k a = if inr k 15 = true ∧ inr a 16777215 = true then (if a % 8 = 0 then 0 else 1) else 6) := Lib.hid rfl
  have HS : Hid (cawC k a ≠ 0 → cawL k a = []) := Lib.hid (fun h => if_neg h)
  have HL : Hid (cawC k a = 0 → cawL k a = w4 (k * 16) a) := Lib.hid (fun h => if_pos h)
  obtain ⟨bk, hk⟩ : ∃ b, inr k 15 = b := ⟨_, rfl⟩
  obtain ⟨ba, ha⟩ : ∃ b, inr a 16777215 = b := ⟨_, rfl⟩
  have U0 := Lib.hid (fun W => in_any k 15 W)
  have U1 := Lib.hid (fun W => in_any a 16777215 W)
  rw [hk] at U0 HC
  rw [ha] at U1 HC
  have HI : Hid (bk = true → ba = true → (0 ≤ k ∧ k ≤ 15) ∧ (0 ≤ a ∧ a ≤ 16777215)) := Lib.hid (fun h1 h2 => ⟨inr_iff.1 (hk.trans h1), inr_iff.1 (ha.trans h2)⟩)
  clear hk ha
  go_enter Tryd.func24, Tryd.ntmps24
  go_wp2_with fail
  refine (U0.out _).mono ?_
  rintro e w2 ⟨rfl, rfl⟩
  cases bk with
  | false =>
    have HE : Hid (cawC k a = 6) := Lib.hid (by rw [HC.out, if_neg (by simp)])
    go_wp2
    go_ret2
    exact ⟨.slice none 0 0, ret_sv HE.out.symm, by rw [HS.out (by rw [HE.out]; decide)]; exact SvB.nil _, Below.refl _ _⟩
  | true =>
  go_wp2_with fail
  refine (U1.out _).mono ?_
  rintro e w2 ⟨rfl, rfl⟩
  cases ba with
  | false =>
    have HE : Hid (cawC k a = 6) := Lib.hid (by rw [HC.out, if_neg (by simp)])
    go_wp2
    go_ret2
    exact ⟨.slice none 0 0, ret_sv HE.out.symm, by rw [HS.out (by rw [HE.out]; decide)]; exact SvB.nil _, Below.refl _ _⟩
  | true =>
  have H8 := tm8 a
  have HY : Hid (cawC k a = if a % 8 = 0 then 0 else 1) := Lib.hid (by rw [HC.out, if_pos (by decide)])
  by_cases h8 : a % 8 = 0
  · have hz : a.tmod 8 = 0 := by
      rw [Bool.eq_iff_iff] at H8
      simp only [bne_iff_ne, ne_eq] at H8
      omega
    have HE0 : Hid (cawC k a = 0) := Lib.hid (by rw [HY.out, if_pos h8])
    obtain ⟨i1, i2⟩ := HI.out (by trivial) (by trivial)
    have HBY := Lib.hid (fun W => rbytes3_any a W i2.1 i2.2)
    have HLL : Hid (cawL k a = [by8 (k * 16)] ++ [by8 (a / 65536), by8 (a / 256 % 256), by8 (a % 256)]) := Lib.hid (HL.out HE0.out)
    have HM2 : wrap64 (16 * k) % 256 = ((by8 (k * 16)).toNat : Int) := by
      rw [W.wrap64_id (by omega) (by omega), by8_nat (by omega) (by omega)]
      omega
    clear H8 h8 i1 i2 HC HY HI HS U0 U1 HL
    go_wp2_with fail
    refine (HBY.out _).mono ?_
    rintro e y1 ⟨sb, rfl, hsb, hb⟩
    have HA : Hid (Hold y1 w.heap.size (.slice (some ⟨w.heap.size, 0, none⟩) 1 1) [by8 (k * 16)]) := Lib.hid ((hold_lit w w.heap.size [by8 (k * 16)] (by simp) (Nat.le_refl _)).bel hb)
    have HB := Lib.hid (bel0 (below_new w (.cells #[.int .u8 ((by8 (k * 16)).toNat : Int)] 5)) hb)
    obtain ⟨p1, d1, rfl, hr, hc, -, hn⟩ := hsb
    clear hb hz
    go_wp2_with (at_builtin; go_must (refine wpList_append_sv rfl (.tmp 20) (.tmp 22) rfl w.heap.size _ 1 _ rfl (hold_own HA.out) _ _ _ _ rfl rfl hr hc hn (by simp) HB.out.size ?_))
    intro v2 y2 ho hg
    have HB2 := Lib.hid (HB.out.grown hg HB.out.size (fun r hr => (World.ownsRow.lt (hold_own HA.out) r hr).1))
    have HA2 : Hid (Hold y2 w.heap.size v2 ([by8 (k * 16)] ++ [by8 (a / 65536), by8 (a / 256 % 256), by8 (a % 256)])) := Lib.hid (hold_app ho)
    clear ho hg hr hc hn HA HB
    go_wp2
    go_ret2
    exact ⟨v2, ret_sv HE0.out.symm, by rw [HLL.out]; exact HA2.out.svb, HB2.out⟩
  · have hz : ¬ a.tmod 8 = 0 := by
      rw [Bool.eq_iff_iff] at H8
      simp only [bne_iff_ne, ne_eq] at H8
      omega
    have HE : Hid (cawC k a = 1) := Lib.hid (by rw [HY.out, if_neg h8])
    clear H8 h8
    go_wp2
    go_ret2
    exact ⟨.slice none 0 0, ret_sv HE.out.symm, by rw [HS.out (by rw [HE.out]; decide)]; exact SvB.nil _, Below.refl _ _⟩
end E
end Go.Proofs.YtijkbenbjdeocaaDoor

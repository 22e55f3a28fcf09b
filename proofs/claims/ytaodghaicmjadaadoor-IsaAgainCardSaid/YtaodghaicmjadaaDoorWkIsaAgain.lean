/- The walk of the statement IsaAgain: it answers true, and below its own memory nothing turns. -/
import Derived.Test.YtaodghaicmjadaaDoorIsOpen
namespace Go.Proofs.YtaodghaicmjadaaDoor.isaAgain
open Go.RowKit Go.Shelf E
set_option linter.unusedVariables false
attribute [local go_sem 5000] ins_eql


theorem rd_head {W : World} {B off x : Nat} {l : List UInt8} (h : Rd W (some ⟨B, off, none⟩) l) (hl : l ≠ []) (hx : x = (gt l 0).toNat) : W.cell? ⟨B, off, none⟩ = some (.int .u8 (x : Int)) := by
  obtain ⟨B', off', he, hc⟩ := h.resolve_left hl
  cases he
  have := hc 0 (by cases l with | nil => exact absurd rfl hl | cons _ _ => simp)
  rw [Nat.add_zero, ← hx] at this
  exact this

set_option maxRecDepth 100000 in
set_option maxHeartbeats 1000000 in
theorem no (p : Option Addr) (c : Nat) (l : List UInt8) (w : World) (hp : Rd w p l) (hcl : l.length ≤ c) (hcm : c ≤ 9223372036854775807) (hd : decB l = false) :
    Calls Tryd.prog 8 #[.slice p l.length c] w (New w (.bool true)) := by
  have hD := decode_any p c l w hp hcl hcm
  have hv : decV l = .tuple #[.agg #[.int .i64 0, .int .i64 0, .int .i64 0, .int .i64 0, .int .i64 0, .int .i64 0, .int .i64 0, .int .i64 0, .int .i64 0, .int .i64 0, .int .i64 0, .int .i64 0], .bool false] := by unfold decV decQ; rw [hd]; rfl
  rw [hv] at hD
  have HD := Lib.hid hD
  clear hD hv hd hcl hcm hp
  go_enter Tryd.func8, Tryd.ntmps8
  go_wp2_with fail
  refine HD.out.mono ?_
  rintro e w1 ⟨rfl, hb⟩
  have HB := Lib.hid (bel0 hb (below_new w1 (.cells Ins.zero.cs 28)))
  clear hb
  go_wp2_with fail
  have hz : insEq ⟨0, 0, 0, 0, 0, 0, 0, 0, 0, 0, 0, 0⟩ ⟨0, 0, 0, 0, 0, 0, 0, 0, 0, 0, 0, 0⟩ = true := insEq_self _
  try rw [hz]
  go_wp2_with fail
  refine (works_any _).mono ?_
  rintro e w2 ⟨rfl, hb⟩
  have HB2 := Lib.hid (bel0 HB.out hb)
  clear hb HB
  go_wp2
  go_ret
  exact ⟨rfl, HB2.out⟩

/-- What holds throughout the last region. -/
def S (C J : Nat) (w : World) (Q : Ins) (p q : Option Addr) (l m : List UInt8) (W : World) : Prop :=
  Below w.heap.size w W ∧ Bx W C 28 Q.cs ∧ Bx W J 28 Q.cs ∧ Rd W p l ∧ Rd W q m
theorem S_next {C J : Nat} {w : World} {Q : Ins} {p q : Option Addr} {l m : List UInt8} {W W' : World} (h : S C J w Q p q l m W) (hb : Below W.heap.size W W') : S C J w Q p q l m W' :=
  ⟨bel0 h.1 hb, h.2.1.below hb, h.2.2.1.below hb, h.2.2.2.1.below hb, h.2.2.2.2.below hb⟩
set_option maxRecDepth 100000 in
set_option maxHeartbeats 2000000 in
theorem yes (p : Option Addr) (c : Nat) (l : List UInt8) (w : World) (hp : Rd w p l) (hcl : l.length ≤ c) (hcm : c ≤ 9223372036854775807) (hd : decB l = true) :
    Calls Tryd.prog 8 #[.slice p l.length c] w (New w (.bool true)) := by
  obtain ⟨ha, hop⟩ := again hd
  have hD := decode_any p c l w hp hcl hcm
  unfold decV at hD
  rw [hd] at hD
  have hl : l ≠ [] := by
    intro e
    rw [e] at hd
    cases hd
  have hl1 : 1 ≤ l.length := by cases l with | nil => exact absurd rfl hl | cons _ _ => simp
  obtain ⟨Q, hQ⟩ : ∃ Q, Q = decQ l := ⟨_, rfl⟩
  rw [← hQ] at ha hop hD
  obtain ⟨x, hx⟩ : ∃ x, x = (gt l 0).toNat := ⟨_, rfl⟩
  rw [← hx] at hop
  have hx256 : x < 256 := by rw [hx]; exact UInt8.toNat_lt _
  obtain ⟨hbk1, hbk2⟩ := back ha []
  rw [List.append_nil] at hbk1 hbk2
  obtain ⟨nn, hnn⟩ : ∃ nn, nn = lenO (x : Int) := ⟨_, rfl⟩
  have hbl : (bytesOf Q).length = nn := by rw [bytes_len, hop, hnn]
  have hn2 : 2 ≤ nn := by rw [hnn]; exact len_pos (by omega) (by omega)
  have hb0 : (gt (bytesOf Q) 0).toNat = x := by
    have h1 := (again hbk1).2
    rw [hbk2, hop] at h1
    omega
  have HC := Lib.hid (fun W => check_any Q W)
  rw [ha] at HC
  have HL := Lib.hid (fun W => length_any (x : Int) W)
  rw [← hnn] at HL
  have HE := Lib.hid (fun W => encode_any Q W)
  have HD2 := Lib.hid (fun W q d (h1 : Rd W q (bytesOf Q)) (h2 : nn ≤ d) (h3 : d ≤ 9223372036854775807) => by
    have h := decode_any q d (bytesOf Q) W h1 (by omega) h3
    unfold decV at h
    rw [hbk1, hbk2, hbl] at h
    exact h)
  have HD := Lib.hid hD
  have HA := Lib.hid ha
  have HB := Lib.hid (show lastB (enW (foO (ixC Q.op)) Q) (lenO Q.op) = bytesOf Q from rfl)
  obtain ⟨B, off, hpe, hcell⟩ := hp.resolve_left hl
  subst hpe
  have HP := Lib.hid (show Rd w (some ⟨B, off, none⟩) l ∧ l ≠ [] from ⟨.inr ⟨B, off, rfl, hcell⟩, hl⟩)
  have HG := Lib.hid (And.intro hx hb0)
  have HBL := Lib.hid hbl
  obtain ⟨n, hn⟩ : ∃ n, n = l.length := ⟨_, rfl⟩
  have HN := Lib.hid hn
  rw [← hn] at hl1 hcl HD ⊢
  have hn1 : 0 < n := hl1
  have hcn : n ≤ 9223372036854775807 := by omega
  clear hcell hD hbl hb0 hbk1 hbk2 ha hl hn hQ hd hl1 hop hx hnn
  unfold Ins.val at HD HD2 HC HE
  go_enter Tryd.func8, Tryd.ntmps8
  go_wp2_with fail
  refine HD.out.mono ?_
  rintro e w1 ⟨rfl, hb1⟩
  have HB1 := Lib.hid (bel0 hb1 (below_new w1 (.cells Q.cs 28)))
  have HQ1 := Lib.hid (Bx.new w1 28 Q.cs)
  obtain ⟨c0, c1, c2, c3, c4, c5, c6, c7, c8, c9, c10, c11⟩ := bx_cells HQ1.out
  obtain ⟨C, hC⟩ : ∃ C, C = w1.heap.size := ⟨_, rfl⟩
  obtain ⟨w2, hw2⟩ : ∃ w2, w2 = w1.alloc (.cells Q.cs 28) := ⟨_, rfl⟩
  rw [← hw2] at HB1 HQ1 c0 c1 c2 c3 c4 c5 c6 c7 c8 c9 c10 c11
  rw [← hC] at HQ1 c0 c1 c2 c3 c4 c5 c6 c7 c8 c9 c10 c11
  unfold Ins.cs at hw2
  clear hb1 HD
  go_wp2_with fail
  rw [← hw2, ← hC]
  clear hw2 hC
  go_wp2_with fail
  refine (HE.out _).mono ?_
  rintro e w3 (⟨h, _⟩ | ⟨_, sv, rfl, ho, hb⟩)
  · exact absurd HA.out h
  rw [HB.out] at ho
  obtain ⟨q, d, rfl, hr2, hd1, hd2, _⟩ := ho.full
  rw [HBL.out] at hd1 ⊢
  have HB3 := Lib.hid (bel0 HB1.out hb)
  have HQ3 := Lib.hid (HQ1.out.below hb)
  have HR := Lib.hid hr2
  clear hb ho hr2 HE HQ1 HB1 c0 c1 c2 c3 c4 c5 c6 c7 c8 c9 c10 c11 HB
  go_wp2_with fail
  refine (HD2.out _ _ _ HR.out hd1 hd2).mono ?_
  rintro e w4 ⟨rfl, hb⟩
  have HB4 := Lib.hid (bel0 hb (below_new w4 (.cells Q.cs 28)))
  have HQ4 := Lib.hid (Bx.new w4 28 Q.cs)
  obtain ⟨J, hJ⟩ : ∃ J, J = w4.heap.size := ⟨_, rfl⟩
  obtain ⟨w5, hw5⟩ : ∃ w5, w5 = w4.alloc (.cells Q.cs 28) := ⟨_, rfl⟩
  rw [← hw5] at HB4 HQ4
  rw [← hJ] at HQ4
  have hS0 : S C J w Q (some ⟨B, off, none⟩) q l (bytesOf Q) w5 :=
    ⟨bel0 HB3.out HB4.out, HQ3.out.below HB4.out, HQ4.out, (HP.out.1.below HB3.out).below HB4.out, HR.out.below HB4.out⟩
  have hS1 := S_next hS0 (Below.refl _ _).drew
  obtain ⟨B2, off2, rfl, hc2⟩ := HR.out.resolve_left (by intro e; have := HBL.out; rw [e] at this; simp at this; omega)
  have HX := Lib.hid (show 0 < n ∧ 0 < nn ∧ IntKind.i64.wrap (x : Int) = (x : Int) from ⟨hn1, by omega, by rw [IntKind.wrap_i64]; omega⟩)
  have HLB := Lib.hid (fun (W : World) (h : Rd W (some ⟨B, off, none⟩) l) => (rd_head h HP.out.2 HG.out.1 : W.cell? ⟨B, off, none⟩ = some (.int .u8 (x : Int))))
  have HLE := Lib.hid (fun (W : World) (h : Rd W (some ⟨B2, off2, none⟩) (bytesOf Q)) => (rd_head h (by intro e; have := HBL.out; rw [e] at this; simp at this; omega) HG.out.2.symm : W.cell? ⟨B2, off2, none⟩ = some (.int .u8 (x : Int))))
  unfold Ins.cs at hw5
  clear hb hc2 HD2 hS0 HB4 HQ4 HB3 HQ3 HR
  go_wp2_with fail
  rw [← hw5, ← hJ]
  clear hw5 hJ
  refine only_wp ?_
  refine wp_region_held_drew (S := S C J w Q (some ⟨B, off, none⟩) (some ⟨B2, off2, none⟩) l (bytesOf Q)) (by kernel_rfl) hS1 (fun k0 => ?_)
  show wpAnyH _ _ _ _ _ 38 #[false, false, false, false, false, false, false, false, false, false, false, false, false, false, false, false, false, false, false, false, false, false, false, false, false, false, false, false, false, false, false, false, false, false, false, false, false, false] _ _
  refine wpAnyH_take (i := 0) (oi := { dst := some 32, op := Go.Op.load 28 (Go.Operand.tmp 3), type := 28, pos := "outright.go:27", after := #[], guard := none }) (v := .agg #[.int .i64 Q.op, .int .i64 Q.fo, .int .i64 Q.r1, .int .i64 Q.r2, .int .i64 Q.x2, .int .i64 Q.b1, .int .i64 Q.d1, .int .i64 Q.b2, .int .i64 Q.d2, .int .i64 Q.l1, .int .i64 Q.l2, .int .i64 Q.i2]) rfl (by kernel_rfl) (by kernel_rfl) (by kernel_rfl) (fun _ _ _ h => h) (Or.inl ⟨by rfl, fun W hSw => by obtain ⟨-, s1, s2, -, -⟩ := hSw; obtain ⟨c0, c1, c2, c3, c4, c5, c6, c7, c8, c9, c10, c11⟩ := bx_cells s1; clear s1 s2; go_simp⟩) k0 ?_
  try simp only [Act.put, List.setIfInBounds_toArray, List.set_cons_zero, List.set_cons_succ]
  refine wpAnyH_ready (rs := [1]) (by kernel_rfl) (by simp) ?_
  refine AllReadyH.cons (o := { dst := some 33, op := Go.Op.call { callee := Go.Callee.value (Go.Operand.func 17), args := #[Go.Operand.tmp 32], argTypes := #[28] }, type := 30, pos := "outright.go:27", after := #[{ on := 0, ground := Go.Ground.data }], guard := none }) rfl (fun K hK => ?_) AllReadyH.nil
  go_simp
  go_at_call 17
  refine (HC.out _).mono ?_
  rintro e x1 ⟨rfl, hb1⟩
  go_wp2_with fail
  refine hK.out _ _ (S_next k0 hb1) (fun k1 => ?_)
  try clear hb1
  clear hK K
  try simp only [List.setIfInBounds_toArray, List.set_cons_zero, List.set_cons_succ]
  refine wpAnyH_take (i := 2) (oi := { dst := some 34, op := Go.Op.binOp Go.BinOp.eql 30 (Go.Operand.tmp 33) (Go.Operand.const (Go.Value.int Go.IntKind.i64 0)) 30, type := 4, pos := "outright.go:27", after := #[{ on := 1, ground := Go.Ground.data }], guard := none }) (v := .bool true) rfl (by kernel_rfl) (by kernel_rfl) (by kernel_rfl) (fun _ _ _ h => h) (Or.inl ⟨by rfl, fun W hSw => by (try dsimp only at hSw); go_simp⟩) k1 ?_
  try simp only [Act.put, List.setIfInBounds_toArray, List.set_cons_zero, List.set_cons_succ]
  refine wpAnyH_take (i := 3) (oi := { dst := some 35, op := Go.Op.move (Go.Operand.tmp 34), type := 4, pos := "outright.go:27", after := #[{ on := 2, ground := Go.Ground.data }, { on := 1, ground := Go.Ground.chain }], guard := none }) (v := .bool true) rfl (by kernel_rfl) (by kernel_rfl) (by kernel_rfl) (fun _ _ _ h => h) (Or.inl ⟨by rfl, fun W hSw => by (try dsimp only at hSw); go_simp⟩) k1 ?_
  try simp only [Act.put, List.setIfInBounds_toArray, List.set_cons_zero, List.set_cons_succ]
  refine wpAnyH_take (i := 4) (oi := { dst := some 36, op := Go.Op.move (Go.Operand.tmp 6), type := 30, pos := "outright.go:27", after := #[{ on := 3, ground := Go.Ground.guard }], guard := some (3, true) }) (v := .int .i64 0) rfl (by kernel_rfl) (by kernel_rfl) (by kernel_rfl) (fun _ _ _ h => h) (Or.inl ⟨by rfl, fun W hSw => by (try dsimp only at hSw); go_simp⟩) k1 ?_
  try simp only [Act.put, List.setIfInBounds_toArray, List.set_cons_zero, List.set_cons_succ]
  refine wpAnyH_take (i := 5) (oi := { dst := some 37, op := Go.Op.binOp Go.BinOp.eql 30 (Go.Operand.tmp 36) (Go.Operand.const (Go.Value.int Go.IntKind.i64 0)) 30, type := 4, pos := "outright.go:27", after := #[{ on := 4, ground := Go.Ground.data }, { on := 3, ground := Go.Ground.guard }], guard := some (3, true) }) (v := .bool true) rfl (by kernel_rfl) (by kernel_rfl) (by kernel_rfl) (fun _ _ _ h => h) (Or.inl ⟨by rfl, fun W hSw => by (try dsimp only at hSw); go_simp⟩) k1 ?_
  try simp only [Act.put, List.setIfInBounds_toArray, List.set_cons_zero, List.set_cons_succ]
  refine wpAnyH_take (i := 6) (oi := { dst := some 38, op := Go.Op.pick (Go.Operand.tmp 35) (Go.Operand.tmp 37) (Go.Operand.const (Go.Value.bool false)), type := 4, pos := "outright.go:27", after := #[{ on := 3, ground := Go.Ground.data }, { on := 5, ground := Go.Ground.data }], guard := none }) (v := .bool true) rfl (by kernel_rfl) (by kernel_rfl) (by kernel_rfl) (fun _ _ _ h => h) (Or.inl ⟨by rfl, fun W hSw => by (try dsimp only at hSw); go_simp⟩) k1 ?_
  try simp only [Act.put, List.setIfInBounds_toArray, List.set_cons_zero, List.set_cons_succ]
  refine wpAnyH_take (i := 7) (oi := { dst := some 39, op := Go.Op.move (Go.Operand.tmp 38), type := 4, pos := "outright.go:27", after := #[{ on := 6, ground := Go.Ground.data }, { on := 3, ground := Go.Ground.chain }], guard := none }) (v := .bool true) rfl (by kernel_rfl) (by kernel_rfl) (by kernel_rfl) (fun _ _ _ h => h) (Or.inl ⟨by rfl, fun W hSw => by (try dsimp only at hSw); go_simp⟩) k1 ?_
  try simp only [Act.put, List.setIfInBounds_toArray, List.set_cons_zero, List.set_cons_succ]
  refine wpAnyH_take (i := 8) (oi := { dst := some 40, op := Go.Op.move (Go.Operand.tmp 8), type := 4, pos := "outright.go:27", after := #[{ on := 7, ground := Go.Ground.guard }], guard := some (7, true) }) (v := .bool true) rfl (by kernel_rfl) (by kernel_rfl) (by kernel_rfl) (fun _ _ _ h => h) (Or.inl ⟨by rfl, fun W hSw => by (try dsimp only at hSw); go_simp⟩) k1 ?_
  try simp only [Act.put, List.setIfInBounds_toArray, List.set_cons_zero, List.set_cons_succ]
  refine wpAnyH_take (i := 9) (oi := { dst := some 41, op := Go.Op.pick (Go.Operand.tmp 39) (Go.Operand.tmp 40) (Go.Operand.const (Go.Value.bool false)), type := 4, pos := "outright.go:27", after := #[{ on := 7, ground := Go.Ground.data }, { on := 8, ground := Go.Ground.data }], guard := none }) (v := .bool true) rfl (by kernel_rfl) (by kernel_rfl) (by kernel_rfl) (fun _ _ _ h => h) (Or.inl ⟨by rfl, fun W hSw => by (try dsimp only at hSw); go_simp⟩) k1 ?_
  try simp only [Act.put, List.setIfInBounds_toArray, List.set_cons_zero, List.set_cons_succ]
  refine wpAnyH_take (i := 10) (oi := { dst := some 42, op := Go.Op.move (Go.Operand.tmp 41), type := 4, pos := "outright.go:27", after := #[{ on := 9, ground := Go.Ground.data }, { on := 7, ground := Go.Ground.chain }], guard := none }) (v := .bool true) rfl (by kernel_rfl) (by kernel_rfl) (by kernel_rfl) (fun _ _ _ h => h) (Or.inl ⟨by rfl, fun W hSw => by (try dsimp only at hSw); go_simp⟩) k1 ?_
  try simp only [Act.put, List.setIfInBounds_toArray, List.set_cons_zero, List.set_cons_succ]
  refine wpAnyH_take (i := 11) (oi := { dst := some 43, op := Go.Op.load 28 (Go.Operand.tmp 7), type := 28, pos := "outright.go:27", after := #[{ on := 10, ground := Go.Ground.guard }], guard := some (10, true) }) (v := .agg #[.int .i64 Q.op, .int .i64 Q.fo, .int .i64 Q.r1, .int .i64 Q.r2, .int .i64 Q.x2, .int .i64 Q.b1, .int .i64 Q.d1, .int .i64 Q.b2, .int .i64 Q.d2, .int .i64 Q.l1, .int .i64 Q.l2, .int .i64 Q.i2]) rfl (by kernel_rfl) (by kernel_rfl) (by kernel_rfl) (fun _ _ _ h => h) (Or.inl ⟨by rfl, fun W hSw => by obtain ⟨-, s1, s2, -, -⟩ := hSw; obtain ⟨c0, c1, c2, c3, c4, c5, c6, c7, c8, c9, c10, c11⟩ := bx_cells s2; clear s1 s2; go_simp⟩) k1 ?_
  try simp only [Act.put, List.setIfInBounds_toArray, List.set_cons_zero, List.set_cons_succ]
  refine wpAnyH_take (i := 12) (oi := { dst := some 44, op := Go.Op.load 28 (Go.Operand.tmp 3), type := 28, pos := "outright.go:27", after := #[{ on := 10, ground := Go.Ground.guard }], guard := some (10, true) }) (v := .agg #[.int .i64 Q.op, .int .i64 Q.fo, .int .i64 Q.r1, .int .i64 Q.r2, .int .i64 Q.x2, .int .i64 Q.b1, .int .i64 Q.d1, .int .i64 Q.b2, .int .i64 Q.d2, .int .i64 Q.l1, .int .i64 Q.l2, .int .i64 Q.i2]) rfl (by kernel_rfl) (by kernel_rfl) (by kernel_rfl) (fun _ _ _ h => h) (Or.inl ⟨by rfl, fun W hSw => by obtain ⟨-, s1, s2, -, -⟩ := hSw; obtain ⟨c0, c1, c2, c3, c4, c5, c6, c7, c8, c9, c10, c11⟩ := bx_cells s1; clear s1 s2; go_simp⟩) k1 ?_
  try simp only [Act.put, List.setIfInBounds_toArray, List.set_cons_zero, List.set_cons_succ]
  refine wpAnyH_take (i := 13) (oi := { dst := some 45, op := Go.Op.binOp Go.BinOp.eql 28 (Go.Operand.tmp 43) (Go.Operand.tmp 44) 28, type := 4, pos := "outright.go:27", after := #[{ on := 11, ground := Go.Ground.data }, { on := 12, ground := Go.Ground.data }, { on := 10, ground := Go.Ground.guard }], guard := some (10, true) }) (v := .bool true) rfl (by kernel_rfl) (by kernel_rfl) (by kernel_rfl) (fun _ _ _ h => h) (Or.inl ⟨by rfl, fun W hSw => by clear hSw; go_simp; exact insEq_self _⟩) k1 ?_
  try simp only [Act.put, List.setIfInBounds_toArray, List.set_cons_zero, List.set_cons_succ]
  refine wpAnyH_take (i := 14) (oi := { dst := some 46, op := Go.Op.pick (Go.Operand.tmp 42) (Go.Operand.tmp 45) (Go.Operand.const (Go.Value.bool false)), type := 4, pos := "outright.go:27", after := #[{ on := 10, ground := Go.Ground.data }, { on := 13, ground := Go.Ground.data }], guard := none }) (v := .bool true) rfl (by kernel_rfl) (by kernel_rfl) (by kernel_rfl) (fun _ _ _ h => h) (Or.inl ⟨by rfl, fun W hSw => by (try dsimp only at hSw); go_simp⟩) k1 ?_
  try simp only [Act.put, List.setIfInBounds_toArray, List.set_cons_zero, List.set_cons_succ]
  refine wpAnyH_take (i := 15) (oi := { dst := some 47, op := Go.Op.move (Go.Operand.tmp 46), type := 4, pos := "outright.go:27", after := #[{ on := 14, ground := Go.Ground.data }, { on := 10, ground := Go.Ground.chain }], guard := none }) (v := .bool true) rfl (by kernel_rfl) (by kernel_rfl) (by kernel_rfl) (fun _ _ _ h => h) (Or.inl ⟨by rfl, fun W hSw => by (try dsimp only at hSw); go_simp⟩) k1 ?_
  try simp only [Act.put, List.setIfInBounds_toArray, List.set_cons_zero, List.set_cons_succ]
  refine wpAnyH_take (i := 16) (oi := { dst := some 48, op := Go.Op.move (Go.Operand.tmp 5), type := 29, pos := "outright.go:27", after := #[{ on := 15, ground := Go.Ground.guard }], guard := some (15, true) }) (v := .slice (some ⟨B2, off2, none⟩) nn d) rfl (by kernel_rfl) (by kernel_rfl) (by kernel_rfl) (fun _ _ _ h => h) (Or.inl ⟨by rfl, fun W hSw => by (try dsimp only at hSw); go_simp⟩) k1 ?_
  try simp only [Act.put, List.setIfInBounds_toArray, List.set_cons_zero, List.set_cons_succ]
  refine wpAnyH_take (i := 17) (oi := { dst := some 49, op := Go.Op.call { callee := Go.Callee.builtin Go.Builtin.len, args := #[Go.Operand.tmp 48], argTypes := #[29] }, type := 3, pos := "outright.go:27", after := #[{ on := 16, ground := Go.Ground.data }, { on := 15, ground := Go.Ground.guard }], guard := some (15, true) }) (v := .int .i64 (nn : Int)) rfl (by kernel_rfl) (by kernel_rfl) (by kernel_rfl) (fun _ _ _ h => h) (Or.inl ⟨by rfl, fun W hSw => by (try dsimp only at hSw); go_simp⟩) k1 ?_
  try simp only [Act.put, List.setIfInBounds_toArray, List.set_cons_zero, List.set_cons_succ]
  refine wpAnyH_take (i := 18) (oi := { dst := some 50, op := Go.Op.move (Go.Operand.tmp 0), type := 29, pos := "outright.go:27", after := #[{ on := 15, ground := Go.Ground.guard }], guard := some (15, true) }) (v := .slice (some ⟨B, off, none⟩) n c) rfl (by kernel_rfl) (by kernel_rfl) (by kernel_rfl) (fun _ _ _ h => h) (Or.inl ⟨by rfl, fun W hSw => by (try dsimp only at hSw); go_simp⟩) k1 ?_
  try simp only [Act.put, List.setIfInBounds_toArray, List.set_cons_zero, List.set_cons_succ]
  refine wpAnyH_take (i := 19) (oi := { dst := some 51, op := Go.Op.indexAddr 29 (Go.Operand.tmp 50) (Go.Operand.const (Go.Value.int Go.IntKind.i64 0)), type := 0, pos := "outright.go:27", after := #[{ on := 18, ground := Go.Ground.data }, { on := 15, ground := Go.Ground.guard }], guard := some (15, true) }) (v := .pointer (some ⟨B, off, none⟩)) rfl (by kernel_rfl) (by kernel_rfl) (by kernel_rfl) (fun _ _ _ h => h) (Or.inl ⟨by rfl, fun W hSw => by clear hSw; have hx := HX.out; go_simp⟩) k1 ?_
  try simp only [Act.put, List.setIfInBounds_toArray, List.set_cons_zero, List.set_cons_succ]
  refine wpAnyH_take (i := 20) (oi := { dst := some 52, op := Go.Op.load 5 (Go.Operand.tmp 51), type := 5, pos := "outright.go:27", after := #[{ on := 19, ground := Go.Ground.data }, { on := 15, ground := Go.Ground.guard }], guard := some (15, true) }) (v := .int .u8 (x : Int)) rfl (by kernel_rfl) (by kernel_rfl) (by kernel_rfl) (fun _ _ _ h => h) (Or.inl ⟨by rfl, fun W hSw => by obtain ⟨-, -, -, s1, s2⟩ := hSw; have cc := HLB.out W s1; clear s1 s2; go_simp⟩) k1 ?_
  try simp only [Act.put, List.setIfInBounds_toArray, List.set_cons_zero, List.set_cons_succ]
  refine wpAnyH_take (i := 21) (oi := { dst := some 53, op := Go.Op.convert 5 3 (Go.Operand.tmp 52), type := 3, pos := "outright.go:27", after := #[{ on := 20, ground := Go.Ground.data }, { on := 15, ground := Go.Ground.guard }], guard := some (15, true) }) (v := .int .i64 (x : Int)) rfl (by kernel_rfl) (by kernel_rfl) (by kernel_rfl) (fun _ _ _ h => h) (Or.inl ⟨by rfl, fun W hSw => by clear hSw; have hx := HX.out; go_simp⟩) k1 ?_
  try simp only [Act.put, List.setIfInBounds_toArray, List.set_cons_zero, List.set_cons_succ]
  refine wpAnyH_ready (rs := [22]) (by kernel_rfl) (by simp) ?_
  refine AllReadyH.cons (o := { dst := some 54, op := Go.Op.call { callee := Go.Callee.value (Go.Operand.func 12), args := #[Go.Operand.tmp 53], argTypes := #[3] }, type := 3, pos := "outright.go:27", after := #[{ on := 21, ground := Go.Ground.data }, { on := 15, ground := Go.Ground.chain }, { on := 15, ground := Go.Ground.guard }], guard := some (15, true) }) rfl (fun K hK => ?_) AllReadyH.nil
  go_simp
  go_at_call 12
  refine (HL.out _).mono ?_
  rintro e x2 ⟨rfl, rfl⟩
  go_wp2_with fail
  refine hK.out _ _ (k1) (fun k2 => ?_)
  try clear hb2
  clear hK K
  try simp only [List.setIfInBounds_toArray, List.set_cons_zero, List.set_cons_succ]
  refine wpAnyH_take (i := 23) (oi := { dst := some 55, op := Go.Op.binOp Go.BinOp.eql 3 (Go.Operand.tmp 49) (Go.Operand.tmp 54) 3, type := 4, pos := "outright.go:27", after := #[{ on := 17, ground := Go.Ground.data }, { on := 22, ground := Go.Ground.data }, { on := 15, ground := Go.Ground.guard }], guard := some (15, true) }) (v := .bool true) rfl (by kernel_rfl) (by kernel_rfl) (by kernel_rfl) (fun _ _ _ h => h) (Or.inl ⟨by rfl, fun W hSw => by (try dsimp only at hSw); go_simp⟩) k2 ?_
  try simp only [Act.put, List.setIfInBounds_toArray, List.set_cons_zero, List.set_cons_succ]
  refine wpAnyH_take (i := 24) (oi := { dst := some 56, op := Go.Op.pick (Go.Operand.tmp 47) (Go.Operand.tmp 55) (Go.Operand.const (Go.Value.bool false)), type := 4, pos := "outright.go:27", after := #[{ on := 15, ground := Go.Ground.data }, { on := 23, ground := Go.Ground.data }], guard := none }) (v := .bool true) rfl (by kernel_rfl) (by kernel_rfl) (by kernel_rfl) (fun _ _ _ h => h) (Or.inl ⟨by rfl, fun W hSw => by (try dsimp only at hSw); go_simp⟩) k2 ?_
  try simp only [Act.put, List.setIfInBounds_toArray, List.set_cons_zero, List.set_cons_succ]
  refine wpAnyH_take (i := 25) (oi := { dst := some 57, op := Go.Op.move (Go.Operand.tmp 56), type := 4, pos := "outright.go:27", after := #[{ on := 24, ground := Go.Ground.data }, { on := 22, ground := Go.Ground.chain }], guard := none }) (v := .bool true) rfl (by kernel_rfl) (by kernel_rfl) (by kernel_rfl) (fun _ _ _ h => h) (Or.inl ⟨by rfl, fun W hSw => by (try dsimp only at hSw); go_simp⟩) k2 ?_
  try simp only [Act.put, List.setIfInBounds_toArray, List.set_cons_zero, List.set_cons_succ]
  refine wpAnyH_take (i := 26) (oi := { dst := some 58, op := Go.Op.move (Go.Operand.tmp 5), type := 29, pos := "outright.go:27", after := #[{ on := 25, ground := Go.Ground.guard }], guard := some (25, true) }) (v := .slice (some ⟨B2, off2, none⟩) nn d) rfl (by kernel_rfl) (by kernel_rfl) (by kernel_rfl) (fun _ _ _ h => h) (Or.inl ⟨by rfl, fun W hSw => by (try dsimp only at hSw); go_simp⟩) k2 ?_
  try simp only [Act.put, List.setIfInBounds_toArray, List.set_cons_zero, List.set_cons_succ]
  refine wpAnyH_take (i := 27) (oi := { dst := some 59, op := Go.Op.indexAddr 29 (Go.Operand.tmp 58) (Go.Operand.const (Go.Value.int Go.IntKind.i64 0)), type := 0, pos := "outright.go:27", after := #[{ on := 26, ground := Go.Ground.data }, { on := 25, ground := Go.Ground.guard }], guard := some (25, true) }) (v := .pointer (some ⟨B2, off2, none⟩)) rfl (by kernel_rfl) (by kernel_rfl) (by kernel_rfl) (fun _ _ _ h => h) (Or.inl ⟨by rfl, fun W hSw => by clear hSw; have hx := HX.out; go_simp⟩) k2 ?_
  try simp only [Act.put, List.setIfInBounds_toArray, List.set_cons_zero, List.set_cons_succ]
  refine wpAnyH_take (i := 28) (oi := { dst := some 60, op := Go.Op.load 5 (Go.Operand.tmp 59), type := 5, pos := "outright.go:27", after := #[{ on := 27, ground := Go.Ground.data }, { on := 25, ground := Go.Ground.guard }], guard := some (25, true) }) (v := .int .u8 (x : Int)) rfl (by kernel_rfl) (by kernel_rfl) (by kernel_rfl) (fun _ _ _ h => h) (Or.inl ⟨by rfl, fun W hSw => by obtain ⟨-, -, -, s1, s2⟩ := hSw; have cc := HLE.out W s2; clear s1 s2; go_simp⟩) k2 ?_
  try simp only [Act.put, List.setIfInBounds_toArray, List.set_cons_zero, List.set_cons_succ]
  refine wpAnyH_take (i := 29) (oi := { dst := some 61, op := Go.Op.move (Go.Operand.tmp 0), type := 29, pos := "outright.go:27", after := #[{ on := 25, ground := Go.Ground.guard }], guard := some (25, true) }) (v := .slice (some ⟨B, off, none⟩) n c) rfl (by kernel_rfl) (by kernel_rfl) (by kernel_rfl) (fun _ _ _ h => h) (Or.inl ⟨by rfl, fun W hSw => by (try dsimp only at hSw); go_simp⟩) k2 ?_
  try simp only [Act.put, List.setIfInBounds_toArray, List.set_cons_zero, List.set_cons_succ]
  refine wpAnyH_take (i := 30) (oi := { dst := some 62, op := Go.Op.indexAddr 29 (Go.Operand.tmp 61) (Go.Operand.const (Go.Value.int Go.IntKind.i64 0)), type := 0, pos := "outright.go:27", after := #[{ on := 29, ground := Go.Ground.data }, { on := 25, ground := Go.Ground.guard }], guard := some (25, true) }) (v := .pointer (some ⟨B, off, none⟩)) rfl (by kernel_rfl) (by kernel_rfl) (by kernel_rfl) (fun _ _ _ h => h) (Or.inl ⟨by rfl, fun W hSw => by clear hSw; have hx := HX.out; go_simp⟩) k2 ?_
  try simp only [Act.put, List.setIfInBounds_toArray, List.set_cons_zero, List.set_cons_succ]
  refine wpAnyH_take (i := 31) (oi := { dst := some 63, op := Go.Op.load 5 (Go.Operand.tmp 62), type := 5, pos := "outright.go:27", after := #[{ on := 30, ground := Go.Ground.data }, { on := 25, ground := Go.Ground.guard }], guard := some (25, true) }) (v := .int .u8 (x : Int)) rfl (by kernel_rfl) (by kernel_rfl) (by kernel_rfl) (fun _ _ _ h => h) (Or.inl ⟨by rfl, fun W hSw => by obtain ⟨-, -, -, s1, s2⟩ := hSw; have cc := HLB.out W s1; clear s1 s2; go_simp⟩) k2 ?_
  try simp only [Act.put, List.setIfInBounds_toArray, List.set_cons_zero, List.set_cons_succ]
  refine wpAnyH_take (i := 32) (oi := { dst := some 64, op := Go.Op.binOp Go.BinOp.eql 5 (Go.Operand.tmp 60) (Go.Operand.tmp 63) 5, type := 4, pos := "outright.go:27", after := #[{ on := 28, ground := Go.Ground.data }, { on := 31, ground := Go.Ground.data }, { on := 25, ground := Go.Ground.guard }], guard := some (25, true) }) (v := .bool true) rfl (by kernel_rfl) (by kernel_rfl) (by kernel_rfl) (fun _ _ _ h => h) (Or.inl ⟨by rfl, fun W hSw => by (try dsimp only at hSw); go_simp⟩) k2 ?_
  try simp only [Act.put, List.setIfInBounds_toArray, List.set_cons_zero, List.set_cons_succ]
  refine wpAnyH_take (i := 33) (oi := { dst := some 65, op := Go.Op.pick (Go.Operand.tmp 57) (Go.Operand.tmp 64) (Go.Operand.const (Go.Value.bool false)), type := 4, pos := "outright.go:27", after := #[{ on := 25, ground := Go.Ground.data }, { on := 32, ground := Go.Ground.data }], guard := none }) (v := .bool true) rfl (by kernel_rfl) (by kernel_rfl) (by kernel_rfl) (fun _ _ _ h => h) (Or.inl ⟨by rfl, fun W hSw => by (try dsimp only at hSw); go_simp⟩) k2 ?_
  try simp only [Act.put, List.setIfInBounds_toArray, List.set_cons_zero, List.set_cons_succ]
  refine wpAnyH_take (i := 34) (oi := { dst := some 66, op := Go.Op.move (Go.Operand.tmp 65), type := 4, pos := "outright.go:27", after := #[{ on := 33, ground := Go.Ground.data }, { on := 25, ground := Go.Ground.chain }], guard := none }) (v := .bool true) rfl (by kernel_rfl) (by kernel_rfl) (by kernel_rfl) (fun _ _ _ h => h) (Or.inl ⟨by rfl, fun W hSw => by (try dsimp only at hSw); go_simp⟩) k2 ?_
  try simp only [Act.put, List.setIfInBounds_toArray, List.set_cons_zero, List.set_cons_succ]
  refine wpAnyH_ready (rs := [35]) (by kernel_rfl) (by simp) ?_
  refine AllReadyH.cons (o := { dst := some 67, op := Go.Op.call { callee := Go.Callee.value (Go.Operand.func 14), args := #[], argTypes := #[] }, type := 4, pos := "outright.go:27", after := #[{ on := 34, ground := Go.Ground.chain }, { on := 34, ground := Go.Ground.guard }], guard := some (34, true) }) rfl (fun K hK => ?_) AllReadyH.nil
  go_simp
  go_at_call 14
  refine (works_any _).mono ?_
  rintro e x3 ⟨rfl, hb3⟩
  go_wp2_with fail
  refine hK.out _ _ (S_next k2 hb3) (fun k3 => ?_)
  try clear hb3
  clear hK K
  try simp only [List.setIfInBounds_toArray, List.set_cons_zero, List.set_cons_succ]
  refine wpAnyH_take (i := 36) (oi := { dst := some 68, op := Go.Op.pick (Go.Operand.tmp 66) (Go.Operand.tmp 67) (Go.Operand.const (Go.Value.bool false)), type := 4, pos := "outright.go:27", after := #[{ on := 34, ground := Go.Ground.data }, { on := 35, ground := Go.Ground.data }], guard := none }) (v := .bool true) rfl (by kernel_rfl) (by kernel_rfl) (by kernel_rfl) (fun _ _ _ h => h) (Or.inl ⟨by rfl, fun W hSw => by (try dsimp only at hSw); go_simp⟩) k3 ?_
  try simp only [Act.put, List.setIfInBounds_toArray, List.set_cons_zero, List.set_cons_succ]
  refine wpAnyH_take (i := 37) (oi := { dst := some 2, op := Go.Op.assign (Go.Operand.tmp 68), type := 4, pos := "outright.go:27", after := #[{ on := 36, ground := Go.Ground.data }, { on := 35, ground := Go.Ground.chain }, { on := 0, ground := Go.Ground.phase }, { on := 1, ground := Go.Ground.phase }, { on := 2, ground := Go.Ground.phase }, { on := 3, ground := Go.Ground.phase }, { on := 4, ground := Go.Ground.phase }, { on := 5, ground := Go.Ground.phase }, { on := 6, ground := Go.Ground.phase }, { on := 7, ground := Go.Ground.phase }, { on := 8, ground := Go.Ground.phase }, { on := 9, ground := Go.Ground.phase }, { on := 10, ground := Go.Ground.phase }, { on := 11, ground := Go.Ground.phase }, { on := 12, ground := Go.Ground.phase }, { on := 13, ground := Go.Ground.phase }, { on := 14, ground := Go.Ground.phase }, { on := 15, ground := Go.Ground.phase }, { on := 16, ground := Go.Ground.phase }, { on := 17, ground := Go.Ground.phase }, { on := 18, ground := Go.Ground.phase }, { on := 19, ground := Go.Ground.phase }, { on := 20, ground := Go.Ground.phase }, { on := 21, ground := Go.Ground.phase }, { on := 22, ground := Go.Ground.phase }, { on := 23, ground := Go.Ground.phase }, { on := 24, ground := Go.Ground.phase }, { on := 25, ground := Go.Ground.phase }, { on := 26, ground := Go.Ground.phase }, { on := 27, ground := Go.Ground.phase }, { on := 28, ground := Go.Ground.phase }, { on := 29, ground := Go.Ground.phase }, { on := 30, ground := Go.Ground.phase }, { on := 31, ground := Go.Ground.phase }, { on := 32, ground := Go.Ground.phase }, { on := 33, ground := Go.Ground.phase }, { on := 34, ground := Go.Ground.phase }, { on := 35, ground := Go.Ground.phase }, { on := 36, ground := Go.Ground.phase }], guard := none }) (v := .bool true) rfl (by kernel_rfl) (by kernel_rfl) (by kernel_rfl) (fun _ _ _ h => h) (Or.inl ⟨by rfl, fun W hSw => by (try dsimp only at hSw); go_simp⟩) k3 ?_
  try simp only [Act.put, List.setIfInBounds_toArray, List.set_cons_zero, List.set_cons_succ]
  refine wpAnyH_done (by kernel_rfl) ?_ _
  refine onlyN_normal ?_
  go_wp2
  go_ret
  exact ⟨rfl, k3.1⟩
theorem walk (v : Value) (l : List UInt8) (w : World) (h : SvB w v l) : Calls Tryd.prog 8 #[v] w (New w (.bool true)) := by
  obtain ⟨p, c, rfl, hp, hcl, hcm, _⟩ := h
  cases hd : decB l with
  | true => exact yes p c l w hp hcl hcm hd
  | false => exact no p c l w hp hcl hcm hd

end Go.Proofs.YtaodghaicmjadaaDoor.isaAgain

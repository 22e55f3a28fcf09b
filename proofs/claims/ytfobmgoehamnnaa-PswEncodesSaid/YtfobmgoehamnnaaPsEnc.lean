/- The program's Encode. -/
import Derived.Test.YtfobmgoehamnnaaPsVal
import Derived.BigQuiet
import Derived.Deep.RegionHeld3
namespace Go.Proofs.Ytfobmgoehamnnaa
open Go.RowKit
set_option linter.unusedVariables false
namespace E

theorem bitIf_any (b : Bool) (v : Int) (w : World) : Calls Try.prog 34 #[.bool b, .int .u8 v] w fun e w' => e = .returned (.int .u8 (fl b v)) ∧ w = w' := by
  cases b
  all_goals
    go_enter Try.func34, Try.ntmps34
    go_wp2
    go_ret
    exact ⟨rfl, rfl⟩
theorem quietOf1 {f : FuncId} {args : Array Value} {W : World} {n : Nat} {v : Value} (h : Calls Try.prog f args (W.drewN n) fun e w' => e = .returned v ∧ W.drewN n = w') :
    Calls Try.prog f args (W.drewN n) fun e w'' => e = .returned v ∧ ∃ m, w'' = W.drewN m := by
  refine h.mono ?_
  rintro e w' ⟨he, rfl⟩
  exact ⟨he, n, rfl⟩
theorem or_flags (a b c : Bool) : bits .or .u8 (bits .or .u8 (fl a 4) (fl b 2)) (fl c 1) = fl a 4 + fl b 2 + fl c 1 := by
  revert a b c
  decide +kernel
set_option maxRecDepth 100000 in
theorem flags_any (Q : Psw) (w : World) : Calls Try.prog 26 #[.agg #[.int .i64 Q.m, .int .i64 Q.k, .bool Q.ma, .bool Q.wa, .bool Q.pr, .int .i64 Q.co, .int .i64 Q.il, .int .i64 Q.cc, .int .i64 Q.pg, .int .i64 Q.ad]] w (New w (.int .u8 (fls Q))) := by
  have HB := Lib.hid (fun b v => bitIf_any b v)
  have ho : bits .or .u8 (bits .or .u8 (fl Q.ma 4) (fl Q.wa 2)) (fl Q.pr 1) = fls Q := or_flags _ _ _
  go_enter Try.func26, Try.ntmps26
  go_wp2
  go_quiet ((exact quietOf1 (HB.out _ _ _)))
  go_wp2
  go_ret
  exact ⟨by simp, bel0 (below_new _ _) (belowDraw _ _)⟩
def EncPost (w : World) (Q : Psw) (e : Ending) (w' : World) : Prop :=
  ∃ p c, e = .returned (.tuple #[.slice p 8 c, .bool true]) ∧ SvB w' (.slice p 8 c) (encL Q) ∧ Below w.heap.size w w'
/-- What the cells of a word's block hold. -/
def Cf (W : World) (n : Nat) (Q : Psw) : Prop := W.cell? ⟨n, 0, none⟩ = some (.int .i64 Q.m) ∧ W.cell? ⟨n, 1, none⟩ = some (.int .i64 Q.k) ∧ W.cell? ⟨n, 2, none⟩ = some (.bool Q.ma) ∧ W.cell? ⟨n, 3, none⟩ = some (.bool Q.wa) ∧ W.cell? ⟨n, 4, none⟩ = some (.bool Q.pr) ∧ W.cell? ⟨n, 5, none⟩ = some (.int .i64 Q.co) ∧ W.cell? ⟨n, 6, none⟩ = some (.int .i64 Q.il) ∧ W.cell? ⟨n, 7, none⟩ = some (.int .i64 Q.cc) ∧ W.cell? ⟨n, 8, none⟩ = some (.int .i64 Q.pg) ∧ W.cell? ⟨n, 9, none⟩ = some (.int .i64 Q.ad)
theorem cf_of {w W : World} {n : Nat} {Q : Psw} (h : Bx w n 23 #[.int .i64 Q.m, .int .i64 Q.k, .bool Q.ma, .bool Q.wa, .bool Q.pr, .int .i64 Q.co, .int .i64 Q.il, .int .i64 Q.cc, .int .i64 Q.pg, .int .i64 Q.ad]) (hb : Below w.heap.size w W) : Cf W n Q ∧ Below w.heap.size w W := by
  have h' := h.below hb
  exact ⟨⟨h'.cell 0, h'.cell 1, h'.cell 2, h'.cell 3, h'.cell 4, h'.cell 5, h'.cell 6, h'.cell 7, h'.cell 8, h'.cell 9⟩, hb⟩
theorem cell_bel {W W' : World} {a : Addr} {v : Value} (h : W.cell? a = some v) (hb : Below W.heap.size W W') : W'.cell? a = some v := by
  rw [hb.cell (World.block_lt_of_cell? W _ h)]; exact h
theorem cf_next {w W W' : World} {n : Nat} {Q : Psw} (h : Cf W n Q ∧ Below w.heap.size w W) (hb : Below W.heap.size W W') : Cf W' n Q ∧ Below w.heap.size w W' := by
  obtain ⟨⟨h0, h1, h2, h3, h4, h5, h6, h7, h8, h9⟩, h⟩ := h
  exact ⟨⟨cell_bel h0 hb, cell_bel h1 hb, cell_bel h2 hb, cell_bel h3 hb, cell_bel h4 hb, cell_bel h5 hb, cell_bel h6 hb, cell_bel h7 hb, cell_bel h8 hb, cell_bel h9 hb⟩, bel0 h hb⟩
set_option maxRecDepth 100000 in
theorem enc_no (Q : Psw) (w : World) (h : okB Q = false) : Calls Try.prog 12 #[.agg #[.int .i64 Q.m, .int .i64 Q.k, .bool Q.ma, .bool Q.wa, .bool Q.pr, .int .i64 Q.co, .int .i64 Q.il, .int .i64 Q.cc, .int .i64 Q.pg, .int .i64 Q.ad]] w (New w (.tuple #[.slice none 0 0, .bool false])) := by
  have HV := Lib.hid (fun W => (by have h1 := valid_any Q W; rw [h] at h1; exact h1 : Calls Try.prog 14 #[.agg #[.int .i64 Q.m, .int .i64 Q.k, .bool Q.ma, .bool Q.wa, .bool Q.pr, .int .i64 Q.co, .int .i64 Q.il, .int .i64 Q.cc, .int .i64 Q.pg, .int .i64 Q.ad]] W (New W (.bool false))))
  clear h
  go_enter Try.func12, Try.ntmps12
  go_wp2_with fail
  refine (HV.out _).mono ?_
  rintro e w1 ⟨rfl, hb⟩
  have HX := Lib.hid hb
  clear hb HV
  go_wp2
  go_ret2
  exact ⟨rfl, bel0 (below_new _ _) HX.out⟩
theorem wrap8 (n : Int) : IntKind.u8.wrap n = n % 256 := by simp [IntKind.wrap, IntKind.bits, IntKind.signed]
theorem key_byte (k : Fin 16) (a b c : Bool) : bits .or .u8 (IntKind.u8.wrap (IntKind.i64.wrap ((k.val : Int) * 16))) (fl a 4 + fl b 2 + fl c 1) = 16 * (k.val : Int) + (fl a 4 + fl b 2 + fl c 1) := by
  revert k a b c
  decide +kernel
theorem cond_byte (i c : Fin 4) (p : Fin 16) : IntKind.u8.wrap (bits .or .i64 (bits .or .i64 (IntKind.i64.wrap ((i.val : Int) * 64)) (IntKind.i64.wrap ((c.val : Int) * 16))) (p.val : Int)) = 64 * (i.val : Int) + 16 * (c.val : Int) + (p.val : Int) := by
  revert i c p
  decide +kernel
theorem fin_of {n : Nat} {z : Int} (h0 : 0 ≤ z) (h1 : z < n) : ∃ i : Fin n, z = (i.val : Int) := ⟨⟨z.toNat, by omega⟩, by simp; omega⟩
theorem enc_cells (Q : Psw) (h : okP Q) : (#[.int .u8 (IntKind.u8.wrap (Q.m)), .int .u8 (bits .or .u8 (IntKind.u8.wrap (IntKind.i64.wrap (Q.k * 16))) (fls Q)), .int .u8 (IntKind.u8.wrap (Q.co / 256)), .int .u8 (IntKind.u8.wrap (Q.co)), .int .u8 (IntKind.u8.wrap (bits .or .i64 (bits .or .i64 (IntKind.i64.wrap (Q.il * 64)) (IntKind.i64.wrap (Q.cc * 16))) Q.pg)), .int .u8 (IntKind.u8.wrap (Q.ad / 65536)), .int .u8 (IntKind.u8.wrap (Q.ad / 256)), .int .u8 (IntKind.u8.wrap (Q.ad))] : Array Value) = (bsU (encL Q)).toArray := by
  have hf := fls_le Q
  obtain ⟨hm, hk, hco, hil, hcc, hpg, had⟩ := h
  have e1 : bits .or .u8 (IntKind.u8.wrap (IntKind.i64.wrap (Q.k * 16))) (fls Q) = 16 * Q.k + fls Q := by
    obtain ⟨k, hk'⟩ := fin_of (n := 16) hk.1 (by omega)
    rw [hk']
    exact key_byte k Q.ma Q.wa Q.pr
  have e2 : IntKind.u8.wrap (bits .or .i64 (bits .or .i64 (IntKind.i64.wrap (Q.il * 64)) (IntKind.i64.wrap (Q.cc * 16))) Q.pg) = 64 * Q.il + 16 * Q.cc + Q.pg := by
    obtain ⟨i, hi⟩ := fin_of (n := 4) hil.1 (by omega)
    obtain ⟨c, hc⟩ := fin_of (n := 4) hcc.1 (by omega)
    obtain ⟨p, hp⟩ := fin_of (n := 16) hpg.1 (by omega)
    rw [hi, hc, hp]
    exact cond_byte i c p
  rw [e1, e2]
  simp only [wrap8, bsU, encL, List.map_cons, List.map_nil]
  rw [by8_nat (z := Q.m) (by omega) (by omega), by8_nat (z := 16 * Q.k + fls Q) (by omega) (by omega), by8_nat (z := Q.co / 256) (by omega) (by omega), by8_nat (z := Q.co % 256) (by omega) (by omega), by8_nat (z := 64 * Q.il + 16 * Q.cc + Q.pg) (by omega) (by omega), by8_nat (z := Q.ad / 65536) (by omega) (by omega), by8_nat (z := Q.ad / 256 % 256) (by omega) (by omega), by8_nat (z := Q.ad % 256) (by omega) (by omega),
    show Q.m % 256 = Q.m by omega, show Q.co / 256 % 256 = Q.co / 256 by omega, show Q.ad / 65536 % 256 = Q.ad / 65536 by omega]
set_option maxRecDepth 100000 in
theorem enc_yes (Q : Psw) (w : World) (h : okB Q = true) : Calls Try.prog 12 #[.agg #[.int .i64 Q.m, .int .i64 Q.k, .bool Q.ma, .bool Q.wa, .bool Q.pr, .int .i64 Q.co, .int .i64 Q.il, .int .i64 Q.cc, .int .i64 Q.pg, .int .i64 Q.ad]] w (EncPost w Q) := by
  have HV := Lib.hid (fun W => (by have h1 := valid_any Q W; rw [h] at h1; exact h1 : Calls Try.prog 14 #[.agg #[.int .i64 Q.m, .int .i64 Q.k, .bool Q.ma, .bool Q.wa, .bool Q.pr, .int .i64 Q.co, .int .i64 Q.il, .int .i64 Q.cc, .int .i64 Q.pg, .int .i64 Q.ad]] W (New W (.bool true))))
  have HOK := Lib.hid (of_decide_eq_true h)
  have HF := Lib.hid (flags_any Q)
  clear h
  go_enter Try.func12, Try.ntmps12
  have HP0 := Lib.hid (Bx.new w 23 #[.int .i64 Q.m, .int .i64 Q.k, .bool Q.ma, .bool Q.wa, .bool Q.pr, .int .i64 Q.co, .int .i64 Q.il, .int .i64 Q.cc, .int .i64 Q.pg, .int .i64 Q.ad])
  go_wp2_with fail
  refine (HV.out _).mono ?_
  rintro e w1 ⟨rfl, hb⟩
  have HX := Lib.hid hb
  have HP := Lib.hid (HP0.out.below hb)
  clear hb HV HP0
  have c0 := fun i => HP.out.cell i
  go_upto_region 3 with fail
  clear c0
  refine wp_region_noPanic ?_
  refine wp_region_held_drew (S := fun W => (W.cell? ⟨w.heap.size, 0, none⟩ = some (.int .i64 Q.m) ∧ W.cell? ⟨w.heap.size, 1, none⟩ = some (.int .i64 Q.k) ∧ W.cell? ⟨w.heap.size, 2, none⟩ = some (.bool Q.ma) ∧ W.cell? ⟨w.heap.size, 3, none⟩ = some (.bool Q.wa) ∧ W.cell? ⟨w.heap.size, 4, none⟩ = some (.bool Q.pr) ∧ W.cell? ⟨w.heap.size, 5, none⟩ = some (.int .i64 Q.co) ∧ W.cell? ⟨w.heap.size, 6, none⟩ = some (.int .i64 Q.il) ∧ W.cell? ⟨w.heap.size, 7, none⟩ = some (.int .i64 Q.cc) ∧ W.cell? ⟨w.heap.size, 8, none⟩ = some (.int .i64 Q.pg) ∧ W.cell? ⟨w.heap.size, 9, none⟩ = some (.int .i64 Q.ad)) ∧ Below w1.heap.size w1 W) (by kernel_rfl) (cf_of HP.out (Below.refl _ _).drew) (fun g0 => ?_)
  show wpAnyH _ _ _ _ _ 42 #[false, false, false, false, false, false, false, false, false, false, false, false, false, false, false, false, false, false, false, false, false, false, false, false, false, false, false, false, false, false, false, false, false, false, false, false, false, false, false, false, false, false] _ _
  refine wpAnyH_take (i := 0) (oi := { dst := some 7, op := Go.Op.fieldAddr 23 (Go.Operand.tmp 1) 0, type := 0, pos := "psw.go:81", after := #[], guard := none }) (v := .pointer (some ⟨w.heap.size, 0, none⟩)) rfl (by kernel_rfl) (by kernel_rfl) (by kernel_rfl) (fun _ _ _ h => h) (Or.inl ⟨by rfl, fun W hSw => by (try dsimp only at hSw); go_simp⟩) g0 ?_
  try simp only [Act.put, List.setIfInBounds_toArray, List.set_cons_zero, List.set_cons_succ]
  refine wpAnyH_take (i := 1) (oi := { dst := some 8, op := Go.Op.load 3 (Go.Operand.tmp 7), type := 3, pos := "psw.go:81", after := #[{ on := 0, ground := Go.Ground.data }], guard := none }) (v := .int .i64 (Q.m)) rfl (by kernel_rfl) (by kernel_rfl) (by kernel_rfl) (fun _ _ _ h => h) (Or.inl ⟨by rfl, fun W hSw => by (try dsimp only at hSw); go_simp⟩) g0 ?_
  try simp only [Act.put, List.setIfInBounds_toArray, List.set_cons_zero, List.set_cons_succ]
  refine wpAnyH_take (i := 2) (oi := { dst := some 9, op := Go.Op.convert 3 5 (Go.Operand.tmp 8), type := 5, pos := "psw.go:81", after := #[{ on := 1, ground := Go.Ground.data }], guard := none }) (v := .int .u8 (IntKind.u8.wrap (Q.m))) rfl (by kernel_rfl) (by kernel_rfl) (by kernel_rfl) (fun _ _ _ h => h) (Or.inl ⟨by rfl, fun W hSw => by (try dsimp only at hSw); go_simp⟩) g0 ?_
  try simp only [Act.put, List.setIfInBounds_toArray, List.set_cons_zero, List.set_cons_succ]
  refine wpAnyH_take (i := 3) (oi := { dst := some 10, op := Go.Op.fieldAddr 23 (Go.Operand.tmp 1) 1, type := 0, pos := "psw.go:81", after := #[], guard := none }) (v := .pointer (some ⟨w.heap.size, 1, none⟩)) rfl (by kernel_rfl) (by kernel_rfl) (by kernel_rfl) (fun _ _ _ h => h) (Or.inl ⟨by rfl, fun W hSw => by (try dsimp only at hSw); go_simp⟩) g0 ?_
  try simp only [Act.put, List.setIfInBounds_toArray, List.set_cons_zero, List.set_cons_succ]
  refine wpAnyH_take (i := 4) (oi := { dst := some 11, op := Go.Op.load 3 (Go.Operand.tmp 10), type := 3, pos := "psw.go:81", after := #[{ on := 3, ground := Go.Ground.data }], guard := none }) (v := .int .i64 (Q.k)) rfl (by kernel_rfl) (by kernel_rfl) (by kernel_rfl) (fun _ _ _ h => h) (Or.inl ⟨by rfl, fun W hSw => by (try dsimp only at hSw); go_simp⟩) g0 ?_
  try simp only [Act.put, List.setIfInBounds_toArray, List.set_cons_zero, List.set_cons_succ]
  refine wpAnyH_take (i := 5) (oi := { dst := some 12, op := Go.Op.binOp Go.BinOp.shl 3 (Go.Operand.tmp 11) (Go.Operand.const (Go.Value.int Go.IntKind.u64 4)) 41, type := 3, pos := "psw.go:81", after := #[{ on := 4, ground := Go.Ground.data }], guard := none }) (v := .int .i64 (IntKind.i64.wrap (Q.k * 16))) rfl (by kernel_rfl) (by kernel_rfl) (by kernel_rfl) (fun _ _ _ h => h) (Or.inl ⟨by rfl, fun W hSw => by (try dsimp only at hSw); go_simp⟩) g0 ?_
  try simp only [Act.put, List.setIfInBounds_toArray, List.set_cons_zero, List.set_cons_succ]
  refine wpAnyH_take (i := 6) (oi := { dst := some 13, op := Go.Op.convert 3 5 (Go.Operand.tmp 12), type := 5, pos := "psw.go:81", after := #[{ on := 5, ground := Go.Ground.data }], guard := none }) (v := .int .u8 (IntKind.u8.wrap (IntKind.i64.wrap (Q.k * 16)))) rfl (by kernel_rfl) (by kernel_rfl) (by kernel_rfl) (fun _ _ _ h => h) (Or.inl ⟨by rfl, fun W hSw => by (try dsimp only at hSw); go_simp⟩) g0 ?_
  try simp only [Act.put, List.setIfInBounds_toArray, List.set_cons_zero, List.set_cons_succ]
  refine wpAnyH_take (i := 7) (oi := { dst := some 14, op := Go.Op.load 23 (Go.Operand.tmp 1), type := 23, pos := "psw.go:81", after := #[], guard := none }) (v := .agg #[.int .i64 Q.m, .int .i64 Q.k, .bool Q.ma, .bool Q.wa, .bool Q.pr, .int .i64 Q.co, .int .i64 Q.il, .int .i64 Q.cc, .int .i64 Q.pg, .int .i64 Q.ad]) rfl (by kernel_rfl) (by kernel_rfl) (by kernel_rfl) (fun _ _ _ h => h) (Or.inl ⟨by rfl, fun W hSw => by (try dsimp only at hSw); go_simp⟩) g0 ?_
  try simp only [Act.put, List.setIfInBounds_toArray, List.set_cons_zero, List.set_cons_succ]
  refine wpAnyH_take (i := 10) (oi := { dst := some 17, op := Go.Op.fieldAddr 23 (Go.Operand.tmp 1) 5, type := 0, pos := "psw.go:81", after := #[], guard := none }) (v := .pointer (some ⟨w.heap.size, 5, none⟩)) rfl (by kernel_rfl) (by kernel_rfl) (by kernel_rfl) (fun _ _ _ h => h) (Or.inl ⟨by rfl, fun W hSw => by (try dsimp only at hSw); go_simp⟩) g0 ?_
  try simp only [Act.put, List.setIfInBounds_toArray, List.set_cons_zero, List.set_cons_succ]
  refine wpAnyH_take (i := 11) (oi := { dst := some 18, op := Go.Op.load 3 (Go.Operand.tmp 17), type := 3, pos := "psw.go:81", after := #[{ on := 10, ground := Go.Ground.data }], guard := none }) (v := .int .i64 (Q.co)) rfl (by kernel_rfl) (by kernel_rfl) (by kernel_rfl) (fun _ _ _ h => h) (Or.inl ⟨by rfl, fun W hSw => by (try dsimp only at hSw); go_simp⟩) g0 ?_
  try simp only [Act.put, List.setIfInBounds_toArray, List.set_cons_zero, List.set_cons_succ]
  refine wpAnyH_take (i := 12) (oi := { dst := some 19, op := Go.Op.binOp Go.BinOp.shr 3 (Go.Operand.tmp 18) (Go.Operand.const (Go.Value.int Go.IntKind.u64 8)) 41, type := 3, pos := "psw.go:81", after := #[{ on := 11, ground := Go.Ground.data }], guard := none }) (v := .int .i64 (Q.co / 256)) rfl (by kernel_rfl) (by kernel_rfl) (by kernel_rfl) (fun _ _ _ h => h) (Or.inl ⟨by rfl, fun W hSw => by (try dsimp only at hSw); go_simp⟩) g0 ?_
  try simp only [Act.put, List.setIfInBounds_toArray, List.set_cons_zero, List.set_cons_succ]
  refine wpAnyH_take (i := 13) (oi := { dst := some 20, op := Go.Op.convert 3 5 (Go.Operand.tmp 19), type := 5, pos := "psw.go:81", after := #[{ on := 12, ground := Go.Ground.data }], guard := none }) (v := .int .u8 (IntKind.u8.wrap (Q.co / 256))) rfl (by kernel_rfl) (by kernel_rfl) (by kernel_rfl) (fun _ _ _ h => h) (Or.inl ⟨by rfl, fun W hSw => by (try dsimp only at hSw); go_simp⟩) g0 ?_
  try simp only [Act.put, List.setIfInBounds_toArray, List.set_cons_zero, List.set_cons_succ]
  refine wpAnyH_take (i := 14) (oi := { dst := some 21, op := Go.Op.fieldAddr 23 (Go.Operand.tmp 1) 5, type := 0, pos := "psw.go:81", after := #[], guard := none }) (v := .pointer (some ⟨w.heap.size, 5, none⟩)) rfl (by kernel_rfl) (by kernel_rfl) (by kernel_rfl) (fun _ _ _ h => h) (Or.inl ⟨by rfl, fun W hSw => by (try dsimp only at hSw); go_simp⟩) g0 ?_
  try simp only [Act.put, List.setIfInBounds_toArray, List.set_cons_zero, List.set_cons_succ]
  refine wpAnyH_take (i := 15) (oi := { dst := some 22, op := Go.Op.load 3 (Go.Operand.tmp 21), type := 3, pos := "psw.go:81", after := #[{ on := 14, ground := Go.Ground.data }], guard := none }) (v := .int .i64 (Q.co)) rfl (by kernel_rfl) (by kernel_rfl) (by kernel_rfl) (fun _ _ _ h => h) (Or.inl ⟨by rfl, fun W hSw => by (try dsimp only at hSw); go_simp⟩) g0 ?_
  try simp only [Act.put, List.setIfInBounds_toArray, List.set_cons_zero, List.set_cons_succ]
  refine wpAnyH_take (i := 16) (oi := { dst := some 23, op := Go.Op.convert 3 5 (Go.Operand.tmp 22), type := 5, pos := "psw.go:81", after := #[{ on := 15, ground := Go.Ground.data }], guard := none }) (v := .int .u8 (IntKind.u8.wrap (Q.co))) rfl (by kernel_rfl) (by kernel_rfl) (by kernel_rfl) (fun _ _ _ h => h) (Or.inl ⟨by rfl, fun W hSw => by (try dsimp only at hSw); go_simp⟩) g0 ?_
  try simp only [Act.put, List.setIfInBounds_toArray, List.set_cons_zero, List.set_cons_succ]
  refine wpAnyH_take (i := 17) (oi := { dst := some 24, op := Go.Op.fieldAddr 23 (Go.Operand.tmp 1) 6, type := 0, pos := "psw.go:81", after := #[], guard := none }) (v := .pointer (some ⟨w.heap.size, 6, none⟩)) rfl (by kernel_rfl) (by kernel_rfl) (by kernel_rfl) (fun _ _ _ h => h) (Or.inl ⟨by rfl, fun W hSw => by (try dsimp only at hSw); go_simp⟩) g0 ?_
  try simp only [Act.put, List.setIfInBounds_toArray, List.set_cons_zero, List.set_cons_succ]
  refine wpAnyH_take (i := 18) (oi := { dst := some 25, op := Go.Op.load 3 (Go.Operand.tmp 24), type := 3, pos := "psw.go:81", after := #[{ on := 17, ground := Go.Ground.data }], guard := none }) (v := .int .i64 (Q.il)) rfl (by kernel_rfl) (by kernel_rfl) (by kernel_rfl) (fun _ _ _ h => h) (Or.inl ⟨by rfl, fun W hSw => by (try dsimp only at hSw); go_simp⟩) g0 ?_
  try simp only [Act.put, List.setIfInBounds_toArray, List.set_cons_zero, List.set_cons_succ]
  refine wpAnyH_take (i := 19) (oi := { dst := some 26, op := Go.Op.binOp Go.BinOp.shl 3 (Go.Operand.tmp 25) (Go.Operand.const (Go.Value.int Go.IntKind.u64 6)) 41, type := 3, pos := "psw.go:81", after := #[{ on := 18, ground := Go.Ground.data }], guard := none }) (v := .int .i64 (IntKind.i64.wrap (Q.il * 64))) rfl (by kernel_rfl) (by kernel_rfl) (by kernel_rfl) (fun _ _ _ h => h) (Or.inl ⟨by rfl, fun W hSw => by (try dsimp only at hSw); go_simp⟩) g0 ?_
  try simp only [Act.put, List.setIfInBounds_toArray, List.set_cons_zero, List.set_cons_succ]
  refine wpAnyH_take (i := 20) (oi := { dst := some 27, op := Go.Op.fieldAddr 23 (Go.Operand.tmp 1) 7, type := 0, pos := "psw.go:81", after := #[], guard := none }) (v := .pointer (some ⟨w.heap.size, 7, none⟩)) rfl (by kernel_rfl) (by kernel_rfl) (by kernel_rfl) (fun _ _ _ h => h) (Or.inl ⟨by rfl, fun W hSw => by (try dsimp only at hSw); go_simp⟩) g0 ?_
  try simp only [Act.put, List.setIfInBounds_toArray, List.set_cons_zero, List.set_cons_succ]
  refine wpAnyH_take (i := 21) (oi := { dst := some 28, op := Go.Op.load 3 (Go.Operand.tmp 27), type := 3, pos := "psw.go:81", after := #[{ on := 20, ground := Go.Ground.data }], guard := none }) (v := .int .i64 (Q.cc)) rfl (by kernel_rfl) (by kernel_rfl) (by kernel_rfl) (fun _ _ _ h => h) (Or.inl ⟨by rfl, fun W hSw => by (try dsimp only at hSw); go_simp⟩) g0 ?_
  try simp only [Act.put, List.setIfInBounds_toArray, List.set_cons_zero, List.set_cons_succ]
  refine wpAnyH_take (i := 22) (oi := { dst := some 29, op := Go.Op.binOp Go.BinOp.shl 3 (Go.Operand.tmp 28) (Go.Operand.const (Go.Value.int Go.IntKind.u64 4)) 41, type := 3, pos := "psw.go:81", after := #[{ on := 21, ground := Go.Ground.data }], guard := none }) (v := .int .i64 (IntKind.i64.wrap (Q.cc * 16))) rfl (by kernel_rfl) (by kernel_rfl) (by kernel_rfl) (fun _ _ _ h => h) (Or.inl ⟨by rfl, fun W hSw => by (try dsimp only at hSw); go_simp⟩) g0 ?_
  try simp only [Act.put, List.setIfInBounds_toArray, List.set_cons_zero, List.set_cons_succ]
  refine wpAnyH_take (i := 23) (oi := { dst := some 30, op := Go.Op.binOp Go.BinOp.or 3 (Go.Operand.tmp 26) (Go.Operand.tmp 29) 3, type := 3, pos := "psw.go:81", after := #[{ on := 19, ground := Go.Ground.data }, { on := 22, ground := Go.Ground.data }], guard := none }) (v := .int .i64 (bits .or .i64 (IntKind.i64.wrap (Q.il * 64)) (IntKind.i64.wrap (Q.cc * 16)))) rfl (by kernel_rfl) (by kernel_rfl) (by kernel_rfl) (fun _ _ _ h => h) (Or.inl ⟨by rfl, fun W hSw => by (try dsimp only at hSw); go_simp⟩) g0 ?_
  try simp only [Act.put, List.setIfInBounds_toArray, List.set_cons_zero, List.set_cons_succ]
  refine wpAnyH_take (i := 24) (oi := { dst := some 31, op := Go.Op.fieldAddr 23 (Go.Operand.tmp 1) 8, type := 0, pos := "psw.go:81", after := #[], guard := none }) (v := .pointer (some ⟨w.heap.size, 8, none⟩)) rfl (by kernel_rfl) (by kernel_rfl) (by kernel_rfl) (fun _ _ _ h => h) (Or.inl ⟨by rfl, fun W hSw => by (try dsimp only at hSw); go_simp⟩) g0 ?_
  try simp only [Act.put, List.setIfInBounds_toArray, List.set_cons_zero, List.set_cons_succ]
  refine wpAnyH_take (i := 25) (oi := { dst := some 32, op := Go.Op.load 3 (Go.Operand.tmp 31), type := 3, pos := "psw.go:81", after := #[{ on := 24, ground := Go.Ground.data }], guard := none }) (v := .int .i64 (Q.pg)) rfl (by kernel_rfl) (by kernel_rfl) (by kernel_rfl) (fun _ _ _ h => h) (Or.inl ⟨by rfl, fun W hSw => by (try dsimp only at hSw); go_simp⟩) g0 ?_
  try simp only [Act.put, List.setIfInBounds_toArray, List.set_cons_zero, List.set_cons_succ]
  refine wpAnyH_take (i := 26) (oi := { dst := some 33, op := Go.Op.binOp Go.BinOp.or 3 (Go.Operand.tmp 30) (Go.Operand.tmp 32) 3, type := 3, pos := "psw.go:81", after := #[{ on := 23, ground := Go.Ground.data }, { on := 25, ground := Go.Ground.data }], guard := none }) (v := .int .i64 (bits .or .i64 (bits .or .i64 (IntKind.i64.wrap (Q.il * 64)) (IntKind.i64.wrap (Q.cc * 16))) Q.pg)) rfl (by kernel_rfl) (by kernel_rfl) (by kernel_rfl) (fun _ _ _ h => h) (Or.inl ⟨by rfl, fun W hSw => by (try dsimp only at hSw); go_simp⟩) g0 ?_
  try simp only [Act.put, List.setIfInBounds_toArray, List.set_cons_zero, List.set_cons_succ]
  refine wpAnyH_take (i := 27) (oi := { dst := some 34, op := Go.Op.convert 3 5 (Go.Operand.tmp 33), type := 5, pos := "psw.go:81", after := #[{ on := 26, ground := Go.Ground.data }], guard := none }) (v := .int .u8 (IntKind.u8.wrap (bits .or .i64 (bits .or .i64 (IntKind.i64.wrap (Q.il * 64)) (IntKind.i64.wrap (Q.cc * 16))) Q.pg))) rfl (by kernel_rfl) (by kernel_rfl) (by kernel_rfl) (fun _ _ _ h => h) (Or.inl ⟨by rfl, fun W hSw => by (try dsimp only at hSw); go_simp⟩) g0 ?_
  try simp only [Act.put, List.setIfInBounds_toArray, List.set_cons_zero, List.set_cons_succ]
  refine wpAnyH_take (i := 28) (oi := { dst := some 35, op := Go.Op.fieldAddr 23 (Go.Operand.tmp 1) 9, type := 0, pos := "psw.go:81", after := #[], guard := none }) (v := .pointer (some ⟨w.heap.size, 9, none⟩)) rfl (by kernel_rfl) (by kernel_rfl) (by kernel_rfl) (fun _ _ _ h => h) (Or.inl ⟨by rfl, fun W hSw => by (try dsimp only at hSw); go_simp⟩) g0 ?_
  try simp only [Act.put, List.setIfInBounds_toArray, List.set_cons_zero, List.set_cons_succ]
  refine wpAnyH_take (i := 29) (oi := { dst := some 36, op := Go.Op.load 3 (Go.Operand.tmp 35), type := 3, pos := "psw.go:81", after := #[{ on := 28, ground := Go.Ground.data }], guard := none }) (v := .int .i64 (Q.ad)) rfl (by kernel_rfl) (by kernel_rfl) (by kernel_rfl) (fun _ _ _ h => h) (Or.inl ⟨by rfl, fun W hSw => by (try dsimp only at hSw); go_simp⟩) g0 ?_
  try simp only [Act.put, List.setIfInBounds_toArray, List.set_cons_zero, List.set_cons_succ]
  refine wpAnyH_take (i := 30) (oi := { dst := some 37, op := Go.Op.binOp Go.BinOp.shr 3 (Go.Operand.tmp 36) (Go.Operand.const (Go.Value.int Go.IntKind.u64 16)) 41, type := 3, pos := "psw.go:81", after := #[{ on := 29, ground := Go.Ground.data }], guard := none }) (v := .int .i64 (Q.ad / 65536)) rfl (by kernel_rfl) (by kernel_rfl) (by kernel_rfl) (fun _ _ _ h => h) (Or.inl ⟨by rfl, fun W hSw => by (try dsimp only at hSw); go_simp⟩) g0 ?_
  try simp only [Act.put, List.setIfInBounds_toArray, List.set_cons_zero, List.set_cons_succ]
  refine wpAnyH_take (i := 31) (oi := { dst := some 38, op := Go.Op.convert 3 5 (Go.Operand.tmp 37), type := 5, pos := "psw.go:81", after := #[{ on := 30, ground := Go.Ground.data }], guard := none }) (v := .int .u8 (IntKind.u8.wrap (Q.ad / 65536))) rfl (by kernel_rfl) (by kernel_rfl) (by kernel_rfl) (fun _ _ _ h => h) (Or.inl ⟨by rfl, fun W hSw => by (try dsimp only at hSw); go_simp⟩) g0 ?_
  try simp only [Act.put, List.setIfInBounds_toArray, List.set_cons_zero, List.set_cons_succ]
  refine wpAnyH_take (i := 32) (oi := { dst := some 39, op := Go.Op.fieldAddr 23 (Go.Operand.tmp 1) 9, type := 0, pos := "psw.go:81", after := #[], guard := none }) (v := .pointer (some ⟨w.heap.size, 9, none⟩)) rfl (by kernel_rfl) (by kernel_rfl) (by kernel_rfl) (fun _ _ _ h => h) (Or.inl ⟨by rfl, fun W hSw => by (try dsimp only at hSw); go_simp⟩) g0 ?_
  try simp only [Act.put, List.setIfInBounds_toArray, List.set_cons_zero, List.set_cons_succ]
  refine wpAnyH_take (i := 33) (oi := { dst := some 40, op := Go.Op.load 3 (Go.Operand.tmp 39), type := 3, pos := "psw.go:81", after := #[{ on := 32, ground := Go.Ground.data }], guard := none }) (v := .int .i64 (Q.ad)) rfl (by kernel_rfl) (by kernel_rfl) (by kernel_rfl) (fun _ _ _ h => h) (Or.inl ⟨by rfl, fun W hSw => by (try dsimp only at hSw); go_simp⟩) g0 ?_
  try simp only [Act.put, List.setIfInBounds_toArray, List.set_cons_zero, List.set_cons_succ]
  refine wpAnyH_take (i := 34) (oi := { dst := some 41, op := Go.Op.binOp Go.BinOp.shr 3 (Go.Operand.tmp 40) (Go.Operand.const (Go.Value.int Go.IntKind.u64 8)) 41, type := 3, pos := "psw.go:81", after := #[{ on := 33, ground := Go.Ground.data }], guard := none }) (v := .int .i64 (Q.ad / 256)) rfl (by kernel_rfl) (by kernel_rfl) (by kernel_rfl) (fun _ _ _ h => h) (Or.inl ⟨by rfl, fun W hSw => by (try dsimp only at hSw); go_simp⟩) g0 ?_
  try simp only [Act.put, List.setIfInBounds_toArray, List.set_cons_zero, List.set_cons_succ]
  refine wpAnyH_take (i := 35) (oi := { dst := some 42, op := Go.Op.convert 3 5 (Go.Operand.tmp 41), type := 5, pos := "psw.go:81", after := #[{ on := 34, ground := Go.Ground.data }], guard := none }) (v := .int .u8 (IntKind.u8.wrap (Q.ad / 256))) rfl (by kernel_rfl) (by kernel_rfl) (by kernel_rfl) (fun _ _ _ h => h) (Or.inl ⟨by rfl, fun W hSw => by (try dsimp only at hSw); go_simp⟩) g0 ?_
  try simp only [Act.put, List.setIfInBounds_toArray, List.set_cons_zero, List.set_cons_succ]
  refine wpAnyH_take (i := 36) (oi := { dst := some 43, op := Go.Op.fieldAddr 23 (Go.Operand.tmp 1) 9, type := 0, pos := "psw.go:81", after := #[], guard := none }) (v := .pointer (some ⟨w.heap.size, 9, none⟩)) rfl (by kernel_rfl) (by kernel_rfl) (by kernel_rfl) (fun _ _ _ h => h) (Or.inl ⟨by rfl, fun W hSw => by (try dsimp only at hSw); go_simp⟩) g0 ?_
  try simp only [Act.put, List.setIfInBounds_toArray, List.set_cons_zero, List.set_cons_succ]
  refine wpAnyH_take (i := 37) (oi := { dst := some 44, op := Go.Op.load 3 (Go.Operand.tmp 43), type := 3, pos := "psw.go:81", after := #[{ on := 36, ground := Go.Ground.data }], guard := none }) (v := .int .i64 (Q.ad)) rfl (by kernel_rfl) (by kernel_rfl) (by kernel_rfl) (fun _ _ _ h => h) (Or.inl ⟨by rfl, fun W hSw => by (try dsimp only at hSw); go_simp⟩) g0 ?_
  try simp only [Act.put, List.setIfInBounds_toArray, List.set_cons_zero, List.set_cons_succ]
  refine wpAnyH_take (i := 38) (oi := { dst := some 45, op := Go.Op.convert 3 5 (Go.Operand.tmp 44), type := 5, pos := "psw.go:81", after := #[{ on := 37, ground := Go.Ground.data }], guard := none }) (v := .int .u8 (IntKind.u8.wrap (Q.ad))) rfl (by kernel_rfl) (by kernel_rfl) (by kernel_rfl) (fun _ _ _ h => h) (Or.inl ⟨by rfl, fun W hSw => by (try dsimp only at hSw); go_simp⟩) g0 ?_
  try simp only [Act.put, List.setIfInBounds_toArray, List.set_cons_zero, List.set_cons_succ]
  refine wpAnyH_ready (rs := [8]) (by kernel_rfl) (by simp) ?_
  refine AllReadyH.cons (o := { dst := some 15, op := Go.Op.call { callee := Go.Callee.value (Go.Operand.func 26), args := #[Go.Operand.tmp 14], argTypes := #[23] }, type := 5, pos := "psw.go:83", after := #[{ on := 7, ground := Go.Ground.data }], guard := none }) rfl (fun K hK => ?_) AllReadyH.nil
  go_simp
  go_at_call 26
  refine (HF.out _).mono ?_
  rintro e w2 ⟨rfl, hb2⟩
  go_wp2_with fail
  refine hK.out _ _ (cf_next g0 hb2) (fun g1 => ?_)
  clear hK K
  try simp only [List.setIfInBounds_toArray, List.set_cons_zero, List.set_cons_succ]
  refine wpAnyH_take (i := 9) (oi := { dst := some 16, op := Go.Op.binOp Go.BinOp.or 5 (Go.Operand.tmp 13) (Go.Operand.tmp 15) 5, type := 5, pos := "psw.go:81", after := #[{ on := 6, ground := Go.Ground.data }, { on := 8, ground := Go.Ground.data }], guard := none }) (v := .int .u8 (bits .or .u8 (IntKind.u8.wrap (IntKind.i64.wrap (Q.k * 16))) (fls Q))) rfl (by kernel_rfl) (by kernel_rfl) (by kernel_rfl) (fun _ _ _ h => h) (Or.inl ⟨by rfl, fun W hSw => by (try dsimp only at hSw); go_simp⟩) g1 ?_
  try simp only [Act.put, List.setIfInBounds_toArray, List.set_cons_zero, List.set_cons_succ]
  refine wpAnyH_ready (rs := [39]) (by kernel_rfl) (by simp) ?_
  refine AllReadyH.cons (o := { dst := some 46, op := Go.Op.buildSlice 24 8 #[(0, Go.Operand.tmp 9), (1, Go.Operand.tmp 16), (2, Go.Operand.tmp 20), (3, Go.Operand.tmp 23), (4, Go.Operand.tmp 34), (5, Go.Operand.tmp 38), (6, Go.Operand.tmp 42), (7, Go.Operand.tmp 45)], type := 24, pos := "psw.go:81", after := #[{ on := 2, ground := Go.Ground.data }, { on := 9, ground := Go.Ground.data }, { on := 13, ground := Go.Ground.data }, { on := 16, ground := Go.Ground.data }, { on := 27, ground := Go.Ground.data }, { on := 31, ground := Go.Ground.data }, { on := 35, ground := Go.Ground.data }, { on := 38, ground := Go.Ground.data }], guard := none }) rfl (fun K hK => ?_) AllReadyH.nil
  go_simp
  refine hK.out _ _ (cf_next g1 (below_new _ _)) (fun g2 => ?_)
  clear hK K
  try simp only [List.setIfInBounds_toArray, List.set_cons_zero, List.set_cons_succ]
  refine wpAnyH_take (i := 40) (oi := { dst := some 2, op := Go.Op.assign (Go.Operand.tmp 46), type := 24, pos := "psw.go:81", after := #[{ on := 39, ground := Go.Ground.data }, { on := 8, ground := Go.Ground.chain }, { on := 0, ground := Go.Ground.phase }, { on := 1, ground := Go.Ground.phase }, { on := 2, ground := Go.Ground.phase }, { on := 3, ground := Go.Ground.phase }, { on := 4, ground := Go.Ground.phase }, { on := 5, ground := Go.Ground.phase }, { on := 6, ground := Go.Ground.phase }, { on := 7, ground := Go.Ground.phase }, { on := 8, ground := Go.Ground.phase }, { on := 9, ground := Go.Ground.phase }, { on := 10, ground := Go.Ground.phase }, { on := 11, ground := Go.Ground.phase }, { on := 12, ground := Go.Ground.phase }, { on := 13, ground := Go.Ground.phase }, { on := 14, ground := Go.Ground.phase }, { on := 15, ground := Go.Ground.phase }, { on := 16, ground := Go.Ground.phase }, { on := 17, ground := Go.Ground.phase }, { on := 18, ground := Go.Ground.phase }, { on := 19, ground := Go.Ground.phase }, { on := 20, ground := Go.Ground.phase }, { on := 21, ground := Go.Ground.phase }, { on := 22, ground := Go.Ground.phase }, { on := 23, ground := Go.Ground.phase }, { on := 24, ground := Go.Ground.phase }, { on := 25, ground := Go.Ground.phase }, { on := 26, ground := Go.Ground.phase }, { on := 27, ground := Go.Ground.phase }, { on := 28, ground := Go.Ground.phase }, { on := 29, ground := Go.Ground.phase }, { on := 30, ground := Go.Ground.phase }, { on := 31, ground := Go.Ground.phase }, { on := 32, ground := Go.Ground.phase }, { on := 33, ground := Go.Ground.phase }, { on := 34, ground := Go.Ground.phase }, { on := 35, ground := Go.Ground.phase }, { on := 36, ground := Go.Ground.phase }, { on := 37, ground := Go.Ground.phase }, { on := 38, ground := Go.Ground.phase }, { on := 39, ground := Go.Ground.phase }], guard := none }) (v := .slice (some ⟨w2.heap.size, 0, none⟩) 8 8) rfl (by kernel_rfl) (by kernel_rfl) (by kernel_rfl) (fun _ _ _ h => h) (Or.inl ⟨by rfl, fun W hSw => by (try dsimp only at hSw); go_simp⟩) g2 ?_
  try simp only [Act.put, List.setIfInBounds_toArray, List.set_cons_zero, List.set_cons_succ]
  refine wpAnyH_take (i := 41) (oi := { dst := some 3, op := Go.Op.assign (Go.Operand.const (Go.Value.bool true)), type := 4, pos := "psw.go:81", after := #[{ on := 40, ground := Go.Ground.chain }, { on := 0, ground := Go.Ground.phase }, { on := 1, ground := Go.Ground.phase }, { on := 2, ground := Go.Ground.phase }, { on := 3, ground := Go.Ground.phase }, { on := 4, ground := Go.Ground.phase }, { on := 5, ground := Go.Ground.phase }, { on := 6, ground := Go.Ground.phase }, { on := 7, ground := Go.Ground.phase }, { on := 8, ground := Go.Ground.phase }, { on := 9, ground := Go.Ground.phase }, { on := 10, ground := Go.Ground.phase }, { on := 11, ground := Go.Ground.phase }, { on := 12, ground := Go.Ground.phase }, { on := 13, ground := Go.Ground.phase }, { on := 14, ground := Go.Ground.phase }, { on := 15, ground := Go.Ground.phase }, { on := 16, ground := Go.Ground.phase }, { on := 17, ground := Go.Ground.phase }, { on := 18, ground := Go.Ground.phase }, { on := 19, ground := Go.Ground.phase }, { on := 20, ground := Go.Ground.phase }, { on := 21, ground := Go.Ground.phase }, { on := 22, ground := Go.Ground.phase }, { on := 23, ground := Go.Ground.phase }, { on := 24, ground := Go.Ground.phase }, { on := 25, ground := Go.Ground.phase }, { on := 26, ground := Go.Ground.phase }, { on := 27, ground := Go.Ground.phase }, { on := 28, ground := Go.Ground.phase }, { on := 29, ground := Go.Ground.phase }, { on := 30, ground := Go.Ground.phase }, { on := 31, ground := Go.Ground.phase }, { on := 32, ground := Go.Ground.phase }, { on := 33, ground := Go.Ground.phase }, { on := 34, ground := Go.Ground.phase }, { on := 35, ground := Go.Ground.phase }, { on := 36, ground := Go.Ground.phase }, { on := 37, ground := Go.Ground.phase }, { on := 38, ground := Go.Ground.phase }, { on := 39, ground := Go.Ground.phase }, { on := 40, ground := Go.Ground.phase }], guard := none }) (v := .bool true) rfl (by kernel_rfl) (by kernel_rfl) (by kernel_rfl) (fun _ _ _ h => h) (Or.inl ⟨by rfl, fun W hSw => by (try dsimp only at hSw); go_simp⟩) g2 ?_
  try simp only [Act.put, List.setIfInBounds_toArray, List.set_cons_zero, List.set_cons_succ]
  refine wpAnyH_done (by kernel_rfl) ?_ _
  refine NoPanic.normal ?_
  have HG := Lib.hid g2
  clear g0 g1 g2
  go_wp2
  go_ret2
  have hl := bel0 (bel0 (below_new w _) HX.out) HG.out.2
  rw [enc_cells Q HOK.out] at hl ⊢
  exact ⟨_, _, rfl, svb_new w2 (encL Q) (by simp [encL]), hl⟩

end E
end Go.Proofs.Ytfobmgoehamnnaa

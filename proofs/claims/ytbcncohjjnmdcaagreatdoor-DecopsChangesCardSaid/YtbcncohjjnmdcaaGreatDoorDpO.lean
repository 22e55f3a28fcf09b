/- The program's accesses to storage. -/
import Derived.Test.YtbcncohjjnmdcaaGreatDoorRows
import Derived.Test.YtbcncohjjnmdcaaGreatDoorDcField
import Derived.Test.YtbcncohjjnmdcaaGreatDoorDpPure
import Derived.Test.YtbcncohjjnmdcaaGreatDoorGnX
namespace Go.Proofs.YtbcncohjjnmdcaaGreatDoor
namespace E
end E
open Go.RowKit Go.Shelf E
set_option linter.unusedVariables false
namespace M

theorem wrap_one {n : Nat} (h : n < 256) : IntKind.i64.wrap ((n : Int) + 1) = (n : Int) + 1 := by
  unfold IntKind.wrap
  simp [IntKind.bits, IntKind.signed]
  omega
theorem endOn_yes (w : World) : Calls Tryz.prog 96 #[.int .i64 0] w fun e w' => e = .returned (.tuple #[]) ∧ w = w' := by
  go_enter Tryz.func96, Tryz.ntmps96
  go_wp2
  go_end0
  exact ⟨rfl, rfl⟩
theorem endOn_no (C : Int) (w : World) (hC : C ≠ 0) : Calls Tryz.prog 96 #[.int .i64 C] w fun e w' => e = Stop C ∧ w = w' := by
  have hn : (C != 0) = true := by simpa using hC
  have hb : (C == 0) = false := by simpa using hC
  go_enter Tryz.func96, Tryz.ntmps96
  go_wp2
  exact ⟨rfl, rfl, rfl⟩
/-- Bytes that are fetched, or a code. -/
def FchPost (w : World) (C : Int) (l : List UInt8) (e : Ending) (w' : World) : Prop := Below w.heap.size w w' ∧ ((C = 0 ∧ ∃ sv, e = .returned sv ∧ SvB w' sv l) ∨ (C ≠ 0 ∧ e = Stop C))
set_option maxRecDepth 100000 in
set_option maxHeartbeats 1000000 in
theorem second_any (E A : Nat) (q : Qn) (R : Nat → Int) (p : Psw) (c : Int) (w : World) (h : Ex w E A q R p c) (hR : RegOk R) (hq : QOk q) : Calls Tryz.prog 102 #[.pointer (some ⟨E, 0, none⟩)] w (New w (.tuple #[.int .i64 (adT q R : Int), .int .i64 ((q.l2 + 1 : Nat) : Int)])) := by
  unfold adT
  have hd := hq.d2
  have hl := hq.l2
  have hb2 := hq.b2
  have hx2 := hq.x2
  have HA : Hid (ES E A q R p c w w.drew → ∀ {x1 : World}, x1 = w.drew.alloc (.cells #[.int .i64 (q.b2 : Int), .int .i64 (q.x2 : Int)] 3) → ES E A q R p c w x1 → Calls Tryz.prog 152 #[.pointer (some ⟨E, 0, none⟩), .int .i64 (q.d2 : Int), .slice (some ⟨w.drew.heap.size, 0, none⟩) 2 2] x1 (New x1 (.int .i64 (adr R q.d2 q.b2 q.x2 : Int)))) := Lib.hid (fun _ x1 hx1 h1 => by
    have h2 := address_any E A q R p c q.d2 w.drew.heap.size 2 [q.b2, q.x2] x1 h1.2 hR (by omega) rfl (by decide) (fun k hk => by
      match k, hk with
      | 0, _ => exact hb2
      | 1, _ => exact hx2) (fun k hk => by
      subst hx1
      match k, hk with
      | 0, _ => exact Bx.cell (Bx.new w.drew 3 #[.int .i64 (q.b2 : Int), .int .i64 (q.x2 : Int)]) 0
      | 1, _ => exact Bx.cell (Bx.new w.drew 3 #[.int .i64 (q.b2 : Int), .int .i64 (q.x2 : Int)]) 1)
    rw [adr_of hR (by omega)] at h2
    exact h2)
  have H0 := Lib.hid (ES.of h)
  clear h hR hq hd hb2 hx2
  go_enter Tryz.func102, Tryz.ntmps102
  go_wp2_with fail
  refine wp_region_held_drew (S := ES E A q R p c w) (by kernel_rfl) H0.out (fun k0 => ?_)
  show wpAnyH _ _ _ _ _ 26 #[false, false, false, false, false, false, false, false, false, false, false, false, false, false, false, false, false, false, false, false, false, false, false, false, false, false] _ _
  refine wpAnyH_take (i := 0) (oi := { dst := some 4, op := Go.Op.move (Go.Operand.tmp 0), type := 90, pos := "access.go:29", after := #[], guard := none }) (v := .pointer (some ⟨E, 0, none⟩)) rfl (by kernel_rfl) (by kernel_rfl) (by kernel_rfl) (fun _ _ _ h => h) (Or.inl ⟨by rfl, fun W hSw => by (try dsimp only at hSw); go_simp⟩) k0 ?_
  try simp only [Act.put, List.setIfInBounds_toArray, List.set_cons_zero, List.set_cons_succ]
  refine wpAnyH_take (i := 1) (oi := { dst := some 5, op := Go.Op.move (Go.Operand.tmp 0), type := 90, pos := "access.go:29", after := #[], guard := none }) (v := .pointer (some ⟨E, 0, none⟩)) rfl (by kernel_rfl) (by kernel_rfl) (by kernel_rfl) (fun _ _ _ h => h) (Or.inl ⟨by rfl, fun W hSw => by (try dsimp only at hSw); go_simp⟩) k0 ?_
  try simp only [Act.put, List.setIfInBounds_toArray, List.set_cons_zero, List.set_cons_succ]
  refine wpAnyH_take (i := 2) (oi := { dst := some 6, op := Go.Op.nilCheck (Go.Operand.tmp 5), type := 0, pos := "access.go:29", after := #[{ on := 1, ground := Go.Ground.data }], guard := none }) (v := .pointer (some ⟨E, 0, none⟩)) rfl (by kernel_rfl) (by kernel_rfl) (by kernel_rfl) (fun _ _ _ h => h) (Or.inl ⟨by rfl, fun W hSw => by (try dsimp only at hSw); go_simp⟩) k0 ?_
  try simp only [Act.put, List.setIfInBounds_toArray, List.set_cons_zero, List.set_cons_succ]
  refine wpAnyH_take (i := 3) (oi := { dst := some 7, op := Go.Op.fieldAddr 76 (Go.Operand.tmp 6) 0, type := 0, pos := "access.go:29", after := #[{ on := 2, ground := Go.Ground.data }], guard := none }) (v := .pointer (some ⟨E, 0, none⟩)) rfl (by kernel_rfl) (by kernel_rfl) (by kernel_rfl) (fun _ _ _ h => h) (Or.inl ⟨by rfl, fun W hSw => by (try dsimp only at hSw); go_simp⟩) k0 ?_
  try simp only [Act.put, List.setIfInBounds_toArray, List.set_cons_zero, List.set_cons_succ]
  refine wpAnyH_take (i := 4) (oi := { dst := some 8, op := Go.Op.fieldAddr 25 (Go.Operand.tmp 7) 8, type := 0, pos := "access.go:29", after := #[{ on := 3, ground := Go.Ground.data }], guard := none }) (v := .pointer (some ⟨E, 8, none⟩)) rfl (by kernel_rfl) (by kernel_rfl) (by kernel_rfl) (fun _ _ _ h => h) (Or.inl ⟨by rfl, fun W hSw => by (try dsimp only at hSw); go_simp⟩) k0 ?_
  try simp only [Act.put, List.setIfInBounds_toArray, List.set_cons_zero, List.set_cons_succ]
  refine wpAnyH_take (i := 5) (oi := { dst := some 9, op := Go.Op.load 3 (Go.Operand.tmp 8), type := 3, pos := "access.go:29", after := #[{ on := 4, ground := Go.Ground.data }], guard := none }) (v := .int .i64 (q.d2 : Int)) rfl (by kernel_rfl) (by kernel_rfl) (by kernel_rfl) (fun _ _ _ h => h) (Or.inl ⟨by rfl, fun W hSw => by have cq := hSw.2.d2; clear hSw; go_simp⟩) k0 ?_
  try simp only [Act.put, List.setIfInBounds_toArray, List.set_cons_zero, List.set_cons_succ]
  refine wpAnyH_take (i := 6) (oi := { dst := some 10, op := Go.Op.move (Go.Operand.tmp 0), type := 90, pos := "access.go:29", after := #[], guard := none }) (v := .pointer (some ⟨E, 0, none⟩)) rfl (by kernel_rfl) (by kernel_rfl) (by kernel_rfl) (fun _ _ _ h => h) (Or.inl ⟨by rfl, fun W hSw => by (try dsimp only at hSw); go_simp⟩) k0 ?_
  try simp only [Act.put, List.setIfInBounds_toArray, List.set_cons_zero, List.set_cons_succ]
  refine wpAnyH_take (i := 7) (oi := { dst := some 11, op := Go.Op.nilCheck (Go.Operand.tmp 10), type := 0, pos := "access.go:29", after := #[{ on := 6, ground := Go.Ground.data }], guard := none }) (v := .pointer (some ⟨E, 0, none⟩)) rfl (by kernel_rfl) (by kernel_rfl) (by kernel_rfl) (fun _ _ _ h => h) (Or.inl ⟨by rfl, fun W hSw => by (try dsimp only at hSw); go_simp⟩) k0 ?_
  try simp only [Act.put, List.setIfInBounds_toArray, List.set_cons_zero, List.set_cons_succ]
  refine wpAnyH_take (i := 8) (oi := { dst := some 12, op := Go.Op.fieldAddr 76 (Go.Operand.tmp 11) 0, type := 0, pos := "access.go:29", after := #[{ on := 7, ground := Go.Ground.data }], guard := none }) (v := .pointer (some ⟨E, 0, none⟩)) rfl (by kernel_rfl) (by kernel_rfl) (by kernel_rfl) (fun _ _ _ h => h) (Or.inl ⟨by rfl, fun W hSw => by (try dsimp only at hSw); go_simp⟩) k0 ?_
  try simp only [Act.put, List.setIfInBounds_toArray, List.set_cons_zero, List.set_cons_succ]
  refine wpAnyH_take (i := 9) (oi := { dst := some 13, op := Go.Op.fieldAddr 25 (Go.Operand.tmp 12) 7, type := 0, pos := "access.go:29", after := #[{ on := 8, ground := Go.Ground.data }], guard := none }) (v := .pointer (some ⟨E, 7, none⟩)) rfl (by kernel_rfl) (by kernel_rfl) (by kernel_rfl) (fun _ _ _ h => h) (Or.inl ⟨by rfl, fun W hSw => by (try dsimp only at hSw); go_simp⟩) k0 ?_
  try simp only [Act.put, List.setIfInBounds_toArray, List.set_cons_zero, List.set_cons_succ]
  refine wpAnyH_take (i := 10) (oi := { dst := some 14, op := Go.Op.load 3 (Go.Operand.tmp 13), type := 3, pos := "access.go:29", after := #[{ on := 9, ground := Go.Ground.data }], guard := none }) (v := .int .i64 (q.b2 : Int)) rfl (by kernel_rfl) (by kernel_rfl) (by kernel_rfl) (fun _ _ _ h => h) (Or.inl ⟨by rfl, fun W hSw => by have cq := hSw.2.b2; clear hSw; go_simp⟩) k0 ?_
  try simp only [Act.put, List.setIfInBounds_toArray, List.set_cons_zero, List.set_cons_succ]
  refine wpAnyH_take (i := 11) (oi := { dst := some 15, op := Go.Op.move (Go.Operand.tmp 0), type := 90, pos := "access.go:29", after := #[], guard := none }) (v := .pointer (some ⟨E, 0, none⟩)) rfl (by kernel_rfl) (by kernel_rfl) (by kernel_rfl) (fun _ _ _ h => h) (Or.inl ⟨by rfl, fun W hSw => by (try dsimp only at hSw); go_simp⟩) k0 ?_
  try simp only [Act.put, List.setIfInBounds_toArray, List.set_cons_zero, List.set_cons_succ]
  refine wpAnyH_take (i := 12) (oi := { dst := some 16, op := Go.Op.nilCheck (Go.Operand.tmp 15), type := 0, pos := "access.go:29", after := #[{ on := 11, ground := Go.Ground.data }], guard := none }) (v := .pointer (some ⟨E, 0, none⟩)) rfl (by kernel_rfl) (by kernel_rfl) (by kernel_rfl) (fun _ _ _ h => h) (Or.inl ⟨by rfl, fun W hSw => by (try dsimp only at hSw); go_simp⟩) k0 ?_
  try simp only [Act.put, List.setIfInBounds_toArray, List.set_cons_zero, List.set_cons_succ]
  refine wpAnyH_take (i := 13) (oi := { dst := some 17, op := Go.Op.fieldAddr 76 (Go.Operand.tmp 16) 0, type := 0, pos := "access.go:29", after := #[{ on := 12, ground := Go.Ground.data }], guard := none }) (v := .pointer (some ⟨E, 0, none⟩)) rfl (by kernel_rfl) (by kernel_rfl) (by kernel_rfl) (fun _ _ _ h => h) (Or.inl ⟨by rfl, fun W hSw => by (try dsimp only at hSw); go_simp⟩) k0 ?_
  try simp only [Act.put, List.setIfInBounds_toArray, List.set_cons_zero, List.set_cons_succ]
  refine wpAnyH_take (i := 14) (oi := { dst := some 18, op := Go.Op.fieldAddr 25 (Go.Operand.tmp 17) 4, type := 0, pos := "access.go:29", after := #[{ on := 13, ground := Go.Ground.data }], guard := none }) (v := .pointer (some ⟨E, 4, none⟩)) rfl (by kernel_rfl) (by kernel_rfl) (by kernel_rfl) (fun _ _ _ h => h) (Or.inl ⟨by rfl, fun W hSw => by (try dsimp only at hSw); go_simp⟩) k0 ?_
  try simp only [Act.put, List.setIfInBounds_toArray, List.set_cons_zero, List.set_cons_succ]
  refine wpAnyH_take (i := 15) (oi := { dst := some 19, op := Go.Op.load 3 (Go.Operand.tmp 18), type := 3, pos := "access.go:29", after := #[{ on := 14, ground := Go.Ground.data }], guard := none }) (v := .int .i64 (q.x2 : Int)) rfl (by kernel_rfl) (by kernel_rfl) (by kernel_rfl) (fun _ _ _ h => h) (Or.inl ⟨by rfl, fun W hSw => by have cq := hSw.2.x2; clear hSw; go_simp⟩) k0 ?_
  try simp only [Act.put, List.setIfInBounds_toArray, List.set_cons_zero, List.set_cons_succ]
  refine wpAnyH_take (i := 18) (oi := { dst := some 22, op := Go.Op.move (Go.Operand.tmp 0), type := 90, pos := "access.go:29", after := #[{ on := 24, ground := Go.Ground.gcOnly Go.Departure.lateStores }], guard := none }) (v := .pointer (some ⟨E, 0, none⟩)) rfl (by kernel_rfl) (by kernel_rfl) (by kernel_rfl) (fun _ _ _ h => h) (Or.inl ⟨by rfl, fun W hSw => by (try dsimp only at hSw); go_simp⟩) k0 ?_
  try simp only [Act.put, List.setIfInBounds_toArray, List.set_cons_zero, List.set_cons_succ]
  refine wpAnyH_take (i := 19) (oi := { dst := some 23, op := Go.Op.nilCheck (Go.Operand.tmp 22), type := 0, pos := "access.go:29", after := #[{ on := 18, ground := Go.Ground.data }, { on := 24, ground := Go.Ground.gcOnly Go.Departure.lateStores }], guard := none }) (v := .pointer (some ⟨E, 0, none⟩)) rfl (by kernel_rfl) (by kernel_rfl) (by kernel_rfl) (fun _ _ _ h => h) (Or.inl ⟨by rfl, fun W hSw => by (try dsimp only at hSw); go_simp⟩) k0 ?_
  try simp only [Act.put, List.setIfInBounds_toArray, List.set_cons_zero, List.set_cons_succ]
  refine wpAnyH_take (i := 20) (oi := { dst := some 24, op := Go.Op.fieldAddr 76 (Go.Operand.tmp 23) 0, type := 0, pos := "access.go:29", after := #[{ on := 19, ground := Go.Ground.data }, { on := 24, ground := Go.Ground.gcOnly Go.Departure.lateStores }], guard := none }) (v := .pointer (some ⟨E, 0, none⟩)) rfl (by kernel_rfl) (by kernel_rfl) (by kernel_rfl) (fun _ _ _ h => h) (Or.inl ⟨by rfl, fun W hSw => by (try dsimp only at hSw); go_simp⟩) k0 ?_
  try simp only [Act.put, List.setIfInBounds_toArray, List.set_cons_zero, List.set_cons_succ]
  refine wpAnyH_take (i := 21) (oi := { dst := some 25, op := Go.Op.fieldAddr 25 (Go.Operand.tmp 24) 10, type := 0, pos := "access.go:29", after := #[{ on := 20, ground := Go.Ground.data }, { on := 24, ground := Go.Ground.gcOnly Go.Departure.lateStores }], guard := none }) (v := .pointer (some ⟨E, 10, none⟩)) rfl (by kernel_rfl) (by kernel_rfl) (by kernel_rfl) (fun _ _ _ h => h) (Or.inl ⟨by rfl, fun W hSw => by (try dsimp only at hSw); go_simp⟩) k0 ?_
  try simp only [Act.put, List.setIfInBounds_toArray, List.set_cons_zero, List.set_cons_succ]
  refine wpAnyH_take (i := 22) (oi := { dst := some 26, op := Go.Op.load 3 (Go.Operand.tmp 25), type := 3, pos := "access.go:29", after := #[{ on := 21, ground := Go.Ground.data }, { on := 24, ground := Go.Ground.gcOnly Go.Departure.lateStores }], guard := none }) (v := .int .i64 (q.l2 : Int)) rfl (by kernel_rfl) (by kernel_rfl) (by kernel_rfl) (fun _ _ _ h => h) (Or.inl ⟨by rfl, fun W hSw => by have cq := hSw.2.l2; clear hSw; go_simp⟩) k0 ?_
  try simp only [Act.put, List.setIfInBounds_toArray, List.set_cons_zero, List.set_cons_succ]
  refine wpAnyH_take (i := 23) (oi := { dst := some 27, op := Go.Op.binOp Go.BinOp.add 3 (Go.Operand.tmp 26) (Go.Operand.const (Go.Value.int Go.IntKind.i64 1)) 3, type := 3, pos := "access.go:29", after := #[{ on := 22, ground := Go.Ground.data }, { on := 24, ground := Go.Ground.gcOnly Go.Departure.lateStores }], guard := none }) (v := .int .i64 ((q.l2 : Int) + 1)) rfl (by kernel_rfl) (by kernel_rfl) (by kernel_rfl) (fun _ _ _ h => h) (Or.inl ⟨by rfl, fun W hSw => by clear hSw; go_simp; exact wrap_one (by omega)⟩) k0 ?_
  try simp only [Act.put, List.setIfInBounds_toArray, List.set_cons_zero, List.set_cons_succ]
  refine wpAnyH_ready (rs := [16]) (by kernel_rfl) (by simp) ?_
  refine AllReadyH.cons (o := { dst := some 20, op := Go.Op.buildSlice 66 2 #[(0, Go.Operand.tmp 14), (1, Go.Operand.tmp 19)], type := 66, pos := "access.go:29", after := #[{ on := 10, ground := Go.Ground.data }, { on := 15, ground := Go.Ground.data }], guard := none }) rfl (fun K hK => ?_) AllReadyH.nil
  go_simp
  refine hK.out _ _ (k0.next (below_new _ _)) (fun k1 => ?_)
  clear hK K
  try simp only [List.setIfInBounds_toArray, List.set_cons_zero, List.set_cons_succ]
  refine wpAnyH_ready (rs := [17]) (by kernel_rfl) (by simp) ?_
  refine AllReadyH.cons (o := { dst := some 21, op := Go.Op.call { callee := Go.Callee.value (Go.Operand.func 152), args := #[Go.Operand.tmp 4, Go.Operand.tmp 9, Go.Operand.tmp 20], argTypes := #[90, 3, 66] }, type := 3, pos := "access.go:29", after := #[{ on := 0, ground := Go.Ground.data }, { on := 5, ground := Go.Ground.data }, { on := 16, ground := Go.Ground.data }], guard := none }) rfl (fun K hK => ?_) AllReadyH.nil
  go_simp
  go_at_call 152
  refine (HA.out k0 rfl k1).mono ?_
  rintro e x2 ⟨rfl, hb⟩
  have k3 := k1.next hb
  clear hb
  go_wp2_with fail
  refine hK.out _ _ k3 (fun k2 => ?_)
  clear k3
  clear hK K
  try simp only [List.setIfInBounds_toArray, List.set_cons_zero, List.set_cons_succ]
  refine wpAnyH_take (i := 24) (oi := { dst := some 2, op := Go.Op.assign (Go.Operand.tmp 21), type := 3, pos := "access.go:29", after := #[{ on := 17, ground := Go.Ground.data }, { on := 17, ground := Go.Ground.chain }, { on := 0, ground := Go.Ground.phase }, { on := 1, ground := Go.Ground.phase }, { on := 2, ground := Go.Ground.phase }, { on := 3, ground := Go.Ground.phase }, { on := 4, ground := Go.Ground.phase }, { on := 5, ground := Go.Ground.phase }, { on := 6, ground := Go.Ground.phase }, { on := 7, ground := Go.Ground.phase }, { on := 8, ground := Go.Ground.phase }, { on := 9, ground := Go.Ground.phase }, { on := 10, ground := Go.Ground.phase }, { on := 11, ground := Go.Ground.phase }, { on := 12, ground := Go.Ground.phase }, { on := 13, ground := Go.Ground.phase }, { on := 14, ground := Go.Ground.phase }, { on := 15, ground := Go.Ground.phase }, { on := 16, ground := Go.Ground.phase }, { on := 17, ground := Go.Ground.phase }, { on := 18, ground := Go.Ground.textOnly Go.Departure.lateStores }, { on := 19, ground := Go.Ground.textOnly Go.Departure.lateStores }, { on := 20, ground := Go.Ground.textOnly Go.Departure.lateStores }, { on := 21, ground := Go.Ground.textOnly Go.Departure.lateStores }, { on := 22, ground := Go.Ground.textOnly Go.Departure.lateStores }, { on := 23, ground := Go.Ground.textOnly Go.Departure.lateStores }], guard := none }) (v := .int .i64 (adr R q.d2 q.b2 q.x2 : Int)) rfl (by kernel_rfl) (by kernel_rfl) (by kernel_rfl) (fun _ _ _ h => h) (Or.inl ⟨by rfl, fun W hSw => by (try dsimp only at hSw); go_simp⟩) k2 ?_
  try simp only [Act.put, List.setIfInBounds_toArray, List.set_cons_zero, List.set_cons_succ]
  refine wpAnyH_take (i := 25) (oi := { dst := some 3, op := Go.Op.assign (Go.Operand.tmp 27), type := 3, pos := "access.go:29", after := #[{ on := 23, ground := Go.Ground.data }, { on := 24, ground := Go.Ground.chain }, { on := 0, ground := Go.Ground.phase }, { on := 1, ground := Go.Ground.phase }, { on := 2, ground := Go.Ground.phase }, { on := 3, ground := Go.Ground.phase }, { on := 4, ground := Go.Ground.phase }, { on := 5, ground := Go.Ground.phase }, { on := 6, ground := Go.Ground.phase }, { on := 7, ground := Go.Ground.phase }, { on := 8, ground := Go.Ground.phase }, { on := 9, ground := Go.Ground.phase }, { on := 10, ground := Go.Ground.phase }, { on := 11, ground := Go.Ground.phase }, { on := 12, ground := Go.Ground.phase }, { on := 13, ground := Go.Ground.phase }, { on := 14, ground := Go.Ground.phase }, { on := 15, ground := Go.Ground.phase }, { on := 16, ground := Go.Ground.phase }, { on := 17, ground := Go.Ground.phase }, { on := 18, ground := Go.Ground.phase }, { on := 19, ground := Go.Ground.phase }, { on := 20, ground := Go.Ground.phase }, { on := 21, ground := Go.Ground.phase }, { on := 22, ground := Go.Ground.phase }, { on := 23, ground := Go.Ground.phase }, { on := 24, ground := Go.Ground.phase }], guard := none }) (v := .int .i64 ((q.l2 : Int) + 1)) rfl (by kernel_rfl) (by kernel_rfl) (by kernel_rfl) (fun _ _ _ h => h) (Or.inl ⟨by rfl, fun W hSw => by (try dsimp only at hSw); go_simp⟩) k2 ?_
  try simp only [Act.put, List.setIfInBounds_toArray, List.set_cons_zero, List.set_cons_succ]
  refine wpAnyH_done (by kernel_rfl) ?_ _
  refine id ?_
  go_wp2
  refine bodyPost_ret (results_tt rfl rfl rfl) rfl ?_
  exact ⟨rfl, k2.1⟩
set_option maxRecDepth 100000 in
set_option maxHeartbeats 1000000 in
theorem first_any (E A : Nat) (q : Qn) (R : Nat → Int) (p : Psw) (c : Int) (w : World) (h : Ex w E A q R p c) (hR : RegOk R) (hq : QOk q) : Calls Tryz.prog 99 #[.pointer (some ⟨E, 0, none⟩)] w (New w (.tuple #[.int .i64 (adF q R : Int), .int .i64 ((q.l1 + 1 : Nat) : Int)])) := by
  unfold adF
  have hd := hq.d1
  have hl := hq.l1
  have hb1 := hq.b1
  have HA : Hid (ES E A q R p c w w.drew → ∀ {x1 : World}, x1 = w.drew.alloc (.cells #[.int .i64 (q.b1 : Int)] 3) → ES E A q R p c w x1 → Calls Tryz.prog 152 #[.pointer (some ⟨E, 0, none⟩), .int .i64 (q.d1 : Int), .slice (some ⟨w.drew.heap.size, 0, none⟩) 1 1] x1 (New x1 (.int .i64 (adr R q.d1 q.b1 0 : Int)))) := Lib.hid (fun _ x1 hx1 h1 => by
    have h2 := address_any E A q R p c q.d1 w.drew.heap.size 1 [q.b1] x1 h1.2 hR (by omega) rfl (by decide) (fun k hk => by
      match k, hk with
      | 0, _ => exact hb1) (fun k hk => by
      subst hx1
      match k, hk with
      | 0, _ => exact Bx.cell (Bx.new w.drew 3 #[.int .i64 (q.b1 : Int)]) 0)
    rw [adr_of1 hR (by omega)] at h2
    exact h2)
  have H0 := Lib.hid (ES.of h)
  clear h hR hq hd hb1
  go_enter Tryz.func99, Tryz.ntmps99
  go_wp2_with fail
  refine wp_region_held_drew (S := ES E A q R p c w) (by kernel_rfl) H0.out (fun k0 => ?_)
  show wpAnyH _ _ _ _ _ 21 #[false, false, false, false, false, false, false, false, false, false, false, false, false, false, false, false, false, false, false, false, false] _ _
  refine wpAnyH_take (i := 0) (oi := { dst := some 4, op := Go.Op.move (Go.Operand.tmp 0), type := 90, pos := "access.go:24", after := #[], guard := none }) (v := .pointer (some ⟨E, 0, none⟩)) rfl (by kernel_rfl) (by kernel_rfl) (by kernel_rfl) (fun _ _ _ h => h) (Or.inl ⟨by rfl, fun W hSw => by (try dsimp only at hSw); go_simp⟩) k0 ?_
  try simp only [Act.put, List.setIfInBounds_toArray, List.set_cons_zero, List.set_cons_succ]
  refine wpAnyH_take (i := 1) (oi := { dst := some 5, op := Go.Op.move (Go.Operand.tmp 0), type := 90, pos := "access.go:24", after := #[], guard := none }) (v := .pointer (some ⟨E, 0, none⟩)) rfl (by kernel_rfl) (by kernel_rfl) (by kernel_rfl) (fun _ _ _ h => h) (Or.inl ⟨by rfl, fun W hSw => by (try dsimp only at hSw); go_simp⟩) k0 ?_
  try simp only [Act.put, List.setIfInBounds_toArray, List.set_cons_zero, List.set_cons_succ]
  refine wpAnyH_take (i := 2) (oi := { dst := some 6, op := Go.Op.nilCheck (Go.Operand.tmp 5), type := 0, pos := "access.go:24", after := #[{ on := 1, ground := Go.Ground.data }], guard := none }) (v := .pointer (some ⟨E, 0, none⟩)) rfl (by kernel_rfl) (by kernel_rfl) (by kernel_rfl) (fun _ _ _ h => h) (Or.inl ⟨by rfl, fun W hSw => by (try dsimp only at hSw); go_simp⟩) k0 ?_
  try simp only [Act.put, List.setIfInBounds_toArray, List.set_cons_zero, List.set_cons_succ]
  refine wpAnyH_take (i := 3) (oi := { dst := some 7, op := Go.Op.fieldAddr 76 (Go.Operand.tmp 6) 0, type := 0, pos := "access.go:24", after := #[{ on := 2, ground := Go.Ground.data }], guard := none }) (v := .pointer (some ⟨E, 0, none⟩)) rfl (by kernel_rfl) (by kernel_rfl) (by kernel_rfl) (fun _ _ _ h => h) (Or.inl ⟨by rfl, fun W hSw => by (try dsimp only at hSw); go_simp⟩) k0 ?_
  try simp only [Act.put, List.setIfInBounds_toArray, List.set_cons_zero, List.set_cons_succ]
  refine wpAnyH_take (i := 4) (oi := { dst := some 8, op := Go.Op.fieldAddr 25 (Go.Operand.tmp 7) 6, type := 0, pos := "access.go:24", after := #[{ on := 3, ground := Go.Ground.data }], guard := none }) (v := .pointer (some ⟨E, 6, none⟩)) rfl (by kernel_rfl) (by kernel_rfl) (by kernel_rfl) (fun _ _ _ h => h) (Or.inl ⟨by rfl, fun W hSw => by (try dsimp only at hSw); go_simp⟩) k0 ?_
  try simp only [Act.put, List.setIfInBounds_toArray, List.set_cons_zero, List.set_cons_succ]
  refine wpAnyH_take (i := 5) (oi := { dst := some 9, op := Go.Op.load 3 (Go.Operand.tmp 8), type := 3, pos := "access.go:24", after := #[{ on := 4, ground := Go.Ground.data }], guard := none }) (v := .int .i64 (q.d1 : Int)) rfl (by kernel_rfl) (by kernel_rfl) (by kernel_rfl) (fun _ _ _ h => h) (Or.inl ⟨by rfl, fun W hSw => by have cq := hSw.2.d1; clear hSw; go_simp⟩) k0 ?_
  try simp only [Act.put, List.setIfInBounds_toArray, List.set_cons_zero, List.set_cons_succ]
  refine wpAnyH_take (i := 6) (oi := { dst := some 10, op := Go.Op.move (Go.Operand.tmp 0), type := 90, pos := "access.go:24", after := #[], guard := none }) (v := .pointer (some ⟨E, 0, none⟩)) rfl (by kernel_rfl) (by kernel_rfl) (by kernel_rfl) (fun _ _ _ h => h) (Or.inl ⟨by rfl, fun W hSw => by (try dsimp only at hSw); go_simp⟩) k0 ?_
  try simp only [Act.put, List.setIfInBounds_toArray, List.set_cons_zero, List.set_cons_succ]
  refine wpAnyH_take (i := 7) (oi := { dst := some 11, op := Go.Op.nilCheck (Go.Operand.tmp 10), type := 0, pos := "access.go:24", after := #[{ on := 6, ground := Go.Ground.data }], guard := none }) (v := .pointer (some ⟨E, 0, none⟩)) rfl (by kernel_rfl) (by kernel_rfl) (by kernel_rfl) (fun _ _ _ h => h) (Or.inl ⟨by rfl, fun W hSw => by (try dsimp only at hSw); go_simp⟩) k0 ?_
  try simp only [Act.put, List.setIfInBounds_toArray, List.set_cons_zero, List.set_cons_succ]
  refine wpAnyH_take (i := 8) (oi := { dst := some 12, op := Go.Op.fieldAddr 76 (Go.Operand.tmp 11) 0, type := 0, pos := "access.go:24", after := #[{ on := 7, ground := Go.Ground.data }], guard := none }) (v := .pointer (some ⟨E, 0, none⟩)) rfl (by kernel_rfl) (by kernel_rfl) (by kernel_rfl) (fun _ _ _ h => h) (Or.inl ⟨by rfl, fun W hSw => by (try dsimp only at hSw); go_simp⟩) k0 ?_
  try simp only [Act.put, List.setIfInBounds_toArray, List.set_cons_zero, List.set_cons_succ]
  refine wpAnyH_take (i := 9) (oi := { dst := some 13, op := Go.Op.fieldAddr 25 (Go.Operand.tmp 12) 5, type := 0, pos := "access.go:24", after := #[{ on := 8, ground := Go.Ground.data }], guard := none }) (v := .pointer (some ⟨E, 5, none⟩)) rfl (by kernel_rfl) (by kernel_rfl) (by kernel_rfl) (fun _ _ _ h => h) (Or.inl ⟨by rfl, fun W hSw => by (try dsimp only at hSw); go_simp⟩) k0 ?_
  try simp only [Act.put, List.setIfInBounds_toArray, List.set_cons_zero, List.set_cons_succ]
  refine wpAnyH_take (i := 10) (oi := { dst := some 14, op := Go.Op.load 3 (Go.Operand.tmp 13), type := 3, pos := "access.go:24", after := #[{ on := 9, ground := Go.Ground.data }], guard := none }) (v := .int .i64 (q.b1 : Int)) rfl (by kernel_rfl) (by kernel_rfl) (by kernel_rfl) (fun _ _ _ h => h) (Or.inl ⟨by rfl, fun W hSw => by have cq := hSw.2.b1; clear hSw; go_simp⟩) k0 ?_
  try simp only [Act.put, List.setIfInBounds_toArray, List.set_cons_zero, List.set_cons_succ]
  refine wpAnyH_take (i := 13) (oi := { dst := some 17, op := Go.Op.move (Go.Operand.tmp 0), type := 90, pos := "access.go:24", after := #[{ on := 19, ground := Go.Ground.gcOnly Go.Departure.lateStores }], guard := none }) (v := .pointer (some ⟨E, 0, none⟩)) rfl (by kernel_rfl) (by kernel_rfl) (by kernel_rfl) (fun _ _ _ h => h) (Or.inl ⟨by rfl, fun W hSw => by (try dsimp only at hSw); go_simp⟩) k0 ?_
  try simp only [Act.put, List.setIfInBounds_toArray, List.set_cons_zero, List.set_cons_succ]
  refine wpAnyH_take (i := 14) (oi := { dst := some 18, op := Go.Op.nilCheck (Go.Operand.tmp 17), type := 0, pos := "access.go:24", after := #[{ on := 13, ground := Go.Ground.data }, { on := 19, ground := Go.Ground.gcOnly Go.Departure.lateStores }], guard := none }) (v := .pointer (some ⟨E, 0, none⟩)) rfl (by kernel_rfl) (by kernel_rfl) (by kernel_rfl) (fun _ _ _ h => h) (Or.inl ⟨by rfl, fun W hSw => by (try dsimp only at hSw); go_simp⟩) k0 ?_
  try simp only [Act.put, List.setIfInBounds_toArray, List.set_cons_zero, List.set_cons_succ]
  refine wpAnyH_take (i := 15) (oi := { dst := some 19, op := Go.Op.fieldAddr 76 (Go.Operand.tmp 18) 0, type := 0, pos := "access.go:24", after := #[{ on := 14, ground := Go.Ground.data }, { on := 19, ground := Go.Ground.gcOnly Go.Departure.lateStores }], guard := none }) (v := .pointer (some ⟨E, 0, none⟩)) rfl (by kernel_rfl) (by kernel_rfl) (by kernel_rfl) (fun _ _ _ h => h) (Or.inl ⟨by rfl, fun W hSw => by (try dsimp only at hSw); go_simp⟩) k0 ?_
  try simp only [Act.put, List.setIfInBounds_toArray, List.set_cons_zero, List.set_cons_succ]
  refine wpAnyH_take (i := 16) (oi := { dst := some 20, op := Go.Op.fieldAddr 25 (Go.Operand.tmp 19) 9, type := 0, pos := "access.go:24", after := #[{ on := 15, ground := Go.Ground.data }, { on := 19, ground := Go.Ground.gcOnly Go.Departure.lateStores }], guard := none }) (v := .pointer (some ⟨E, 9, none⟩)) rfl (by kernel_rfl) (by kernel_rfl) (by kernel_rfl) (fun _ _ _ h => h) (Or.inl ⟨by rfl, fun W hSw => by (try dsimp only at hSw); go_simp⟩) k0 ?_
  try simp only [Act.put, List.setIfInBounds_toArray, List.set_cons_zero, List.set_cons_succ]
  refine wpAnyH_take (i := 17) (oi := { dst := some 21, op := Go.Op.load 3 (Go.Operand.tmp 20), type := 3, pos := "access.go:24", after := #[{ on := 16, ground := Go.Ground.data }, { on := 19, ground := Go.Ground.gcOnly Go.Departure.lateStores }], guard := none }) (v := .int .i64 (q.l1 : Int)) rfl (by kernel_rfl) (by kernel_rfl) (by kernel_rfl) (fun _ _ _ h => h) (Or.inl ⟨by rfl, fun W hSw => by have cq := hSw.2.l1; clear hSw; go_simp⟩) k0 ?_
  try simp only [Act.put, List.setIfInBounds_toArray, List.set_cons_zero, List.set_cons_succ]
  refine wpAnyH_take (i := 18) (oi := { dst := some 22, op := Go.Op.binOp Go.BinOp.add 3 (Go.Operand.tmp 21) (Go.Operand.const (Go.Value.int Go.IntKind.i64 1)) 3, type := 3, pos := "access.go:24", after := #[{ on := 17, ground := Go.Ground.data }, { on := 19, ground := Go.Ground.gcOnly Go.Departure.lateStores }], guard := none }) (v := .int .i64 ((q.l1 : Int) + 1)) rfl (by kernel_rfl) (by kernel_rfl) (by kernel_rfl) (fun _ _ _ h => h) (Or.inl ⟨by rfl, fun W hSw => by clear hSw; go_simp; exact wrap_one (by omega)⟩) k0 ?_
  try simp only [Act.put, List.setIfInBounds_toArray, List.set_cons_zero, List.set_cons_succ]
  refine wpAnyH_ready (rs := [11]) (by kernel_rfl) (by simp) ?_
  refine AllReadyH.cons (o := { dst := some 15, op := Go.Op.buildSlice 66 1 #[(0, Go.Operand.tmp 14)], type := 66, pos := "access.go:24", after := #[{ on := 10, ground := Go.Ground.data }], guard := none }) rfl (fun K hK => ?_) AllReadyH.nil
  go_simp
  refine hK.out _ _ (k0.next (below_new _ _)) (fun k1 => ?_)
  clear hK K
  try simp only [List.setIfInBounds_toArray, List.set_cons_zero, List.set_cons_succ]
  refine wpAnyH_ready (rs := [12]) (by kernel_rfl) (by simp) ?_
  refine AllReadyH.cons (o := { dst := some 16, op := Go.Op.call { callee := Go.Callee.value (Go.Operand.func 152), args := #[Go.Operand.tmp 4, Go.Operand.tmp 9, Go.Operand.tmp 15], argTypes := #[90, 3, 66] }, type := 3, pos := "access.go:24", after := #[{ on := 0, ground := Go.Ground.data }, { on := 5, ground := Go.Ground.data }, { on := 11, ground := Go.Ground.data }], guard := none }) rfl (fun K hK => ?_) AllReadyH.nil
  go_simp
  go_at_call 152
  refine (HA.out k0 rfl k1).mono ?_
  rintro e x2 ⟨rfl, hb⟩
  have k3 := k1.next hb
  clear hb
  go_wp2_with fail
  refine hK.out _ _ k3 (fun k2 => ?_)
  clear k3
  clear hK K
  try simp only [List.setIfInBounds_toArray, List.set_cons_zero, List.set_cons_succ]
  refine wpAnyH_take (i := 19) (oi := { dst := some 2, op := Go.Op.assign (Go.Operand.tmp 16), type := 3, pos := "access.go:24", after := #[{ on := 12, ground := Go.Ground.data }, { on := 12, ground := Go.Ground.chain }, { on := 0, ground := Go.Ground.phase }, { on := 1, ground := Go.Ground.phase }, { on := 2, ground := Go.Ground.phase }, { on := 3, ground := Go.Ground.phase }, { on := 4, ground := Go.Ground.phase }, { on := 5, ground := Go.Ground.phase }, { on := 6, ground := Go.Ground.phase }, { on := 7, ground := Go.Ground.phase }, { on := 8, ground := Go.Ground.phase }, { on := 9, ground := Go.Ground.phase }, { on := 10, ground := Go.Ground.phase }, { on := 11, ground := Go.Ground.phase }, { on := 12, ground := Go.Ground.phase }, { on := 13, ground := Go.Ground.textOnly Go.Departure.lateStores }, { on := 14, ground := Go.Ground.textOnly Go.Departure.lateStores }, { on := 15, ground := Go.Ground.textOnly Go.Departure.lateStores }, { on := 16, ground := Go.Ground.textOnly Go.Departure.lateStores }, { on := 17, ground := Go.Ground.textOnly Go.Departure.lateStores }, { on := 18, ground := Go.Ground.textOnly Go.Departure.lateStores }], guard := none }) (v := .int .i64 (adr R q.d1 q.b1 0 : Int)) rfl (by kernel_rfl) (by kernel_rfl) (by kernel_rfl) (fun _ _ _ h => h) (Or.inl ⟨by rfl, fun W hSw => by (try dsimp only at hSw); go_simp⟩) k2 ?_
  try simp only [Act.put, List.setIfInBounds_toArray, List.set_cons_zero, List.set_cons_succ]
  refine wpAnyH_take (i := 20) (oi := { dst := some 3, op := Go.Op.assign (Go.Operand.tmp 22), type := 3, pos := "access.go:24", after := #[{ on := 18, ground := Go.Ground.data }, { on := 19, ground := Go.Ground.chain }, { on := 0, ground := Go.Ground.phase }, { on := 1, ground := Go.Ground.phase }, { on := 2, ground := Go.Ground.phase }, { on := 3, ground := Go.Ground.phase }, { on := 4, ground := Go.Ground.phase }, { on := 5, ground := Go.Ground.phase }, { on := 6, ground := Go.Ground.phase }, { on := 7, ground := Go.Ground.phase }, { on := 8, ground := Go.Ground.phase }, { on := 9, ground := Go.Ground.phase }, { on := 10, ground := Go.Ground.phase }, { on := 11, ground := Go.Ground.phase }, { on := 12, ground := Go.Ground.phase }, { on := 13, ground := Go.Ground.phase }, { on := 14, ground := Go.Ground.phase }, { on := 15, ground := Go.Ground.phase }, { on := 16, ground := Go.Ground.phase }, { on := 17, ground := Go.Ground.phase }, { on := 18, ground := Go.Ground.phase }, { on := 19, ground := Go.Ground.phase }], guard := none }) (v := .int .i64 ((q.l1 : Int) + 1)) rfl (by kernel_rfl) (by kernel_rfl) (by kernel_rfl) (fun _ _ _ h => h) (Or.inl ⟨by rfl, fun W hSw => by (try dsimp only at hSw); go_simp⟩) k2 ?_
  try simp only [Act.put, List.setIfInBounds_toArray, List.set_cons_zero, List.set_cons_succ]
  refine wpAnyH_done (by kernel_rfl) ?_ _
  refine id ?_
  go_wp2
  refine bodyPost_ret (results_tt rfl rfl rfl) rfl ?_
  exact ⟨rfl, k2.1⟩
set_option maxRecDepth 100000 in
set_option maxHeartbeats 1000000 in
theorem fetch_post (E A : Nat) (q : Qn) (R : Nat → Int) (p : Psw) (c : Int) (g h n m : Nat) (bs ks : List UInt8) (a k : Nat) (C : Int) (w : World) (hx : Ex w E A q R p c) (hs : Sto w A g h n m bs ks) (ha : a < 33554432) (hc : ftC p n ks a k = C) : Calls Tryz.prog 94 #[.pointer (some ⟨E, 0, none⟩), .int .i64 (a : Int), .int .i64 (k : Int)] w (FchPost w C (subL bs a k)) := by
  have HF : Hid (∀ W, Below w.heap.size w W → Calls Tryz.prog 150 #[.pointer (some ⟨A, 0, none⟩), .int .i64 (a : Int), .int .i64 (k : Int), .int .i64 p.k] W fun e W' => ∃ sv, e = .returned (.tuple #[sv, .int .i64 C]) ∧ (C = 0 → SvB W' sv (subL bs a k)) ∧ Below W.heap.size W W') := Lib.hid (fun W hb => by
    have h1 := fetch_any A g h n m (a : Int) (k : Int) p.k bs ks W (by omega) (hs.below hb)
    unfold fetL at h1
    unfold ftC at hc
    rw [hc] at h1
    refine h1.mono ?_
    rintro e W' ⟨sv, rfl, hh, hb2⟩
    refine ⟨sv, rfl, fun h0 => ?_, hb2⟩
    rw [if_pos h0] at hh
    exact hh.svb)
  have H0 := Lib.hid (ES.of hx)
  have HR := Lib.hid endOn_yes
  have HN := Lib.hid (endOn_no C)
  clear hx hs hc
  go_enter Tryz.func94, Tryz.ntmps94
  go_wp2_with fail
  refine wp_region_held_drew (S := ES E A q R p c w) (by kernel_rfl) H0.out (fun k0 => ?_)
  show wpAnyH _ _ _ _ _ 17 #[false, false, false, false, false, false, false, false, false, false, false, false, false, false, false, false, false] _ _
  refine wpAnyH_take (i := 0) (oi := { dst := some 10, op := Go.Op.move (Go.Operand.tmp 0), type := 90, pos := "access.go:43", after := #[], guard := none }) (v := .pointer (some ⟨E, 0, none⟩)) rfl (by kernel_rfl) (by kernel_rfl) (by kernel_rfl) (fun _ _ _ h => h) (Or.inl ⟨by rfl, fun W hSw => by (try dsimp only at hSw); go_simp⟩) k0 ?_
  try simp only [Act.put, List.setIfInBounds_toArray, List.set_cons_zero, List.set_cons_succ]
  refine wpAnyH_take (i := 1) (oi := { dst := some 11, op := Go.Op.nilCheck (Go.Operand.tmp 10), type := 0, pos := "access.go:43", after := #[{ on := 0, ground := Go.Ground.data }], guard := none }) (v := .pointer (some ⟨E, 0, none⟩)) rfl (by kernel_rfl) (by kernel_rfl) (by kernel_rfl) (fun _ _ _ h => h) (Or.inl ⟨by rfl, fun W hSw => by (try dsimp only at hSw); go_simp⟩) k0 ?_
  try simp only [Act.put, List.setIfInBounds_toArray, List.set_cons_zero, List.set_cons_succ]
  refine wpAnyH_take (i := 2) (oi := { dst := some 12, op := Go.Op.fieldAddr 76 (Go.Operand.tmp 11) 3, type := 0, pos := "access.go:43", after := #[{ on := 1, ground := Go.Ground.data }], guard := none }) (v := .pointer (some ⟨E, 38, none⟩)) rfl (by kernel_rfl) (by kernel_rfl) (by kernel_rfl) (fun _ _ _ h => h) (Or.inl ⟨by rfl, fun W hSw => by (try dsimp only at hSw); go_simp⟩) k0 ?_
  try simp only [Act.put, List.setIfInBounds_toArray, List.set_cons_zero, List.set_cons_succ]
  refine wpAnyH_take (i := 3) (oi := { dst := some 13, op := Go.Op.load 37 (Go.Operand.tmp 12), type := 37, pos := "access.go:43", after := #[{ on := 2, ground := Go.Ground.data }], guard := none }) (v := .pointer (some ⟨A, 0, none⟩)) rfl (by kernel_rfl) (by kernel_rfl) (by kernel_rfl) (fun _ _ _ h => h) (Or.inl ⟨by rfl, fun W hSw => by have cq := hSw.2.sp; clear hSw; go_simp⟩) k0 ?_
  try simp only [Act.put, List.setIfInBounds_toArray, List.set_cons_zero, List.set_cons_succ]
  refine wpAnyH_take (i := 4) (oi := { dst := some 14, op := Go.Op.move (Go.Operand.tmp 1), type := 3, pos := "access.go:43", after := #[], guard := none }) (v := .int .i64 (a : Int)) rfl (by kernel_rfl) (by kernel_rfl) (by kernel_rfl) (fun _ _ _ h => h) (Or.inl ⟨by rfl, fun W hSw => by (try dsimp only at hSw); go_simp⟩) k0 ?_
  try simp only [Act.put, List.setIfInBounds_toArray, List.set_cons_zero, List.set_cons_succ]
  refine wpAnyH_take (i := 5) (oi := { dst := some 15, op := Go.Op.move (Go.Operand.tmp 2), type := 3, pos := "access.go:43", after := #[], guard := none }) (v := .int .i64 (k : Int)) rfl (by kernel_rfl) (by kernel_rfl) (by kernel_rfl) (fun _ _ _ h => h) (Or.inl ⟨by rfl, fun W hSw => by (try dsimp only at hSw); go_simp⟩) k0 ?_
  try simp only [Act.put, List.setIfInBounds_toArray, List.set_cons_zero, List.set_cons_succ]
  refine wpAnyH_take (i := 6) (oi := { dst := some 16, op := Go.Op.move (Go.Operand.tmp 0), type := 90, pos := "access.go:43", after := #[], guard := none }) (v := .pointer (some ⟨E, 0, none⟩)) rfl (by kernel_rfl) (by kernel_rfl) (by kernel_rfl) (fun _ _ _ h => h) (Or.inl ⟨by rfl, fun W hSw => by (try dsimp only at hSw); go_simp⟩) k0 ?_
  try simp only [Act.put, List.setIfInBounds_toArray, List.set_cons_zero, List.set_cons_succ]
  refine wpAnyH_take (i := 7) (oi := { dst := some 17, op := Go.Op.nilCheck (Go.Operand.tmp 16), type := 0, pos := "access.go:43", after := #[{ on := 6, ground := Go.Ground.data }], guard := none }) (v := .pointer (some ⟨E, 0, none⟩)) rfl (by kernel_rfl) (by kernel_rfl) (by kernel_rfl) (fun _ _ _ h => h) (Or.inl ⟨by rfl, fun W hSw => by (try dsimp only at hSw); go_simp⟩) k0 ?_
  try simp only [Act.put, List.setIfInBounds_toArray, List.set_cons_zero, List.set_cons_succ]
  refine wpAnyH_take (i := 8) (oi := { dst := some 18, op := Go.Op.fieldAddr 76 (Go.Operand.tmp 17) 2, type := 0, pos := "access.go:43", after := #[{ on := 7, ground := Go.Ground.data }], guard := none }) (v := .pointer (some ⟨E, 28, none⟩)) rfl (by kernel_rfl) (by kernel_rfl) (by kernel_rfl) (fun _ _ _ h => h) (Or.inl ⟨by rfl, fun W hSw => by (try dsimp only at hSw); go_simp⟩) k0 ?_
  try simp only [Act.put, List.setIfInBounds_toArray, List.set_cons_zero, List.set_cons_succ]
  refine wpAnyH_take (i := 9) (oi := { dst := some 19, op := Go.Op.fieldAddr 30 (Go.Operand.tmp 18) 1, type := 0, pos := "access.go:43", after := #[{ on := 8, ground := Go.Ground.data }], guard := none }) (v := .pointer (some ⟨E, 29, none⟩)) rfl (by kernel_rfl) (by kernel_rfl) (by kernel_rfl) (fun _ _ _ h => h) (Or.inl ⟨by rfl, fun W hSw => by (try dsimp only at hSw); go_simp⟩) k0 ?_
  try simp only [Act.put, List.setIfInBounds_toArray, List.set_cons_zero, List.set_cons_succ]
  refine wpAnyH_take (i := 10) (oi := { dst := some 20, op := Go.Op.load 3 (Go.Operand.tmp 19), type := 3, pos := "access.go:43", after := #[{ on := 9, ground := Go.Ground.data }], guard := none }) (v := .int .i64 p.k) rfl (by kernel_rfl) (by kernel_rfl) (by kernel_rfl) (fun _ _ _ h => h) (Or.inl ⟨by rfl, fun W hSw => by have cq := hSw.2.pk; clear hSw; go_simp⟩) k0 ?_
  try simp only [Act.put, List.setIfInBounds_toArray, List.set_cons_zero, List.set_cons_succ]
  refine wpAnyH_ready (rs := [11]) (by kernel_rfl) (by simp) ?_
  refine AllReadyH.cons (o := { dst := some 21, op := Go.Op.call { callee := Go.Callee.value (Go.Operand.func 150), args := #[Go.Operand.tmp 13, Go.Operand.tmp 14, Go.Operand.tmp 15, Go.Operand.tmp 20], argTypes := #[37, 3, 3, 3] }, type := 118, pos := "access.go:43", after := #[{ on := 3, ground := Go.Ground.data }, { on := 4, ground := Go.Ground.data }, { on := 5, ground := Go.Ground.data }, { on := 10, ground := Go.Ground.data }], guard := none }) rfl (fun K hK => ?_) AllReadyH.nil
  go_simp
  go_at_call 150
  refine (HF.out _ k0.1).mono ?_
  rintro e x1 ⟨sv, rfl, hh, hb⟩
  have k2 := k0.next hb
  have HH := Lib.hid hh
  clear hb hh
  go_wp2_with fail
  refine hK.out _ _ k2 (fun k1 => ?_)
  clear k2
  clear hK K
  try simp only [List.setIfInBounds_toArray, List.set_cons_zero, List.set_cons_succ]
  refine wpAnyH_take (i := 12) (oi := { dst := some 9, op := Go.Op.move (Go.Operand.tmp 21), type := 118, pos := "access.go:43", after := #[{ on := 11, ground := Go.Ground.data }], guard := none }) (v := .tuple #[sv, .int .i64 C]) rfl (by kernel_rfl) (by kernel_rfl) (by kernel_rfl) (fun _ _ _ h => h) (Or.inl ⟨by rfl, fun W hSw => by (try dsimp only at hSw); go_simp⟩) k1 ?_
  try simp only [Act.put, List.setIfInBounds_toArray, List.set_cons_zero, List.set_cons_succ]
  refine wpAnyH_take (i := 13) (oi := { dst := some 22, op := Go.Op.extract (Go.Operand.tmp 9) 0, type := 31, pos := "access.go:43", after := #[{ on := 12, ground := Go.Ground.data }], guard := none }) (v := sv) rfl (by kernel_rfl) (by kernel_rfl) (by kernel_rfl) (fun _ _ _ h => h) (Or.inl ⟨by rfl, fun W hSw => by (try dsimp only at hSw); go_simp⟩) k1 ?_
  try simp only [Act.put, List.setIfInBounds_toArray, List.set_cons_zero, List.set_cons_succ]
  refine wpAnyH_take (i := 14) (oi := { dst := some 23, op := Go.Op.extract (Go.Operand.tmp 9) 1, type := 3, pos := "access.go:43", after := #[{ on := 12, ground := Go.Ground.data }, { on := 15, ground := Go.Ground.gcOnly Go.Departure.lateStores }], guard := none }) (v := .int .i64 C) rfl (by kernel_rfl) (by kernel_rfl) (by kernel_rfl) (fun _ _ _ h => h) (Or.inl ⟨by rfl, fun W hSw => by (try dsimp only at hSw); go_simp⟩) k1 ?_
  try simp only [Act.put, List.setIfInBounds_toArray, List.set_cons_zero, List.set_cons_succ]
  refine wpAnyH_take (i := 15) (oi := { dst := some 7, op := Go.Op.assign (Go.Operand.tmp 22), type := 31, pos := "access.go:43", after := #[{ on := 13, ground := Go.Ground.data }, { on := 11, ground := Go.Ground.chain }, { on := 0, ground := Go.Ground.phase }, { on := 1, ground := Go.Ground.phase }, { on := 2, ground := Go.Ground.phase }, { on := 3, ground := Go.Ground.phase }, { on := 4, ground := Go.Ground.phase }, { on := 5, ground := Go.Ground.phase }, { on := 6, ground := Go.Ground.phase }, { on := 7, ground := Go.Ground.phase }, { on := 8, ground := Go.Ground.phase }, { on := 9, ground := Go.Ground.phase }, { on := 10, ground := Go.Ground.phase }, { on := 11, ground := Go.Ground.phase }, { on := 12, ground := Go.Ground.phase }, { on := 13, ground := Go.Ground.phase }, { on := 14, ground := Go.Ground.textOnly Go.Departure.lateStores }], guard := none }) (v := sv) rfl (by kernel_rfl) (by kernel_rfl) (by kernel_rfl) (fun _ _ _ h => h) (Or.inl ⟨by rfl, fun W hSw => by (try dsimp only at hSw); go_simp⟩) k1 ?_
  try simp only [Act.put, List.setIfInBounds_toArray, List.set_cons_zero, List.set_cons_succ]
  refine wpAnyH_take (i := 16) (oi := { dst := some 8, op := Go.Op.assign (Go.Operand.tmp 23), type := 3, pos := "access.go:43", after := #[{ on := 14, ground := Go.Ground.data }, { on := 15, ground := Go.Ground.chain }, { on := 0, ground := Go.Ground.phase }, { on := 1, ground := Go.Ground.phase }, { on := 2, ground := Go.Ground.phase }, { on := 3, ground := Go.Ground.phase }, { on := 4, ground := Go.Ground.phase }, { on := 5, ground := Go.Ground.phase }, { on := 6, ground := Go.Ground.phase }, { on := 7, ground := Go.Ground.phase }, { on := 8, ground := Go.Ground.phase }, { on := 9, ground := Go.Ground.phase }, { on := 10, ground := Go.Ground.phase }, { on := 11, ground := Go.Ground.phase }, { on := 12, ground := Go.Ground.phase }, { on := 13, ground := Go.Ground.phase }, { on := 14, ground := Go.Ground.phase }, { on := 15, ground := Go.Ground.phase }], guard := none }) (v := .int .i64 C) rfl (by kernel_rfl) (by kernel_rfl) (by kernel_rfl) (fun _ _ _ h => h) (Or.inl ⟨by rfl, fun W hSw => by (try dsimp only at hSw); go_simp⟩) k1 ?_
  try simp only [Act.put, List.setIfInBounds_toArray, List.set_cons_zero, List.set_cons_succ]
  refine wpAnyH_done (by kernel_rfl) ?_ _
  refine id ?_
  have HB := Lib.hid k1.1
  clear k0 k1 H0 HF
  by_cases h0 : C = 0
  · subst h0
    have HS := Lib.hid (HH.out rfl)
    clear HH
    go_wp2_with fail
    refine (HR.out _).mono ?_
    rintro e w3 ⟨rfl, rfl⟩
    go_wp2
    go_ret
    exact ⟨HB.out, .inl ⟨rfl, sv, rfl, HS.out⟩⟩
  · go_wp2_with fail
    refine (HN.out _ h0).mono ?_
    rintro e w3 ⟨rfl, rfl⟩
    unfold Stop
    go_wp2
    exact ⟨rfl, HB.out, .inr ⟨h0, rfl⟩⟩
set_option maxRecDepth 100000 in
set_option maxHeartbeats 1000000 in
theorem put_post (E A : Nat) (q : Qn) (R : Nat → Int) (p : Psw) (c : Int) (g h n m : Nat) (bs ks : List UInt8) (a : Nat) (v : Value) (b : List UInt8) (C : Int) (w : World) (hx : Ex w E A q R p c) (hs : Sto w A g h n m bs ks) (hv : SvB w v b) (ha : a < 33554432) (hc : stC p n ks a b.length = C) : Calls Tryz.prog 97 #[.pointer (some ⟨E, 0, none⟩), .int .i64 (a : Int), v] w fun e w' => ((C = 0 ∧ e = .returned (.tuple #[])) ∨ (C ≠ 0 ∧ e = Stop C)) ∧ Ex w' E A q R p c ∧ Sto w' A g h n m (if C = 0 then putL bs a b else bs) ks ∧ Kp w w' [g] := by
  obtain ⟨hne, hng, hnh⟩ := hx.ne_sto hs
  have HF : Hid (∀ W, (PS E A q R p c g w W ∧ Sto W A g h n m bs ks ∧ SvB W v b) → Calls Tryz.prog 27 #[.pointer (some ⟨A, 0, none⟩), .int .i64 (a : Int), v, .int .i64 p.k] W fun e W' => e = .returned (.int .i64 C) ∧ (PS E A q R p c g w W' ∧ Sto W' A g h n m (if C = 0 then putL bs a b else bs) ks)) := Lib.hid (fun W hW => by
    have h1 := put_any A g h n m (a : Int) p.k v b bs ks W (by omega) hW.2.1 hW.2.2
    unfold stC at hc
    unfold putB at h1
    rw [hc] at h1
    refine h1.mono ?_
    rintro e W' ⟨rfl, hk, hst⟩
    exact ⟨rfl, hW.1.next hk hng, hst⟩)
  have H0 : Hid (PS E A q R p c g w w.drew ∧ Sto w.drew A g h n m bs ks ∧ SvB w.drew v b) := Lib.hid ⟨⟨kp_drew w _, hx.drew⟩, hs.below (bel_drew w), hv.below (bel_drew w)⟩
  have HR := Lib.hid endOn_yes
  have HN := Lib.hid (endOn_no C)
  clear hx hs hv hne hng hnh hc
  generalize (if C = 0 then putL bs a b else bs) = bs' at HF ⊢
  go_enter Tryz.func97, Tryz.ntmps97
  go_wp2_with fail
  refine wp_region_held_drew (S := fun W => PS E A q R p c g w W) (by kernel_rfl) H0.out.1 (fun k0 => ?_)
  show wpAnyH _ _ _ _ _ 13 #[false, false, false, false, false, false, false, false, false, false, false, false, false] _ _
  refine wpAnyH_take (i := 0) (oi := { dst := some 6, op := Go.Op.move (Go.Operand.tmp 0), type := 90, pos := "access.go:57", after := #[], guard := none }) (v := .pointer (some ⟨E, 0, none⟩)) rfl (by kernel_rfl) (by kernel_rfl) (by kernel_rfl) (fun _ _ _ h => h) (Or.inl ⟨by rfl, fun W hSw => by (try dsimp only at hSw); go_simp⟩) k0 ?_
  try simp only [Act.put, List.setIfInBounds_toArray, List.set_cons_zero, List.set_cons_succ]
  refine wpAnyH_take (i := 1) (oi := { dst := some 7, op := Go.Op.nilCheck (Go.Operand.tmp 6), type := 0, pos := "access.go:57", after := #[{ on := 0, ground := Go.Ground.data }], guard := none }) (v := .pointer (some ⟨E, 0, none⟩)) rfl (by kernel_rfl) (by kernel_rfl) (by kernel_rfl) (fun _ _ _ h => h) (Or.inl ⟨by rfl, fun W hSw => by (try dsimp only at hSw); go_simp⟩) k0 ?_
  try simp only [Act.put, List.setIfInBounds_toArray, List.set_cons_zero, List.set_cons_succ]
  refine wpAnyH_take (i := 2) (oi := { dst := some 8, op := Go.Op.fieldAddr 76 (Go.Operand.tmp 7) 3, type := 0, pos := "access.go:57", after := #[{ on := 1, ground := Go.Ground.data }], guard := none }) (v := .pointer (some ⟨E, 38, none⟩)) rfl (by kernel_rfl) (by kernel_rfl) (by kernel_rfl) (fun _ _ _ h => h) (Or.inl ⟨by rfl, fun W hSw => by (try dsimp only at hSw); go_simp⟩) k0 ?_
  try simp only [Act.put, List.setIfInBounds_toArray, List.set_cons_zero, List.set_cons_succ]
  refine wpAnyH_take (i := 3) (oi := { dst := some 9, op := Go.Op.load 37 (Go.Operand.tmp 8), type := 37, pos := "access.go:57", after := #[{ on := 2, ground := Go.Ground.data }], guard := none }) (v := .pointer (some ⟨A, 0, none⟩)) rfl (by kernel_rfl) (by kernel_rfl) (by kernel_rfl) (fun _ _ _ h => h) (Or.inl ⟨by rfl, fun W hSw => by have cq := hSw.2.sp; clear hSw; go_simp⟩) k0 ?_
  try simp only [Act.put, List.setIfInBounds_toArray, List.set_cons_zero, List.set_cons_succ]
  refine wpAnyH_take (i := 4) (oi := { dst := some 10, op := Go.Op.move (Go.Operand.tmp 1), type := 3, pos := "access.go:57", after := #[], guard := none }) (v := .int .i64 (a : Int)) rfl (by kernel_rfl) (by kernel_rfl) (by kernel_rfl) (fun _ _ _ h => h) (Or.inl ⟨by rfl, fun W hSw => by (try dsimp only at hSw); go_simp⟩) k0 ?_
  try simp only [Act.put, List.setIfInBounds_toArray, List.set_cons_zero, List.set_cons_succ]
  refine wpAnyH_take (i := 5) (oi := { dst := some 11, op := Go.Op.move (Go.Operand.tmp 2), type := 31, pos := "access.go:57", after := #[], guard := none }) (v := v) rfl (by kernel_rfl) (by kernel_rfl) (by kernel_rfl) (fun _ _ _ h => h) (Or.inl ⟨by rfl, fun W hSw => by (try dsimp only at hSw); go_simp⟩) k0 ?_
  try simp only [Act.put, List.setIfInBounds_toArray, List.set_cons_zero, List.set_cons_succ]
  refine wpAnyH_take (i := 6) (oi := { dst := some 12, op := Go.Op.move (Go.Operand.tmp 0), type := 90, pos := "access.go:57", after := #[], guard := none }) (v := .pointer (some ⟨E, 0, none⟩)) rfl (by kernel_rfl) (by kernel_rfl) (by kernel_rfl) (fun _ _ _ h => h) (Or.inl ⟨by rfl, fun W hSw => by (try dsimp only at hSw); go_simp⟩) k0 ?_
  try simp only [Act.put, List.setIfInBounds_toArray, List.set_cons_zero, List.set_cons_succ]
  refine wpAnyH_take (i := 7) (oi := { dst := some 13, op := Go.Op.nilCheck (Go.Operand.tmp 12), type := 0, pos := "access.go:57", after := #[{ on := 6, ground := Go.Ground.data }], guard := none }) (v := .pointer (some ⟨E, 0, none⟩)) rfl (by kernel_rfl) (by kernel_rfl) (by kernel_rfl) (fun _ _ _ h => h) (Or.inl ⟨by rfl, fun W hSw => by (try dsimp only at hSw); go_simp⟩) k0 ?_
  try simp only [Act.put, List.setIfInBounds_toArray, List.set_cons_zero, List.set_cons_succ]
  refine wpAnyH_take (i := 8) (oi := { dst := some 14, op := Go.Op.fieldAddr 76 (Go.Operand.tmp 13) 2, type := 0, pos := "access.go:57", after := #[{ on := 7, ground := Go.Ground.data }], guard := none }) (v := .pointer (some ⟨E, 28, none⟩)) rfl (by kernel_rfl) (by kernel_rfl) (by kernel_rfl) (fun _ _ _ h => h) (Or.inl ⟨by rfl, fun W hSw => by (try dsimp only at hSw); go_simp⟩) k0 ?_
  try simp only [Act.put, List.setIfInBounds_toArray, List.set_cons_zero, List.set_cons_succ]
  refine wpAnyH_take (i := 9) (oi := { dst := some 15, op := Go.Op.fieldAddr 30 (Go.Operand.tmp 14) 1, type := 0, pos := "access.go:57", after := #[{ on := 8, ground := Go.Ground.data }], guard := none }) (v := .pointer (some ⟨E, 29, none⟩)) rfl (by kernel_rfl) (by kernel_rfl) (by kernel_rfl) (fun _ _ _ h => h) (Or.inl ⟨by rfl, fun W hSw => by (try dsimp only at hSw); go_simp⟩) k0 ?_
  try simp only [Act.put, List.setIfInBounds_toArray, List.set_cons_zero, List.set_cons_succ]
  refine wpAnyH_take (i := 10) (oi := { dst := some 16, op := Go.Op.load 3 (Go.Operand.tmp 15), type := 3, pos := "access.go:57", after := #[{ on := 9, ground := Go.Ground.data }], guard := none }) (v := .int .i64 p.k) rfl (by kernel_rfl) (by kernel_rfl) (by kernel_rfl) (fun _ _ _ h => h) (Or.inl ⟨by rfl, fun W hSw => by have cq := hSw.2.pk; clear hSw; go_simp⟩) k0 ?_
  try simp only [Act.put, List.setIfInBounds_toArray, List.set_cons_zero, List.set_cons_succ]
  refine wpAnyH_ready (rs := [11]) (by kernel_rfl) (by simp) ?_
  refine AllReadyH.cons (o := { dst := some 17, op := Go.Op.call { callee := Go.Callee.value (Go.Operand.func 27), args := #[Go.Operand.tmp 9, Go.Operand.tmp 10, Go.Operand.tmp 11, Go.Operand.tmp 16], argTypes := #[37, 3, 31, 3] }, type := 3, pos := "access.go:57", after := #[{ on := 3, ground := Go.Ground.data }, { on := 4, ground := Go.Ground.data }, { on := 5, ground := Go.Ground.data }, { on := 10, ground := Go.Ground.data }], guard := none }) rfl (fun K hK => ?_) AllReadyH.nil
  go_simp
  go_at_call 27
  refine (HF.out _ H0.out).mono ?_
  rintro e x1 ⟨rfl, k2⟩
  have HS := Lib.hid k2.2
  have k3 := k2.1
  clear k2
  go_wp2_with fail
  refine hK.out _ _ k3 (fun k1 => ?_)
  clear k3
  clear hK K
  try simp only [List.setIfInBounds_toArray, List.set_cons_zero, List.set_cons_succ]
  refine wpAnyH_ready (rs := [12]) (by kernel_rfl) (by simp) ?_
  refine AllReadyH.cons (o := { dst := some 18, op := Go.Op.call { callee := Go.Callee.value (Go.Operand.func 96), args := #[Go.Operand.tmp 17], argTypes := #[3] }, type := 0, pos := "access.go:57", after := #[{ on := 11, ground := Go.Ground.data }, { on := 11, ground := Go.Ground.chain }], guard := none }) rfl (fun K hK => ?_) AllReadyH.nil
  by_cases h0 : C = 0
  rotate_left
  · go_simp
    go_at_call 96
    refine (HN.out _ h0).mono ?_
    rintro e x2 ⟨rfl, rfl⟩
    unfold Stop
    go_wp2_with fail
    exact ⟨rfl, .inr ⟨h0, rfl⟩, k1.2, HS.out, k1.1⟩
  subst h0
  go_simp
  go_at_call 96
  refine (HR.out _).mono ?_
  rintro e x2 ⟨rfl, rfl⟩
  go_wp2_with fail
  refine hK.out _ _ k1 (fun k4 => ?_)
  clear hK K
  try simp only [List.setIfInBounds_toArray, List.set_cons_zero, List.set_cons_succ]
  refine wpAnyH_done (by kernel_rfl) ?_ _
  refine id ?_
  go_wp2
  go_end0
  exact ⟨rfl, k4.2, HS.out, k4.1⟩

end M
end Go.Proofs.YtbcncohjjnmdcaaGreatDoor
namespace Go.Proofs.YtbcncohjjnmdcaaGreatDoor
namespace E
end E
open Go.RowKit Go.Shelf E
set_option linter.unusedVariables false
namespace M

theorem ex_u8 (A : Nat) (q : Qn) (R : Nat → Int) (p : Psw) (c : Int) (i : Nat) (x : Int) : (exA A q R p c)[i]? ≠ some (.int .u8 x) := by
  intro e
  have h := Array.mem_of_getElem? e
  simp [exA] at h
theorem svb_ex {w : World} {E A : Nat} {q : Qn} {R : Nat → Int} {p : Psw} {c : Int} (hx : Ex w E A q R p c) {v : Value} {b : List UInt8} (hv : SvB w v b) (i : Nat) (u : Value) : SvB (w.setCell ⟨E, i, none⟩ u) v b := by
  obtain ⟨a, k, h1, h2, h3⟩ := hv
  refine ⟨a, k, h1, ?_, h3⟩
  rcases h2 with h2 | ⟨B, off, rfl, hc⟩
  · exact .inl h2
  · by_cases h0 : b.length = 0
    · exact .inl (List.length_eq_zero_iff.1 h0)
    · refine .inr ⟨B, off, rfl, fun j hj => ?_⟩
      have hne : B ≠ E := fun e => by
        have h5 := hc 0 (by omega)
        rw [e, Bx.cell hx] at h5
        exact ex_u8 A q R p c _ _ h5
      rw [← hc j hj]
      have h6 := heap_setCell_other w ⟨E, i, none⟩ B u (fun e => hne (by simpa using e))
      simp only [World.cell?, h6]
/-- What replacing leaves. -/
def PutPost2 (w : World) (E A : Nat) (q : Qn) (R : Nat → Int) (p : Psw) (g h n m : Nat) (bs ks : List UInt8) (c : Int) (a : Nat) (b : List UInt8) (C : Int) (e : Ending) (w' : World) : Prop := ((C = 0 ∧ e = .returned (.tuple #[])) ∨ (C ≠ 0 ∧ e = Stop C)) ∧ Ex w' E A q R p c ∧ Sto w' A g h n m (if C = 0 then putL bs a b else bs) ks ∧ Kp w w' [g]
set_option maxRecDepth 100000 in
set_option maxHeartbeats 1000000 in
theorem replace_post (E A : Nat) (q : Qn) (R : Nat → Int) (p : Psw) (g h n m : Nat) (bs ks : List UInt8) (c : Int) (v : Value) (b : List UInt8) (C : Int) (w : World) (hx : Ex w E A q R p c) (hs : Sto w A g h n m bs ks) (hv : SvB w v b) (hR : RegOk R) (hq : QOk q) (hc : stC p n ks (adF q R) b.length = C) : Calls Tryz.prog 100 #[.pointer (some ⟨E, 0, none⟩), v] w (PutPost2 w E A q R p g h n m bs ks c (adF q R) b C) := by
  unfold PutPost2
  have HF := Lib.hid (first_any E A q R p c w hx hR hq)
  have HP : Hid (∀ W, Below w.heap.size w W → Calls Tryz.prog 97 #[.pointer (some ⟨E, 0, none⟩), .int .i64 (adF q R : Int), v] W fun e w' => ((C = 0 ∧ e = .returned (.tuple #[])) ∨ (C ≠ 0 ∧ e = Stop C)) ∧ Ex w' E A q R p c ∧ Sto w' A g h n m (if C = 0 then putL bs (adF q R) b else bs) ks ∧ Kp w w' [g]) := Lib.hid (fun W hb => (put_post E A q R p c g h n m bs ks (adF q R) v b C W (hx.below hb) (hs.below hb) (hv.below hb) (by have := adF_lt q R; omega) hc).mono (fun e w' h => ⟨h.1, h.2.1, h.2.2.1, (Kp.bel hb).trans h.2.2.2⟩))
  clear hx hs hv hR hq hc
  generalize (if C = 0 then putL bs (adF q R) b else bs) = bs' at HP ⊢
  generalize adF q R = a1 at HF HP
  generalize q.l1 + 1 = k1 at HF
  go_enter Tryz.func100, Tryz.ntmps100
  go_wp2_with fail
  refine HF.out.mono ?_
  rintro e w1 ⟨rfl, hb⟩
  have HQ := Lib.hid (HP.out w1 hb)
  clear hb HP HF
  go_wp2_with fail
  refine HQ.out.mono ?_
  rintro e w2 ⟨hE, h2⟩
  have H2 := Lib.hid h2
  clear h2 HQ
  rcases hE with ⟨hC, rfl⟩ | ⟨hC, rfl⟩
  · go_wp2
    go_end0
    exact ⟨.inl ⟨hC, rfl⟩, H2.out⟩
  · unfold Stop
    go_wp2
    exact ⟨rfl, .inr ⟨hC, rfl⟩, H2.out⟩
/-- Both operands, or a code. -/
def OpsPost (w : World) (C : Int) (x y : List UInt8) (e : Ending) (w' : World) : Prop := Below w.heap.size w w' ∧ ((C = 0 ∧ ∃ s t, e = .returned (.tuple #[s, t]) ∧ SvB w' s x ∧ SvB w' t y) ∨ (C ≠ 0 ∧ e = Stop C))
theorem fX {E A : Nat} {q : Qn} {R : Nat → Int} {p : Psw} {c : Int} {g h n m : Nat} {bs ks : List UInt8} {w : World} (hx : Ex w E A q R p c) (hs : Sto w A g h n m bs ks) : ∀ W, Below w.heap.size w W → Calls Tryz.prog 94 #[.pointer (some ⟨E, 0, none⟩), .int .i64 (adF q R : Int), .int .i64 ((q.l1 + 1 : Nat) : Int)] W (FchPost W (cX q R p n ks) (opX q R bs)) := fun W hb => fetch_post E A q R p c g h n m bs ks (adF q R) (q.l1 + 1) _ W (hx.below hb) (hs.below hb) (by have := adF_lt q R; omega) rfl
theorem fY {E A : Nat} {q : Qn} {R : Nat → Int} {p : Psw} {c : Int} {g h n m : Nat} {bs ks : List UInt8} {w : World} (hx : Ex w E A q R p c) (hs : Sto w A g h n m bs ks) : ∀ W, Below w.heap.size w W → Calls Tryz.prog 94 #[.pointer (some ⟨E, 0, none⟩), .int .i64 (adT q R : Int), .int .i64 ((q.l2 + 1 : Nat) : Int)] W (FchPost W (cY q R p n ks) (opY q R bs)) := fun W hb => fetch_post E A q R p c g h n m bs ks (adT q R) (q.l2 + 1) _ W (hx.below hb) (hs.below hb) (by have := adT_lt q R; omega) rfl
set_option maxRecDepth 100000 in
set_option maxHeartbeats 1000000 in
theorem operands_post (E A : Nat) (q : Qn) (R : Nat → Int) (p : Psw) (g h n m : Nat) (bs ks : List UInt8) (c : Int) (w : World) (hx : Ex w E A q R p c) (hs : Sto w A g h n m bs ks) (hR : RegOk R) (hq : QOk q) : Calls Tryz.prog 105 #[.pointer (some ⟨E, 0, none⟩)] w (OpsPost w (cXY q R p n ks) (opX q R bs) (opY q R bs)) := by
  unfold OpsPost cXY
  have HF := Lib.hid (fun W (hb : Below w.heap.size w W) => first_any E A q R p c W (hx.below hb) hR hq)
  have HS := Lib.hid (fun W (hb : Below w.heap.size w W) => second_any E A q R p c W (hx.below hb) hR hq)
  have H1 := Lib.hid (fX hx hs)
  have H2 := Lib.hid (fY hx hs)
  clear hx hs hR hq
  generalize opX q R bs = x at H1 ⊢
  generalize opY q R bs = y at H2 ⊢
  generalize cX q R p n ks = C1 at H1 ⊢
  generalize cY q R p n ks = C2 at H2 ⊢
  generalize adF q R = a1 at HF H1
  generalize adT q R = a2 at HS H2
  generalize q.l1 + 1 = k1 at HF H1
  generalize q.l2 + 1 = k2 at HS H2
  by_cases hC1 : C1 = 0
  · rw [if_pos hC1]
    go_enter Tryz.func105, Tryz.ntmps105
    go_wp2_with fail
    refine (HF.out _ (Below.refl _ _)).mono ?_
    rintro e w1 ⟨rfl, hb⟩
    have HB1 := Lib.hid hb
    clear hb HF
    go_wp2_with fail
    refine (H1.out _ HB1.out).mono ?_
    rintro e w2 ⟨hb, hE⟩
    have HB2 := Lib.hid (bel0 HB1.out hb)
    clear hb HB1 H1
    rcases hE with ⟨_, sx, rfl, hv⟩ | ⟨h, _⟩
    rotate_left
    · exact absurd hC1 h
    have HV := Lib.hid hv
    clear hv
    go_wp2_with fail
    refine (HS.out _ HB2.out).mono ?_
    rintro e w3 ⟨rfl, hb⟩
    have HB3 := Lib.hid (bel0 HB2.out hb)
    have HV3 := Lib.hid (HV.out.below hb)
    clear hb HB2 HS HV
    go_wp2_with fail
    refine (H2.out _ HB3.out).mono ?_
    rintro e w4 ⟨hb, hE⟩
    have HB4 := Lib.hid (bel0 HB3.out hb)
    have HV4 := Lib.hid (HV3.out.below hb)
    clear hb HB3 H2 HV3
    rcases hE with ⟨hC2, sy, rfl, hv⟩ | ⟨hC2, rfl⟩
    · have HY := Lib.hid hv
      clear hv
      go_wp2
      refine bodyPost_ret (results_tt rfl rfl rfl) rfl ?_
      exact ⟨HB4.out, .inl ⟨hC2, sx, sy, rfl, HV4.out, HY.out⟩⟩
    · unfold Stop
      go_wp2
      exact ⟨rfl, HB4.out, .inr ⟨hC2, rfl⟩⟩
  · rw [if_neg hC1]
    go_enter Tryz.func105, Tryz.ntmps105
    go_wp2_with fail
    refine (HF.out _ (Below.refl _ _)).mono ?_
    rintro e w1 ⟨rfl, hb⟩
    have HB1 := Lib.hid hb
    clear hb HF
    go_wp2_with fail
    refine (H1.out _ HB1.out).mono ?_
    rintro e w2 ⟨hb, hE⟩
    have HB2 := Lib.hid (bel0 HB1.out hb)
    clear hb HB1 H1
    rcases hE with ⟨h, _⟩ | ⟨_, rfl⟩
    · exact absurd h hC1
    · clear HS H2
      unfold Stop
      go_wp2
      exact ⟨rfl, HB2.out, .inr ⟨hC1, rfl⟩⟩
set_option maxRecDepth 100000 in
set_option maxHeartbeats 2000000 in
theorem become_ten (E A : Nat) (q : Qn) (R : Nat → Int) (p : Psw) (g h n m : Nat) (bs ks : List UInt8) (field : Value) (l : List UInt8) (cc : Int) (w : World) (hx : Ex w E A q R p 0) (hs : Sto w A g h n m bs ks) (hv : SvB w field l) (hR0 : RegOk R) (hq0 : QOk q) : Calls Tryz.prog 106 #[.pointer (some ⟨E, 0, none⟩), field, .int .i64 cc, .int .i64 10] w (ActPost w E A g h n m q bs ks (becO q R p n bs ks l cc 10)) := by
  have hR := Lib.hid hR0
  have hq := Lib.hid hq0
  have c0 := hx.pm
  have c1 := hx.pk
  have c2 := hx.pma
  have c3 := hx.pwa
  have c4 := hx.ppr
  have c5 := hx.pco
  have c6 := hx.pil
  have c7 := hx.pcc
  have c8 := hx.ppg
  have c9 := hx.pad
  have HA : Hid (∀ W, Calls Tryz.prog 160 #[.agg #[.int .i64 p.m, .int .i64 p.k, .bool p.ma, .bool p.wa, .bool p.pr, .int .i64 p.co, .int .i64 p.il, .int .i64 p.cc, .int .i64 p.pg, .int .i64 p.ad], .int .i64 3, .int .i64 10, .int .i64 0] W (New W (.bool (adB p 3 10 0)))) := Lib.hid (fun W => adm_any _ 3 10 0 W)
  obtain ⟨v1, v2, v3⟩ := hx.ne_sto hs
  have HNE := Lib.hid (And.intro v1 (And.intro v2 v3))
  have HX0 := Lib.hid hx
  have HS0 := Lib.hid hs
  have HV0 := Lib.hid hv
  have HO0 : Hid (becO q R p n bs ks l cc 10 = putO p n bs ks (adF q R) R { p with cc := cc } (if adB p 3 10 0 = true then 10 else 0) l) := Lib.hid (by
    unfold becO enC ovC
    rw [if_pos rfl, thenO_go _ rfl]
    simp)
  clear hx hs hv hR0 hq0 v1 v2 v3
  generalize adB p 3 10 0 = B at HA HO0
  go_enter Tryz.func106, Tryz.ntmps106
  go_wp2_with fail
  refine (HA.out _).mono ?_
  clear HA
  rintro e w1 ⟨rfl, hb⟩
  have HX1 := Lib.hid (HX0.out.below hb)
  have HS1 := Lib.hid (HS0.out.below hb)
  have HV1 := Lib.hid (HV0.out.below hb)
  have HK1 : Hid (Kp w w1 [E, g]) := Lib.hid (Kp.bel hb)
  clear hb c0 c1 c2 c3 c4 c5 c6 c7 c8 c9 HX0 HS0 HV0
  cases B with
  | false =>
    have HO := HO0
    rw [if_neg (by simp)] at HO
    have HX := HX1
    have HS := HS1
    have HV := HV1
    have HK := HK1
    clear HO0 HX1 HS1 HV1 HK1 HNE
    obtain ⟨t1, t2, t3⟩ := HX.out.ne_sto HS.out
    have HP := Lib.hid (replace_post E A q R p g h n m bs ks 0 field l (stC p n ks (adF q R) l.length) _ HX.out HS.out HV.out hR.out hq.out rfl)
    have HFIN : Hid (∀ w2, Ex w2 E A q R p 0 → Sto w2 A g h n m (putL bs (adF q R) l) ks → Kp w1 w2 [g] → stC p n ks (adF q R) l.length = 0 → w2.cell? ⟨E, 35, none⟩ = some (.int .i64 p.cc) ∧ w2.frozen? ⟨E, 35, none⟩ = false ∧ ActPost w E A g h n m q bs ks (becO q R p n bs ks l cc 10) (.returned (.tuple #[])) (w2.setCell ⟨E, 35, none⟩ (.int .i64 cc))) := Lib.hid (fun w2 hx2 hs2 hk2 h0 => by
      rw [HO.out]
      unfold putO
      rw [thenO_go _ h0]
      exact ⟨hx2.pcc, hx2.fz 35, rfl, hx2.setCc cc, Sto.far hs2 t1 t2 t3 _, (HK.out.trans (Kp.more2 hk2)).trans (kp_set _ _ _ _ _ (by simp))⟩)
    have HBAD : Hid (∀ w2, Sto w2 A g h n m bs ks → Kp w1 w2 [g] → stC p n ks (adF q R) l.length ≠ 0 → ActPost w E A g h n m q bs ks (becO q R p n bs ks l cc 10) (Stop (stC p n ks (adF q R) l.length)) w2) := Lib.hid (fun w2 hs2 hk2 h0 => by
      rw [HO.out]
      unfold putO
      rw [thenO_stop _ h0]
      exact ⟨rfl, hs2, HK.out.trans (Kp.more2 hk2)⟩)
    clear t1 t2 t3 HX HS HV HK HO hR hq
    generalize stC p n ks (adF q R) l.length = C at HP HFIN HBAD
    generalize adF q R = a1 at HP HFIN
    go_wp2_with fail
    refine HP.out.mono ?_
    rintro e w9 ⟨hE, hx9, hs9, hk9⟩
    rcases hE with ⟨hC, rfl⟩ | ⟨hC, rfl⟩
    · rw [if_pos hC] at hs9
      obtain ⟨z1, z2, z3⟩ := HFIN.out w9 hx9 hs9 hk9 hC
      have HZ := Lib.hid z3
      clear hx9 hs9 hk9 z3 HFIN HBAD HP hC
      go_wp2
      go_end0
      exact HZ.out
    · rw [if_neg hC] at hs9
      have HZ := Lib.hid (HBAD.out w9 hs9 hk9 hC)
      clear hx9 hs9 hk9 HFIN HBAD HP
      unfold Stop at HZ ⊢
      go_wp2
      exact ⟨rfl, HZ.out⟩
  | true =>
    have HO := HO0
    rw [if_pos rfl] at HO
    have d1 := HX1.out.cd
    have d2 := HX1.out.fz 39
    obtain ⟨w3, hw3⟩ : ∃ w3, w3 = w1.setCell ⟨E, 39, none⟩ (.int .i64 10) := ⟨_, rfl⟩
    have HX : Hid (Ex w3 E A q R p 10) := Lib.hid (by rw [hw3]; exact HX1.out.setCd 10)
    have HS : Hid (Sto w3 A g h n m bs ks) := Lib.hid (by rw [hw3]; exact Sto.far HS1.out HNE.out.1 HNE.out.2.1 HNE.out.2.2 _)
    have HV : Hid (SvB w3 field l) := Lib.hid (by rw [hw3]; exact svb_ex HX1.out HV1.out 39 _)
    have HK : Hid (Kp w w3 [E, g]) := Lib.hid (by rw [hw3]; exact HK1.out.trans (kp_set _ _ _ _ _ (by simp)))
    have HW := Lib.hid hw3
    clear HO0 HX1 HS1 HV1 HK1 HNE hw3
    go_wp2_with fail
    rw [← HW.out]
    clear HW d1 d2
    obtain ⟨t1, t2, t3⟩ := HX.out.ne_sto HS.out
    have HP := Lib.hid (replace_post E A q R p g h n m bs ks 10 field l (stC p n ks (adF q R) l.length) _ HX.out HS.out HV.out hR.out hq.out rfl)
    have HFIN : Hid (∀ w2, Ex w2 E A q R p 10 → Sto w2 A g h n m (putL bs (adF q R) l) ks → Kp w3 w2 [g] → stC p n ks (adF q R) l.length = 0 → w2.cell? ⟨E, 35, none⟩ = some (.int .i64 p.cc) ∧ w2.frozen? ⟨E, 35, none⟩ = false ∧ ActPost w E A g h n m q bs ks (becO q R p n bs ks l cc 10) (.returned (.tuple #[])) (w2.setCell ⟨E, 35, none⟩ (.int .i64 cc))) := Lib.hid (fun w2 hx2 hs2 hk2 h0 => by
      rw [HO.out]
      unfold putO
      rw [thenO_go _ h0]
      exact ⟨hx2.pcc, hx2.fz 35, rfl, hx2.setCc cc, Sto.far hs2 t1 t2 t3 _, (HK.out.trans (Kp.more2 hk2)).trans (kp_set _ _ _ _ _ (by simp))⟩)
    have HBAD : Hid (∀ w2, Sto w2 A g h n m bs ks → Kp w3 w2 [g] → stC p n ks (adF q R) l.length ≠ 0 → ActPost w E A g h n m q bs ks (becO q R p n bs ks l cc 10) (Stop (stC p n ks (adF q R) l.length)) w2) := Lib.hid (fun w2 hs2 hk2 h0 => by
      rw [HO.out]
      unfold putO
      rw [thenO_stop _ h0]
      exact ⟨rfl, hs2, HK.out.trans (Kp.more2 hk2)⟩)
    clear t1 t2 t3 HX HS HV HK HO hR hq
    generalize stC p n ks (adF q R) l.length = C at HP HFIN HBAD
    generalize adF q R = a1 at HP HFIN
    go_wp2_with fail
    refine HP.out.mono ?_
    rintro e w9 ⟨hE, hx9, hs9, hk9⟩
    rcases hE with ⟨hC, rfl⟩ | ⟨hC, rfl⟩
    · rw [if_pos hC] at hs9
      obtain ⟨z1, z2, z3⟩ := HFIN.out w9 hx9 hs9 hk9 hC
      have HZ := Lib.hid z3
      clear hx9 hs9 hk9 z3 HFIN HBAD HP hC
      go_wp2
      go_end0
      exact HZ.out
    · rw [if_neg hC] at hs9
      have HZ := Lib.hid (HBAD.out w9 hs9 hk9 hC)
      clear hx9 hs9 hk9 HFIN HBAD HP
      unfold Stop at HZ ⊢
      go_wp2
      exact ⟨rfl, HZ.out⟩
set_option maxRecDepth 100000 in
set_option maxHeartbeats 2000000 in
theorem become_not (E A : Nat) (q : Qn) (R : Nat → Int) (p : Psw) (g h n m : Nat) (bs ks : List UInt8) (field : Value) (l : List UInt8) (cc code : Int) (h10 : code ≠ 10) (w : World) (hx : Ex w E A q R p 0) (hs : Sto w A g h n m bs ks) (hv : SvB w field l) (hR0 : RegOk R) (hq0 : QOk q) : Calls Tryz.prog 106 #[.pointer (some ⟨E, 0, none⟩), field, .int .i64 cc, .int .i64 code] w (ActPost w E A g h n m q bs ks (becO q R p n bs ks l cc code)) := by
  have hR := Lib.hid hR0
  have hq := Lib.hid hq0
  have n10 : (code != 10) = true := by simpa using h10
  have m10 : (code == 10) = false := by simpa using h10
  have HY := Lib.hid endOn_yes
  have HN := Lib.hid (endOn_no code)
  by_cases h0 : code = 0
  · subst h0
    have HX := Lib.hid hx
    have HS := Lib.hid hs
    have HV := Lib.hid hv
    have HK := Lib.hid (Kp.refl w [E, g])
    have HO : Hid (becO q R p n bs ks l cc 0 = putO p n bs ks (adF q R) R { p with cc := cc } 0 l) := Lib.hid (by
      unfold becO enC ovC
      rw [if_neg (by decide), thenO_go _ rfl, if_neg (by simp)])
    clear hx hs hv hR0 hq0 HN
    go_enter Tryz.func106, Tryz.ntmps106
    go_wp2_with fail
    refine (HY.out _).mono ?_
    rintro e w1 ⟨rfl, rfl⟩
    clear HY
    obtain ⟨t1, t2, t3⟩ := HX.out.ne_sto HS.out
    have HP := Lib.hid (replace_post E A q R p g h n m bs ks 0 field l (stC p n ks (adF q R) l.length) _ HX.out HS.out HV.out hR.out hq.out rfl)
    have HFIN : Hid (∀ w2, Ex w2 E A q R p 0 → Sto w2 A g h n m (putL bs (adF q R) l) ks → Kp w w2 [g] → stC p n ks (adF q R) l.length = 0 → w2.cell? ⟨E, 35, none⟩ = some (.int .i64 p.cc) ∧ w2.frozen? ⟨E, 35, none⟩ = false ∧ ActPost w E A g h n m q bs ks (becO q R p n bs ks l cc 0) (.returned (.tuple #[])) (w2.setCell ⟨E, 35, none⟩ (.int .i64 cc))) := Lib.hid (fun w2 hx2 hs2 hk2 h0 => by
      rw [HO.out]
      unfold putO
      rw [thenO_go _ h0]
      exact ⟨hx2.pcc, hx2.fz 35, rfl, hx2.setCc cc, Sto.far hs2 t1 t2 t3 _, (HK.out.trans (Kp.more2 hk2)).trans (kp_set _ _ _ _ _ (by simp))⟩)
    have HBAD : Hid (∀ w2, Sto w2 A g h n m bs ks → Kp w w2 [g] → stC p n ks (adF q R) l.length ≠ 0 → ActPost w E A g h n m q bs ks (becO q R p n bs ks l cc 0) (Stop (stC p n ks (adF q R) l.length)) w2) := Lib.hid (fun w2 hs2 hk2 h0 => by
      rw [HO.out]
      unfold putO
      rw [thenO_stop _ h0]
      exact ⟨rfl, hs2, HK.out.trans (Kp.more2 hk2)⟩)
    clear t1 t2 t3 HX HS HV HK HO hR hq
    generalize stC p n ks (adF q R) l.length = C at HP HFIN HBAD
    generalize adF q R = a1 at HP HFIN
    go_wp2_with fail
    refine HP.out.mono ?_
    rintro e w9 ⟨hE, hx9, hs9, hk9⟩
    rcases hE with ⟨hC, rfl⟩ | ⟨hC, rfl⟩
    · rw [if_pos hC] at hs9
      obtain ⟨z1, z2, z3⟩ := HFIN.out w9 hx9 hs9 hk9 hC
      have HZ := Lib.hid z3
      clear hx9 hs9 hk9 z3 HFIN HBAD HP hC
      go_wp2
      go_end0
      exact HZ.out
    · rw [if_neg hC] at hs9
      have HZ := Lib.hid (HBAD.out w9 hs9 hk9 hC)
      clear hx9 hs9 hk9 HFIN HBAD HP
      unfold Stop at HZ ⊢
      go_wp2
      exact ⟨rfl, HZ.out⟩
  · have HO : Hid (ActPost w E A g h n m q bs ks (becO q R p n bs ks l cc code) (Stop code) w) := Lib.hid (by
      unfold becO enC
      rw [if_neg h10, thenO_stop _ h0]
      exact ⟨rfl, hs, Kp.refl w _⟩)
    clear hx hs hv hR0 hq0 HY hR hq
    generalize becO q R p n bs ks l cc code = o at HO ⊢
    go_enter Tryz.func106, Tryz.ntmps106
    go_wp2_with fail
    refine (HN.out _ h0).mono ?_
    rintro e w1 ⟨rfl, rfl⟩
    unfold Stop at HO ⊢
    go_wp2
    exact ⟨rfl, HO.out⟩
theorem become_post (E A : Nat) (q : Qn) (R : Nat → Int) (p : Psw) (g h n m : Nat) (bs ks : List UInt8) (field : Value) (l : List UInt8) (cc code : Int) (w : World) (hx : Ex w E A q R p 0) (hs : Sto w A g h n m bs ks) (hv : SvB w field l) (hR : RegOk R) (hq : QOk q) : Calls Tryz.prog 106 #[.pointer (some ⟨E, 0, none⟩), field, .int .i64 cc, .int .i64 code] w (ActPost w E A g h n m q bs ks (becO q R p n bs ks l cc code)) := by
  by_cases h10 : code = 10
  · subst h10
    exact become_ten E A q R p g h n m bs ks field l cc w hx hs hv hR hq
  · exact become_not E A q R p g h n m bs ks field l cc code h10 w hx hs hv hR hq

end M
end Go.Proofs.YtbcncohjjnmdcaaGreatDoor
namespace Go.Proofs.YtbcncohjjnmdcaaGreatDoor
namespace E
end E
open Go.RowKit Go.Shelf E
set_option linter.unusedVariables false
namespace M

/-- What an instruction comes to on a storage of given bytes and keys. -/
def Runs (q : Qn) (R : Nat → Int) (p : Psw) (n : Nat) (bs ks : List UInt8) (o : Out) : Prop :=
  Nz o ∧ ∃ f, Go.Proofs.Enters Tryz.prog f ∧ (∀ X, Calls Tryz.prog 28 #[.int .i64 (q.op : Int)] X fun e X' => e = .returned (fnV f) ∧ X = X') ∧
    ∀ E A g h m X, Sg X → Ex X E A q R p 0 → Sto X A g h n m bs ks → Calls Tryz.prog f #[.pointer (some ⟨E, 0, none⟩)] X (ActPost X E A g h n m q bs ks o)
theorem exec_of {q : Qn} {R : Nat → Int} {p : Psw} {A g h n m : Nat} {bs ks : List UInt8} {o : Out} {w : World} (hs : Sto w A g h n m bs ks) (hg : Sg w) (hc : chkV q.ins = 0) (ho : okB p = true) (hr : Runs q R p n bs ks o) : Calls Tryz.prog 15 #[q.ins.val, .agg (regA R), .agg (pswA p), .pointer (some ⟨A, 0, none⟩)] w (ExPost w A g h n m R p bs ks o) := by
  obtain ⟨hz, f, hf, hact, hA⟩ := hr
  exact exec_main q R p A g h n m bs ks f o w hs hg hz hf hc ho hact (fun E X hgX hX hsX => hA E A g h m X hgX hX hsX)
theorem act_cases {w : World} {E A g h n m : Nat} {q : Qn} {bs ks : List UInt8} {o : Out} {e : Ending} {w' : World} (hp : ActPost w E A g h n m q bs ks o e w') : e = .returned (.tuple #[]) ∨ ∃ C, e = Stop C := by
  cases o with
  | stop C => exact .inr ⟨C, hp.1⟩
  | go R p c b => exact .inl hp.1
theorem act_below {w W : World} {E A g h n m : Nat} {q : Qn} {bs ks : List UInt8} {o : Out} {e : Ending} {w' : World} (hb : Below w.heap.size w W) (hp : ActPost W E A g h n m q bs ks o e w') : ActPost w E A g h n m q bs ks o e w' := by
  cases o with
  | stop C => exact ⟨hp.1, hp.2.1, (Kp.bel hb).trans hp.2.2⟩
  | go R p c b => exact ⟨hp.1, hp.2.1, hp.2.2.1, (Kp.bel hb).trans hp.2.2.2⟩
theorem act_stop {w W : World} {E A g h n m : Nat} (q : Qn) {bs ks : List UInt8} {C : Int} (o : Out) (hs : Sto w A g h n m bs ks) (hb : Below w.heap.size w W) (hC : C ≠ 0) : ActPost w E A g h n m q bs ks (thenO C o) (Stop C) W := by
  rw [thenO_stop _ hC]
  exact ⟨rfl, hs.below hb, Kp.bel hb⟩
theorem act_put {w W : World} {E A g h n m : Nat} {q : Qn} {R : Nat → Int} {p : Psw} {bs ks : List UInt8} {a : Nat} {b : List UInt8} {C : Int} {e : Ending} {w' : World} (hb : Below w.heap.size w W) (hC : stC p n ks a b.length = C) (hp : PutPost2 W E A q R p g h n m bs ks 0 a b C e w') : ActPost w E A g h n m q bs ks (putO p n bs ks a R p 0 b) e w' := by
  obtain ⟨h1, h2, h3, h4⟩ := hp
  unfold putO
  rw [hC]
  rcases h1 with ⟨h0, rfl⟩ | ⟨h0, rfl⟩
  · rw [thenO_go _ h0]
    rw [if_pos h0] at h3
    exact ⟨rfl, h2, h3, (Kp.bel hb).trans (Kp.more2 h4)⟩
  · rw [thenO_stop _ h0]
    rw [if_neg h0] at h3
    exact ⟨rfl, h3, (Kp.bel hb).trans (Kp.more2 h4)⟩

end M
end Go.Proofs.YtbcncohjjnmdcaaGreatDoor

/- The program: fields of bytes that replace each other. -/
import Derived.Test.YtfopjnfphlkcgaaGreatRows
import Derived.Test.YtfopjnfphlkcgaaGreatGnOpd
namespace Go.Proofs.YtfopjnfphlkcgaaGreat
namespace E
end E
open Go.RowKit Go.Shelf E
set_option linter.unusedVariables false
namespace M

set_option maxRecDepth 100000 in
set_option maxHeartbeats 1000000 in
theorem fields_any (E A : Nat) (q : Qn) (R : Nat → Int) (p : Psw) (c : Int) (w : World) (h : Ex w E A q R p c) (hR : RegOk R) (hq : QOk q) : Calls Tryz.prog 163 #[.pointer (some ⟨E, 0, none⟩)] w (New w (.tuple #[.int .i64 (adF q R : Int), .int .i64 (adT q R : Int), .int .i64 ((q.l1 + 1 : Nat) : Int)])) := by
  have HA : Hid (∀ X, ES E A q R p c w X → Calls Tryz.prog 159 #[.pointer (some ⟨E, 0, none⟩)] X (New X (.int .i64 (adF q R : Int)))) := Lib.hid (fun X hX => fir_any E A q R p c X hX.2 hR hq)
  have HS : Hid (∀ X, ES E A q R p c w X → Calls Tryz.prog 143 #[.pointer (some ⟨E, 0, none⟩)] X (New X (.int .i64 (adT q R : Int)))) := Lib.hid (fun X hX => sec_any E A q R p c X hX.2 hR hq)
  have hl := hq.l1
  have hw : IntKind.i64.wrap ((q.l1 : Int) + 1) = ((q.l1 + 1 : Nat) : Int) := by rw [W.wrap_i64]; omega
  obtain ⟨l', hl'⟩ : ∃ l', l' = q.l1 + 1 := ⟨_, rfl⟩
  rw [← hl'] at hw ⊢
  have HE := Lib.hid (ES.of h)
  clear h hR hq hl hl'
  go_enter Tryz.func163, Tryz.ntmps163
  go_wp2_with fail
  refine wp_region_held_drew (S := ES E A q R p c w) (by kernel_rfl) HE.out (fun k0 => ?_)
  show wpAnyH _ _ _ _ _ 13 #[false, false, false, false, false, false, false, false, false, false, false, false, false] _ _
  refine wpAnyH_take (i := 0) (oi := ⟨some 5, _, _, _, _, _⟩) (v := .pointer (some ⟨E, 0, none⟩)) rfl (by kernel_rfl) (by kernel_rfl) (by kernel_rfl) (fun _ _ _ h => h) (Or.inl ⟨by rfl, fun W hSw => by (try dsimp only at hSw); go_simp⟩) k0 ?_
  try simp only [Act.put, List.setIfInBounds_toArray, List.set_cons_zero, List.set_cons_succ]
  refine wpAnyH_take (i := 2) (oi := ⟨some 7, _, _, _, _, _⟩) (v := .pointer (some ⟨E, 0, none⟩)) rfl (by kernel_rfl) (by kernel_rfl) (by kernel_rfl) (fun _ _ _ h => h) (Or.inl ⟨by rfl, fun W hSw => by (try dsimp only at hSw); go_simp⟩) k0 ?_
  try simp only [Act.put, List.setIfInBounds_toArray, List.set_cons_zero, List.set_cons_succ]
  refine wpAnyH_take (i := 4) (oi := ⟨some 9, _, _, _, _, _⟩) (v := .pointer (some ⟨E, 0, none⟩)) rfl (by kernel_rfl) (by kernel_rfl) (by kernel_rfl) (fun _ _ _ h => h) (Or.inl ⟨by rfl, fun W hSw => by (try dsimp only at hSw); go_simp⟩) k0 ?_
  try simp only [Act.put, List.setIfInBounds_toArray, List.set_cons_zero, List.set_cons_succ]
  refine wpAnyH_take (i := 5) (oi := ⟨some 10, _, _, _, _, _⟩) (v := .pointer (some ⟨E, 0, none⟩)) rfl (by kernel_rfl) (by kernel_rfl) (by kernel_rfl) (fun _ _ _ h => h) (Or.inl ⟨by rfl, fun W hSw => by (try dsimp only at hSw); go_simp⟩) k0 ?_
  try simp only [Act.put, List.setIfInBounds_toArray, List.set_cons_zero, List.set_cons_succ]
  refine wpAnyH_take (i := 6) (oi := ⟨some 11, _, _, _, _, _⟩) (v := .pointer (some ⟨E, 0, none⟩)) rfl (by kernel_rfl) (by kernel_rfl) (by kernel_rfl) (fun _ _ _ h => h) (Or.inl ⟨by rfl, fun W hSw => by (try dsimp only at hSw); go_simp⟩) k0 ?_
  try simp only [Act.put, List.setIfInBounds_toArray, List.set_cons_zero, List.set_cons_succ]
  refine wpAnyH_take (i := 7) (oi := ⟨some 12, _, _, _, _, _⟩) (v := .pointer (some ⟨E, 9, none⟩)) rfl (by kernel_rfl) (by kernel_rfl) (by kernel_rfl) (fun _ _ _ h => h) (Or.inl ⟨by rfl, fun W hSw => by (try dsimp only at hSw); go_simp⟩) k0 ?_
  try simp only [Act.put, List.setIfInBounds_toArray, List.set_cons_zero, List.set_cons_succ]
  refine wpAnyH_take (i := 8) (oi := ⟨some 13, _, _, _, _, _⟩) (v := .int .i64 (q.l1 : Int)) rfl (by kernel_rfl) (by kernel_rfl) (by kernel_rfl) (fun _ _ _ h => h) (Or.inl ⟨by rfl, fun W hSw => by have cq := hSw.2.l1; clear hSw; go_simp⟩) k0 ?_
  try simp only [Act.put, List.setIfInBounds_toArray, List.set_cons_zero, List.set_cons_succ]
  refine wpAnyH_take (i := 9) (oi := ⟨some 14, _, _, _, _, _⟩) (v := .int .i64 (l' : Int)) rfl (by kernel_rfl) (by kernel_rfl) (by kernel_rfl) (fun _ _ _ h => h) (Or.inl ⟨by rfl, fun W hSw => by clear hSw; go_simp⟩) k0 ?_
  try simp only [Act.put, List.setIfInBounds_toArray, List.set_cons_zero, List.set_cons_succ]
  refine wpAnyH_ready (rs := [1]) (by kernel_rfl) (by simp) ?_
  refine AllReadyH.cons (o := ⟨some 6, _, _, _, _, _⟩) rfl (fun K hK => ?_) AllReadyH.nil
  go_simp
  go_at_call 159
  refine (HA.out _ k0).mono ?_
  rintro e x1 ⟨rfl, hb⟩
  have k2 := k0.next hb
  clear hb
  go_wp2_with fail
  refine hK.out _ _ k2 (fun k1 => ?_)
  clear k2
  clear hK K
  try simp only [List.setIfInBounds_toArray, List.set_cons_zero, List.set_cons_succ]
  refine wpAnyH_ready (rs := [3]) (by kernel_rfl) (by simp) ?_
  refine AllReadyH.cons (o := ⟨some 8, _, _, _, _, _⟩) rfl (fun K hK => ?_) AllReadyH.nil
  go_simp
  go_at_call 143
  refine (HS.out _ k1).mono ?_
  rintro e x2 ⟨rfl, hb⟩
  have k2 := k1.next hb
  clear hb
  go_wp2_with fail
  refine hK.out _ _ k2 (fun k3 => ?_)
  clear k2
  clear hK K
  try simp only [List.setIfInBounds_toArray, List.set_cons_zero, List.set_cons_succ]
  refine wpAnyH_take (i := 10) (oi := ⟨some 2, _, _, _, _, _⟩) (v := .int .i64 (adF q R : Int)) rfl (by kernel_rfl) (by kernel_rfl) (by kernel_rfl) (fun _ _ _ h => h) (Or.inl ⟨by rfl, fun W hSw => by (try dsimp only at hSw); go_simp⟩) k3 ?_
  try simp only [Act.put, List.setIfInBounds_toArray, List.set_cons_zero, List.set_cons_succ]
  refine wpAnyH_take (i := 11) (oi := ⟨some 3, _, _, _, _, _⟩) (v := .int .i64 (adT q R : Int)) rfl (by kernel_rfl) (by kernel_rfl) (by kernel_rfl) (fun _ _ _ h => h) (Or.inl ⟨by rfl, fun W hSw => by (try dsimp only at hSw); go_simp⟩) k3 ?_
  try simp only [Act.put, List.setIfInBounds_toArray, List.set_cons_zero, List.set_cons_succ]
  refine wpAnyH_take (i := 12) (oi := ⟨some 4, _, _, _, _, _⟩) (v := .int .i64 (l' : Int)) rfl (by kernel_rfl) (by kernel_rfl) (by kernel_rfl) (fun _ _ _ h => h) (Or.inl ⟨by rfl, fun W hSw => by (try dsimp only at hSw); go_simp⟩) k3 ?_
  try simp only [Act.put, List.setIfInBounds_toArray, List.set_cons_zero, List.set_cons_succ]
  refine wpAnyH_done (by kernel_rfl) ?_ _
  refine id ?_
  go_wp2
  refine bodyPost_ret (results_ttt rfl rfl rfl rfl) rfl ?_
  exact ⟨rfl, k3.1⟩
/-- The byte at an address, where a field of bytes stands from another one on. -/
def atB (T : List UInt8) (a1 x : Int) (old : UInt8) : UInt8 := if 0 ≤ x - a1 ∧ x - a1 < T.length then gt T (x - a1).toNat else old
set_option maxRecDepth 100000 in
set_option maxHeartbeats 1000000 in
theorem byteAt_any (T : List UInt8) (a1 x B cap N : Nat) (old : UInt8) (w : World) (h1 : a1 < 33554432) (h2 : x < 33554432) (hr : Row w B 5 (bsU T) cap) (hN : T.length = N) (hn : N < 33554432) : Calls Tryz.prog 164 #[.agg #[.int .i64 (a1 : Int), .slice (some ⟨B, 0, none⟩) N cap], .int .i64 (x : Int), .int .u8 (old.toNat : Int)] w (New w (.int .u8 ((atB T (a1 : Int) (x : Int) old).toNat : Int))) := by
  have hb := below_new w (.cells #[.int .i64 (a1 : Int), .slice (some ⟨B, 0, none⟩) N cap] 159)
  unfold atB
  rw [hN]
  by_cases h0 : a1 ≤ x
  · by_cases hlt : (x : Int) - (a1 : Int) < N
    · rw [if_pos ⟨by omega, hlt⟩]
      have hc := (hr.below hb).cell (x - a1) (by rw [bsU_len]; omega)
      rw [bsU_get _ _ (by omega)] at hc
      have e : ((x : Int) - (a1 : Int)).toNat = x - a1 := by omega
      rw [e]
      clear e
      generalize (gt T (x - a1)).toNat = v at hc ⊢
      have HB := Lib.hid hb
      clear hr hb hN
      go_enter Tryz.func164, Tryz.ntmps164
      go_wp2
      go_ret
      exact ⟨rfl, HB.out⟩
    · rw [if_neg (fun h => hlt h.2)]
      have HB := Lib.hid hb
      clear hr hb hN
      go_enter Tryz.func164, Tryz.ntmps164
      go_wp2
      go_ret
      exact ⟨rfl, HB.out⟩
  · rw [if_neg (fun h => h0 (by have := h.1; omega))]
    have HB := Lib.hid hb
    clear hr hb hN
    go_enter Tryz.func164, Tryz.ntmps164
    go_wp2
    go_ret
    exact ⟨rfl, HB.out⟩
/-- What becomes of a byte. -/
def rpB (op : Nat) (x y : UInt8) : UInt8 := if op = 210 then y else if op = 209 then ((x &&& 240) ||| (y &&& 15)) else if op = 211 then ((x &&& 15) ||| (y &&& 240)) else if op = 212 then (x &&& y) else if op = 214 then (x ||| y) else (x ^^^ y)
theorem u8_bits (x y : Nat) (hx : x < 256) (hy : y < 256) : bits .and .u8 (x : Int) (y : Int) = ((x &&& y : Nat) : Int) ∧ bits .or .u8 (x : Int) (y : Int) = ((x ||| y : Nat) : Int) ∧ bits .xor .u8 (x : Int) (y : Int) = ((x ^^^ y : Nat) : Int) := by
  have a1 : x &&& y < 2 ^ 8 := Nat.and_lt_two_pow _ (by omega)
  have a2 : x ||| y < 2 ^ 8 := Nat.or_lt_two_pow (by omega) (by omega)
  have a3 : x ^^^ y < 2 ^ 8 := Nat.xor_lt_two_pow (by omega) (by omega)
  refine ⟨?_, ?_, ?_⟩
  · simp [bits, IntKind.bits, IntKind.signed, IntKind.wrap]
    change ((BitVec.ofNat 8 x &&& BitVec.ofNat 8 y).toNat : Int) % 256 = ((x &&& y : Nat) : Int)
    rw [BitVec.toNat_and, BitVec.toNat_ofNat, BitVec.toNat_ofNat, Nat.mod_eq_of_lt (by omega), Nat.mod_eq_of_lt (by omega)]
    omega
  · simp [bits, IntKind.bits, IntKind.signed, IntKind.wrap]
    change ((BitVec.ofNat 8 x ||| BitVec.ofNat 8 y).toNat : Int) % 256 = ((x ||| y : Nat) : Int)
    rw [BitVec.toNat_or, BitVec.toNat_ofNat, BitVec.toNat_ofNat, Nat.mod_eq_of_lt (by omega), Nat.mod_eq_of_lt (by omega)]
    omega
  · simp [bits, IntKind.bits, IntKind.signed, IntKind.wrap]
    change ((BitVec.ofNat 8 x ^^^ BitVec.ofNat 8 y).toNat : Int) % 256 = ((x ^^^ y : Nat) : Int)
    rw [BitVec.toNat_xor, BitVec.toNat_ofNat, BitVec.toNat_ofNat, Nat.mod_eq_of_lt (by omega), Nat.mod_eq_of_lt (by omega)]
    omega
theorem replacement_210 (x y : UInt8) (w : World) : Calls Tryz.prog 165 #[.int .i64 210, .int .u8 (x.toNat : Int), .int .u8 (y.toNat : Int)] w fun e w' => e = .returned (.int .u8 ((rpB 210 x y).toNat : Int)) ∧ w = w' := by
  have e : ((rpB 210 x y).toNat : Int) = (y.toNat : Int) := by
    exact rfl
  rw [e]
  clear e
  generalize (x.toNat : Int) = X at *
  generalize (y.toNat : Int) = Y at *
  go_enter Tryz.func165, Tryz.ntmps165
  go_wp2
  go_ret
  exact ⟨rfl, rfl⟩
end M
end Go.Proofs.YtfopjnfphlkcgaaGreat

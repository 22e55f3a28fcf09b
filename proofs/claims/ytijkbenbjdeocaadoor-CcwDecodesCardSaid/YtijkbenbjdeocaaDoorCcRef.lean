/- The given answers' bytes and numbers. -/
import Derived.Test.YtijkbenbjdeocaaDoorCcApp
namespace Go.Proofs.YtijkbenbjdeocaaDoor
open Go.RowKit
set_option linter.unusedVariables false
namespace E

set_option maxRecDepth 100000 in
set_option maxHeartbeats 1000000 in
theorem rbytes3_any (n : Int) (w : World) (h0 : 0 ≤ n) (h1 : n ≤ 16777215) : Calls Tryd.prog 32 #[.int .i64 n, .int .i64 3] w (NewB w [by8 (n / 65536), by8 (n / 256 % 256), by8 (n % 256)]) := by
  obtain ⟨i0, hi, hz0, hz1, hz2⟩ := info_parts info5
  obtain ⟨n1, hn1⟩ : ∃ x, x = n / 256 := ⟨_, rfl⟩
  obtain ⟨n2, hn2⟩ : ∃ x, x = n1 / 256 := ⟨_, rfl⟩
  obtain ⟨n3, hn3⟩ : ∃ x, x = n2 / 256 := ⟨_, rfl⟩
  have q0 : wrap64 (n.tdiv 256) = n1 := by
    rw [Int.tdiv_eq_ediv_of_nonneg (by omega), W.wrap64_id (by omega) (by omega), hn1]
  obtain ⟨b0, hb0⟩ : ∃ b : UInt8, (b.toNat : Int) = n % 256 := ⟨by8 (n % 256), by8_nat (by omega) (by omega)⟩
  have r0 : IntKind.u8.wrap (n.tmod 256) = (b0.toNat : Int) := by
    rw [Int.tmod_eq_emod_of_nonneg (by omega), ← hb0]
    have := b0.toNat_lt
    simp [IntKind.wrap, IntKind.bits, IntKind.signed]
    omega
  have q1 : wrap64 (n1.tdiv 256) = n2 := by
    rw [Int.tdiv_eq_ediv_of_nonneg (by omega), W.wrap64_id (by omega) (by omega), hn2]
  obtain ⟨b1, hb1⟩ : ∃ b : UInt8, (b.toNat : Int) = n1 % 256 := ⟨by8 (n1 % 256), by8_nat (by omega) (by omega)⟩
  have r1 : IntKind.u8.wrap (n1.tmod 256) = (b1.toNat : Int) := by
    rw [Int.tmod_eq_emod_of_nonneg (by omega), ← hb1]
    have := b1.toNat_lt
    simp [IntKind.wrap, IntKind.bits, IntKind.signed]
    omega
  have q2 : wrap64 (n2.tdiv 256) = n3 := by
    rw [Int.tdiv_eq_ediv_of_nonneg (by omega), W.wrap64_id (by omega) (by omega), hn3]
  obtain ⟨b2, hb2⟩ : ∃ b : UInt8, (b.toNat : Int) = n2 % 256 := ⟨by8 (n2 % 256), by8_nat (by omega) (by omega)⟩
  have r2 : IntKind.u8.wrap (n2.tmod 256) = (b2.toNat : Int) := by
    rw [Int.tmod_eq_emod_of_nonneg (by omega), ← hb2]
    have := b2.toNat_lt
    simp [IntKind.wrap, IntKind.bits, IntKind.signed]
    omega
  have HL : Hid ([by8 (n / 65536), by8 (n / 256 % 256), by8 (n % 256)] = [b2, b1, b0]) := Lib.hid (by
    have e : ∀ (x y : UInt8), (x.toNat : Int) = (y.toNat : Int) → x = y := fun x y h => UInt8.toNat_inj.1 (by omega)
    have e0 : by8 (n / 65536) = b2 := e _ _ (by rw [by8_nat (by omega) (by omega)]; omega)
    have e1 : by8 (n / 256 % 256) = b1 := e _ _ (by rw [by8_nat (by omega) (by omega)]; omega)
    have e2 : by8 (n % 256) = b0 := e _ _ (by rw [by8_nat (by omega) (by omega)]; omega)
    rw [e0, e1, e2])
  rw [HL.out]
  have HQ0 := Lib.hid q0
  have HR0 := Lib.hid r0
  have HQ1 := Lib.hid q1
  have HR1 := Lib.hid r1
  have HQ2 := Lib.hid q2
  have HR2 := Lib.hid r2
  clear q0 r0 hn1 hb0 q1 r1 hn2 hb1 q2 r2 hn3 hb2 h0 h1 HL
  go_enter Tryd.func32, Tryd.ntmps32
  go_wp2_with (at_make; refine wpList_make_full _ rfl _ _ 27 rfl w.heap.size 5 i0 (.int .u8 0) 1 Tryd.underlying27 hi hz0 hz1 .i64 .i64 3 3 3 rfl rfl rfl rfl (by rw [hz2]; omega) (by unfold maxLen; omega) (Nat.le_refl _) ?_; intro w1 hown hgrow)
  have hb1 : Below w.heap.size w w1 := (Below.refl _ _).grown hgrow (Nat.le_refl _) (by simp)
  rw [made_bsI] at hown
  obtain ⟨cur, hcur, hlen, htk, _⟩ := W.row_of hown
  have hcells : Bx w1 w.heap.size 5 #[.int .u8 0, .int .u8 0, .int .u8 0] := by
    show _ = _
    rw [hcur]
    have e1 : cur = W.bs (List.replicate 3 0) := by
      rw [← htk]
      exact (List.take_of_length_le (by simp [hlen])).symm
    rw [e1]
    rfl
  clear hown hgrow hcur hlen htk
  generalize hG : w.heap.size = G at hcells ⊢
  have HG : Hid (w.heap.size ≤ G) := Lib.hid (by omega)
  clear hG
  go_loopw [0, 6] (fun x i wr => Hid (Below w.heap.size w wr) ∧ ((x = .int .i64 n ∧ i = .int .i64 (2) ∧ Hid (Bx wr G 5 #[.int .u8 0, .int .u8 0, .int .u8 0])) ∨ (x = .int .i64 n1 ∧ i = .int .i64 (1) ∧ Hid (Bx wr G 5 #[.int .u8 0, .int .u8 0, .int .u8 (b0.toNat : Int)])) ∨ (x = .int .i64 n2 ∧ i = .int .i64 (0) ∧ Hid (Bx wr G 5 #[.int .u8 0, .int .u8 (b1.toNat : Int), .int .u8 (b0.toNat : Int)])) ∨ (x = .int .i64 n3 ∧ i = .int .i64 (-1) ∧ Hid (Bx wr G 5 #[.int .u8 (b2.toNat : Int), .int .u8 (b1.toNat : Int), .int .u8 (b0.toNat : Int)])))) (fun _ i _ => (intOf i + 1).toNat)
  case atStart => exact ⟨Lib.hid hb1, .inl ⟨rfl, rfl, Lib.hid hcells⟩⟩
  case round =>
    clear hb1 hcells
    obtain ⟨hb, ⟨rfl, rfl, hc⟩ | ⟨rfl, rfl, hc⟩ | ⟨rfl, rfl, hc⟩ | ⟨rfl, rfl, hc⟩⟩ := hrel
    · have c0 := hc.out.cell 2
      change _ = some (Value.int .u8 0) at c0
      have f0 := hc.out.frozen 2
      go_wp2
      go_roundw
      case rel =>
        refine ⟨Lib.hid (hb.out.setCell (p := ⟨G, 2, none⟩) HG.out _), .inr (.inl ⟨?_, by go_num, Lib.hid ?_⟩)⟩
        · rw [← HQ0.out]
        · have h := hc.out.set 2 (.int .u8 (b0.toNat : Int))
          rw [← HR0.out] at h ⊢
          exact h
      case measure => simp [intOf]
    · have c0 := hc.out.cell 1
      change _ = some (Value.int .u8 0) at c0
      have f0 := hc.out.frozen 1
      go_wp2
      go_roundw
      case rel =>
        refine ⟨Lib.hid (hb.out.setCell (p := ⟨G, 1, none⟩) HG.out _), .inr (.inr (.inl ⟨?_, by go_num, Lib.hid ?_⟩))⟩
        · rw [← HQ1.out]
        · have h := hc.out.set 1 (.int .u8 (b1.toNat : Int))
          rw [← HR1.out] at h ⊢
          exact h
      case measure => simp [intOf]
    · have c0 := hc.out.cell 0
      change _ = some (Value.int .u8 0) at c0
      have f0 := hc.out.frozen 0
      go_wp2
      go_roundw
      case rel =>
        refine ⟨Lib.hid (hb.out.setCell (p := ⟨G, 0, none⟩) HG.out _), .inr (.inr (.inr (⟨?_, by go_num, Lib.hid ?_⟩)))⟩
        · rw [← HQ2.out]
        · have h := hc.out.set 0 (.int .u8 (b2.toNat : Int))
          rw [← HR2.out] at h ⊢
          exact h
      case measure => simp [intOf]
    · go_wp2
      go_ret
      refine ⟨_, rfl, ⟨some ⟨G, 0, none⟩, 3, rfl, .inr ⟨G, 0, rfl, fun j hj => ?_⟩, Nat.le_refl _, by omega, fun h => by cases h⟩, hb.out⟩
      rw [Nat.zero_add, hc.out.cell j]
      match j, hj with
      | 0, _ => rfl
      | 1, _ => rfl
      | 2, _ => rfl
set_option maxRecDepth 100000 in
set_option maxHeartbeats 1000000 in
theorem rbytes2_any (n : Int) (w : World) (h0 : 0 ≤ n) (h1 : n ≤ 65535) : Calls Tryd.prog 32 #[.int .i64 n, .int .i64 2] w (NewB w [by8 (n / 256 % 256), by8 (n % 256)]) := by
  obtain ⟨i0, hi, hz0, hz1, hz2⟩ := info_parts info5
  obtain ⟨n1, hn1⟩ : ∃ x, x = n / 256 := ⟨_, rfl⟩
  obtain ⟨n2, hn2⟩ : ∃ x, x = n1 / 256 := ⟨_, rfl⟩
  have q0 : wrap64 (n.tdiv 256) = n1 := by
    rw [Int.tdiv_eq_ediv_of_nonneg (by omega), W.wrap64_id (by omega) (by omega), hn1]
  obtain ⟨b0, hb0⟩ : ∃ b : UInt8, (b.toNat : Int) = n % 256 := ⟨by8 (n % 256), by8_nat (by omega) (by omega)⟩
  have r0 : IntKind.u8.wrap (n.tmod 256) = (b0.toNat : Int) := by
    rw [Int.tmod_eq_emod_of_nonneg (by omega), ← hb0]
    have := b0.toNat_lt
    simp [IntKind.wrap, IntKind.bits, IntKind.signed]
    omega
  have q1 : wrap64 (n1.tdiv 256) = n2 := by
    rw [Int.tdiv_eq_ediv_of_nonneg (by omega), W.wrap64_id (by omega) (by omega), hn2]
  obtain ⟨b1, hb1⟩ : ∃ b : UInt8, (b.toNat : Int) = n1 % 256 := ⟨by8 (n1 % 256), by8_nat (by omega) (by omega)⟩
  have r1 : IntKind.u8.wrap (n1.tmod 256) = (b1.toNat : Int) := by
    rw [Int.tmod_eq_emod_of_nonneg (by omega), ← hb1]
    have := b1.toNat_lt
    simp [IntKind.wrap, IntKind.bits, IntKind.signed]
    omega
  have HL : Hid ([by8 (n / 256 % 256), by8 (n % 256)] = [b1, b0]) := Lib.hid (by
    have e : ∀ (x y : UInt8), (x.toNat : Int) = (y.toNat : Int) → x = y := fun x y h => UInt8.toNat_inj.1 (by omega)
    have e0 : by8 (n / 256 % 256) = b1 := e _ _ (by rw [by8_nat (by omega) (by omega)]; omega)
    have e1 : by8 (n % 256) = b0 := e _ _ (by rw [by8_nat (by omega) (by omega)]; omega)
    rw [e0, e1])
  rw [HL.out]
  have HQ0 := Lib.hid q0
  have HR0 := Lib.hid r0
  have HQ1 := Lib.hid q1
  have HR1 := Lib.hid r1
  clear q0 r0 hn1 hb0 q1 r1 hn2 hb1 h0 h1 HL
  go_enter Tryd.func32, Tryd.ntmps32
  go_wp2_with (at_make; refine wpList_make_full _ rfl _ _ 27 rfl w.heap.size 5 i0 (.int .u8 0) 1 Tryd.underlying27 hi hz0 hz1 .i64 .i64 2 2 2 rfl rfl rfl rfl (by rw [hz2]; omega) (by unfold maxLen; omega) (Nat.le_refl _) ?_; intro w1 hown hgrow)
  have hb1 : Below w.heap.size w w1 := (Below.refl _ _).grown hgrow (Nat.le_refl _) (by simp)
  rw [made_bsI] at hown
  obtain ⟨cur, hcur, hlen, htk, _⟩ := W.row_of hown
  have hcells : Bx w1 w.heap.size 5 #[.int .u8 0, .int .u8 0] := by
    show _ = _
    rw [hcur]
    have e1 : cur = W.bs (List.replicate 2 0) := by
      rw [← htk]
      exact (List.take_of_length_le (by simp [hlen])).symm
    rw [e1]
    rfl
  clear hown hgrow hcur hlen htk
  generalize hG : w.heap.size = G at hcells ⊢
  have HG : Hid (w.heap.size ≤ G) := Lib.hid (by omega)
  clear hG
  go_loopw [0, 6] (fun x i wr => Hid (Below w.heap.size w wr) ∧ ((x = .int .i64 n ∧ i = .int .i64 (1) ∧ Hid (Bx wr G 5 #[.int .u8 0, .int .u8 0])) ∨ (x = .int .i64 n1 ∧ i = .int .i64 (0) ∧ Hid (Bx wr G 5 #[.int .u8 0, .int .u8 (b0.toNat : Int)])) ∨ (x = .int .i64 n2 ∧ i = .int .i64 (-1) ∧ Hid (Bx wr G 5 #[.int .u8 (b1.toNat : Int), .int .u8 (b0.toNat : Int)])))) (fun _ i _ => (intOf i + 1).toNat)
  case atStart => exact ⟨Lib.hid hb1, .inl ⟨rfl, rfl, Lib.hid hcells⟩⟩
  case round =>
    clear hb1 hcells
    obtain ⟨hb, ⟨rfl, rfl, hc⟩ | ⟨rfl, rfl, hc⟩ | ⟨rfl, rfl, hc⟩⟩ := hrel
    · have c0 := hc.out.cell 1
      change _ = some (Value.int .u8 0) at c0
      have f0 := hc.out.frozen 1
      go_wp2
      go_roundw
      case rel =>
        refine ⟨Lib.hid (hb.out.setCell (p := ⟨G, 1, none⟩) HG.out _), .inr (.inl ⟨?_, by go_num, Lib.hid ?_⟩)⟩
        · rw [← HQ0.out]
        · have h := hc.out.set 1 (.int .u8 (b0.toNat : Int))
          rw [← HR0.out] at h ⊢
          exact h
      case measure => simp [intOf]
    · have c0 := hc.out.cell 0
      change _ = some (Value.int .u8 0) at c0
      have f0 := hc.out.frozen 0
      go_wp2
      go_roundw
      case rel =>
        refine ⟨Lib.hid (hb.out.setCell (p := ⟨G, 0, none⟩) HG.out _), .inr (.inr (⟨?_, by go_num, Lib.hid ?_⟩))⟩
        · rw [← HQ1.out]
        · have h := hc.out.set 0 (.int .u8 (b1.toNat : Int))
          rw [← HR1.out] at h ⊢
          exact h
      case measure => simp [intOf]
    · go_wp2
      go_ret
      refine ⟨_, rfl, ⟨some ⟨G, 0, none⟩, 2, rfl, .inr ⟨G, 0, rfl, fun j hj => ?_⟩, Nat.le_refl _, by omega, fun h => by cases h⟩, hb.out⟩
      rw [Nat.zero_add, hc.out.cell j]
      match j, hj with
      | 0, _ => rfl
      | 1, _ => rfl
/-- The number of the first k bytes. -/
def nb (l : List UInt8) : Nat → Int
  | 0 => 0
  | k + 1 => 256 * nb l k + ((gt l k).toNat : Int)
theorem nb_bd (l : List UInt8) : ∀ k, k ≤ 3 → 0 ≤ nb l k ∧ nb l k < 16777216 := by
  have h0 := lt256 (gt l 0); have h1 := lt256 (gt l 1); have h2 := lt256 (gt l 2)
  intro k hk
  match k, hk with
  | 0, _ => simp [nb]
  | 1, _ => simp only [nb]; omega
  | 2, _ => simp only [nb]; omega
  | 3, _ => simp only [nb]; omega
set_option maxRecDepth 100000 in
theorem number_any {w : World} {sv : Value} {l : List UInt8} (h : SvB w sv l) (hl : l.length ≤ 3) : Calls Tryd.prog 35 #[sv] w fun e w' => e = .returned (.int .i64 (nb l l.length)) ∧ w = w' := by
  obtain ⟨p, c, rfl, hr, -⟩ := h
  obtain ⟨n, hn⟩ : ∃ n, l.length = n := ⟨_, rfl⟩
  have HN := Lib.hid hn
  have HR := Lib.hid hr
  rw [hn] at hl ⊢
  clear hn hr
  go_enter Tryd.func35, Tryd.ntmps35
  go_wp2
  go_loop [3, 4] (fun x i => ∃ k : Nat, k ≤ n ∧ i = .int .i64 (k : Int) ∧ x = .int .i64 (nb l k)) (fun _ i => n - (intOf i).toNat)
  case atStart => exact ⟨0, Nat.zero_le _, rfl, rfl⟩
  case round =>
    obtain ⟨k, hk, rfl, rfl⟩ := hrel
    by_cases hlt : k < n
    · obtain ⟨B, off, rfl, hc⟩ := HR.out.resolve_left (fun h => by rw [h] at HN; have := HN.out; simp at this; omega)
      have hcell := hc k (by rw [HN.out]; exact hlt)
      have hb := nb_bd l k (by omega)
      have hg := lt256 (gt l k)
      have H2 : Hid (wrap64 (wrap64 (256 * nb l k) + ((gt l k).toNat : Int)) = nb l (k + 1)) := Lib.hid (by
        rw [W.wrap64_id (n := 256 * nb l k) (by omega) (by omega), W.wrap64_id (by omega) (by omega)]
        rfl)
      have H3 : wrap64 ((gt l k).toNat : Int) = ((gt l k).toNat : Int) := W.wrap64_id (by omega) (by omega)
      clear hc hb
      generalize nb l k = x at *
      generalize ((gt l k).toNat : Int) = y at *
      go_wp2
      go_round
      case rel => exact ⟨k + 1, by omega, by go_num, by rw [H2.out]⟩
      case measure => simp [intOf]; omega
    · obtain rfl : k = n := by omega
      go_wp2
      go_ret
      exact ⟨rfl, rfl⟩
end E
end Go.Proofs.YtijkbenbjdeocaaDoor

/- The program: instructions on one byte. -/
import Derived.Test.YtfopjnfphlkcgaaGreatRows
import Derived.Test.YtfopjnfphlkcgaaGreatGnByte
import Derived.Test.YtfopjnfphlkcgaaGreatGnFlds
namespace Go.Proofs.YtfopjnfphlkcgaaGreat
namespace E
end E
open Go.RowKit Go.Shelf E
set_option linter.unusedVariables false
namespace M

theorem hi_bits : ∀ i : Fin 32, Nat.testBit 4294967040 i.val = decide (8 ≤ i.val) := by decide
theorem and_high (v : Nat) (hv : v < 4294967296) : v &&& 4294967040 = v / 256 * 256 := by
  apply Nat.eq_of_testBit_eq
  intro i
  have e : v / 256 * 256 = (v >>> 8) <<< 8 := by rw [Nat.shiftRight_eq_div_pow, Nat.shiftLeft_eq]
  rw [e, Nat.testBit_and, Nat.testBit_shiftLeft, Nat.testBit_shiftRight]
  by_cases h32 : i < 32
  · have h := hi_bits ⟨i, h32⟩
    change Nat.testBit 4294967040 i = decide (8 ≤ i) at h
    rw [h]
    by_cases h8 : 8 ≤ i
    · rw [show 8 + (i - 8) = i by omega]
      simp [h8]
    · simp [h8]
  · have h1 : v.testBit i = false := Nat.testBit_lt_two_pow (Nat.lt_of_lt_of_le hv (by
      have := Nat.pow_le_pow_right (n := 2) (by decide) (show 32 ≤ i by omega)
      omega))
    rw [show 8 + (i - 8) = i by omega, h1]
    simp
theorem or_low (a x : Nat) (hx : x < 256) : (a * 256) ||| x = a * 256 + x := by
  have := Nat.shiftLeft_add_eq_or_of_lt (show x < 2 ^ 8 by omega) a
  rw [Nat.shiftLeft_eq] at this
  exact this.symm
theorem low_bits (v x : Nat) (hv : v < 4294967296) (hx : x < 256) : bits .or .u32 (bits .andNot .u32 (v : Int) 255) (x : Int) = ((v / 256 * 256 + x : Nat) : Int) := by
  have h1 : bits .andNot .u32 (v : Int) 255 = ((v / 256 * 256 : Nat) : Int) := by
    simp [bits, IntKind.bits, IntKind.signed, IntKind.wrap]
    change ((BitVec.ofNat 32 v &&& ~~~ (255#32)).toNat : Int) % 4294967296 = ((v / 256 * 256 : Nat) : Int)
    rw [BitVec.toNat_and, BitVec.toNat_ofNat, Nat.mod_eq_of_lt (by omega)]
    change ((v &&& 4294967040 : Nat) : Int) % 4294967296 = _
    rw [and_high v hv]
    omega
  have h2 : v / 256 * 256 + x < 4294967296 := by omega
  rw [h1, ← or_low (v / 256) x hx] at *
  simp [bits, IntKind.bits, IntKind.signed, IntKind.wrap]
  change ((BitVec.ofNat 32 (v / 256 * 256) ||| BitVec.ofNat 32 x).toNat : Int) % 4294967296 = ((v / 256 * 256 ||| x : Nat) : Int)
  rw [BitVec.toNat_or, BitVec.toNat_ofNat, BitVec.toNat_ofNat, Nat.mod_eq_of_lt (by omega), Nat.mod_eq_of_lt (by omega)]
  omega
/-- A word with another low byte. -/
def lowW (v : Int) (x : UInt8) : Int := v / 256 * 256 + (x.toNat : Int)
theorem withLow_any (v : Int) (x : UInt8) (w : World) (hv : 0 ≤ v ∧ v < 4294967296) : Calls Tryz.prog 155 #[.int .u32 v, .int .u8 (x.toNat : Int)] w fun e w' => e = .returned (.int .u32 (lowW v x)) ∧ w = w' := by
  obtain ⟨n, rfl⟩ := Int.eq_ofNat_of_zero_le hv.1
  have hx := x.toNat_lt
  have HB := Lib.hid (low_bits n x.toNat (by omega) (by omega))
  have HL : Hid (lowW (n : Int) x = ((n / 256 * 256 + x.toNat : Nat) : Int)) := Lib.hid (by unfold lowW; omega)
  generalize x.toNat = X at *
  have hX : (X : Int) < 256 := by omega
  clear hv hx
  go_enter Tryz.func155, Tryz.ntmps155
  go_wp2
  go_ret
  exact ⟨by rw [HL.out, ← HB.out]; rfl, rfl⟩
/-- The condition code of a byte under a mask. -/
def ccM (x m : Int) : Int := if x = 0 then 0 else if x = m then 3 else 1
theorem ccMask_any (x m : Int) (w : World) : Calls Tryz.prog 162 #[.int .u8 x, .int .u8 m] w fun e w' => e = .returned (.int .i64 (ccM x m)) ∧ w = w' := by
  unfold ccM
  by_cases h0 : x = 0
  · subst h0
    rw [if_pos rfl]
    go_enter Tryz.func162, Tryz.ntmps162
    go_wp2
    go_ret
    exact ⟨rfl, rfl⟩
  · rw [if_neg h0]
    have h0' : (x == 0) = false := by simpa using h0
    by_cases h1 : x = m
    · subst h1
      rw [if_pos rfl]
      go_enter Tryz.func162, Tryz.ntmps162
      go_wp2
      go_ret
      exact ⟨rfl, rfl⟩
    · rw [if_neg h1]
      have h1' : (x == m) = false := by simpa using h1
      go_enter Tryz.func162, Tryz.ntmps162
      go_wp2
      go_ret
      exact ⟨rfl, rfl⟩
end M
end Go.Proofs.YtfopjnfphlkcgaaGreat
namespace Go.Proofs.YtfopjnfphlkcgaaGreat
namespace E
end E
open Go.RowKit Go.Shelf E
set_option linter.unusedVariables false
namespace M

set_option maxRecDepth 100000 in
set_option maxHeartbeats 1000000 in
theorem examine_145 (E A : Nat) (q : Qn) (R : Nat → Int) (p : Psw) (c : Int) (g h n m : Nat) (bs ks : List UInt8) (w : World) (hx : Ex w E A q R p c) (hs : Sto w A g h n m bs ks) (hR : RegOk R) (hq : QOk q) (hop : q.op = 145) : Calls Tryz.prog 69 #[.pointer (some ⟨E, 0, none⟩)] w (RegPost w E A q (codeV (ftP p.k) n ks (adF q R : Int) ((1 : Nat) : Int)) R { p with cc := (ccM (((gt bs (adF q R)).toNat &&& q.i2 : Nat) : Int) (q.i2 : Int)) } c) := by
  have hlt := adF_lt q R
  have hi2 : q.i2 < 256 := hq.i2
  have HA : Hid (∀ X, ES E A q R p c w X → Calls Tryz.prog 159 #[.pointer (some ⟨E, 0, none⟩)] X (New X (.int .i64 (adF q R : Int)))) := Lib.hid (fun X hX => fir_any E A q R p c X hX.2 hR hq)
  have HF : Hid (∀ X, ES E A q R p c w X → Calls Tryz.prog 154 #[.pointer (some ⟨E, 0, none⟩), .int .i64 (adF q R : Int)] X fun e X' => ES E A q R p c w X' ∧ (((codeV (ftP p.k) n ks (adF q R : Int) ((1 : Nat) : Int)) = 0 ∧ e = .returned (.int .u8 ((gt bs (adF q R)).toNat : Int))) ∨ ((codeV (ftP p.k) n ks (adF q R : Int) ((1 : Nat) : Int)) ≠ 0 ∧ e = Stop (codeV (ftP p.k) n ks (adF q R : Int) ((1 : Nat) : Int))))) := Lib.hid (fun X hX => by
    refine (fbyte_any E A q R p c g h n m bs ks (adF q R) X hX.2 (hs.below hX.1) (by omega)).mono ?_
    rintro e X' ⟨hb, hh⟩
    exact ⟨hX.next hb, hh⟩)
  have hw8 : IntKind.u8.wrap (q.i2 : Int) = (q.i2 : Int) := by
    show (q.i2 : Int) % 256 = (q.i2 : Int)
    omega
  have HOP := Lib.hid hop
  have HE := Lib.hid (ES.of hx)
  have HST := Lib.hid (fun X (hX : ES E A q R p c w X) v => And.intro hX.2.pcc (And.intro (hX.2.fz 35) (hX.2.setCc v)))
  have hv := (gt bs (adF q R)).toNat_lt
  have HC := Lib.hid (fun X => ccMask_any (((gt bs (adF q R)).toNat &&& q.i2 : Nat) : Int) (q.i2 : Int) X)
  have hand := (u8_bits (gt bs (adF q R)).toNat q.i2 (by omega) hi2).1
  have HAND := Lib.hid hand
  clear hand
  generalize ccM (((gt bs (adF q R)).toNat &&& q.i2 : Nat) : Int) (q.i2 : Int) = y at HC ⊢
  generalize (gt bs (adF q R)).toNat &&& q.i2 = z at HC HAND
  generalize (codeV (ftP p.k) n ks (adF q R : Int) ((1 : Nat) : Int)) = C at HF ⊢
  generalize (gt bs (adF q R)).toNat = v at *
  generalize adF q R = a at HA HF hlt
  clear hx hs hR hq hop hlt
  go_enter Tryz.func69, Tryz.ntmps69
  go_wp2_with fail
  refine wp_region_held_drew (S := ES E A q R p c w) (by kernel_rfl) HE.out (fun k0 => ?_)
  show wpAnyH _ _ _ _ _ 12 #[false, false, false, false, false, false, false, false, false, false, false, false] _ _
  refine wpAnyH_take (i := 0) (oi := ⟨some 4, _, _, _, _, _⟩) (v := .pointer (some ⟨E, 0, none⟩)) rfl (by kernel_rfl) (by kernel_rfl) (by kernel_rfl) (fun _ _ _ h => h) (Or.inl ⟨by rfl, fun W hSw => by (try dsimp only at hSw); go_simp⟩) k0 ?_
  try simp only [Act.put, List.setIfInBounds_toArray, List.set_cons_zero, List.set_cons_succ]
  refine wpAnyH_take (i := 1) (oi := ⟨some 5, _, _, _, _, _⟩) (v := .pointer (some ⟨E, 0, none⟩)) rfl (by kernel_rfl) (by kernel_rfl) (by kernel_rfl) (fun _ _ _ h => h) (Or.inl ⟨by rfl, fun W hSw => by (try dsimp only at hSw); go_simp⟩) k0 ?_
  try simp only [Act.put, List.setIfInBounds_toArray, List.set_cons_zero, List.set_cons_succ]
  refine wpAnyH_take (i := 4) (oi := ⟨some 8, _, _, _, _, _⟩) (v := .pointer (some ⟨E, 0, none⟩)) rfl (by kernel_rfl) (by kernel_rfl) (by kernel_rfl) (fun _ _ _ h => h) (Or.inl ⟨by rfl, fun W hSw => by (try dsimp only at hSw); go_simp⟩) k0 ?_
  try simp only [Act.put, List.setIfInBounds_toArray, List.set_cons_zero, List.set_cons_succ]
  refine wpAnyH_take (i := 5) (oi := ⟨some 9, _, _, _, _, _⟩) (v := .pointer (some ⟨E, 0, none⟩)) rfl (by kernel_rfl) (by kernel_rfl) (by kernel_rfl) (fun _ _ _ h => h) (Or.inl ⟨by rfl, fun W hSw => by (try dsimp only at hSw); go_simp⟩) k0 ?_
  try simp only [Act.put, List.setIfInBounds_toArray, List.set_cons_zero, List.set_cons_succ]
  refine wpAnyH_take (i := 6) (oi := ⟨some 10, _, _, _, _, _⟩) (v := .pointer (some ⟨E, 0, none⟩)) rfl (by kernel_rfl) (by kernel_rfl) (by kernel_rfl) (fun _ _ _ h => h) (Or.inl ⟨by rfl, fun W hSw => by (try dsimp only at hSw); go_simp⟩) k0 ?_
  try simp only [Act.put, List.setIfInBounds_toArray, List.set_cons_zero, List.set_cons_succ]
  refine wpAnyH_take (i := 7) (oi := ⟨some 11, _, _, _, _, _⟩) (v := .pointer (some ⟨E, 11, none⟩)) rfl (by kernel_rfl) (by kernel_rfl) (by kernel_rfl) (fun _ _ _ h => h) (Or.inl ⟨by rfl, fun W hSw => by (try dsimp only at hSw); go_simp⟩) k0 ?_
  try simp only [Act.put, List.setIfInBounds_toArray, List.set_cons_zero, List.set_cons_succ]
  refine wpAnyH_take (i := 8) (oi := ⟨some 12, _, _, _, _, _⟩) (v := .int .i64 (q.i2 : Int)) rfl (by kernel_rfl) (by kernel_rfl) (by kernel_rfl) (fun _ _ _ h => h) (Or.inl ⟨by rfl, fun W hSw => by have cq := hSw.2.i2; clear hSw; go_simp⟩) k0 ?_
  try simp only [Act.put, List.setIfInBounds_toArray, List.set_cons_zero, List.set_cons_succ]
  refine wpAnyH_take (i := 9) (oi := ⟨some 13, _, _, _, _, _⟩) (v := .int .u8 (q.i2 : Int)) rfl (by kernel_rfl) (by kernel_rfl) (by kernel_rfl) (fun _ _ _ h => h) (Or.inl ⟨by rfl, fun W hSw => by clear hSw; simp [go_sem, hw8]⟩) k0 ?_
  try simp only [Act.put, List.setIfInBounds_toArray, List.set_cons_zero, List.set_cons_succ]
  refine wpAnyH_ready (rs := [2]) (by kernel_rfl) (by simp) ?_
  refine AllReadyH.cons (o := ⟨some 6, _, _, _, _, _⟩) rfl (fun K hK => ?_) AllReadyH.nil
  go_simp
  go_at_call 159
  refine (HA.out _ k0).mono ?_
  rintro e x1 ⟨rfl, hb⟩
  have k2 := k0.next hb
  clear hb
  go_wp2_with fail
  refine hK.out _ _ k2 (fun k1 => ?_)
  clear k2
  clear hK K
  try simp only [List.setIfInBounds_toArray, List.set_cons_zero, List.set_cons_succ]
  refine wpAnyH_ready (rs := [3]) (by kernel_rfl) (by simp) ?_
  refine AllReadyH.cons (o := ⟨some 7, _, _, _, _, _⟩) rfl (fun K hK => ?_) AllReadyH.nil
  go_simp
  go_at_call 154
  refine (HF.out _ k1).mono ?_
  rintro e x2 ⟨k2, ⟨h0, rfl⟩ | ⟨hn, rfl⟩⟩
  rotate_left
  · have HN := Lib.hid hn
    have HB := Lib.hid k2.1
    clear hn k2 k0 k1
    unfold Stop
    go_wp2
    exact ⟨rfl, .inl ⟨HN.out, rfl, Kp.bel HB.out⟩⟩
  have H0 := Lib.hid h0
  clear h0 HF
  go_wp2_with fail
  refine hK.out _ _ k2 (fun k3 => ?_)
  clear k2
  clear hK K
  try simp only [List.setIfInBounds_toArray, List.set_cons_zero, List.set_cons_succ]
  refine wpAnyH_take (i := 10) (oi := ⟨some 2, _, _, _, _, _⟩) (v := .int .u8 (v : Int)) rfl (by kernel_rfl) (by kernel_rfl) (by kernel_rfl) (fun _ _ _ h => h) (Or.inl ⟨by rfl, fun W hSw => by (try dsimp only at hSw); go_simp⟩) k3 ?_
  try simp only [Act.put, List.setIfInBounds_toArray, List.set_cons_zero, List.set_cons_succ]
  refine wpAnyH_take (i := 11) (oi := ⟨some 3, _, _, _, _, _⟩) (v := .int .u8 (q.i2 : Int)) rfl (by kernel_rfl) (by kernel_rfl) (by kernel_rfl) (fun _ _ _ h => h) (Or.inl ⟨by rfl, fun W hSw => by (try dsimp only at hSw); go_simp⟩) k3 ?_
  try simp only [Act.put, List.setIfInBounds_toArray, List.set_cons_zero, List.set_cons_succ]
  refine wpAnyH_done (by kernel_rfl) ?_ _
  refine id ?_
  have c0 := k3.2.op
  rw [HOP.out] at c0
  obtain ⟨c1, c2, h3⟩ := HST.out _ k3 y
  have H3 := Lib.hid h3
  have HB := Lib.hid k3.1
  have hvI : (v : Int) < 256 := by omega
  have hiI : (q.i2 : Int) < 256 := by omega
  clear h3 k0 k1 k3 HA HE HOP HST
  go_wp2_with fail
  rw [HAND.out]
  refine (HC.out _).mono ?_
  rintro e w2 ⟨rfl, rfl⟩
  go_wp2
  go_end0
  exact .inr ⟨H0.out, rfl, H3.out, (Kp.bel HB.out).trans (kp_set _ _ _ _ _ (by simp))⟩

end M
end Go.Proofs.YtfopjnfphlkcgaaGreat

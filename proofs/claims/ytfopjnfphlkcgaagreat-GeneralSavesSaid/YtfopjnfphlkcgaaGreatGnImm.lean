/- The program: instructions on one byte. -/
import Derived.Test.YtfopjnfphlkcgaaGreatRows
import Derived.Test.YtfopjnfphlkcgaaGreatGnRepl
namespace Go.Proofs.YtfopjnfphlkcgaaGreat
open Go.RowKit Go.Shelf E
set_option linter.unusedVariables false
namespace M

theorem hi_bits : ∀ i : Fin 32, Nat.testBit 4294967040 i.val = decide (8 ≤ i.val) := by decide
theorem and_high (v : Nat) (hv : v < 4294967296) : v &&& 4294967040 = v / 256 * 256 := by
  apply Nat.eq_of_testBit_eq
  intro i
  have e : v / 256 * 256 = (v >>> 8) <<< 8 := by rw [Nat.shiftRight_eq_div_pow, Nat.shiftLeft_eq]
  rw [e, Nat.testBit_and, Nat.testBit_shiftLeft, Nat.testBit_shiftRight]
  by_cases h32 : i < 32
  · have h := hi_bits ⟨i, h32⟩
    change Nat.testBit 4294967040 i = decide (8 ≤ i) at h
    rw [h]
    by_cases h8 : 8 ≤ i
    · rw [show 8 + (i - 8) = i by omega]
      simp [h8]
    · simp [h8]
  · have h1 : v.testBit i = false := Nat.testBit_lt_two_pow (Nat.lt_of_lt_of_le hv (by
      have := Nat.pow_le_pow_right (n := 2) (by decide) (show 32 ≤ i by omega)
      omega))
    rw [show 8 + (i - 8) = i by omega, h1]
    simp
theorem or_low (a x : Nat) (hx : x < 256) : (a * 256) ||| x = a * 256 + x := by
  have := Nat.shiftLeft_add_eq_or_of_lt (show x < 2 ^ 8 by omega) a
  rw [Nat.shiftLeft_eq] at this
  exact this.symm
theorem low_bits (v x : Nat) (hv : v < 4294967296) (hx : x < 256) : bits .or .u32 (bits .andNot .u32 (v : Int) 255) (x : Int) = ((v / 256 * 256 + x : Nat) : Int) := by
  have h1 : bits .andNot .u32 (v : Int) 255 = ((v / 256 * 256 : Nat) : Int) := by
    simp [bits, IntKind.bits, IntKind.signed, IntKind.wrap]
    change ((BitVec.ofNat 32 v &&& ~~~ (255#32)).toNat : Int) % 4294967296 = ((v / 256 * 256 : Nat) : Int)
    rw [BitVec.toNat_and, BitVec.toNat_ofNat, Nat.mod_eq_of_lt (by omega)]
    change ((v &&& 4294967040 : Nat) : Int) % 4294967296 = _
    rw [and_high v hv]
    omega
  have h2 : v / 256 * 256 + x < 4294967296 := by omega
  rw [h1, ← or_low (v / 256) x hx] at *
  simp [bits, IntKind.bits, IntKind.signed, IntKind.wrap]
  change ((BitVec.ofNat 32 (v / 256 * 256) ||| BitVec.ofNat 32 x).toNat : Int) % 4294967296 = ((v / 256 * 256 ||| x : Nat) : Int)
  rw [BitVec.toNat_or, BitVec.toNat_ofNat, BitVec.toNat_ofNat, Nat.mod_eq_of_lt (by omega), Nat.mod_eq_of_lt (by omega)]
  omega
/-- A word with another low byte. -/
def lowW (v : Int) (x : UInt8) : Int := v / 256 * 256 + (x.toNat : Int)
theorem withLow_any (v : Int) (x : UInt8) (w : World) (hv : 0 ≤ v ∧ v < 4294967296) : Calls Tryz.prog 155 #[.int .u32 v, .int .u8 (x.toNat : Int)] w fun e w' => e = .returned (.int .u32 (lowW v x)) ∧ w = w' := by
  obtain ⟨n, rfl⟩ := Int.eq_ofNat_of_zero_le hv.1
  have hx := x.toNat_lt
  have HB := Lib.hid (low_bits n x.toNat (by omega) (by omega))
  have HL : Hid (lowW (n : Int) x = ((n / 256 * 256 + x.toNat : Nat) : Int)) := Lib.hid (by unfold lowW; omega)
  generalize x.toNat = X at *
  have hX : (X : Int) < 256 := by omega
  clear hv hx
  go_enter Tryz.func155, Tryz.ntmps155
  go_wp2
  go_ret
  exact ⟨by rw [HL.out, ← HB.out]; rfl, rfl⟩
/-- The condition code of a byte under a mask. -/
def ccM (x m : Int) : Int := if x = 0 then 0 else if x = m then 3 else 1
theorem ccMask_any (x m : Int) (w : World) : Calls Tryz.prog 162 #[.int .u8 x, .int .u8 m] w fun e w' => e = .returned (.int .i64 (ccM x m)) ∧ w = w' := by
  unfold ccM
  by_cases h0 : x = 0
  · subst h0
    rw [if_pos rfl]
    go_enter Tryz.func162, Tryz.ntmps162
    go_wp2
    go_ret
    exact ⟨rfl, rfl⟩
  · rw [if_neg h0]
    have h0' : (x == 0) = false := by simpa using h0
    by_cases h1 : x = m
    · subst h1
      rw [if_pos rfl]
      go_enter Tryz.func162, Tryz.ntmps162
      go_wp2
      go_ret
      exact ⟨rfl, rfl⟩
    · rw [if_neg h1]
      have h1' : (x == m) = false := by simpa using h1
      go_enter Tryz.func162, Tryz.ntmps162
      go_wp2
      go_ret
      exact ⟨rfl, rfl⟩
set_option maxRecDepth 100000 in
set_option maxHeartbeats 1000000 in
theorem insertByte_any (E A : Nat) (q : Qn) (R : Nat → Int) (p : Psw) (c : Int) (g h n m : Nat) (bs ks : List UInt8) (w : World) (hx : Ex w E A q R p c) (hs : Sto w A g h n m bs ks) (hR : RegOk R) (hq : QOk q) : Calls Tryz.prog 64 #[.pointer (some ⟨E, 0, none⟩)] w (RegPost w E A q (codeV (ftP p.k) n ks (adT q R : Int) ((1 : Nat) : Int)) (upd R q.r1 (lowW (R q.r1) (gt bs (adT q R)))) p c) := by
  have hlt := adT_lt q R
  have HA := Lib.hid (sec_any E A q R p c w hx hR hq)
  have HF := Lib.hid (fun X (hX : Below w.heap.size w X) => fbyte_any E A q R p c g h n m bs ks (adT q R) X (hx.below hX) (hs.below hX) (by omega))
  have HX := Lib.hid (fun X (hX : Below w.heap.size w X) => hx.below hX)
  have HL := Lib.hid (fun X => withLow_any (R q.r1) (gt bs (adT q R)) X (hR q.r1))
  have HS := Lib.hid (fun X (hX : Below w.heap.size w X) => set_any E A q R p c (lowW (R q.r1) (gt bs (adT q R))) X (hx.below hX) hq.r1)
  have HR1 := Lib.hid hq.r1
  generalize (codeV (ftP p.k) n ks (adT q R : Int) ((1 : Nat) : Int)) = C at HF ⊢
  generalize lowW (R q.r1) (gt bs (adT q R)) = y at HL HS ⊢
  generalize gt bs (adT q R) = v at HF HL
  generalize adT q R = a at HA HF hlt
  clear hx hs hR hq hlt
  go_enter Tryz.func64, Tryz.ntmps64
  go_wp2_with fail
  refine HA.out.mono ?_
  rintro e w1 ⟨rfl, hb⟩
  have HB := Lib.hid hb
  clear hb HA
  go_wp2_with fail
  refine (HF.out _ HB.out).mono ?_
  rintro e w2 ⟨hb, ⟨h0, rfl⟩ | ⟨hn, rfl⟩⟩
  · have hb2 := bel0 HB.out hb
    have H0 := Lib.hid h0
    have x3 := HX.out _ (bel0 hb2 (bel_drew w2))
    have HS3 := Lib.hid (HS.out _ (bel0 hb2 (bel_drew w2)))
    have HB3 := Lib.hid (bel0 hb2 (bel_drew w2))
    have HL3 := Lib.hid (HL.out w2.drew)
    have c2 := x3.r1
    have cr := x3.reg HR1.out
    have hr1 : (q.r1 : Int) < 16 := by have := HR1.out; omega
    generalize R q.r1 = u at HL3 cr
    clear x3 hb h0 HB HF hb2 HX HS HL
    go_wp2_with fail
    refine wp_region_still_tail 13 (by kernel_rfl) (by kernel_rfl) ?_
    simp only [List.take_succ_cons, List.take_zero, List.drop_succ_cons, List.drop_zero]
    repeat still_step
    still_call (HL3.out.mono (fun _ _ h => ⟨h.1, h.2.symm⟩))
    repeat still_step
    refine wpStill_nil ?_
    change wpList _ _ _ _ _ w2.drew
    go_wp2_with fail
    refine HS3.out.mono ?_
    rintro e w4 ⟨rfl, h2, k2⟩
    have H2 := Lib.hid h2
    have K2 := Lib.hid ((Kp.bel HB3.out).trans k2)
    clear h2 k2 HS3 HL3 HB3 c2 cr
    go_wp2
    go_end0
    exact .inr ⟨H0.out, rfl, H2.out, K2.out⟩
  · have HB2 := Lib.hid (bel0 HB.out hb)
    have H0 := Lib.hid hn
    clear hb hn HB HF
    unfold Stop
    go_wp2
    exact ⟨rfl, .inl ⟨H0.out, rfl, Kp.bel HB2.out⟩⟩

end M
end Go.Proofs.YtfopjnfphlkcgaaGreat
namespace Go.Proofs.YtfopjnfphlkcgaaGreat
open Go.RowKit Go.Shelf E
set_option linter.unusedVariables false
namespace M

set_option maxRecDepth 100000 in
set_option maxHeartbeats 1000000 in
theorem examine_149 (E A : Nat) (q : Qn) (R : Nat → Int) (p : Psw) (c : Int) (g h n m : Nat) (bs ks : List UInt8) (w : World) (hx : Ex w E A q R p c) (hs : Sto w A g h n m bs ks) (hR : RegOk R) (hq : QOk q) (hop : q.op = 149) : Calls Tryz.prog 69 #[.pointer (some ⟨E, 0, none⟩)] w (RegPost w E A q (codeV (ftP p.k) n ks (adF q R : Int) ((1 : Nat) : Int)) R { p with cc := (W.ord ((gt bs (adF q R)).toNat : Int) (q.i2 : Int)) } c) := by
  have hlt := adF_lt q R
  have hi2 : q.i2 < 256 := hq.i2
  have HA : Hid (∀ X, ES E A q R p c w X → Calls Tryz.prog 159 #[.pointer (some ⟨E, 0, none⟩)] X (New X (.int .i64 (adF q R : Int)))) := Lib.hid (fun X hX => fir_any E A q R p c X hX.2 hR hq)
  have HF : Hid (∀ X, ES E A q R p c w X → Calls Tryz.prog 154 #[.pointer (some ⟨E, 0, none⟩), .int .i64 (adF q R : Int)] X fun e X' => ES E A q R p c w X' ∧ (((codeV (ftP p.k) n ks (adF q R : Int) ((1 : Nat) : Int)) = 0 ∧ e = .returned (.int .u8 ((gt bs (adF q R)).toNat : Int))) ∨ ((codeV (ftP p.k) n ks (adF q R : Int) ((1 : Nat) : Int)) ≠ 0 ∧ e = Stop (codeV (ftP p.k) n ks (adF q R : Int) ((1 : Nat) : Int))))) := Lib.hid (fun X hX => by
    refine (fbyte_any E A q R p c g h n m bs ks (adF q R) X hX.2 (hs.below hX.1) (by omega)).mono ?_
    rintro e X' ⟨hb, hh⟩
    exact ⟨hX.next hb, hh⟩)
  have hw8 : IntKind.u8.wrap (q.i2 : Int) = (q.i2 : Int) := by
    show (q.i2 : Int) % 256 = (q.i2 : Int)
    omega
  have HOP := Lib.hid hop
  have HE := Lib.hid (ES.of hx)
  have HST := Lib.hid (fun X (hX : ES E A q R p c w X) v => And.intro hX.2.pcc (And.intro (hX.2.fz 35) (hX.2.setCc v)))
  have HC := Lib.hid (fun X => W.wCompareLogical_any ((gt bs (adF q R)).toNat : Int) (q.i2 : Int) X)
  have hv := (gt bs (adF q R)).toNat_lt
  generalize W.ord ((gt bs (adF q R)).toNat : Int) (q.i2 : Int) = y at HC ⊢
  generalize (codeV (ftP p.k) n ks (adF q R : Int) ((1 : Nat) : Int)) = C at HF ⊢
  generalize (gt bs (adF q R)).toNat = v at *
  generalize adF q R = a at HA HF hlt
  clear hx hs hR hq hop hlt
  go_enter Tryz.func69, Tryz.ntmps69
  go_wp2_with fail
  refine wp_region_held_drew (S := ES E A q R p c w) (by kernel_rfl) HE.out (fun k0 => ?_)
  show wpAnyH _ _ _ _ _ 12 #[false, false, false, false, false, false, false, false, false, false, false, false] _ _
  refine wpAnyH_take (i := 0) (oi := ⟨some 4, _, _, _, _, _⟩) (v := .pointer (some ⟨E, 0, none⟩)) rfl (by kernel_rfl) (by kernel_rfl) (by kernel_rfl) (fun _ _ _ h => h) (Or.inl ⟨by rfl, fun W hSw => by (try dsimp only at hSw); go_simp⟩) k0 ?_
  try simp only [Act.put, List.setIfInBounds_toArray, List.set_cons_zero, List.set_cons_succ]
  refine wpAnyH_take (i := 1) (oi := ⟨some 5, _, _, _, _, _⟩) (v := .pointer (some ⟨E, 0, none⟩)) rfl (by kernel_rfl) (by kernel_rfl) (by kernel_rfl) (fun _ _ _ h => h) (Or.inl ⟨by rfl, fun W hSw => by (try dsimp only at hSw); go_simp⟩) k0 ?_
  try simp only [Act.put, List.setIfInBounds_toArray, List.set_cons_zero, List.set_cons_succ]
  refine wpAnyH_take (i := 4) (oi := ⟨some 8, _, _, _, _, _⟩) (v := .pointer (some ⟨E, 0, none⟩)) rfl (by kernel_rfl) (by kernel_rfl) (by kernel_rfl) (fun _ _ _ h => h) (Or.inl ⟨by rfl, fun W hSw => by (try dsimp only at hSw); go_simp⟩) k0 ?_
  try simp only [Act.put, List.setIfInBounds_toArray, List.set_cons_zero, List.set_cons_succ]
  refine wpAnyH_take (i := 5) (oi := ⟨some 9, _, _, _, _, _⟩) (v := .pointer (some ⟨E, 0, none⟩)) rfl (by kernel_rfl) (by kernel_rfl) (by kernel_rfl) (fun _ _ _ h => h) (Or.inl ⟨by rfl, fun W hSw => by (try dsimp only at hSw); go_simp⟩) k0 ?_
  try simp only [Act.put, List.setIfInBounds_toArray, List.set_cons_zero, List.set_cons_succ]
  refine wpAnyH_take (i := 6) (oi := ⟨some 10, _, _, _, _, _⟩) (v := .pointer (some ⟨E, 0, none⟩)) rfl (by kernel_rfl) (by kernel_rfl) (by kernel_rfl) (fun _ _ _ h => h) (Or.inl ⟨by rfl, fun W hSw => by (try dsimp only at hSw); go_simp⟩) k0 ?_
  try simp only [Act.put, List.setIfInBounds_toArray, List.set_cons_zero, List.set_cons_succ]
  refine wpAnyH_take (i := 7) (oi := ⟨some 11, _, _, _, _, _⟩) (v := .pointer (some ⟨E, 11, none⟩)) rfl (by kernel_rfl) (by kernel_rfl) (by kernel_rfl) (fun _ _ _ h => h) (Or.inl ⟨by rfl, fun W hSw => by (try dsimp only at hSw); go_simp⟩) k0 ?_
  try simp only [Act.put, List.setIfInBounds_toArray, List.set_cons_zero, List.set_cons_succ]
  refine wpAnyH_take (i := 8) (oi := ⟨some 12, _, _, _, _, _⟩) (v := .int .i64 (q.i2 : Int)) rfl (by kernel_rfl) (by kernel_rfl) (by kernel_rfl) (fun _ _ _ h => h) (Or.inl ⟨by rfl, fun W hSw => by have cq := hSw.2.i2; clear hSw; go_simp⟩) k0 ?_
  try simp only [Act.put, List.setIfInBounds_toArray, List.set_cons_zero, List.set_cons_succ]
  refine wpAnyH_take (i := 9) (oi := ⟨some 13, _, _, _, _, _⟩) (v := .int .u8 (q.i2 : Int)) rfl (by kernel_rfl) (by kernel_rfl) (by kernel_rfl) (fun _ _ _ h => h) (Or.inl ⟨by rfl, fun W hSw => by clear hSw; simp [go_sem, hw8]⟩) k0 ?_
  try simp only [Act.put, List.setIfInBounds_toArray, List.set_cons_zero, List.set_cons_succ]
  refine wpAnyH_ready (rs := [2]) (by kernel_rfl) (by simp) ?_
  refine AllReadyH.cons (o := ⟨some 6, _, _, _, _, _⟩) rfl (fun K hK => ?_) AllReadyH.nil
  go_simp
  go_at_call 159
  refine (HA.out _ k0).mono ?_
  rintro e x1 ⟨rfl, hb⟩
  have k2 := k0.next hb
  clear hb
  go_wp2_with fail
  refine hK.out _ _ k2 (fun k1 => ?_)
  clear k2
  clear hK K
  try simp only [List.setIfInBounds_toArray, List.set_cons_zero, List.set_cons_succ]
  refine wpAnyH_ready (rs := [3]) (by kernel_rfl) (by simp) ?_
  refine AllReadyH.cons (o := ⟨some 7, _, _, _, _, _⟩) rfl (fun K hK => ?_) AllReadyH.nil
  go_simp
  go_at_call 154
  refine (HF.out _ k1).mono ?_
  rintro e x2 ⟨k2, ⟨h0, rfl⟩ | ⟨hn, rfl⟩⟩
  rotate_left
  · have HN := Lib.hid hn
    have HB := Lib.hid k2.1
    clear hn k2 k0 k1
    unfold Stop
    go_wp2
    exact ⟨rfl, .inl ⟨HN.out, rfl, Kp.bel HB.out⟩⟩
  have H0 := Lib.hid h0
  clear h0 HF
  go_wp2_with fail
  refine hK.out _ _ k2 (fun k3 => ?_)
  clear k2
  clear hK K
  try simp only [List.setIfInBounds_toArray, List.set_cons_zero, List.set_cons_succ]
  refine wpAnyH_take (i := 10) (oi := ⟨some 2, _, _, _, _, _⟩) (v := .int .u8 (v : Int)) rfl (by kernel_rfl) (by kernel_rfl) (by kernel_rfl) (fun _ _ _ h => h) (Or.inl ⟨by rfl, fun W hSw => by (try dsimp only at hSw); go_simp⟩) k3 ?_
  try simp only [Act.put, List.setIfInBounds_toArray, List.set_cons_zero, List.set_cons_succ]
  refine wpAnyH_take (i := 11) (oi := ⟨some 3, _, _, _, _, _⟩) (v := .int .u8 (q.i2 : Int)) rfl (by kernel_rfl) (by kernel_rfl) (by kernel_rfl) (fun _ _ _ h => h) (Or.inl ⟨by rfl, fun W hSw => by (try dsimp only at hSw); go_simp⟩) k3 ?_
  try simp only [Act.put, List.setIfInBounds_toArray, List.set_cons_zero, List.set_cons_succ]
  refine wpAnyH_done (by kernel_rfl) ?_ _
  refine id ?_
  have c0 := k3.2.op
  rw [HOP.out] at c0
  obtain ⟨c1, c2, h3⟩ := HST.out _ k3 y
  have H3 := Lib.hid h3
  have HB := Lib.hid k3.1
  have hvI : (v : Int) < 256 := by omega
  have hiI : (q.i2 : Int) < 256 := by omega
  clear h3 k0 k1 k3 HA HE HOP HST
  go_wp2_with fail
  refine (HC.out _).mono ?_
  rintro e w2 ⟨rfl, rfl⟩
  go_wp2
  go_end0
  exact .inr ⟨H0.out, rfl, H3.out, (Kp.bel HB.out).trans (kp_set _ _ _ _ _ (by simp))⟩
set_option maxRecDepth 100000 in
set_option maxHeartbeats 1000000 in
theorem examine_145 (E A : Nat) (q : Qn) (R : Nat → Int) (p : Psw) (c : Int) (g h n m : Nat) (bs ks : List UInt8) (w : World) (hx : Ex w E A q R p c) (hs : Sto w A g h n m bs ks) (hR : RegOk R) (hq : QOk q) (hop : q.op = 145) : Calls Tryz.prog 69 #[.pointer (some ⟨E, 0, none⟩)] w (RegPost w E A q (codeV (ftP p.k) n ks (adF q R : Int) ((1 : Nat) : Int)) R { p with cc := (ccM (((gt bs (adF q R)).toNat &&& q.i2 : Nat) : Int) (q.i2 : Int)) } c) := by
  have hlt := adF_lt q R
  have hi2 : q.i2 < 256 := hq.i2
  have HA : Hid (∀ X, ES E A q R p c w X → Calls Tryz.prog 159 #[.pointer (some ⟨E, 0, none⟩)] X (New X (.int .i64 (adF q R : Int)))) := Lib.hid (fun X hX => fir_any E A q R p c X hX.2 hR hq)
  have HF : Hid (∀ X, ES E A q R p c w X → Calls Tryz.prog 154 #[.pointer (some ⟨E, 0, none⟩), .int .i64 (adF q R : Int)] X fun e X' => ES E A q R p c w X' ∧ (((codeV (ftP p.k) n ks (adF q R : Int) ((1 : Nat) : Int)) = 0 ∧ e = .returned (.int .u8 ((gt bs (adF q R)).toNat : Int))) ∨ ((codeV (ftP p.k) n ks (adF q R : Int) ((1 : Nat) : Int)) ≠ 0 ∧ e = Stop (codeV (ftP p.k) n ks (adF q R : Int) ((1 : Nat) : Int))))) := Lib.hid (fun X hX => by
    refine (fbyte_any E A q R p c g h n m bs ks (adF q R) X hX.2 (hs.below hX.1) (by omega)).mono ?_
    rintro e X' ⟨hb, hh⟩
    exact ⟨hX.next hb, hh⟩)
  have hw8 : IntKind.u8.wrap (q.i2 : Int) = (q.i2 : Int) := by
    show (q.i2 : Int) % 256 = (q.i2 : Int)
    omega
  have HOP := Lib.hid hop
  have HE := Lib.hid (ES.of hx)
  have HST := Lib.hid (fun X (hX : ES E A q R p c w X) v => And.intro hX.2.pcc (And.intro (hX.2.fz 35) (hX.2.setCc v)))
  have hv := (gt bs (adF q R)).toNat_lt
  have HC := Lib.hid (fun X => ccMask_any (((gt bs (adF q R)).toNat &&& q.i2 : Nat) : Int) (q.i2 : Int) X)
  have hand := (u8_bits (gt bs (adF q R)).toNat q.i2 (by omega) hi2).1
  have HAND := Lib.hid hand
  clear hand
  generalize ccM (((gt bs (adF q R)).toNat &&& q.i2 : Nat) : Int) (q.i2 : Int) = y at HC ⊢
  generalize (gt bs (adF q R)).toNat &&& q.i2 = z at HC HAND
  generalize (codeV (ftP p.k) n ks (adF q R : Int) ((1 : Nat) : Int)) = C at HF ⊢
  generalize (gt bs (adF q R)).toNat = v at *
  generalize adF q R = a at HA HF hlt
  clear hx hs hR hq hop hlt
  go_enter Tryz.func69, Tryz.ntmps69
  go_wp2_with fail
  refine wp_region_held_drew (S := ES E A q R p c w) (by kernel_rfl) HE.out (fun k0 => ?_)
  show wpAnyH _ _ _ _ _ 12 #[false, false, false, false, false, false, false, false, false, false, false, false] _ _
  refine wpAnyH_take (i := 0) (oi := ⟨some 4, _, _, _, _, _⟩) (v := .pointer (some ⟨E, 0, none⟩)) rfl (by kernel_rfl) (by kernel_rfl) (by kernel_rfl) (fun _ _ _ h => h) (Or.inl ⟨by rfl, fun W hSw => by (try dsimp only at hSw); go_simp⟩) k0 ?_
  try simp only [Act.put, List.setIfInBounds_toArray, List.set_cons_zero, List.set_cons_succ]
  refine wpAnyH_take (i := 1) (oi := ⟨some 5, _, _, _, _, _⟩) (v := .pointer (some ⟨E, 0, none⟩)) rfl (by kernel_rfl) (by kernel_rfl) (by kernel_rfl) (fun _ _ _ h => h) (Or.inl ⟨by rfl, fun W hSw => by (try dsimp only at hSw); go_simp⟩) k0 ?_
  try simp only [Act.put, List.setIfInBounds_toArray, List.set_cons_zero, List.set_cons_succ]
  refine wpAnyH_take (i := 4) (oi := ⟨some 8, _, _, _, _, _⟩) (v := .pointer (some ⟨E, 0, none⟩)) rfl (by kernel_rfl) (by kernel_rfl) (by kernel_rfl) (fun _ _ _ h => h) (Or.inl ⟨by rfl, fun W hSw => by (try dsimp only at hSw); go_simp⟩) k0 ?_
  try simp only [Act.put, List.setIfInBounds_toArray, List.set_cons_zero, List.set_cons_succ]
  refine wpAnyH_take (i := 5) (oi := ⟨some 9, _, _, _, _, _⟩) (v := .pointer (some ⟨E, 0, none⟩)) rfl (by kernel_rfl) (by kernel_rfl) (by kernel_rfl) (fun _ _ _ h => h) (Or.inl ⟨by rfl, fun W hSw => by (try dsimp only at hSw); go_simp⟩) k0 ?_
  try simp only [Act.put, List.setIfInBounds_toArray, List.set_cons_zero, List.set_cons_succ]
  refine wpAnyH_take (i := 6) (oi := ⟨some 10, _, _, _, _, _⟩) (v := .pointer (some ⟨E, 0, none⟩)) rfl (by kernel_rfl) (by kernel_rfl) (by kernel_rfl) (fun _ _ _ h => h) (Or.inl ⟨by rfl, fun W hSw => by (try dsimp only at hSw); go_simp⟩) k0 ?_
  try simp only [Act.put, List.setIfInBounds_toArray, List.set_cons_zero, List.set_cons_succ]
  refine wpAnyH_take (i := 7) (oi := ⟨some 11, _, _, _, _, _⟩) (v := .pointer (some ⟨E, 11, none⟩)) rfl (by kernel_rfl) (by kernel_rfl) (by kernel_rfl) (fun _ _ _ h => h) (Or.inl ⟨by rfl, fun W hSw => by (try dsimp only at hSw); go_simp⟩) k0 ?_
  try simp only [Act.put, List.setIfInBounds_toArray, List.set_cons_zero, List.set_cons_succ]
  refine wpAnyH_take (i := 8) (oi := ⟨some 12, _, _, _, _, _⟩) (v := .int .i64 (q.i2 : Int)) rfl (by kernel_rfl) (by kernel_rfl) (by kernel_rfl) (fun _ _ _ h => h) (Or.inl ⟨by rfl, fun W hSw => by have cq := hSw.2.i2; clear hSw; go_simp⟩) k0 ?_
  try simp only [Act.put, List.setIfInBounds_toArray, List.set_cons_zero, List.set_cons_succ]
  refine wpAnyH_take (i := 9) (oi := ⟨some 13, _, _, _, _, _⟩) (v := .int .u8 (q.i2 : Int)) rfl (by kernel_rfl) (by kernel_rfl) (by kernel_rfl) (fun _ _ _ h => h) (Or.inl ⟨by rfl, fun W hSw => by clear hSw; simp [go_sem, hw8]⟩) k0 ?_
  try simp only [Act.put, List.setIfInBounds_toArray, List.set_cons_zero, List.set_cons_succ]
  refine wpAnyH_ready (rs := [2]) (by kernel_rfl) (by simp) ?_
  refine AllReadyH.cons (o := ⟨some 6, _, _, _, _, _⟩) rfl (fun K hK => ?_) AllReadyH.nil
  go_simp
  go_at_call 159
  refine (HA.out _ k0).mono ?_
  rintro e x1 ⟨rfl, hb⟩
  have k2 := k0.next hb
  clear hb
  go_wp2_with fail
  refine hK.out _ _ k2 (fun k1 => ?_)
  clear k2
  clear hK K
  try simp only [List.setIfInBounds_toArray, List.set_cons_zero, List.set_cons_succ]
  refine wpAnyH_ready (rs := [3]) (by kernel_rfl) (by simp) ?_
  refine AllReadyH.cons (o := ⟨some 7, _, _, _, _, _⟩) rfl (fun K hK => ?_) AllReadyH.nil
  go_simp
  go_at_call 154
  refine (HF.out _ k1).mono ?_
  rintro e x2 ⟨k2, ⟨h0, rfl⟩ | ⟨hn, rfl⟩⟩
  rotate_left
  · have HN := Lib.hid hn
    have HB := Lib.hid k2.1
    clear hn k2 k0 k1
    unfold Stop
    go_wp2
    exact ⟨rfl, .inl ⟨HN.out, rfl, Kp.bel HB.out⟩⟩
  have H0 := Lib.hid h0
  clear h0 HF
  go_wp2_with fail
  refine hK.out _ _ k2 (fun k3 => ?_)
  clear k2
  clear hK K
  try simp only [List.setIfInBounds_toArray, List.set_cons_zero, List.set_cons_succ]
  refine wpAnyH_take (i := 10) (oi := ⟨some 2, _, _, _, _, _⟩) (v := .int .u8 (v : Int)) rfl (by kernel_rfl) (by kernel_rfl) (by kernel_rfl) (fun _ _ _ h => h) (Or.inl ⟨by rfl, fun W hSw => by (try dsimp only at hSw); go_simp⟩) k3 ?_
  try simp only [Act.put, List.setIfInBounds_toArray, List.set_cons_zero, List.set_cons_succ]
  refine wpAnyH_take (i := 11) (oi := ⟨some 3, _, _, _, _, _⟩) (v := .int .u8 (q.i2 : Int)) rfl (by kernel_rfl) (by kernel_rfl) (by kernel_rfl) (fun _ _ _ h => h) (Or.inl ⟨by rfl, fun W hSw => by (try dsimp only at hSw); go_simp⟩) k3 ?_
  try simp only [Act.put, List.setIfInBounds_toArray, List.set_cons_zero, List.set_cons_succ]
  refine wpAnyH_done (by kernel_rfl) ?_ _
  refine id ?_
  have c0 := k3.2.op
  rw [HOP.out] at c0
  obtain ⟨c1, c2, h3⟩ := HST.out _ k3 y
  have H3 := Lib.hid h3
  have HB := Lib.hid k3.1
  have hvI : (v : Int) < 256 := by omega
  have hiI : (q.i2 : Int) < 256 := by omega
  clear h3 k0 k1 k3 HA HE HOP HST
  go_wp2_with fail
  rw [HAND.out]
  refine (HC.out _).mono ?_
  rintro e w2 ⟨rfl, rfl⟩
  go_wp2
  go_end0
  exact .inr ⟨H0.out, rfl, H3.out, (Kp.bel HB.out).trans (kp_set _ _ _ _ _ (by simp))⟩

end M
end Go.Proofs.YtfopjnfphlkcgaaGreat
namespace Go.Proofs.YtfopjnfphlkcgaaGreat
open Go.RowKit Go.Shelf E
set_option linter.unusedVariables false
namespace M

/-- The immediate byte. -/
def i2B (q : Qn) : UInt8 := UInt8.ofNat q.i2
theorem i2B_nat {q : Qn} (h : q.i2 < 256) : (i2B q).toNat = q.i2 := by
  unfold i2B
  rw [UInt8.toNat_ofNat_of_lt' (by simpa using h)]
/-- What becomes of a byte and the immediate one. -/
def imB (op : Nat) (x y : UInt8) : UInt8 := if op = 148 then x &&& y else if op = 150 then x ||| y else x ^^^ y
theorem row_one (X : World) (z : UInt8) : Row (X.alloc (.cells #[.int .u8 (z.toNat : Int)] 5)) X.heap.size 5 (bsU [z]) 1 := Bx.row (Bx.new X 5 #[.int .u8 (z.toNat : Int)])
/-- The code of an instruction that fetches a byte and stores it. -/
def imC (q : Qn) (R : Nat → Int) (p : Psw) (n : Nat) (ks : List UInt8) : Int := if (codeV (ftP p.k) n ks (adF q R : Int) ((1 : Nat) : Int)) = 0 then (codeV (stP p.k) n ks (adF q R : Int) ((1 : Nat) : Int)) else (codeV (ftP p.k) n ks (adF q R : Int) ((1 : Nat) : Int))
set_option maxRecDepth 100000 in
set_option maxHeartbeats 1000000 in
theorem combImm_148 (E A : Nat) (q : Qn) (R : Nat → Int) (p : Psw) (c : Int) (g h n m : Nat) (bs ks : List UInt8) (w : World) (hx : Ex w E A q R p c) (hs : Sto w A g h n m bs ks) (hR : RegOk R) (hq : QOk q) (hop : q.op = 148) : Calls Tryz.prog 68 #[.pointer (some ⟨E, 0, none⟩)] w (StoPost w E A g h n m q R { p with cc := ccB [(imB 148 (gt bs (adF q R)) (i2B q))] } c (imC q R p n ks) bs (putB (stP p.k) n bs ks (adF q R : Int) [(imB 148 (gt bs (adF q R)) (i2B q))]) ks) := by
  have hlt := adF_lt q R
  have hi2 : q.i2 < 256 := hq.i2
  have HA : Hid (∀ X, ES E A q R p c w X → Calls Tryz.prog 159 #[.pointer (some ⟨E, 0, none⟩)] X (New X (.int .i64 (adF q R : Int)))) := Lib.hid (fun X hX => fir_any E A q R p c X hX.2 hR hq)
  have HF : Hid (∀ X, ES E A q R p c w X → Calls Tryz.prog 154 #[.pointer (some ⟨E, 0, none⟩), .int .i64 (adF q R : Int)] X fun e X' => ES E A q R p c w X' ∧ (((codeV (ftP p.k) n ks (adF q R : Int) ((1 : Nat) : Int)) = 0 ∧ e = .returned (.int .u8 ((gt bs (adF q R)).toNat : Int))) ∨ ((codeV (ftP p.k) n ks (adF q R : Int) ((1 : Nat) : Int)) ≠ 0 ∧ e = Stop (codeV (ftP p.k) n ks (adF q R : Int) ((1 : Nat) : Int))))) := Lib.hid (fun X hX => by
    refine (fbyte_any E A q R p c g h n m bs ks (adF q R) X hX.2 (hs.below hX.1) (by omega)).mono ?_
    rintro e X' ⟨hb, hh⟩
    exact ⟨hX.next hb, hh⟩)
  have hw8 : IntKind.u8.wrap (q.i2 : Int) = (q.i2 : Int) := by
    show (q.i2 : Int) % 256 = (q.i2 : Int)
    omega
  have HFI := Lib.hid (fir_any E A q R p c w hx hR hq)
  have HOP := Lib.hid hop
  have HE := Lib.hid (fun X (hX : Below w.heap.size w X) => (show ES E A q R p c w X.drew from ⟨bel0 hX (bel_drew X), (hx.below hX).drew⟩))
  have HSS := Lib.hid (fun X (hX : Below w.heap.size w X) => hs.below hX)
  have hbb : ∀ X, Calls Tryz.prog 160 #[.int .i64 148, .int .u8 ((gt bs (adF q R)).toNat : Int), .int .u8 (q.i2 : Int)] X fun e X' => e = .returned (.int .u8 ((imB 148 (gt bs (adF q R)) (i2B q)).toNat : Int)) ∧ X = X' := fun X => by
    have h1 := bitByte_148 (gt bs (adF q R)) (i2B q) X
    rw [i2B_nat hi2] at h1
    exact h1
  have HBB := Lib.hid hbb
  have HP := Lib.hid (fun X v (hX : Below w.heap.size w X) (hv : SvB X v [(imB 148 (gt bs (adF q R)) (i2B q))]) => put_raw E A q R p c g h n m bs ks (adF q R) v [(imB 148 (gt bs (adF q R)) (i2B q))] _ X (hx.below hX) (hs.below hX) hv (by omega) rfl)
  have HNB := Lib.hid (fun (h0 : (codeV (stP p.k) n ks (adF q R : Int) ((1 : Nat) : Int)) ≠ 0) => putB_no (P := stP p.k) (n := n) (bs := bs) (ks := ks) (x := (adF q R : Int)) (b := [(imB 148 (gt bs (adF q R)) (i2B q))]) h0)
  change Hid (∀ X v, Below w.heap.size w X → SvB X v [(imB 148 (gt bs (adF q R)) (i2B q))] → Calls Tryz.prog 152 #[.pointer (some ⟨E, 0, none⟩), .int .i64 (adF q R : Int), v] X fun e w' => (((codeV (stP p.k) n ks (adF q R : Int) ((1 : Nat) : Int)) = 0 ∧ e = .returned (.tuple #[])) ∨ ((codeV (stP p.k) n ks (adF q R : Int) ((1 : Nat) : Int)) ≠ 0 ∧ e = Stop (codeV (stP p.k) n ks (adF q R : Int) ((1 : Nat) : Int)))) ∧ Ex w' E A q R p c ∧ Sto w' A g h n m (putB (stP p.k) n bs ks (adF q R : Int) [(imB 148 (gt bs (adF q R)) (i2B q))]) ks ∧ Kp X w' [g]) at HP
  have HCC := Lib.hid (show imC q R p n ks = if (codeV (ftP p.k) n ks (adF q R : Int) ((1 : Nat) : Int)) = 0 then (codeV (stP p.k) n ks (adF q R : Int) ((1 : Nat) : Int)) else (codeV (ftP p.k) n ks (adF q R : Int) ((1 : Nat) : Int)) from rfl)
  generalize putB (stP p.k) n bs ks (adF q R : Int) [(imB 148 (gt bs (adF q R)) (i2B q))] = bs' at HP HNB ⊢
  generalize imC q R p n ks = CC at HCC ⊢
  generalize (codeV (stP p.k) n ks (adF q R : Int) ((1 : Nat) : Int)) = C2 at HP HNB HCC
  generalize (codeV (ftP p.k) n ks (adF q R : Int) ((1 : Nat) : Int)) = C1 at HF HCC
  clear hbb
  have HSV := Lib.hid (fun X => svb_one X (imB 148 (gt bs (adF q R)) (i2B q)))
  have HCB := Lib.hid (fun X => ccBits_any [(imB 148 (gt bs (adF q R)) (i2B q))] X.heap.size 1 1 (X.alloc (.cells #[.int .u8 ((imB 148 (gt bs (adF q R)) (i2B q)).toNat : Int)] 5)) (row_one X (imB 148 (gt bs (adF q R)) (i2B q))) rfl (by decide))
  generalize ccB [(imB 148 (gt bs (adF q R)) (i2B q))] = y at HCB ⊢
  have HN := Lib.hid (fun (X : World) (hX : Ex X E A q R p c) => And.intro hX.pcc (And.intro (hX.fz 35) (hX.setCc y)))
  generalize (imB 148 (gt bs (adF q R)) (i2B q)) = z at HBB HP HSV HCB
  have hv := (gt bs (adF q R)).toNat_lt
  generalize (gt bs (adF q R)).toNat = v at *
  generalize adF q R = a at *
  clear hx hs hR hq hop hlt HA
  go_enter Tryz.func68, Tryz.ntmps68
  go_wp2_with fail
  refine HFI.out.mono ?_
  rintro e w1 ⟨rfl, hb⟩
  have HB1 := Lib.hid hb
  clear hb HFI
  go_wp2_with fail
  refine wp_region_held_drew (S := ES E A q R p c w) (by kernel_rfl) (HE.out _ HB1.out) (fun k0 => ?_)
  show wpAnyH _ _ _ _ _ 16 #[false, false, false, false, false, false, false, false, false, false, false, false, false, false, false, false] _ _
  refine wpAnyH_take (i := 0) (oi := ⟨some 6, _, _, _, _, _⟩) (v := .pointer (some ⟨E, 0, none⟩)) rfl (by kernel_rfl) (by kernel_rfl) (by kernel_rfl) (fun _ _ _ h => h) (Or.inl ⟨by rfl, fun W hSw => by (try dsimp only at hSw); go_simp⟩) k0 ?_
  try simp only [Act.put, List.setIfInBounds_toArray, List.set_cons_zero, List.set_cons_succ]
  refine wpAnyH_take (i := 1) (oi := ⟨some 7, _, _, _, _, _⟩) (v := .pointer (some ⟨E, 0, none⟩)) rfl (by kernel_rfl) (by kernel_rfl) (by kernel_rfl) (fun _ _ _ h => h) (Or.inl ⟨by rfl, fun W hSw => by (try dsimp only at hSw); go_simp⟩) k0 ?_
  try simp only [Act.put, List.setIfInBounds_toArray, List.set_cons_zero, List.set_cons_succ]
  refine wpAnyH_take (i := 2) (oi := ⟨some 8, _, _, _, _, _⟩) (v := .pointer (some ⟨E, 0, none⟩)) rfl (by kernel_rfl) (by kernel_rfl) (by kernel_rfl) (fun _ _ _ h => h) (Or.inl ⟨by rfl, fun W hSw => by (try dsimp only at hSw); go_simp⟩) k0 ?_
  try simp only [Act.put, List.setIfInBounds_toArray, List.set_cons_zero, List.set_cons_succ]
  refine wpAnyH_take (i := 3) (oi := ⟨some 9, _, _, _, _, _⟩) (v := .pointer (some ⟨E, 0, none⟩)) rfl (by kernel_rfl) (by kernel_rfl) (by kernel_rfl) (fun _ _ _ h => h) (Or.inl ⟨by rfl, fun W hSw => by (try dsimp only at hSw); go_simp⟩) k0 ?_
  try simp only [Act.put, List.setIfInBounds_toArray, List.set_cons_zero, List.set_cons_succ]
  refine wpAnyH_take (i := 4) (oi := ⟨some 10, _, _, _, _, _⟩) (v := .int .i64 148) rfl (by kernel_rfl) (by kernel_rfl) (by kernel_rfl) (fun _ _ _ h => h) (Or.inl ⟨by rfl, fun W hSw => by have cq := hSw.2.op; rw [HOP.out] at cq; clear hSw; go_simp⟩) k0 ?_
  try simp only [Act.put, List.setIfInBounds_toArray, List.set_cons_zero, List.set_cons_succ]
  refine wpAnyH_take (i := 5) (oi := ⟨some 11, _, _, _, _, _⟩) (v := .pointer (some ⟨E, 0, none⟩)) rfl (by kernel_rfl) (by kernel_rfl) (by kernel_rfl) (fun _ _ _ h => h) (Or.inl ⟨by rfl, fun W hSw => by (try dsimp only at hSw); go_simp⟩) k0 ?_
  try simp only [Act.put, List.setIfInBounds_toArray, List.set_cons_zero, List.set_cons_succ]
  refine wpAnyH_take (i := 6) (oi := ⟨some 12, _, _, _, _, _⟩) (v := .int .i64 (a : Int)) rfl (by kernel_rfl) (by kernel_rfl) (by kernel_rfl) (fun _ _ _ h => h) (Or.inl ⟨by rfl, fun W hSw => by (try dsimp only at hSw); go_simp⟩) k0 ?_
  try simp only [Act.put, List.setIfInBounds_toArray, List.set_cons_zero, List.set_cons_succ]
  refine wpAnyH_take (i := 8) (oi := ⟨some 14, _, _, _, _, _⟩) (v := .pointer (some ⟨E, 0, none⟩)) rfl (by kernel_rfl) (by kernel_rfl) (by kernel_rfl) (fun _ _ _ h => h) (Or.inl ⟨by rfl, fun W hSw => by (try dsimp only at hSw); go_simp⟩) k0 ?_
  try simp only [Act.put, List.setIfInBounds_toArray, List.set_cons_zero, List.set_cons_succ]
  refine wpAnyH_take (i := 9) (oi := ⟨some 15, _, _, _, _, _⟩) (v := .pointer (some ⟨E, 0, none⟩)) rfl (by kernel_rfl) (by kernel_rfl) (by kernel_rfl) (fun _ _ _ h => h) (Or.inl ⟨by rfl, fun W hSw => by (try dsimp only at hSw); go_simp⟩) k0 ?_
  try simp only [Act.put, List.setIfInBounds_toArray, List.set_cons_zero, List.set_cons_succ]
  refine wpAnyH_take (i := 10) (oi := ⟨some 16, _, _, _, _, _⟩) (v := .pointer (some ⟨E, 0, none⟩)) rfl (by kernel_rfl) (by kernel_rfl) (by kernel_rfl) (fun _ _ _ h => h) (Or.inl ⟨by rfl, fun W hSw => by (try dsimp only at hSw); go_simp⟩) k0 ?_
  try simp only [Act.put, List.setIfInBounds_toArray, List.set_cons_zero, List.set_cons_succ]
  refine wpAnyH_take (i := 11) (oi := ⟨some 17, _, _, _, _, _⟩) (v := .pointer (some ⟨E, 11, none⟩)) rfl (by kernel_rfl) (by kernel_rfl) (by kernel_rfl) (fun _ _ _ h => h) (Or.inl ⟨by rfl, fun W hSw => by (try dsimp only at hSw); go_simp⟩) k0 ?_
  try simp only [Act.put, List.setIfInBounds_toArray, List.set_cons_zero, List.set_cons_succ]
  refine wpAnyH_take (i := 12) (oi := ⟨some 18, _, _, _, _, _⟩) (v := .int .i64 (q.i2 : Int)) rfl (by kernel_rfl) (by kernel_rfl) (by kernel_rfl) (fun _ _ _ h => h) (Or.inl ⟨by rfl, fun W hSw => by have cq := hSw.2.i2; clear hSw; go_simp⟩) k0 ?_
  try simp only [Act.put, List.setIfInBounds_toArray, List.set_cons_zero, List.set_cons_succ]
  refine wpAnyH_take (i := 13) (oi := ⟨some 19, _, _, _, _, _⟩) (v := .int .u8 (q.i2 : Int)) rfl (by kernel_rfl) (by kernel_rfl) (by kernel_rfl) (fun _ _ _ h => h) (Or.inl ⟨by rfl, fun W hSw => by clear hSw; simp [go_sem, hw8]⟩) k0 ?_
  try simp only [Act.put, List.setIfInBounds_toArray, List.set_cons_zero, List.set_cons_succ]
  refine wpAnyH_ready (rs := [7]) (by kernel_rfl) (by simp) ?_
  refine AllReadyH.cons (o := ⟨some 13, _, _, _, _, _⟩) rfl (fun K hK => ?_) AllReadyH.nil
  go_simp
  go_at_call 154
  refine (HF.out _ k0).mono ?_
  rintro e x2 ⟨k2, ⟨h0, rfl⟩ | ⟨hn, rfl⟩⟩
  rotate_left
  · have HNN := Lib.hid hn
    have HB := Lib.hid k2.1
    clear hn k2 k0
    unfold Stop
    go_wp2
    exact ⟨rfl, .inr ⟨by rw [HCC.out, if_neg HNN.out]; exact HNN.out, by rw [HCC.out, if_neg HNN.out]; rfl, HSS.out _ HB.out⟩, Kp.bel HB.out⟩
  have H0 := Lib.hid h0
  clear h0 HF
  go_wp2_with fail
  refine hK.out _ _ k2 (fun k3 => ?_)
  clear k2
  clear hK K
  try simp only [List.setIfInBounds_toArray, List.set_cons_zero, List.set_cons_succ]
  refine wpAnyH_ready (rs := [14]) (by kernel_rfl) (by simp) ?_
  refine AllReadyH.cons (o := ⟨some 20, _, _, _, _, _⟩) rfl (fun K hK => ?_) AllReadyH.nil
  go_simp
  go_at_call 160
  refine (HBB.out _).mono ?_
  rintro e x3 ⟨rfl, rfl⟩
  go_wp2_with fail
  refine hK.out _ _ k3 (fun k3 => ?_)
  clear hK K
  try simp only [List.setIfInBounds_toArray, List.set_cons_zero, List.set_cons_succ]
  refine wpAnyH_take (i := 15) (oi := ⟨some 3, _, _, _, _, _⟩) (v := .int .u8 (z.toNat : Int)) rfl (by kernel_rfl) (by kernel_rfl) (by kernel_rfl) (fun _ _ _ h => h) (Or.inl ⟨by rfl, fun W hSw => by (try dsimp only at hSw); go_simp⟩) k3 ?_
  try simp only [Act.put, List.setIfInBounds_toArray, List.set_cons_zero, List.set_cons_succ]
  refine wpAnyH_done (by kernel_rfl) ?_ _
  refine id ?_
  have HBX := Lib.hid k3.1
  clear k0 k3 HE HBB HB1 HSS HOP
  go_wp2_with fail
  refine (HP.out _ _ (bel0 HBX.out (below_new _ _)) (HSV.out _)).mono ?_
  rintro e w3 ⟨hp, hx3, hs3, hk3⟩
  have HK3 := Lib.hid ((Kp.bel (l := [E, g]) (bel0 HBX.out (below_new _ (.cells #[.int .u8 (z.toNat : Int)] 5)))).trans (Kp.more2 hk3))
  have HS3 := Lib.hid hs3
  have HX3 := Lib.hid hx3
  clear hx3 hs3 hk3 HP HSV HBX
  rcases hp with ⟨hc, rfl⟩ | ⟨hc, rfl⟩
  · have HC := Lib.hid hc
    clear hc
    go_wp2_with fail
    have b4 := below_new w3 (.cells #[.int .u8 (z.toNat : Int)] 5)
    obtain ⟨n1, n2, n3⟩ := HN.out _ (HX3.out.below b4)
    have HS4 := Lib.hid (sto_set (HS3.out.below b4) n3)
    have HX4 := Lib.hid n3
    have HK4 := Lib.hid ((HK3.out.trans (Kp.bel b4)).trans (kp_set _ E 35 (.int .i64 y) _ (by simp)))
    have HCB2 := Lib.hid (HCB.out w3)
    clear n3 b4 HS3 HX3 HK3 HN HCB
    refine HCB2.out.mono ?_
    rintro e w4 ⟨rfl, rfl⟩
    go_wp2
    go_end0
    exact ⟨.inl ⟨by rw [HCC.out, if_pos H0.out]; exact HC.out, rfl, HS4.out, HX4.out⟩, HK4.out⟩
  · have HC := Lib.hid hc
    have e1 : CC = C2 := by rw [HCC.out, if_pos H0.out]
    have E1 := Lib.hid e1
    clear hc e1
    unfold Stop
    go_wp2
    exact ⟨rfl, .inr ⟨by rw [E1.out]; exact HC.out, by rw [E1.out]; rfl, by rw [← HNB.out HC.out]; exact HS3.out⟩, HK3.out⟩
set_option maxRecDepth 100000 in
set_option maxHeartbeats 1000000 in
theorem combImm_150 (E A : Nat) (q : Qn) (R : Nat → Int) (p : Psw) (c : Int) (g h n m : Nat) (bs ks : List UInt8) (w : World) (hx : Ex w E A q R p c) (hs : Sto w A g h n m bs ks) (hR : RegOk R) (hq : QOk q) (hop : q.op = 150) : Calls Tryz.prog 68 #[.pointer (some ⟨E, 0, none⟩)] w (StoPost w E A g h n m q R { p with cc := ccB [(imB 150 (gt bs (adF q R)) (i2B q))] } c (imC q R p n ks) bs (putB (stP p.k) n bs ks (adF q R : Int) [(imB 150 (gt bs (adF q R)) (i2B q))]) ks) := by
  have hlt := adF_lt q R
  have hi2 : q.i2 < 256 := hq.i2
  have HA : Hid (∀ X, ES E A q R p c w X → Calls Tryz.prog 159 #[.pointer (some ⟨E, 0, none⟩)] X (New X (.int .i64 (adF q R : Int)))) := Lib.hid (fun X hX => fir_any E A q R p c X hX.2 hR hq)
  have HF : Hid (∀ X, ES E A q R p c w X → Calls Tryz.prog 154 #[.pointer (some ⟨E, 0, none⟩), .int .i64 (adF q R : Int)] X fun e X' => ES E A q R p c w X' ∧ (((codeV (ftP p.k) n ks (adF q R : Int) ((1 : Nat) : Int)) = 0 ∧ e = .returned (.int .u8 ((gt bs (adF q R)).toNat : Int))) ∨ ((codeV (ftP p.k) n ks (adF q R : Int) ((1 : Nat) : Int)) ≠ 0 ∧ e = Stop (codeV (ftP p.k) n ks (adF q R : Int) ((1 : Nat) : Int))))) := Lib.hid (fun X hX => by
    refine (fbyte_any E A q R p c g h n m bs ks (adF q R) X hX.2 (hs.below hX.1) (by omega)).mono ?_
    rintro e X' ⟨hb, hh⟩
    exact ⟨hX.next hb, hh⟩)
  have hw8 : IntKind.u8.wrap (q.i2 : Int) = (q.i2 : Int) := by
    show (q.i2 : Int) % 256 = (q.i2 : Int)
    omega
  have HFI := Lib.hid (fir_any E A q R p c w hx hR hq)
  have HOP := Lib.hid hop
  have HE := Lib.hid (fun X (hX : Below w.heap.size w X) => (show ES E A q R p c w X.drew from ⟨bel0 hX (bel_drew X), (hx.below hX).drew⟩))
  have HSS := Lib.hid (fun X (hX : Below w.heap.size w X) => hs.below hX)
  have hbb : ∀ X, Calls Tryz.prog 160 #[.int .i64 150, .int .u8 ((gt bs (adF q R)).toNat : Int), .int .u8 (q.i2 : Int)] X fun e X' => e = .returned (.int .u8 ((imB 150 (gt bs (adF q R)) (i2B q)).toNat : Int)) ∧ X = X' := fun X => by
    have h1 := bitByte_150 (gt bs (adF q R)) (i2B q) X
    rw [i2B_nat hi2] at h1
    exact h1
  have HBB := Lib.hid hbb
  have HP := Lib.hid (fun X v (hX : Below w.heap.size w X) (hv : SvB X v [(imB 150 (gt bs (adF q R)) (i2B q))]) => put_raw E A q R p c g h n m bs ks (adF q R) v [(imB 150 (gt bs (adF q R)) (i2B q))] _ X (hx.below hX) (hs.below hX) hv (by omega) rfl)
  have HNB := Lib.hid (fun (h0 : (codeV (stP p.k) n ks (adF q R : Int) ((1 : Nat) : Int)) ≠ 0) => putB_no (P := stP p.k) (n := n) (bs := bs) (ks := ks) (x := (adF q R : Int)) (b := [(imB 150 (gt bs (adF q R)) (i2B q))]) h0)
  change Hid (∀ X v, Below w.heap.size w X → SvB X v [(imB 150 (gt bs (adF q R)) (i2B q))] → Calls Tryz.prog 152 #[.pointer (some ⟨E, 0, none⟩), .int .i64 (adF q R : Int), v] X fun e w' => (((codeV (stP p.k) n ks (adF q R : Int) ((1 : Nat) : Int)) = 0 ∧ e = .returned (.tuple #[])) ∨ ((codeV (stP p.k) n ks (adF q R : Int) ((1 : Nat) : Int)) ≠ 0 ∧ e = Stop (codeV (stP p.k) n ks (adF q R : Int) ((1 : Nat) : Int)))) ∧ Ex w' E A q R p c ∧ Sto w' A g h n m (putB (stP p.k) n bs ks (adF q R : Int) [(imB 150 (gt bs (adF q R)) (i2B q))]) ks ∧ Kp X w' [g]) at HP
  have HCC := Lib.hid (show imC q R p n ks = if (codeV (ftP p.k) n ks (adF q R : Int) ((1 : Nat) : Int)) = 0 then (codeV (stP p.k) n ks (adF q R : Int) ((1 : Nat) : Int)) else (codeV (ftP p.k) n ks (adF q R : Int) ((1 : Nat) : Int)) from rfl)
  generalize putB (stP p.k) n bs ks (adF q R : Int) [(imB 150 (gt bs (adF q R)) (i2B q))] = bs' at HP HNB ⊢
  generalize imC q R p n ks = CC at HCC ⊢
  generalize (codeV (stP p.k) n ks (adF q R : Int) ((1 : Nat) : Int)) = C2 at HP HNB HCC
  generalize (codeV (ftP p.k) n ks (adF q R : Int) ((1 : Nat) : Int)) = C1 at HF HCC
  clear hbb
  have HSV := Lib.hid (fun X => svb_one X (imB 150 (gt bs (adF q R)) (i2B q)))
  have HCB := Lib.hid (fun X => ccBits_any [(imB 150 (gt bs (adF q R)) (i2B q))] X.heap.size 1 1 (X.alloc (.cells #[.int .u8 ((imB 150 (gt bs (adF q R)) (i2B q)).toNat : Int)] 5)) (row_one X (imB 150 (gt bs (adF q R)) (i2B q))) rfl (by decide))
  generalize ccB [(imB 150 (gt bs (adF q R)) (i2B q))] = y at HCB ⊢
  have HN := Lib.hid (fun (X : World) (hX : Ex X E A q R p c) => And.intro hX.pcc (And.intro (hX.fz 35) (hX.setCc y)))
  generalize (imB 150 (gt bs (adF q R)) (i2B q)) = z at HBB HP HSV HCB
  have hv := (gt bs (adF q R)).toNat_lt
  generalize (gt bs (adF q R)).toNat = v at *
  generalize adF q R = a at *
  clear hx hs hR hq hop hlt HA
  go_enter Tryz.func68, Tryz.ntmps68
  go_wp2_with fail
  refine HFI.out.mono ?_
  rintro e w1 ⟨rfl, hb⟩
  have HB1 := Lib.hid hb
  clear hb HFI
  go_wp2_with fail
  refine wp_region_held_drew (S := ES E A q R p c w) (by kernel_rfl) (HE.out _ HB1.out) (fun k0 => ?_)
  show wpAnyH _ _ _ _ _ 16 #[false, false, false, false, false, false, false, false, false, false, false, false, false, false, false, false] _ _
  refine wpAnyH_take (i := 0) (oi := ⟨some 6, _, _, _, _, _⟩) (v := .pointer (some ⟨E, 0, none⟩)) rfl (by kernel_rfl) (by kernel_rfl) (by kernel_rfl) (fun _ _ _ h => h) (Or.inl ⟨by rfl, fun W hSw => by (try dsimp only at hSw); go_simp⟩) k0 ?_
  try simp only [Act.put, List.setIfInBounds_toArray, List.set_cons_zero, List.set_cons_succ]
  refine wpAnyH_take (i := 1) (oi := ⟨some 7, _, _, _, _, _⟩) (v := .pointer (some ⟨E, 0, none⟩)) rfl (by kernel_rfl) (by kernel_rfl) (by kernel_rfl) (fun _ _ _ h => h) (Or.inl ⟨by rfl, fun W hSw => by (try dsimp only at hSw); go_simp⟩) k0 ?_
  try simp only [Act.put, List.setIfInBounds_toArray, List.set_cons_zero, List.set_cons_succ]
  refine wpAnyH_take (i := 2) (oi := ⟨some 8, _, _, _, _, _⟩) (v := .pointer (some ⟨E, 0, none⟩)) rfl (by kernel_rfl) (by kernel_rfl) (by kernel_rfl) (fun _ _ _ h => h) (Or.inl ⟨by rfl, fun W hSw => by (try dsimp only at hSw); go_simp⟩) k0 ?_
  try simp only [Act.put, List.setIfInBounds_toArray, List.set_cons_zero, List.set_cons_succ]
  refine wpAnyH_take (i := 3) (oi := ⟨some 9, _, _, _, _, _⟩) (v := .pointer (some ⟨E, 0, none⟩)) rfl (by kernel_rfl) (by kernel_rfl) (by kernel_rfl) (fun _ _ _ h => h) (Or.inl ⟨by rfl, fun W hSw => by (try dsimp only at hSw); go_simp⟩) k0 ?_
  try simp only [Act.put, List.setIfInBounds_toArray, List.set_cons_zero, List.set_cons_succ]
  refine wpAnyH_take (i := 4) (oi := ⟨some 10, _, _, _, _, _⟩) (v := .int .i64 150) rfl (by kernel_rfl) (by kernel_rfl) (by kernel_rfl) (fun _ _ _ h => h) (Or.inl ⟨by rfl, fun W hSw => by have cq := hSw.2.op; rw [HOP.out] at cq; clear hSw; go_simp⟩) k0 ?_
  try simp only [Act.put, List.setIfInBounds_toArray, List.set_cons_zero, List.set_cons_succ]
  refine wpAnyH_take (i := 5) (oi := ⟨some 11, _, _, _, _, _⟩) (v := .pointer (some ⟨E, 0, none⟩)) rfl (by kernel_rfl) (by kernel_rfl) (by kernel_rfl) (fun _ _ _ h => h) (Or.inl ⟨by rfl, fun W hSw => by (try dsimp only at hSw); go_simp⟩) k0 ?_
  try simp only [Act.put, List.setIfInBounds_toArray, List.set_cons_zero, List.set_cons_succ]
  refine wpAnyH_take (i := 6) (oi := ⟨some 12, _, _, _, _, _⟩) (v := .int .i64 (a : Int)) rfl (by kernel_rfl) (by kernel_rfl) (by kernel_rfl) (fun _ _ _ h => h) (Or.inl ⟨by rfl, fun W hSw => by (try dsimp only at hSw); go_simp⟩) k0 ?_
  try simp only [Act.put, List.setIfInBounds_toArray, List.set_cons_zero, List.set_cons_succ]
  refine wpAnyH_take (i := 8) (oi := ⟨some 14, _, _, _, _, _⟩) (v := .pointer (some ⟨E, 0, none⟩)) rfl (by kernel_rfl) (by kernel_rfl) (by kernel_rfl) (fun _ _ _ h => h) (Or.inl ⟨by rfl, fun W hSw => by (try dsimp only at hSw); go_simp⟩) k0 ?_
  try simp only [Act.put, List.setIfInBounds_toArray, List.set_cons_zero, List.set_cons_succ]
  refine wpAnyH_take (i := 9) (oi := ⟨some 15, _, _, _, _, _⟩) (v := .pointer (some ⟨E, 0, none⟩)) rfl (by kernel_rfl) (by kernel_rfl) (by kernel_rfl) (fun _ _ _ h => h) (Or.inl ⟨by rfl, fun W hSw => by (try dsimp only at hSw); go_simp⟩) k0 ?_
  try simp only [Act.put, List.setIfInBounds_toArray, List.set_cons_zero, List.set_cons_succ]
  refine wpAnyH_take (i := 10) (oi := ⟨some 16, _, _, _, _, _⟩) (v := .pointer (some ⟨E, 0, none⟩)) rfl (by kernel_rfl) (by kernel_rfl) (by kernel_rfl) (fun _ _ _ h => h) (Or.inl ⟨by rfl, fun W hSw => by (try dsimp only at hSw); go_simp⟩) k0 ?_
  try simp only [Act.put, List.setIfInBounds_toArray, List.set_cons_zero, List.set_cons_succ]
  refine wpAnyH_take (i := 11) (oi := ⟨some 17, _, _, _, _, _⟩) (v := .pointer (some ⟨E, 11, none⟩)) rfl (by kernel_rfl) (by kernel_rfl) (by kernel_rfl) (fun _ _ _ h => h) (Or.inl ⟨by rfl, fun W hSw => by (try dsimp only at hSw); go_simp⟩) k0 ?_
  try simp only [Act.put, List.setIfInBounds_toArray, List.set_cons_zero, List.set_cons_succ]
  refine wpAnyH_take (i := 12) (oi := ⟨some 18, _, _, _, _, _⟩) (v := .int .i64 (q.i2 : Int)) rfl (by kernel_rfl) (by kernel_rfl) (by kernel_rfl) (fun _ _ _ h => h) (Or.inl ⟨by rfl, fun W hSw => by have cq := hSw.2.i2; clear hSw; go_simp⟩) k0 ?_
  try simp only [Act.put, List.setIfInBounds_toArray, List.set_cons_zero, List.set_cons_succ]
  refine wpAnyH_take (i := 13) (oi := ⟨some 19, _, _, _, _, _⟩) (v := .int .u8 (q.i2 : Int)) rfl (by kernel_rfl) (by kernel_rfl) (by kernel_rfl) (fun _ _ _ h => h) (Or.inl ⟨by rfl, fun W hSw => by clear hSw; simp [go_sem, hw8]⟩) k0 ?_
  try simp only [Act.put, List.setIfInBounds_toArray, List.set_cons_zero, List.set_cons_succ]
  refine wpAnyH_ready (rs := [7]) (by kernel_rfl) (by simp) ?_
  refine AllReadyH.cons (o := ⟨some 13, _, _, _, _, _⟩) rfl (fun K hK => ?_) AllReadyH.nil
  go_simp
  go_at_call 154
  refine (HF.out _ k0).mono ?_
  rintro e x2 ⟨k2, ⟨h0, rfl⟩ | ⟨hn, rfl⟩⟩
  rotate_left
  · have HNN := Lib.hid hn
    have HB := Lib.hid k2.1
    clear hn k2 k0
    unfold Stop
    go_wp2
    exact ⟨rfl, .inr ⟨by rw [HCC.out, if_neg HNN.out]; exact HNN.out, by rw [HCC.out, if_neg HNN.out]; rfl, HSS.out _ HB.out⟩, Kp.bel HB.out⟩
  have H0 := Lib.hid h0
  clear h0 HF
  go_wp2_with fail
  refine hK.out _ _ k2 (fun k3 => ?_)
  clear k2
  clear hK K
  try simp only [List.setIfInBounds_toArray, List.set_cons_zero, List.set_cons_succ]
  refine wpAnyH_ready (rs := [14]) (by kernel_rfl) (by simp) ?_
  refine AllReadyH.cons (o := ⟨some 20, _, _, _, _, _⟩) rfl (fun K hK => ?_) AllReadyH.nil
  go_simp
  go_at_call 160
  refine (HBB.out _).mono ?_
  rintro e x3 ⟨rfl, rfl⟩
  go_wp2_with fail
  refine hK.out _ _ k3 (fun k3 => ?_)
  clear hK K
  try simp only [List.setIfInBounds_toArray, List.set_cons_zero, List.set_cons_succ]
  refine wpAnyH_take (i := 15) (oi := ⟨some 3, _, _, _, _, _⟩) (v := .int .u8 (z.toNat : Int)) rfl (by kernel_rfl) (by kernel_rfl) (by kernel_rfl) (fun _ _ _ h => h) (Or.inl ⟨by rfl, fun W hSw => by (try dsimp only at hSw); go_simp⟩) k3 ?_
  try simp only [Act.put, List.setIfInBounds_toArray, List.set_cons_zero, List.set_cons_succ]
  refine wpAnyH_done (by kernel_rfl) ?_ _
  refine id ?_
  have HBX := Lib.hid k3.1
  clear k0 k3 HE HBB HB1 HSS HOP
  go_wp2_with fail
  refine (HP.out _ _ (bel0 HBX.out (below_new _ _)) (HSV.out _)).mono ?_
  rintro e w3 ⟨hp, hx3, hs3, hk3⟩
  have HK3 := Lib.hid ((Kp.bel (l := [E, g]) (bel0 HBX.out (below_new _ (.cells #[.int .u8 (z.toNat : Int)] 5)))).trans (Kp.more2 hk3))
  have HS3 := Lib.hid hs3
  have HX3 := Lib.hid hx3
  clear hx3 hs3 hk3 HP HSV HBX
  rcases hp with ⟨hc, rfl⟩ | ⟨hc, rfl⟩
  · have HC := Lib.hid hc
    clear hc
    go_wp2_with fail
    have b4 := below_new w3 (.cells #[.int .u8 (z.toNat : Int)] 5)
    obtain ⟨n1, n2, n3⟩ := HN.out _ (HX3.out.below b4)
    have HS4 := Lib.hid (sto_set (HS3.out.below b4) n3)
    have HX4 := Lib.hid n3
    have HK4 := Lib.hid ((HK3.out.trans (Kp.bel b4)).trans (kp_set _ E 35 (.int .i64 y) _ (by simp)))
    have HCB2 := Lib.hid (HCB.out w3)
    clear n3 b4 HS3 HX3 HK3 HN HCB
    refine HCB2.out.mono ?_
    rintro e w4 ⟨rfl, rfl⟩
    go_wp2
    go_end0
    exact ⟨.inl ⟨by rw [HCC.out, if_pos H0.out]; exact HC.out, rfl, HS4.out, HX4.out⟩, HK4.out⟩
  · have HC := Lib.hid hc
    have e1 : CC = C2 := by rw [HCC.out, if_pos H0.out]
    have E1 := Lib.hid e1
    clear hc e1
    unfold Stop
    go_wp2
    exact ⟨rfl, .inr ⟨by rw [E1.out]; exact HC.out, by rw [E1.out]; rfl, by rw [← HNB.out HC.out]; exact HS3.out⟩, HK3.out⟩
set_option maxRecDepth 100000 in
set_option maxHeartbeats 1000000 in
theorem combImm_151 (E A : Nat) (q : Qn) (R : Nat → Int) (p : Psw) (c : Int) (g h n m : Nat) (bs ks : List UInt8) (w : World) (hx : Ex w E A q R p c) (hs : Sto w A g h n m bs ks) (hR : RegOk R) (hq : QOk q) (hop : q.op = 151) : Calls Tryz.prog 68 #[.pointer (some ⟨E, 0, none⟩)] w (StoPost w E A g h n m q R { p with cc := ccB [(imB 151 (gt bs (adF q R)) (i2B q))] } c (imC q R p n ks) bs (putB (stP p.k) n bs ks (adF q R : Int) [(imB 151 (gt bs (adF q R)) (i2B q))]) ks) := by
  have hlt := adF_lt q R
  have hi2 : q.i2 < 256 := hq.i2
  have HA : Hid (∀ X, ES E A q R p c w X → Calls Tryz.prog 159 #[.pointer (some ⟨E, 0, none⟩)] X (New X (.int .i64 (adF q R : Int)))) := Lib.hid (fun X hX => fir_any E A q R p c X hX.2 hR hq)
  have HF : Hid (∀ X, ES E A q R p c w X → Calls Tryz.prog 154 #[.pointer (some ⟨E, 0, none⟩), .int .i64 (adF q R : Int)] X fun e X' => ES E A q R p c w X' ∧ (((codeV (ftP p.k) n ks (adF q R : Int) ((1 : Nat) : Int)) = 0 ∧ e = .returned (.int .u8 ((gt bs (adF q R)).toNat : Int))) ∨ ((codeV (ftP p.k) n ks (adF q R : Int) ((1 : Nat) : Int)) ≠ 0 ∧ e = Stop (codeV (ftP p.k) n ks (adF q R : Int) ((1 : Nat) : Int))))) := Lib.hid (fun X hX => by
    refine (fbyte_any E A q R p c g h n m bs ks (adF q R) X hX.2 (hs.below hX.1) (by omega)).mono ?_
    rintro e X' ⟨hb, hh⟩
    exact ⟨hX.next hb, hh⟩)
  have hw8 : IntKind.u8.wrap (q.i2 : Int) = (q.i2 : Int) := by
    show (q.i2 : Int) % 256 = (q.i2 : Int)
    omega
  have HFI := Lib.hid (fir_any E A q R p c w hx hR hq)
  have HOP := Lib.hid hop
  have HE := Lib.hid (fun X (hX : Below w.heap.size w X) => (show ES E A q R p c w X.drew from ⟨bel0 hX (bel_drew X), (hx.below hX).drew⟩))
  have HSS := Lib.hid (fun X (hX : Below w.heap.size w X) => hs.below hX)
  have hbb : ∀ X, Calls Tryz.prog 160 #[.int .i64 151, .int .u8 ((gt bs (adF q R)).toNat : Int), .int .u8 (q.i2 : Int)] X fun e X' => e = .returned (.int .u8 ((imB 151 (gt bs (adF q R)) (i2B q)).toNat : Int)) ∧ X = X' := fun X => by
    have h1 := bitByte_151 (gt bs (adF q R)) (i2B q) X
    rw [i2B_nat hi2] at h1
    exact h1
  have HBB := Lib.hid hbb
  have HP := Lib.hid (fun X v (hX : Below w.heap.size w X) (hv : SvB X v [(imB 151 (gt bs (adF q R)) (i2B q))]) => put_raw E A q R p c g h n m bs ks (adF q R) v [(imB 151 (gt bs (adF q R)) (i2B q))] _ X (hx.below hX) (hs.below hX) hv (by omega) rfl)
  have HNB := Lib.hid (fun (h0 : (codeV (stP p.k) n ks (adF q R : Int) ((1 : Nat) : Int)) ≠ 0) => putB_no (P := stP p.k) (n := n) (bs := bs) (ks := ks) (x := (adF q R : Int)) (b := [(imB 151 (gt bs (adF q R)) (i2B q))]) h0)
  change Hid (∀ X v, Below w.heap.size w X → SvB X v [(imB 151 (gt bs (adF q R)) (i2B q))] → Calls Tryz.prog 152 #[.pointer (some ⟨E, 0, none⟩), .int .i64 (adF q R : Int), v] X fun e w' => (((codeV (stP p.k) n ks (adF q R : Int) ((1 : Nat) : Int)) = 0 ∧ e = .returned (.tuple #[])) ∨ ((codeV (stP p.k) n ks (adF q R : Int) ((1 : Nat) : Int)) ≠ 0 ∧ e = Stop (codeV (stP p.k) n ks (adF q R : Int) ((1 : Nat) : Int)))) ∧ Ex w' E A q R p c ∧ Sto w' A g h n m (putB (stP p.k) n bs ks (adF q R : Int) [(imB 151 (gt bs (adF q R)) (i2B q))]) ks ∧ Kp X w' [g]) at HP
  have HCC := Lib.hid (show imC q R p n ks = if (codeV (ftP p.k) n ks (adF q R : Int) ((1 : Nat) : Int)) = 0 then (codeV (stP p.k) n ks (adF q R : Int) ((1 : Nat) : Int)) else (codeV (ftP p.k) n ks (adF q R : Int) ((1 : Nat) : Int)) from rfl)
  generalize putB (stP p.k) n bs ks (adF q R : Int) [(imB 151 (gt bs (adF q R)) (i2B q))] = bs' at HP HNB ⊢
  generalize imC q R p n ks = CC at HCC ⊢
  generalize (codeV (stP p.k) n ks (adF q R : Int) ((1 : Nat) : Int)) = C2 at HP HNB HCC
  generalize (codeV (ftP p.k) n ks (adF q R : Int) ((1 : Nat) : Int)) = C1 at HF HCC
  clear hbb
  have HSV := Lib.hid (fun X => svb_one X (imB 151 (gt bs (adF q R)) (i2B q)))
  have HCB := Lib.hid (fun X => ccBits_any [(imB 151 (gt bs (adF q R)) (i2B q))] X.heap.size 1 1 (X.alloc (.cells #[.int .u8 ((imB 151 (gt bs (adF q R)) (i2B q)).toNat : Int)] 5)) (row_one X (imB 151 (gt bs (adF q R)) (i2B q))) rfl (by decide))
  generalize ccB [(imB 151 (gt bs (adF q R)) (i2B q))] = y at HCB ⊢
  have HN := Lib.hid (fun (X : World) (hX : Ex X E A q R p c) => And.intro hX.pcc (And.intro (hX.fz 35) (hX.setCc y)))
  generalize (imB 151 (gt bs (adF q R)) (i2B q)) = z at HBB HP HSV HCB
  have hv := (gt bs (adF q R)).toNat_lt
  generalize (gt bs (adF q R)).toNat = v at *
  generalize adF q R = a at *
  clear hx hs hR hq hop hlt HA
  go_enter Tryz.func68, Tryz.ntmps68
  go_wp2_with fail
  refine HFI.out.mono ?_
  rintro e w1 ⟨rfl, hb⟩
  have HB1 := Lib.hid hb
  clear hb HFI
  go_wp2_with fail
  refine wp_region_held_drew (S := ES E A q R p c w) (by kernel_rfl) (HE.out _ HB1.out) (fun k0 => ?_)
  show wpAnyH _ _ _ _ _ 16 #[false, false, false, false, false, false, false, false, false, false, false, false, false, false, false, false] _ _
  refine wpAnyH_take (i := 0) (oi := ⟨some 6, _, _, _, _, _⟩) (v := .pointer (some ⟨E, 0, none⟩)) rfl (by kernel_rfl) (by kernel_rfl) (by kernel_rfl) (fun _ _ _ h => h) (Or.inl ⟨by rfl, fun W hSw => by (try dsimp only at hSw); go_simp⟩) k0 ?_
  try simp only [Act.put, List.setIfInBounds_toArray, List.set_cons_zero, List.set_cons_succ]
  refine wpAnyH_take (i := 1) (oi := ⟨some 7, _, _, _, _, _⟩) (v := .pointer (some ⟨E, 0, none⟩)) rfl (by kernel_rfl) (by kernel_rfl) (by kernel_rfl) (fun _ _ _ h => h) (Or.inl ⟨by rfl, fun W hSw => by (try dsimp only at hSw); go_simp⟩) k0 ?_
  try simp only [Act.put, List.setIfInBounds_toArray, List.set_cons_zero, List.set_cons_succ]
  refine wpAnyH_take (i := 2) (oi := ⟨some 8, _, _, _, _, _⟩) (v := .pointer (some ⟨E, 0, none⟩)) rfl (by kernel_rfl) (by kernel_rfl) (by kernel_rfl) (fun _ _ _ h => h) (Or.inl ⟨by rfl, fun W hSw => by (try dsimp only at hSw); go_simp⟩) k0 ?_
  try simp only [Act.put, List.setIfInBounds_toArray, List.set_cons_zero, List.set_cons_succ]
  refine wpAnyH_take (i := 3) (oi := ⟨some 9, _, _, _, _, _⟩) (v := .pointer (some ⟨E, 0, none⟩)) rfl (by kernel_rfl) (by kernel_rfl) (by kernel_rfl) (fun _ _ _ h => h) (Or.inl ⟨by rfl, fun W hSw => by (try dsimp only at hSw); go_simp⟩) k0 ?_
  try simp only [Act.put, List.setIfInBounds_toArray, List.set_cons_zero, List.set_cons_succ]
  refine wpAnyH_take (i := 4) (oi := ⟨some 10, _, _, _, _, _⟩) (v := .int .i64 151) rfl (by kernel_rfl) (by kernel_rfl) (by kernel_rfl) (fun _ _ _ h => h) (Or.inl ⟨by rfl, fun W hSw => by have cq := hSw.2.op; rw [HOP.out] at cq; clear hSw; go_simp⟩) k0 ?_
  try simp only [Act.put, List.setIfInBounds_toArray, List.set_cons_zero, List.set_cons_succ]
  refine wpAnyH_take (i := 5) (oi := ⟨some 11, _, _, _, _, _⟩) (v := .pointer (some ⟨E, 0, none⟩)) rfl (by kernel_rfl) (by kernel_rfl) (by kernel_rfl) (fun _ _ _ h => h) (Or.inl ⟨by rfl, fun W hSw => by (try dsimp only at hSw); go_simp⟩) k0 ?_
  try simp only [Act.put, List.setIfInBounds_toArray, List.set_cons_zero, List.set_cons_succ]
  refine wpAnyH_take (i := 6) (oi := ⟨some 12, _, _, _, _, _⟩) (v := .int .i64 (a : Int)) rfl (by kernel_rfl) (by kernel_rfl) (by kernel_rfl) (fun _ _ _ h => h) (Or.inl ⟨by rfl, fun W hSw => by (try dsimp only at hSw); go_simp⟩) k0 ?_
  try simp only [Act.put, List.setIfInBounds_toArray, List.set_cons_zero, List.set_cons_succ]
  refine wpAnyH_take (i := 8) (oi := ⟨some 14, _, _, _, _, _⟩) (v := .pointer (some ⟨E, 0, none⟩)) rfl (by kernel_rfl) (by kernel_rfl) (by kernel_rfl) (fun _ _ _ h => h) (Or.inl ⟨by rfl, fun W hSw => by (try dsimp only at hSw); go_simp⟩) k0 ?_
  try simp only [Act.put, List.setIfInBounds_toArray, List.set_cons_zero, List.set_cons_succ]
  refine wpAnyH_take (i := 9) (oi := ⟨some 15, _, _, _, _, _⟩) (v := .pointer (some ⟨E, 0, none⟩)) rfl (by kernel_rfl) (by kernel_rfl) (by kernel_rfl) (fun _ _ _ h => h) (Or.inl ⟨by rfl, fun W hSw => by (try dsimp only at hSw); go_simp⟩) k0 ?_
  try simp only [Act.put, List.setIfInBounds_toArray, List.set_cons_zero, List.set_cons_succ]
  refine wpAnyH_take (i := 10) (oi := ⟨some 16, _, _, _, _, _⟩) (v := .pointer (some ⟨E, 0, none⟩)) rfl (by kernel_rfl) (by kernel_rfl) (by kernel_rfl) (fun _ _ _ h => h) (Or.inl ⟨by rfl, fun W hSw => by (try dsimp only at hSw); go_simp⟩) k0 ?_
  try simp only [Act.put, List.setIfInBounds_toArray, List.set_cons_zero, List.set_cons_succ]
  refine wpAnyH_take (i := 11) (oi := ⟨some 17, _, _, _, _, _⟩) (v := .pointer (some ⟨E, 11, none⟩)) rfl (by kernel_rfl) (by kernel_rfl) (by kernel_rfl) (fun _ _ _ h => h) (Or.inl ⟨by rfl, fun W hSw => by (try dsimp only at hSw); go_simp⟩) k0 ?_
  try simp only [Act.put, List.setIfInBounds_toArray, List.set_cons_zero, List.set_cons_succ]
  refine wpAnyH_take (i := 12) (oi := ⟨some 18, _, _, _, _, _⟩) (v := .int .i64 (q.i2 : Int)) rfl (by kernel_rfl) (by kernel_rfl) (by kernel_rfl) (fun _ _ _ h => h) (Or.inl ⟨by rfl, fun W hSw => by have cq := hSw.2.i2; clear hSw; go_simp⟩) k0 ?_
  try simp only [Act.put, List.setIfInBounds_toArray, List.set_cons_zero, List.set_cons_succ]
  refine wpAnyH_take (i := 13) (oi := ⟨some 19, _, _, _, _, _⟩) (v := .int .u8 (q.i2 : Int)) rfl (by kernel_rfl) (by kernel_rfl) (by kernel_rfl) (fun _ _ _ h => h) (Or.inl ⟨by rfl, fun W hSw => by clear hSw; simp [go_sem, hw8]⟩) k0 ?_
  try simp only [Act.put, List.setIfInBounds_toArray, List.set_cons_zero, List.set_cons_succ]
  refine wpAnyH_ready (rs := [7]) (by kernel_rfl) (by simp) ?_
  refine AllReadyH.cons (o := ⟨some 13, _, _, _, _, _⟩) rfl (fun K hK => ?_) AllReadyH.nil
  go_simp
  go_at_call 154
  refine (HF.out _ k0).mono ?_
  rintro e x2 ⟨k2, ⟨h0, rfl⟩ | ⟨hn, rfl⟩⟩
  rotate_left
  · have HNN := Lib.hid hn
    have HB := Lib.hid k2.1
    clear hn k2 k0
    unfold Stop
    go_wp2
    exact ⟨rfl, .inr ⟨by rw [HCC.out, if_neg HNN.out]; exact HNN.out, by rw [HCC.out, if_neg HNN.out]; rfl, HSS.out _ HB.out⟩, Kp.bel HB.out⟩
  have H0 := Lib.hid h0
  clear h0 HF
  go_wp2_with fail
  refine hK.out _ _ k2 (fun k3 => ?_)
  clear k2
  clear hK K
  try simp only [List.setIfInBounds_toArray, List.set_cons_zero, List.set_cons_succ]
  refine wpAnyH_ready (rs := [14]) (by kernel_rfl) (by simp) ?_
  refine AllReadyH.cons (o := ⟨some 20, _, _, _, _, _⟩) rfl (fun K hK => ?_) AllReadyH.nil
  go_simp
  go_at_call 160
  refine (HBB.out _).mono ?_
  rintro e x3 ⟨rfl, rfl⟩
  go_wp2_with fail
  refine hK.out _ _ k3 (fun k3 => ?_)
  clear hK K
  try simp only [List.setIfInBounds_toArray, List.set_cons_zero, List.set_cons_succ]
  refine wpAnyH_take (i := 15) (oi := ⟨some 3, _, _, _, _, _⟩) (v := .int .u8 (z.toNat : Int)) rfl (by kernel_rfl) (by kernel_rfl) (by kernel_rfl) (fun _ _ _ h => h) (Or.inl ⟨by rfl, fun W hSw => by (try dsimp only at hSw); go_simp⟩) k3 ?_
  try simp only [Act.put, List.setIfInBounds_toArray, List.set_cons_zero, List.set_cons_succ]
  refine wpAnyH_done (by kernel_rfl) ?_ _
  refine id ?_
  have HBX := Lib.hid k3.1
  clear k0 k3 HE HBB HB1 HSS HOP
  go_wp2_with fail
  refine (HP.out _ _ (bel0 HBX.out (below_new _ _)) (HSV.out _)).mono ?_
  rintro e w3 ⟨hp, hx3, hs3, hk3⟩
  have HK3 := Lib.hid ((Kp.bel (l := [E, g]) (bel0 HBX.out (below_new _ (.cells #[.int .u8 (z.toNat : Int)] 5)))).trans (Kp.more2 hk3))
  have HS3 := Lib.hid hs3
  have HX3 := Lib.hid hx3
  clear hx3 hs3 hk3 HP HSV HBX
  rcases hp with ⟨hc, rfl⟩ | ⟨hc, rfl⟩
  · have HC := Lib.hid hc
    clear hc
    go_wp2_with fail
    have b4 := below_new w3 (.cells #[.int .u8 (z.toNat : Int)] 5)
    obtain ⟨n1, n2, n3⟩ := HN.out _ (HX3.out.below b4)
    have HS4 := Lib.hid (sto_set (HS3.out.below b4) n3)
    have HX4 := Lib.hid n3
    have HK4 := Lib.hid ((HK3.out.trans (Kp.bel b4)).trans (kp_set _ E 35 (.int .i64 y) _ (by simp)))
    have HCB2 := Lib.hid (HCB.out w3)
    clear n3 b4 HS3 HX3 HK3 HN HCB
    refine HCB2.out.mono ?_
    rintro e w4 ⟨rfl, rfl⟩
    go_wp2
    go_end0
    exact ⟨.inl ⟨by rw [HCC.out, if_pos H0.out]; exact HC.out, rfl, HS4.out, HX4.out⟩, HK4.out⟩
  · have HC := Lib.hid hc
    have e1 : CC = C2 := by rw [HCC.out, if_pos H0.out]
    have E1 := Lib.hid e1
    clear hc e1
    unfold Stop
    go_wp2
    exact ⟨rfl, .inr ⟨by rw [E1.out]; exact HC.out, by rw [E1.out]; rfl, by rw [← HNB.out HC.out]; exact HS3.out⟩, HK3.out⟩

end M
end Go.Proofs.YtfopjnfphlkcgaaGreat

/- The given answers' decodings. -/
import Derived.Test.YtijkbenbjdeocaaDoorCcREn
import Derived.StillTailTactics
namespace Go.Proofs.YtijkbenbjdeocaaDoor
open Go.RowKit
set_option linter.unusedVariables false
namespace E

/-- Eight bytes in memory. -/
def B8 (W : World) (B off : Nat) (l : List UInt8) : Prop := ∀ j, j < l.length → W.cell? ⟨B, off + j, none⟩ = some (.int .u8 (b1 l j))
theorem B8.below {w W : World} {B off : Nat} {l : List UInt8} (h : B8 w B off l) (hb : Below w.heap.size w W) : B8 W B off l := fun j hj => keepC (h j hj) hb
theorem num3_any {W : World} {B off : Nat} {l : List UInt8} (h : B8 W B off l) (i c : Nat) (hi : i + 3 ≤ l.length) (hc : 3 ≤ c) (hm : c ≤ 9223372036854775807) : Calls Tryd.prog 35 #[.slice (some ⟨B, off + i, none⟩) 3 c] W fun e w' => e = .returned (.int .i64 (n3 l i)) ∧ W = w' := by
  have hs : SvB W (.slice (some ⟨B, off + i, none⟩) 3 c) [gt l i, gt l (i + 1), gt l (i + 2)] := ⟨_, c, rfl, .inr ⟨B, off + i, rfl, fun j hj => by
    match j, hj with
    | 0, _ => exact h i (by omega)
    | 1, _ => exact h (i + 1) (by omega)
    | 2, _ => exact h (i + 2) (by omega)⟩, hc, hm, fun h => by cases h⟩
  refine (number_any hs (by simp)).mono ?_
  rintro e w' ⟨rfl, hw⟩
  refine ⟨?_, hw⟩
  have e1 : nb [gt l i, gt l (i + 1), gt l (i + 2)] 3 = n3 l i := by
    simp [nb, gt, n3]
    omega
  exact ret_int e1
theorem num2_any {W : World} {B off : Nat} {l : List UInt8} (h : B8 W B off l) (i c : Nat) (hi : i + 2 ≤ l.length) (hc : 2 ≤ c) (hm : c ≤ 9223372036854775807) : Calls Tryd.prog 35 #[.slice (some ⟨B, off + i, none⟩) 2 c] W fun e w' => e = .returned (.int .i64 (n2 l i)) ∧ W = w' := by
  have hs : SvB W (.slice (some ⟨B, off + i, none⟩) 2 c) [gt l i, gt l (i + 1)] := ⟨_, c, rfl, .inr ⟨B, off + i, rfl, fun j hj => by
    match j, hj with
    | 0, _ => exact h i (by omega)
    | 1, _ => exact h (i + 1) (by omega)⟩, hc, hm, fun h => by cases h⟩
  refine (number_any hs (by simp)).mono ?_
  rintro e w' ⟨rfl, hw⟩
  refine ⟨?_, hw⟩
  have e1 : nb [gt l i, gt l (i + 1)] 2 = n2 l i := by
    simp [nb, gt, n2]
  exact ret_int e1
theorem w64b (x : UInt8) : wrap64 (x.toNat : Int) = (x.toNat : Int) := W.wrap64_id (by omega) (by have := lt256 x; omega)
theorem u64b (l : List UInt8) (j : Nat) : IntKind.i64.wrap (b1 l j) = b1 l j := wrap_i64s (by have := b1_bd l j; omega) (by have := b1_bd l j; omega)
theorem k16 (l : List UInt8) (j : Nat) : IntKind.i64.wrap ((IntKind.i64.wrap (b1 l j)).tdiv 16) = b1 l j / 16 := by
  have h := b1_bd l j
  rw [u64b, Int.tdiv_eq_ediv_of_nonneg h.1]
  exact wrap_i64s (by omega) (by omega)
theorem ret_cs {a b c d e a' b' c' d' e' : Int} (h1 : a = a') (h2 : b = b') (h3 : c = c') (h4 : d = d') (h5 : e = e') : Ending.returned (.tuple #[.agg #[.int .i64 a, .int .i64 b, .int .i64 c, .int .i64 d, .int .i64 e], .bool true]) = .returned (.tuple #[.agg #[.int .i64 a', .int .i64 b', .int .i64 c', .int .i64 d', .int .i64 e'], .bool true]) := by rw [h1, h2, h3, h4, h5]
theorem qr (f v : Int) (h0 : 0 ≤ f) (h1 : f ≤ 255) (hv : 1 ≤ v) : (wrap64 (f.tdiv v)).tmod 2 = f / v % 2 := by
  have h2 : 0 ≤ f / v := Int.ediv_nonneg h0 (by omega)
  have h3 : f / v ≤ f := Int.ediv_le_self _ h0
  rw [Int.tdiv_eq_ediv_of_nonneg h0, W.wrap64_id (by omega) (by omega), Int.tmod_eq_emod_of_nonneg h2]
set_option maxRecDepth 100000 in
set_option maxHeartbeats 1000000 in
theorem rcaw_any {w : World} {sv : Value} {l : List UInt8} (h : SvB w sv l) : Calls Tryd.prog 20 #[sv] w fun e w' => e = .returned (.tuple #[.int .i64 (cawR l).1.1, .int .i64 (cawR l).1.2, .bool (cawR l).2]) ∧ Below w.heap.size w w' := by
  have HE : Hid (cawR l = if l.length = 4 ∧ b1 l 0 % 16 = 0 ∧ n3 l 1 % 8 = 0 then ((b1 l 0 / 16, n3 l 1), true) else ((0, 0), false)) := Lib.hid rfl
  obtain ⟨p, c, rfl, hr, h1, h2, _⟩ := h
  obtain ⟨n, hn⟩ : ∃ n, l.length = n := ⟨_, rfl⟩
  have HN := Lib.hid hn
  rw [hn] at h1 ⊢
  obtain ⟨R, hR⟩ : ∃ R, cawR l = R := ⟨_, rfl⟩
  rw [hR] at HE ⊢
  clear hR
  by_cases h4 : n = 4
  · subst h4
    obtain ⟨B, off, rfl, hc⟩ := hr.resolve_left (fun h0 => by rw [h0] at hn; simp at hn)
    have HB8 : Hid (B8 w B off l) := Lib.hid hc
    have c0 := hc 0 (by omega)
    have c3 := hc 3 (by omega)
    rw [Nat.add_zero] at c0
    have HM := Lib.hid (fun W (h : B8 W B off l) => num3_any h 1 (c - 1) (by omega) (by omega) (by omega))
    have b0 := lt256 (gt l 0)
    have b3 := lt256 (gt l 3)
    have w0 := w64b (gt l 0)
    have m0 : ((gt l 0).toNat : Int).tmod 16 = b1 l 0 % 16 := Int.tmod_eq_emod_of_nonneg (by omega)
    have m3 : ((gt l 3).toNat : Int).tmod 8 = b1 l 3 % 8 := Int.tmod_eq_emod_of_nonneg (by omega)
    have d0 : wrap64 (((gt l 0).toNat : Int).tdiv 16) = b1 l 0 / 16 := by
      rw [Int.tdiv_eq_ediv_of_nonneg (by omega), W.wrap64_id (by omega) (by omega)]
      rfl
    have u0 : IntKind.i64.wrap ((gt l 0).toNat : Int) = ((gt l 0).toNat : Int) := wrap_i64s (by omega) (by omega)
    have k0 : IntKind.i64.wrap (((gt l 0).toNat : Int).tdiv 16) = b1 l 0 / 16 := by
      rw [Int.tdiv_eq_ediv_of_nonneg (by omega), wrap_i64s (by omega) (by omega)]
      rfl
    have HK0 : Hid (IntKind.i64.wrap ((IntKind.i64.wrap ((gt l 0).toNat : Int)).tdiv 16) = b1 l 0 / 16) := Lib.hid (by rw [u0, k0])
    clear u0 k0
    have hx : n3 l 1 % 8 = b1 l 3 % 8 := by
      show (65536 * ((gt l 1).toNat : Int) + 256 * ((gt l 2).toNat : Int) + ((gt l 3).toNat : Int)) % 8 = ((gt l 3).toNat : Int) % 8
      omega
    have hc4 : 4 ≤ (c : Int) := by omega
    have hc1 : ¬ c = 1 := by omega
    have HE1 : Hid (R = if b1 l 0 % 16 = 0 ∧ b1 l 3 % 8 = 0 then ((b1 l 0 / 16, n3 l 1), true) else ((0, 0), false)) := Lib.hid (by
      rw [HE.out, hn, hx]
      simp)
    clear HE hc hn hr hx b0 b3 HN
    generalize ((gt l 0).toNat : Int) = x0 at *
    generalize ((gt l 3).toNat : Int) = x3 at *
    generalize b1 l 0 / 16 = k at *
    generalize b1 l 0 % 16 = m at *
    generalize b1 l 3 % 8 = mm at *
    generalize n3 l 1 = a at *
    by_cases hm : m = 0
    · subst hm
      by_cases hmm : mm = 0
      · subst hmm
        have HE2 : Hid (R = ((k, a), true)) := Lib.hid (by rw [HE1.out, if_pos (by simp)])
        go_enter Tryd.func20, Tryd.ntmps20
        go_wp2_with fail
        refine wp_region_still_tail 8 (by kernel_rfl) (by kernel_rfl) ?_
        simp only [List.take_succ_cons, List.take_zero, List.drop_succ_cons, List.drop_zero]
        repeat still_step
        still_call ((HM.out _ (HB8.out.below (bel_drew _))).mono (fun _ _ h => ⟨h.1, h.2.symm⟩))
        repeat still_step
        refine wpStill_nil ?_
        change wpList _ _ _ _ _ w.drew
        go_wp2
        go_ret3
        exact ⟨by rw [HE2.out]; exact ret_iib (by first | exact HK0.out | rfl) rfl rfl, bel_drew _⟩
      · have HE2 : Hid (R = ((0, 0), false)) := Lib.hid (by rw [HE1.out, if_neg (by simp [hmm])])
        have hb : (mm != 0) = true := by simpa using hmm
        go_enter Tryd.func20, Tryd.ntmps20
        go_wp2
        go_ret3
        exact ⟨by rw [HE2.out]; rfl, Below.refl _ _⟩
    · have HE2 : Hid (R = ((0, 0), false)) := Lib.hid (by rw [HE1.out, if_neg (by simp [hm])])
      have hb : (m != 0) = true := by simpa using hm
      go_enter Tryd.func20, Tryd.ntmps20
      go_wp2
      go_ret3
      exact ⟨by rw [HE2.out]; rfl, Below.refl _ _⟩
  · have HE1 : Hid (R = ((0, 0), false)) := Lib.hid (by rw [HE.out, if_neg (fun h => h4 (HN.out.symm.trans h.1))])
    have h4' : ¬ (n : Int) = 4 := by omega
    have hb : ((n : Int) != 4) = true := by simpa using h4'
    clear HE h4 hr
    go_enter Tryd.func20, Tryd.ntmps20
    go_wp2
    go_ret3
    exact ⟨by rw [HE1.out]; rfl, Below.refl _ _⟩
set_option maxRecDepth 100000 in
set_option maxHeartbeats 2000000 in
theorem rdecodeCsw_any {w : World} {sv : Value} {l : List UInt8} (h : SvB w sv l) : Calls Tryd.prog 18 #[sv] w (New w (.tuple #[(decS l).1.v, .bool (decS l).2])) := by
  have HE : Hid (decS l = if l.length = 8 ∧ b1 l 0 % 16 = 0 then (decSF l, true) else (zS, false)) := Lib.hid rfl
  have KR : Hid (Rs w w.heap.size (w.alloc (.cells #[.int .i64 0, .int .i64 0, .int .i64 0, .int .i64 0, .int .i64 0] 36))) := Lib.hid ⟨below_new _ _, Bx.new _ _ _, Nat.le_refl _⟩
  obtain ⟨p, c, rfl, hr, h1, h2, _⟩ := h
  obtain ⟨n, hn⟩ : ∃ n, l.length = n := ⟨_, rfl⟩
  have HN := Lib.hid hn
  rw [hn] at h1 ⊢
  obtain ⟨R, hR⟩ : ∃ R, decS l = R := ⟨_, rfl⟩
  rw [hR] at HE ⊢
  clear hR
  obtain ⟨W0, hW0⟩ : ∃ W0, W0 = w.alloc (.cells #[.int .i64 0, .int .i64 0, .int .i64 0, .int .i64 0, .int .i64 0] 36) := ⟨_, rfl⟩
  rw [← hW0] at KR
  by_cases h8 : n = 8
  · subst h8
    obtain ⟨B, off, rfl, hc⟩ := hr.resolve_left (fun h0 => by rw [h0] at hn; simp at hn)
    have HB8 : Hid (B8 W0 B off l) := Lib.hid (by
      rw [hW0]
      exact B8.below hc (below_new _ _))
    have c0 := HB8.out 0 (by omega)
    have c4 := HB8.out 4 (by omega)
    have c5 := HB8.out 5 (by omega)
    rw [Nat.add_zero] at c0
    have e0 := c0
    rw [hW0] at e0
    have hc4 : 4 ≤ (c : Int) := by omega
    have hc8 : 8 ≤ (c : Int) := by omega
    have hc1 : ¬ c = 1 := by omega
    have hc6 : ¬ c = 6 := by omega
    have HM := Lib.hid (fun W (h : B8 W B off l) => num3_any h 1 (c - 1) (by omega) (by omega) (by omega))
    have HM2 := Lib.hid (fun W (h : B8 W B off l) => num2_any h 6 (c - 6) (by omega) (by omega) (by omega))
    have i0 := b1_bd l 0
    have i4 := b1_bd l 4
    have i5 := b1_bd l 5
    have w0 : wrap64 (b1 l 0) = b1 l 0 := w64b (gt l 0)
    have w4 : wrap64 (b1 l 4) = b1 l 4 := w64b (gt l 4)
    have w5 : wrap64 (b1 l 5) = b1 l 5 := w64b (gt l 5)
    have m0 : (b1 l 0).tmod 16 = b1 l 0 % 16 := Int.tmod_eq_emod_of_nonneg (by omega)
    have d0 : wrap64 ((b1 l 0).tdiv 16) = b1 l 0 / 16 := by
      rw [Int.tdiv_eq_ediv_of_nonneg (by omega), W.wrap64_id (by omega) (by omega)]
    have HE1 : Hid (R = if b1 l 0 % 16 = 0 then (decSF l, true) else (zS, false)) := Lib.hid (by
      rw [HE.out, hn]
      simp)
    have HZ : Hid ((decSF l).v = .agg #[.int .i64 (b1 l 0 / 16), .int .i64 (n3 l 1), .int .i64 (b1 l 4), .int .i64 (b1 l 5), .int .i64 (n2 l 6)]) := Lib.hid rfl
    clear HE hn hr i0 i4 i5 hc HN
    generalize b1 l 0 / 16 = k at *
    generalize b1 l 0 % 16 = m at *
    generalize b1 l 0 = x0 at *
    generalize b1 l 4 = x4 at *
    generalize b1 l 5 = x5 at *
    generalize n3 l 1 = a at *
    generalize n2 l 6 = n at *
    by_cases hm : m = 0
    · subst hm
      have HE2 : Hid (R = (decSF l, true)) := Lib.hid (by rw [HE1.out, if_pos rfl])
      have HZ' : Hid ((R.1).v = .agg #[.int .i64 k, .int .i64 a, .int .i64 x4, .int .i64 x5, .int .i64 n]) := Lib.hid (by rw [HE2.out]; exact HZ.out)
      have HT2 : Hid (R.2 = true) := Lib.hid (by rw [HE2.out])
      go_enter Tryd.func18, Tryd.ntmps18
      go_wp2_with fail
      rw [← hW0]
      clear e0
      generalize hP : w.heap.size = P at KR ⊢
      clear hW0 hP
      refine wp_region_still_tail 20 (by kernel_rfl) (by kernel_rfl) ?_
      simp only [List.take_succ_cons, List.take_zero, List.drop_succ_cons, List.drop_zero]
      repeat still_step
      still_call ((HM.out _ (HB8.out.below (bel_drew _))).mono (fun _ _ h => ⟨h.1, h.2.symm⟩))
      repeat still_step
      still_call ((HM2.out _ (HB8.out.below (bel_drew _))).mono (fun _ _ h => ⟨h.1, h.2.symm⟩))
      repeat still_step
      refine wpStill_nil ?_
      change wpList _ _ _ _ _ W0.drew
      have r0 := KR.out.box.cell 0
      change _ = some (Value.int .i64 0) at r0
      have rf0 := KR.out.box.frozen 0
      have r1 := KR.out.box.cell 1
      change _ = some (Value.int .i64 0) at r1
      have rf1 := KR.out.box.frozen 1
      have r2 := KR.out.box.cell 2
      change _ = some (Value.int .i64 0) at r2
      have rf2 := KR.out.box.frozen 2
      have r3 := KR.out.box.cell 3
      change _ = some (Value.int .i64 0) at r3
      have rf3 := KR.out.box.frozen 3
      have r4 := KR.out.box.cell 4
      change _ = some (Value.int .i64 0) at r4
      have rf4 := KR.out.box.frozen 4
      go_wp2
      refine bodyPost_ret (results_ct rfl rfl rfl (load_cs ((put5_at KR.out.box _ _ _ _ _).below (bel_drew _)))) rfl ?_
      exact ⟨by rw [HZ'.out, HT2.out]; exact ret_cs (by rw [w0, d0]) rfl w4 w5 rfl, (put5_below KR.out.bel KR.out.ge _ _ _ _ _).drew⟩
    · have HE2 : Hid (R = (zS, false)) := Lib.hid (by rw [HE1.out, if_neg hm])
      have hb : (m != 0) = true := by simpa using hm
      go_enter Tryd.func18, Tryd.ntmps18
      go_wp2_with fail
      rw [← hW0]
      clear hW0
      refine bodyPost_ret (results_ct rfl rfl rfl (load_cs KR.out.box)) rfl ?_
      exact ⟨by rw [HE2.out]; rfl, KR.out.bel⟩
  · have HE1 : Hid (R = (zS, false)) := Lib.hid (by rw [HE.out, if_neg (fun h => h8 (HN.out.symm.trans h.1))])
    have h8' : ¬ (n : Int) = 8 := by omega
    have hb : ((n : Int) != 8) = true := by simpa using h8'
    clear HE h8 hr hn
    go_enter Tryd.func18, Tryd.ntmps18
    go_wp2_with fail
    rw [← hW0]
    clear hW0
    refine bodyPost_ret (results_ct rfl rfl rfl (load_cs KR.out.box)) rfl ?_
    exact ⟨by rw [HE1.out]; rfl, KR.out.bel⟩
end E
end Go.Proofs.YtijkbenbjdeocaaDoor

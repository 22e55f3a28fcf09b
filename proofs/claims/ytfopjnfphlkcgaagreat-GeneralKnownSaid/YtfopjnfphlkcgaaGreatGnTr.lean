/- The program: a hit of TRT. -/
import Derived.Test.YtfopjnfphlkcgaaGreatRows
import Derived.Test.YtfopjnfphlkcgaaGreatGnImm
namespace Go.Proofs.YtfopjnfphlkcgaaGreat
namespace E
end E
open Go.RowKit Go.Shelf E
set_option linter.unusedVariables false
namespace M

theorem hi24_bits : ∀ i : Fin 32, Nat.testBit 4278190080 i.val = decide (24 ≤ i.val) := by decide
theorem and_high24 (v : Nat) (hv : v < 4294967296) : v &&& 4278190080 = v / 16777216 * 16777216 := by
  apply Nat.eq_of_testBit_eq
  intro i
  have e : v / 16777216 * 16777216 = (v >>> 24) <<< 24 := by rw [Nat.shiftRight_eq_div_pow, Nat.shiftLeft_eq]
  rw [e, Nat.testBit_and, Nat.testBit_shiftLeft, Nat.testBit_shiftRight]
  by_cases h32 : i < 32
  · have h := hi24_bits ⟨i, h32⟩
    change Nat.testBit 4278190080 i = decide (24 ≤ i) at h
    rw [h]
    by_cases h8 : 24 ≤ i
    · rw [show 24 + (i - 24) = i by omega]
      simp [h8]
    · simp [h8]
  · have h1 : v.testBit i = false := Nat.testBit_lt_two_pow (Nat.lt_of_lt_of_le hv (by
      have := Nat.pow_le_pow_right (n := 2) (by decide) (show 32 ≤ i by omega)
      omega))
    rw [show 24 + (i - 24) = i by omega, h1]
    simp
theorem or_low24 (a x : Nat) (hx : x < 16777216) : (a * 16777216) ||| x = a * 16777216 + x := by
  have := Nat.shiftLeft_add_eq_or_of_lt (show x < 2 ^ 24 by omega) a
  rw [Nat.shiftLeft_eq] at this
  exact this.symm
theorem or_u32 (y x : Nat) (hy : y < 4294967296) (hx : x < 4294967296) : bits .or .u32 (y : Int) (x : Int) = ((y ||| x : Nat) : Int) := by
  have a2 : y ||| x < 2 ^ 32 := Nat.or_lt_two_pow (by omega) (by omega)
  simp [bits, IntKind.bits, IntKind.signed, IntKind.wrap]
  change ((BitVec.ofNat 32 y ||| BitVec.ofNat 32 x).toNat : Int) % 4294967296 = ((y ||| x : Nat) : Int)
  rw [BitVec.toNat_or, BitVec.toNat_ofNat, BitVec.toNat_ofNat, Nat.mod_eq_of_lt (by omega), Nat.mod_eq_of_lt (by omega)]
  omega
theorem andNot24 (v : Nat) (hv : v < 4294967296) : bits .andNot .u32 (v : Int) 16777215 = ((v &&& 4278190080 : Nat) : Int) := by
  have h2 : v &&& 4278190080 < 2 ^ 32 := Nat.and_lt_two_pow v (by decide)
  have h3 : (4278190080#32).toNat = 4278190080 := by rw [BitVec.toNat_ofNat]
  simp [bits, IntKind.bits, IntKind.signed, IntKind.wrap]
  generalize 4278190080#32 = K at h3 ⊢
  change ((BitVec.ofNat 32 v &&& K).toNat : Int) % 4294967296 = _
  rw [BitVec.toNat_and, BitVec.toNat_ofNat, h3, Nat.mod_eq_of_lt (by omega)]
  omega
theorem low24_bits (v x : Nat) (hv : v < 4294967296) (hx : x < 16777216) : bits .or .u32 (bits .andNot .u32 (v : Int) 16777215) (x : Int) = ((v / 16777216 * 16777216 + x : Nat) : Int) := by
  rw [andNot24 v hv, and_high24 v hv, or_u32 _ x (by omega) (by omega), or_low24 _ x hx]
/-- A word with another address in its low bits. -/
def hiW (v : Int) (a : Nat) : Int := v / 16777216 * 16777216 + (a : Int)
def hitR (R : Nat → Int) (a : Nat) (f : UInt8) : Nat → Int := upd (upd R 1 (hiW (R 1) a)) 2 (lowW (R 2) f)
set_option maxRecDepth 100000 in
set_option maxHeartbeats 1000000 in
theorem hit_any (E A : Nat) (q : Qn) (R : Nat → Int) (p : Psw) (c : Int) (a : Nat) (f : UInt8) (last : Bool) (w : World) (h : Ex w E A q R p c) (hR : RegOk R) (ha : a < 16777216) : Calls Tryz.prog 166 #[.pointer (some ⟨E, 0, none⟩), .int .i64 (a : Int), .int .u8 (f.toNat : Int), .bool last] w (Did w E A q (hitR R a f) { p with cc := if last = true then 2 else 1 } c) := by
  have r1 := h.drew.reg (n := 1) (by decide)
  have z1 := h.drew.fz (12 + 1)
  have h1 := h.drew.setReg (n := 1) (by decide) (hiW (R 1) a)
  obtain ⟨v, hv⟩ := Int.eq_ofNat_of_zero_le (hR 1).1
  have hv2 := (hR 1).2
  have hbit : bits .or .u32 (bits .andNot .u32 (R 1) 16777215) (a : Int) = hiW (R 1) a := by
    rw [hv, low24_bits v a (by omega) ha]
    unfold hiW
    omega
  have hw32 : IntKind.u32.wrap (a : Int) = (a : Int) := by
    show (a : Int) % 4294967296 = (a : Int)
    omega
  have HBIT := Lib.hid hbit
  have HR2 := Lib.hid (hR 2)
  have HH1 := Lib.hid h1
  have HKP1 := Lib.hid ((kp_drew w [E]).trans (kp_set w.drew E (12 + 1) (.int .u32 (hiW (R 1) a)) [E] (by simp)))
  unfold hitR
  generalize hY : (if last = true then (2 : Int) else 1) = y
  have HY := Lib.hid hY
  clear hY
  generalize hiW (R 1) a = u1 at *
  generalize R 1 = o1 at *
  clear hbit h1 h hv hv2 hR
  go_enter Tryz.func166, Tryz.ntmps166
  go_wp2_with fail
  refine wp_region_still_tail 13 (by kernel_rfl) (by kernel_rfl) ?_
  simp only [List.take_succ_cons, List.take_zero, List.drop_succ_cons, List.drop_zero]
  repeat still_step
  refine wpStill_nil ?_
  change wpList _ _ _ _ _ w.drew
  rw [HBIT.out]
  go_wp2_with fail
  change Code.wp _ _ _ _ (w.drew.setCell ⟨E, 13, none⟩ (.int .u32 u1))
  obtain ⟨x1, hx1⟩ : ∃ x1, x1 = w.drew.setCell ⟨E, 13, none⟩ (.int .u32 u1) := ⟨_, rfl⟩
  rw [← hx1]
  have h1 : Ex x1 E A q (upd R 1 u1) p c := by
    rw [hx1]
    exact HH1.out
  have HK1 : Hid (Kp w x1 [E]) := Lib.hid (by
    rw [hx1]
    exact HKP1.out)
  have r2 := h1.drew.reg (n := 2) (by decide)
  have z2 := h1.drew.fz (12 + 2)
  rw [upd_ne R u1 (by decide)] at r2
  have HL := Lib.hid (withLow_any (R 2) f x1.drew HR2.out)
  have h1x := h1.drew
  have h2 := h1.drew.setReg (n := 2) (by decide) (lowW (R 2) f)
  have HH2 := Lib.hid h2
  have HKP2 := Lib.hid ((HK1.out.trans (kp_drew x1 [E])).trans (kp_set x1.drew E (12 + 2) (.int .u32 (lowW (R 2) f)) [E] (by simp)))
  generalize lowW (R 2) f = u2 at *
  generalize R 2 = o2 at *
  clear hx1 h1 h2 HH1 HKP1 r1 z1 HBIT HK1
  refine wp_region_still_tail 11 (by kernel_rfl) (by kernel_rfl) ?_
  simp only [List.take_succ_cons, List.take_zero, List.drop_succ_cons, List.drop_zero]
  repeat still_step
  still_call (HL.out.mono (fun _ _ h => ⟨h.1, h.2.symm⟩))
  repeat still_step
  refine wpStill_nil ?_
  change wpList _ _ _ _ _ x1.drew
  have c35 := HH2.out.pcc
  have z35 := HH2.out.fz 35
  have p35 := h1x.pcc
  have q35 := h1x.fz 35
  clear HL h1x c35 z35
  generalize x1.drew = xd at *
  cases last
  · go_wp2
    go_end0
    exact ⟨rfl, by rw [← HY.out]; exact HH2.out.setCc 1, HKP2.out.trans (kp_set _ E 35 _ _ (by simp))⟩
  · go_wp2
    go_end0
    exact ⟨rfl, by rw [← HY.out]; exact (HH2.out.setCc 1).setCc 2, (HKP2.out.trans (kp_set _ E 35 _ _ (by simp))).trans (kp_set _ E 35 _ _ (by simp))⟩

end M
end Go.Proofs.YtfopjnfphlkcgaaGreat
namespace Go.Proofs.YtfopjnfphlkcgaaGreat
namespace E
end E
open Go.RowKit Go.Shelf E
set_option linter.unusedVariables false
namespace M

/-- Bytes that are tested from the k-th on: the code at which it stops; where a function byte other than 0 was met, which, and whether at the last byte. -/
def scF (P : UInt8 → Bool) (n : Nat) (ks bs : List UInt8) (a1 a2 : Nat) : Nat → Nat → Int × Option (Nat × UInt8 × Bool)
  | _, 0 => (0, none)
  | k, f + 1 => if codeV P n ks ((a1 + k : Nat) : Int) ((1 : Nat) : Int) = 0 then (if codeV P n ks ((a2 + (gt bs (a1 + k)).toNat : Nat) : Int) ((1 : Nat) : Int) = 0 then (if (gt bs (a2 + (gt bs (a1 + k)).toNat)).toNat = 0 then scF P n ks bs a1 a2 (k + 1) f else (0, some (a1 + k, gt bs (a2 + (gt bs (a1 + k)).toNat), decide (f = 0)))) else (codeV P n ks ((a2 + (gt bs (a1 + k)).toNat : Nat) : Int) ((1 : Nat) : Int), none)) else (codeV P n ks ((a1 + k : Nat) : Int) ((1 : Nat) : Int), none)
def scR (q : Qn) (R : Nat → Int) (p : Psw) (n : Nat) (ks bs : List UInt8) : Int × Option (Nat × UInt8 × Bool) := scF (ftP p.k) n ks bs (adF q R) (adT q R) 0 (q.l1 + 1)
def scG (R : Nat → Int) : Option (Nat × UInt8 × Bool) → Nat → Int
  | none => R
  | some (a, f, _) => hitR R a f
def scP (p : Psw) : Option (Nat × UInt8 × Bool) → Psw
  | none => { p with cc := 0 }
  | some (_, _, l) => { p with cc := if l = true then 2 else 1 }
set_option maxRecDepth 100000 in
set_option maxHeartbeats 2000000 in
theorem scan_any (E A : Nat) (q : Qn) (R : Nat → Int) (p : Psw) (c : Int) (g h n m : Nat) (bs ks : List UInt8) (w : World) (hx : Ex w E A q R p c) (hs : Sto w A g h n m bs ks) (hR : RegOk R) (hq : QOk q) : Calls Tryz.prog 74 #[.pointer (some ⟨E, 0, none⟩)] w (RegPost w E A q (scR q R p n ks bs).1 (scG R (scR q R p n ks bs).2) (scP p (scR q R p n ks bs).2) c) := by
  have hl := hq.l1
  have hn := hs.nums
  have hA1 := adF_lt q R
  have hA2 := adT_lt q R
  have HA := Lib.hid (fields_any E A q R p c w hx hR hq)
  have HX := Lib.hid (fun X (hX : Below w.heap.size w X) => hx.below hX)
  have HS := Lib.hid (fun X (hX : Below w.heap.size w X) => hs.below hX)
  have hfd : scR q R p n ks bs = scF (ftP p.k) n ks bs (adF q R) (adT q R) 0 (q.l1 + 1) := rfl
  generalize scR q R p n ks bs = RES at hfd ⊢
  generalize adF q R = a1 at *
  generalize adT q R = a2 at *
  have hN1 : q.l1 + 1 < 257 := by omega
  have hn2 : n ≤ 65536 := by omega
  clear hx hs hq hl hn
  generalize q.l1 + 1 = N at *
  have HFD := Lib.hid hfd
  have HRR := Lib.hid hR
  clear hfd hR
  go_enter Tryz.func74, Tryz.ntmps74
  go_wp2_with fail
  refine HA.out.mono ?_
  rintro e w1 ⟨rfl, hb⟩
  have hx1 := HX.out _ hb
  have c1 := hx1.pcc
  have c2 := hx1.fz 35
  have h4 := hx1.setCc 0
  have HE4 : Hid (Ex (w1.setCell ⟨E, 35, none⟩ (.int .i64 0)) E A q R { p with cc := 0 } c) := Lib.hid h4
  have HS4 : Hid (Sto (w1.setCell ⟨E, 35, none⟩ (.int .i64 0)) A g h n m bs ks) := Lib.hid (sto_set (HS.out _ hb) h4)
  have HKP : Hid (Kp w (w1.setCell ⟨E, 35, none⟩ (.int .i64 0)) [E]) := Lib.hid ((Kp.bel hb).trans (kp_set w1 E 35 _ [E] (by simp)))
  clear HX HS HA hx1 h4 hb
  go_wp2
  clear c1 c2
  generalize w1.setCell ⟨E, 35, none⟩ (.int .i64 0) = x4 at HE4 HS4 HKP ⊢
  have HFB : Hid (∀ (X : World) (a : Nat), Below x4.heap.size x4 X → a < 33554432 → Calls Tryz.prog 154 #[.pointer (some ⟨E, 0, none⟩), .int .i64 (a : Int)] X (OrStop X (.int .u8 ((gt bs a).toNat : Int)) (codeV (ftP p.k) n ks ((a : Nat) : Int) ((1 : Nat) : Int)))) := Lib.hid (fun X a hX ha => fbyte_any E A q R { p with cc := 0 } c g h n m bs ks a X (HE4.out.below hX) (HS4.out.below hX) ha)
  go_loopw [18] (fun i wr => ∃ (k : Nat), k ≤ N ∧ i = .int .i64 (k : Int) ∧ Below x4.heap.size x4 wr ∧ RES = scF (ftP p.k) n ks bs a1 a2 k (N - k)) (fun i _ => N - (intOf i).toNat)
  case atStart => exact ⟨0, Nat.zero_le _, rfl, Below.refl _ _, HFD.out⟩
  case round =>
    obtain ⟨k, hk, rfl, hb, hres⟩ := hrel
    by_cases hlt : k < N
    · have hlt' : (k : Int) < (N : Int) := by omega
      have e1 : N - k = (N - (k + 1)) + 1 := by omega
      rw [e1] at hres
      have hres2 : RES = if codeV (ftP p.k) n ks ((a1 + k : Nat) : Int) ((1 : Nat) : Int) = 0 then (if codeV (ftP p.k) n ks ((a2 + (gt bs (a1 + k)).toNat : Nat) : Int) ((1 : Nat) : Int) = 0 then (if (gt bs (a2 + (gt bs (a1 + k)).toNat)).toNat = 0 then scF (ftP p.k) n ks bs a1 a2 (k + 1) (N - (k + 1)) else (0, some (a1 + k, gt bs (a2 + (gt bs (a1 + k)).toNat), decide (N - (k + 1) = 0)))) else (codeV (ftP p.k) n ks ((a2 + (gt bs (a1 + k)).toNat : Nat) : Int) ((1 : Nat) : Int), none)) else (codeV (ftP p.k) n ks ((a1 + k : Nat) : Int) ((1 : Nat) : Int), none) := hres
      have lv := (gt bs (a1 + k)).toNat_lt
      have HC1 : Hid (∀ X, Below wr.heap.size wr X → Calls Tryz.prog 154 #[.pointer (some ⟨E, 0, none⟩), .int .i64 ((a1 : Int) + (k : Int))] X (OrStop X (.int .u8 ((gt bs (a1 + k)).toNat : Int)) (codeV (ftP p.k) n ks ((a1 + k : Nat) : Int) ((1 : Nat) : Int)))) := Lib.hid (fun X hX => HFB.out X (a1 + k) (bel0 hb hX) (by omega))
      have HC2 : Hid (∀ X, Below wr.heap.size wr X → Calls Tryz.prog 154 #[.pointer (some ⟨E, 0, none⟩), .int .i64 ((a2 : Int) + ((gt bs (a1 + k)).toNat : Int))] X (OrStop X (.int .u8 ((gt bs (a2 + (gt bs (a1 + k)).toNat)).toNat : Int)) (codeV (ftP p.k) n ks ((a2 + (gt bs (a1 + k)).toNat : Nat) : Int) ((1 : Nat) : Int)))) := Lib.hid (fun X hX => HFB.out X (a2 + (gt bs (a1 + k)).toNat) (bel0 hb hX) (by omega))
      have hin : codeV (ftP p.k) n ks ((a1 + k : Nat) : Int) ((1 : Nat) : Int) = 0 → a1 + k < 16777216 := fun h0 => by
        obtain ⟨g1, g2, g3⟩ := inB_iff.1 (codeV_in h0)
        omega
      have HIT : Hid (∀ X (b : Bool), Below wr.heap.size wr X → codeV (ftP p.k) n ks ((a1 + k : Nat) : Int) ((1 : Nat) : Int) = 0 → Calls Tryz.prog 166 #[.pointer (some ⟨E, 0, none⟩), .int .i64 ((a1 : Int) + (k : Int)), .int .u8 ((gt bs (a2 + (gt bs (a1 + k)).toNat)).toNat : Int), .bool b] X (Did X E A q (hitR R (a1 + k) (gt bs (a2 + (gt bs (a1 + k)).toNat))) { p with cc := if b = true then 2 else 1 } c)) := Lib.hid (fun X b hX h0 => hit_any E A q R { p with cc := 0 } c (a1 + k) (gt bs (a2 + (gt bs (a1 + k)).toNat)) b X (HE4.out.below (bel0 hb hX)) HRR.out (hin h0))
      have HRES := Lib.hid hres2
      have HBW := Lib.hid hb
      generalize codeV (ftP p.k) n ks ((a1 + k : Nat) : Int) ((1 : Nat) : Int) = CA at HC1 HRES HIT
      generalize codeV (ftP p.k) n ks ((a2 + (gt bs (a1 + k)).toNat : Nat) : Int) ((1 : Nat) : Int) = CB at HC2 HRES
      generalize gt bs (a2 + (gt bs (a1 + k)).toNat) = y at HC2 HRES HIT
      generalize (gt bs (a1 + k)).toNat = v at HC1 HC2 lv
      have lvI : (v : Int) < 256 := by omega
      clear hres hres2 e1 hb hin HFB
      go_wp2_with fail
      refine (HC1.out _ (Below.refl _ _)).mono ?_
      rintro e x1 ⟨hb, ⟨h0, rfl⟩ | ⟨hn, rfl⟩⟩
      · have HA0 := Lib.hid h0
        have HB1 := Lib.hid hb
        clear h0 hb HC1
        go_wp2_with fail
        refine (HC2.out _ HB1.out).mono ?_
        rintro e x2 ⟨hb, ⟨h0, rfl⟩ | ⟨hn, rfl⟩⟩
        · have HB0 := Lib.hid h0
          have HB2 := Lib.hid (bel0 HB1.out hb)
          clear h0 hb HC2
          by_cases hy : y.toNat = 0
          · have HY := Lib.hid hy
            rw [hy]
            clear hy
            go_wp2
            go_roundw
            case rel => exact ⟨k + 1, hlt, by go_num, bel0 HBW.out HB2.out, by rw [HRES.out, if_pos HA0.out, if_pos HB0.out, if_pos HY.out]⟩
            case measure => simp [intOf]; omega
          · have hr : RES = (0, some (a1 + k, y, decide (N - (k + 1) = 0))) := by rw [HRES.out, if_pos HA0.out, if_pos HB0.out, if_neg hy]
            have hyI : (((y.toNat : Nat) : Int) == 0) = false := by
              rw [beq_eq_false_iff_ne]
              omega
            have HI2 := Lib.hid (fun b => HIT.out x2 b HB2.out HA0.out)
            have HR := Lib.hid hr
            clear hr hy HIT
            generalize y.toNat = yn at hyI HI2 ⊢
            go_wp2_with fail
            have hbo : ((k : Int) == (N : Int) - 1) = decide (N - (k + 1) = 0) := by
              by_cases hz : N - (k + 1) = 0
              · rw [decide_eq_true hz, beq_iff_eq]
                omega
              · rw [decide_eq_false hz, beq_eq_false_iff_ne]
                omega
            rw [hbo]
            clear hbo
            generalize decide (N - (k + 1) = 0) = l at HR ⊢
            refine (HI2.out l).mono ?_
            rintro e x3 ⟨rfl, h5, k5⟩
            have H5 := Lib.hid h5
            have K5 := Lib.hid ((HKP.out.trans (Kp.bel (l := [E]) (bel0 HBW.out HB2.out))).trans k5)
            clear h5 k5 HI2
            go_wp2
            go_end0
            exact .inr ⟨by rw [HR.out], rfl, by rw [HR.out]; exact H5.out, K5.out⟩
        · have HN := Lib.hid hn
          have hr : RES = (CB, none) := by rw [HRES.out, if_pos HA0.out, if_neg hn]
          have HR := Lib.hid hr
          have HB2 := Lib.hid (bel0 HB1.out hb)
          clear hn hb hr
          unfold Stop
          go_wp2
          exact ⟨rfl, .inl ⟨by rw [HR.out]; exact HN.out, by rw [HR.out]; rfl, HKP.out.trans (Kp.bel (bel0 HBW.out HB2.out))⟩⟩
      · have HN := Lib.hid hn
        have hr : RES = (CA, none) := by rw [HRES.out, if_neg hn]
        have HR := Lib.hid hr
        have HB2 := Lib.hid hb
        clear hn hb hr
        unfold Stop
        go_wp2
        exact ⟨rfl, .inl ⟨by rw [HR.out]; exact HN.out, by rw [HR.out]; rfl, HKP.out.trans (Kp.bel (bel0 HBW.out HB2.out))⟩⟩
    · obtain rfl : k = N := by omega
      have hr : RES = (0, none) := by
        rw [hres, Nat.sub_self]
        rfl
      have HR := Lib.hid hr
      have HE5 := Lib.hid (HE4.out.below hb)
      have HK5 := Lib.hid (HKP.out.trans (Kp.bel (l := [E]) hb))
      clear hr hres hb
      go_wp2
      go_end0
      exact .inr ⟨by rw [HR.out], rfl, by rw [HR.out]; exact HE5.out, HK5.out⟩

end M
end Go.Proofs.YtfopjnfphlkcgaaGreat

/- The program: a field of bytes that replaces another. -/
import Derived.Test.YtfopjnfphlkcgaaGreatRows
import Derived.Test.YtfopjnfphlkcgaaGreatGnByte
import Derived.Test.YtfopjnfphlkcgaaGreatGnFlds
namespace Go.Proofs.YtfopjnfphlkcgaaGreat
namespace E
end E
open Go.RowKit Go.Shelf E
set_option linter.unusedVariables false
namespace M

/-- Bytes after the first k of them have been replaced. -/
def rpL (op a1 a : Nat) (src : List UInt8) : Nat → List UInt8 → List UInt8
  | 0, T => T
  | k + 1, T => (rpL op a1 a src k T).set k (rpB op (gt (rpL op a1 a src k T) k) (atB (rpL op a1 a src k T) (a1 : Int) ((a + k : Nat) : Int) (gt src k)))
theorem rpL_len (op a1 a : Nat) (src : List UInt8) (k : Nat) (T : List UInt8) : (rpL op a1 a src k T).length = T.length := by
  induction k with
  | zero => rfl
  | succ k ih => rw [rpL, List.length_set, ih]
/-- Is a byte of them not 0? -/
def ccB (l : List UInt8) : Int := if l.all (fun x => x == 0) = true then 0 else 1
set_option maxRecDepth 100000 in
theorem ccBits_any (l : List UInt8) (B cap N : Nat) (w : World) (hr : Row w B 5 (bsU l) cap) (hN : l.length = N) (hn : N < 33554432) : Calls Tryz.prog 161 #[.slice (some ⟨B, 0, none⟩) N cap] w fun e w' => e = .returned (.int .i64 (ccB l)) ∧ w = w' := by
  have HR := Lib.hid hr
  have HN := Lib.hid hN
  clear hr hN
  go_enter Tryz.func161, Tryz.ntmps161
  go_wp2
  go_loopw [7] (fun i wr => ∃ k : Nat, k ≤ N ∧ wr = w ∧ i = .int .i64 (k : Int) ∧ ∀ j, j < k → gt l j = 0) (fun i _ => N - (intOf i).toNat)
  case atStart => exact ⟨0, Nat.zero_le _, rfl, rfl, fun j hj => absurd hj (Nat.not_lt_zero _)⟩
  case round =>
    obtain ⟨k, hk, rfl, rfl, hz⟩ := hrel
    by_cases hlt : k < N
    · have hcell := HR.out.cell k (by rw [bsU_len, HN.out]; exact hlt)
      rw [bsU_get _ _ (by rw [HN.out]; exact hlt)] at hcell
      have hlt' : (k : Int) < (N : Int) := by omega
      have HZ := Lib.hid hz
      clear hz hk
      by_cases h0 : gt l k = 0
      · have HZK := Lib.hid h0
        rw [h0] at hcell
        change _ = some (Value.int IntKind.u8 0) at hcell
        clear h0
        go_wp2
        go_roundw
        case rel => exact ⟨k + 1, hlt, trivial, by go_num, fun j hj => by
          rcases Nat.lt_or_ge j k with h | h
          · exact HZ.out j h
          · obtain rfl : j = k := by omega
            exact HZK.out⟩
        case measure => simp [intOf]; omega
      · have hne : (gt l k).toNat ≠ 0 := fun h => h0 (by
          apply UInt8.toNat_inj.1
          exact h)
        have HC : Hid (ccB l = 1) := Lib.hid (if_neg (fun h => h0 (by
          rw [List.all_eq_true] at h
          have h1 := h (gt l k) (by rw [gt_lt (by rw [HN.out]; exact hlt)]; exact List.getElem_mem _)
          exact eq_of_beq h1)))
        generalize (gt l k).toNat = v at hcell hne
        have hne' : ((v : Int) == 0) = false := by simpa using hne
        clear h0 HR
        go_wp2
        go_ret
        exact ⟨by rw [HC.out]; rfl, rfl⟩
    · obtain rfl : k = N := by omega
      have HC : Hid (ccB l = 0) := Lib.hid (if_pos (by
        rw [List.all_eq_true]
        intro x hx
        obtain ⟨j, hj, rfl⟩ := List.getElem_of_mem hx
        have h1 := hz j (by rw [← HN.out]; exact hj)
        rw [gt_lt hj] at h1
        rw [h1]
        rfl))
      clear HR hz
      go_wp2
      go_ret
      exact ⟨by rw [HC.out]; rfl, rfl⟩
/-- The code of an instruction that replaces a field by another. -/
def rpC (q : Qn) (R : Nat → Int) (p : Psw) (n : Nat) (ks : List UInt8) : Int := if codeV (ftP p.k) n ks (adF q R : Int) ((q.l1 + 1 : Nat) : Int) = 0 then (if codeV (ftP p.k) n ks (adT q R : Int) ((q.l1 + 1 : Nat) : Int) = 0 then codeV (stP p.k) n ks (adF q R : Int) ((q.l1 + 1 : Nat) : Int) else codeV (ftP p.k) n ks (adT q R : Int) ((q.l1 + 1 : Nat) : Int)) else codeV (ftP p.k) n ks (adF q R : Int) ((q.l1 + 1 : Nat) : Int)
/-- What the field becomes. -/
def rpF (q : Qn) (R : Nat → Int) (bs : List UInt8) : List UInt8 := rpL q.op (adF q R) (adT q R) (subL bs (adT q R) (q.l1 + 1)) (q.l1 + 1) (subL bs (adF q R) (q.l1 + 1))
/-- The status word that it leaves. -/
def rpP (q : Qn) (R : Nat → Int) (p : Psw) (bs : List UInt8) : Psw := if q.op = 212 ∨ q.op = 214 ∨ q.op = 215 then { p with cc := ccB (rpF q R bs) } else p
theorem hold_n {w : World} {base N : Nat} {sv : Value} {l : List UInt8} (h : Hold w base sv l) (hl : l.length = N) (h0 : 0 < N) : ∃ B c, sv = .slice (some ⟨B, 0, none⟩) N c ∧ base ≤ B ∧ Row w B 5 (bsU l) c ∧ N ≤ c ∧ c ≤ 9223372036854775807 := by
  subst hl
  obtain ⟨B, c, rfl, h4, h5, h2, h3, _⟩ := hold_some h h0
  exact ⟨B, c, rfl, h2, h3, h4, h5⟩
set_option maxRecDepth 100000 in
set_option maxHeartbeats 2000000 in
theorem replace_any (E A : Nat) (q : Qn) (R : Nat → Int) (p : Psw) (c : Int) (g h n m : Nat) (bs ks : List UInt8) (w : World) (hx : Ex w E A q R p c) (hs : Sto w A g h n m bs ks) (hR : RegOk R) (hq : QOk q) (hop : q.op = 209 ∨ q.op = 210 ∨ q.op = 211 ∨ q.op = 212 ∨ q.op = 214 ∨ q.op = 215) (hrp : ∀ (x y : UInt8) (W : World), Calls Tryz.prog 165 #[.int .i64 (q.op : Int), .int .u8 (x.toNat : Int), .int .u8 (y.toNat : Int)] W fun e w' => e = .returned (.int .u8 ((rpB q.op x y).toNat : Int)) ∧ W = w') : Calls Tryz.prog 71 #[.pointer (some ⟨E, 0, none⟩)] w (StoPost w E A g h n m q R (rpP q R p bs) c (rpC q R p n ks) bs (putB (stP p.k) n bs ks (adF q R : Int) (rpF q R bs)) ks) := by
  have hl := hq.l1
  have hg1 := hs.2.1.lt
  have hA1 := adF_lt q R
  have hA2 := adT_lt q R
  have HA := Lib.hid (fields_any E A q R p c w hx hR hq)
  have HF1 := Lib.hid (fun X (hX : Below w.heap.size w X) (h0 : codeV (ftP p.k) n ks (adF q R : Int) ((q.l1 + 1 : Nat) : Int) = 0) => fetch_ok E A q R p c g h n m bs ks (adF q R) (q.l1 + 1) X (hx.below hX) (hs.below hX) (by omega) h0)
  have HG1 := Lib.hid (fun X (hX : Below w.heap.size w X) (h0 : codeV (ftP p.k) n ks (adF q R : Int) ((q.l1 + 1 : Nat) : Int) ≠ 0) => fetch_no E A q R p c g h n m bs ks (adF q R) (q.l1 + 1) _ h0 X (hx.below hX) (hs.below hX) (by omega) rfl)
  have HF2 := Lib.hid (fun X (hX : Below w.heap.size w X) (h0 : codeV (ftP p.k) n ks (adT q R : Int) ((q.l1 + 1 : Nat) : Int) = 0) => fetch_ok E A q R p c g h n m bs ks (adT q R) (q.l1 + 1) X (hx.below hX) (hs.below hX) (by omega) h0)
  have HG2 := Lib.hid (fun X (hX : Below w.heap.size w X) (h0 : codeV (ftP p.k) n ks (adT q R : Int) ((q.l1 + 1 : Nat) : Int) ≠ 0) => fetch_no E A q R p c g h n m bs ks (adT q R) (q.l1 + 1) _ h0 X (hx.below hX) (hs.below hX) (by omega) rfl)
  have HL1 := Lib.hid (fun (h0 : codeV (ftP p.k) n ks (adF q R : Int) ((q.l1 + 1 : Nat) : Int) = 0) => code_len (k := q.l1 + 1) hs.nums.1 h0)
  have HL2 := Lib.hid (fun (h0 : codeV (ftP p.k) n ks (adT q R : Int) ((q.l1 + 1 : Nat) : Int) = 0) => code_len (k := q.l1 + 1) hs.nums.1 h0)
  have HRP := Lib.hid hrp
  have HX := Lib.hid (fun X (hX : Below w.heap.size w X) => hx.below hX)
  have HS := Lib.hid (fun X (hX : Below w.heap.size w X) => hs.below hX)
  have HW := Lib.hid (fun X v b C (hX : Below w.heap.size w X) (hv : SvB X v b) (hb : b.length < 1000) (hC : codeV (stP p.k) n ks (adF q R : Int) (b.length : Int) = C) => put_raw E A q R p c g h n m bs ks (adF q R) v b C X (hx.below hX) (hs.below hX) hv (by omega) hC)
  have HK := Lib.hid (show codeV (ftP p.k) n ks (adF q R : Int) ((q.l1 + 1 : Nat) : Int) ≠ 0 → rpC q R p n ks = codeV (ftP p.k) n ks (adF q R : Int) ((q.l1 + 1 : Nat) : Int) from fun h0 => if_neg h0)
  have HK2 := Lib.hid (show codeV (ftP p.k) n ks (adF q R : Int) ((q.l1 + 1 : Nat) : Int) = 0 → codeV (ftP p.k) n ks (adT q R : Int) ((q.l1 + 1 : Nat) : Int) ≠ 0 → rpC q R p n ks = codeV (ftP p.k) n ks (adT q R : Int) ((q.l1 + 1 : Nat) : Int) from fun h0 h1 => (if_pos h0).trans (if_neg h1))
  have HK3 := Lib.hid (show codeV (ftP p.k) n ks (adF q R : Int) ((q.l1 + 1 : Nat) : Int) = 0 → codeV (ftP p.k) n ks (adT q R : Int) ((q.l1 + 1 : Nat) : Int) = 0 → rpC q R p n ks = codeV (stP p.k) n ks (adF q R : Int) ((q.l1 + 1 : Nat) : Int) from fun h0 h1 => (if_pos h0).trans (if_pos h1))
  have HN := Lib.hid (fun (X : World) (p' : Psw) (hX : Ex X E A q R p c) => And.intro hX.pcc (And.intro (hX.fz 35) (fun v => hX.setCc v)))
  have HO := Lib.hid (fun (X : World) (hX : Ex X E A q R p c) => hX.op)
  have HP1 := Lib.hid (show ¬(q.op = 212 ∨ q.op = 214 ∨ q.op = 215) → rpP q R p bs = p from fun h0 => if_neg h0)
  have HP2 := Lib.hid (show (q.op = 212 ∨ q.op = 214 ∨ q.op = 215) → rpP q R p bs = { p with cc := ccB (rpF q R bs) } from fun h0 => if_pos h0)
  have HFD := Lib.hid (show rpF q R bs = rpL q.op (adF q R) (adT q R) (subL bs (adT q R) (q.l1 + 1)) (q.l1 + 1) (subL bs (adF q R) (q.l1 + 1)) from rfl)
  generalize rpP q R p bs = p' at HP1 HP2 ⊢
  generalize rpC q R p n ks = CC at HK HK2 HK3 ⊢
  generalize rpF q R bs = FF at HP2 HFD ⊢
  generalize codeV (ftP p.k) n ks (adF q R : Int) ((q.l1 + 1 : Nat) : Int) = C1 at HF1 HG1 HL1 HK HK2 HK3
  generalize codeV (ftP p.k) n ks (adT q R : Int) ((q.l1 + 1 : Nat) : Int) = C2 at HF2 HG2 HL2 HK HK2 HK3
  generalize subL bs (adF q R) (q.l1 + 1) = T at HF1 HL1 HFD
  generalize subL bs (adT q R) (q.l1 + 1) = U at HF2 HL2 HFD
  generalize adF q R = a1 at *
  generalize adT q R = a2 at *
  have hN0 : 0 < q.l1 + 1 := by omega
  have hN1 : q.l1 + 1 < 257 := by omega
  clear hx hs hR hq hrp hl
  generalize q.l1 + 1 = N at *
  go_enter Tryz.func71, Tryz.ntmps71
  go_wp2_with fail
  refine HA.out.mono ?_
  rintro e w1 ⟨rfl, hb⟩
  have HB := Lib.hid hb
  clear hb HA
  by_cases h1 : C1 = 0
  · go_wp2_with fail
    refine (HF1.out _ HB.out h1).mono ?_
    rintro e w2 ⟨sv, rfl, hh, hb⟩
    obtain ⟨B1, cap1, rfl, hB1, hr1, hcap1⟩ := hold_n hh (HL1.out h1) hN0
    have hb2 := bel0 HB.out hb
    have HB0 := HB
    clear hh hb HF1 HG1 HK HB
    go_wp2_with fail
    have hb3 := bel0 hb2 (below_new w2 (.cells #[.int .i64 (a1 : Int), .slice (some ⟨B1, 0, none⟩) N cap1] 159))
    have hx5 := Bx.new w2 159 #[.int .i64 (a1 : Int), .slice (some ⟨B1, 0, none⟩) N cap1]
    have hr1' := hr1.below (below_new w2 (.cells #[.int .i64 (a1 : Int), .slice (some ⟨B1, 0, none⟩) N cap1] 159))
    have hB5 : w.heap.size ≤ w2.heap.size := hb2.size
    have hB1' : w.heap.size ≤ B1 := by
      have := HB0.out.size
      omega
    have hne5 : w2.heap.size ≠ B1 := Nat.ne_of_gt hr1.lt
    clear hr1 hb2 hB1 HB0
    generalize w2.alloc (.cells #[.int .i64 (a1 : Int), .slice (some ⟨B1, 0, none⟩) N cap1] 159) = x2 at hb3 hx5 hr1' ⊢
    generalize w2.heap.size = B5 at hx5 hB5 hne5 ⊢
    by_cases h2 : C2 = 0
    · refine (HF2.out _ hb3 h2).mono ?_
      rintro e x3 ⟨sv2, rfl, hh, hb⟩
      obtain ⟨B2, cap2, rfl, hB2, hr2, _⟩ := hold_n hh (HL2.out h2) hN0
      have hne2 : B2 ≠ B1 := by
        have := hr1'.lt
        omega
      have HX5 := Lib.hid (hx5.below hb)
      have hr1 := hr1'.below hb
      have HR2 := Lib.hid hr2
      have HB3 := Lib.hid (bel0 hb3 hb)
      have HT := Lib.hid (HL1.out h1)
      have HU := Lib.hid (HL2.out h2)
      have HCC := Lib.hid (HK3.out h1 h2)
      have c51 := HX5.out.cell 1
      clear HF2 HG2 HK2 HK3 hh hb hB2 hr2 hb3 hx5 hr1' h1 h2 HL1 HL2
      go_wp2
      go_loopw [29] (fun i wr => ∃ k : Nat, k ≤ N ∧ i = .int .i64 (k : Int) ∧ Kp x3 wr [B1] ∧ Row wr B1 5 (bsU (rpL q.op a1 a2 U k T)) cap1) (fun i _ => N - (intOf i).toNat)
      case atStart => exact ⟨0, Nat.zero_le _, rfl, Kp.refl _ _, hr1⟩
      case round =>
        obtain ⟨k, hk, rfl, hkp, hrow⟩ := hrel
        have hle := (rpL_len q.op a1 a2 U k T).trans HT.out
        have r5 := HX5.out.kp hkp (by simpa using hne5)
        have r2 := HR2.out.kp hkp (by simpa using hne2)
        by_cases hlt : k < N
        · have hlt' : (k : Int) < (N : Int) := by omega
          have hcell := hrow.cell k (by rw [bsU_len, hle]; exact hlt)
          rw [bsU_get _ _ (by rw [hle]; exact hlt)] at hcell
          have hz0 : rpL q.op a1 a2 U (k + 1) T = (rpL q.op a1 a2 U k T).set k (rpB q.op (gt (rpL q.op a1 a2 U k T) k) (atB (rpL q.op a1 a2 U k T) (a1 : Int) ((a2 + k : Nat) : Int) (gt U k))) := rfl
          generalize rpL q.op a1 a2 U k T = V at hrow hle hcell hz0
          have d0 := (r5.below (bel_drew wr)).cell 0
          have d1 := (r5.below (bel_drew wr)).cell 1
          have d2 := (r2.below (bel_drew wr)).cell k (by rw [bsU_len, HU.out]; exact hlt)
          rw [bsU_get _ _ (by rw [HU.out]; exact hlt)] at d2
          have hba := byteAt_any V a1 (a2 + k) B1 cap1 N (gt U k) wr.drew (by omega) (by omega) (hrow.below (bel_drew wr)) hle (by omega)
          rw [Int.natCast_add] at hba hz0
          generalize atB V (a1 : Int) ((a2 : Int) + (k : Int)) (gt U k) = z at hba hz0
          have HBA := Lib.hid hba
          have HW3 := Lib.hid hz0
          have hw : IntKind.i64.wrap ((a2 : Int) + (k : Int)) = (a2 : Int) + (k : Int) := by rw [W.wrap_i64]; omega
          have HROW := Lib.hid hrow
          have HKP := Lib.hid hkp
          clear hrow hkp hba hz0
          go_wp2_with fail
          go_still_tail 8, (by kernel_rfl)
          change wpList _ _ _ _ _ wr.drew
          go_wp2_with fail
          refine HBA.out.mono ?_
          rintro e w4 ⟨rfl, hb⟩
          have hb4 : Below wr.heap.size wr w4.drew := bel0 (bel_drew wr) (bel0 hb (bel_drew w4))
          have f1 := (r5.below hb4).cell 1
          have f2 := HO.out w4.drew (HX.out _ (Kp.below HB3.out (HKP.out.trans (Kp.bel hb4)) (by simpa using hB1')))
          have f3 := (HROW.out.below hb4).cell k (by rw [bsU_len, hle]; exact hlt)
          rw [bsU_get _ _ (by rw [hle]; exact hlt)] at f3
          have f4 := (HROW.out.below hb4).frozen k
          have HKP2 := Lib.hid (HKP.out.trans (Kp.bel hb4))
          have HROW2 := Lib.hid ((HROW.out.below hb4).set k (.int .u8 ((rpB q.op (gt V k) z).toNat : Int))).1
          have HRW := Lib.hid (HRP.out (gt V k) z w4.drew)
          generalize (rpB q.op (gt V k) z) = y at HRW HROW2 HW3
          clear hb hb4 HKP HROW HBA d0 d1 d2 hcell r5 r2
          go_wp2_with fail
          refine wp_region_still_tail 12 (by kernel_rfl) (by kernel_rfl) ?_
          simp only [List.take_succ_cons, List.take_zero, List.drop_succ_cons, List.drop_zero]
          repeat still_step
          still_call (HRW.out.mono (fun _ _ h => ⟨h.1, h.2.symm⟩))
          repeat still_step
          refine wpStill_nil ?_
          change wpList _ _ _ _ _ w4.drew
          go_wp2
          go_roundw
          case rel => exact ⟨k + 1, hlt, by go_num, HKP2.out.trans (kp_set _ _ _ _ _ (by simp)), by
            rw [HW3.out, ← bsU_set]
            exact HROW2.out⟩
          case measure => simp [intOf]; omega
        · obtain rfl : k = N := by omega
          rw [← HFD.out] at hrow hle
          have hbw := Kp.below HB3.out hkp (by simpa using hB1')
          have hsv : SvB wr (.slice (some ⟨B1, 0, none⟩) k cap1) FF := ⟨some ⟨B1, 0, none⟩, cap1, by rw [hle], by
            have := hrow.rd 0 k (by omega)
            rw [List.drop_zero, List.take_of_length_le (by omega)] at this
            exact this, by omega, hcap1.2, fun h => by cases h⟩
          have HPU := Lib.hid (HW.out wr _ FF CC hbw hsv (by omega) (by rw [hle]; exact HCC.out.symm))
          have HNB := Lib.hid (fun (h0 : CC ≠ 0) => putB_no (P := stP p.k) (n := n) (bs := bs) (ks := ks) (x := (a1 : Int)) (b := FF) (by rw [hle, ← HCC.out]; exact h0))
          have c5 := r5.cell 1
          have HBW := Lib.hid hbw
          clear hbw hsv r2
          go_wp2_with fail
          refine HPU.out.mono ?_
          rintro e w6 ⟨hp, hx6, hs6, hk6⟩
          have HK6 := Lib.hid ((Kp.bel HBW.out).trans (Kp.more2 (E := E) hk6))
          have HS6 := Lib.hid hs6
          have c56 := (r5.kp hk6 (by simp; omega)).cell 1
          clear HPU c5
          rcases hp with ⟨hc, rfl⟩ | ⟨hc, rfl⟩
          · have HC := Lib.hid hc
            clear hc
            rcases hop with ho | ho | ho | ho | ho | ho
            · have c60 : w6.cell? ⟨E, 0, none⟩ = some (.int .i64 209) := by
                have := HO.out w6 hx6
                rw [ho] at this
                exact this
              have HX6 := Lib.hid hx6
              have HPP := Lib.hid (HP1.out (by omega))
              clear hrow hx6 hs6 hk6
              go_wp2
              go_end0
              exact ⟨.inl ⟨HC.out, rfl, HS6.out, by rw [HPP.out]; exact HX6.out⟩, HK6.out⟩
            · have c60 : w6.cell? ⟨E, 0, none⟩ = some (.int .i64 210) := by
                have := HO.out w6 hx6
                rw [ho] at this
                exact this
              have HX6 := Lib.hid hx6
              have HPP := Lib.hid (HP1.out (by omega))
              clear hrow hx6 hs6 hk6
              go_wp2
              go_end0
              exact ⟨.inl ⟨HC.out, rfl, HS6.out, by rw [HPP.out]; exact HX6.out⟩, HK6.out⟩
            · have c60 : w6.cell? ⟨E, 0, none⟩ = some (.int .i64 211) := by
                have := HO.out w6 hx6
                rw [ho] at this
                exact this
              have HX6 := Lib.hid hx6
              have HPP := Lib.hid (HP1.out (by omega))
              clear hrow hx6 hs6 hk6
              go_wp2
              go_end0
              exact ⟨.inl ⟨HC.out, rfl, HS6.out, by rw [HPP.out]; exact HX6.out⟩, HK6.out⟩
            · have c60 : w6.cell? ⟨E, 0, none⟩ = some (.int .i64 212) := by
                have := HO.out w6 hx6
                rw [ho] at this
                exact this
              obtain ⟨n1, n2, n3⟩ := HN.out w6 p' hx6
              have H3 := Lib.hid (n3 (ccB FF))
              have HCB := Lib.hid (ccBits_any FF B1 cap1 k w6 (hrow.kp hk6 (by simp; omega)) hle (by omega))
              have HPP := Lib.hid (HP2.out (by omega))
              clear hrow hx6 hs6 hk6 n3
              go_wp2_with fail
              refine HCB.out.mono ?_
              rintro e w7 ⟨rfl, rfl⟩
              go_wp2
              go_end0
              exact ⟨.inl ⟨HC.out, rfl, sto_set HS6.out H3.out, by rw [HPP.out]; exact H3.out⟩, HK6.out.trans (kp_set _ _ _ _ _ (by simp))⟩
            · have c60 : w6.cell? ⟨E, 0, none⟩ = some (.int .i64 214) := by
                have := HO.out w6 hx6
                rw [ho] at this
                exact this
              obtain ⟨n1, n2, n3⟩ := HN.out w6 p' hx6
              have H3 := Lib.hid (n3 (ccB FF))
              have HCB := Lib.hid (ccBits_any FF B1 cap1 k w6 (hrow.kp hk6 (by simp; omega)) hle (by omega))
              have HPP := Lib.hid (HP2.out (by omega))
              clear hrow hx6 hs6 hk6 n3
              go_wp2_with fail
              refine HCB.out.mono ?_
              rintro e w7 ⟨rfl, rfl⟩
              go_wp2
              go_end0
              exact ⟨.inl ⟨HC.out, rfl, sto_set HS6.out H3.out, by rw [HPP.out]; exact H3.out⟩, HK6.out.trans (kp_set _ _ _ _ _ (by simp))⟩
            · have c60 : w6.cell? ⟨E, 0, none⟩ = some (.int .i64 215) := by
                have := HO.out w6 hx6
                rw [ho] at this
                exact this
              obtain ⟨n1, n2, n3⟩ := HN.out w6 p' hx6
              have H3 := Lib.hid (n3 (ccB FF))
              have HCB := Lib.hid (ccBits_any FF B1 cap1 k w6 (hrow.kp hk6 (by simp; omega)) hle (by omega))
              have HPP := Lib.hid (HP2.out (by omega))
              clear hrow hx6 hs6 hk6 n3
              go_wp2_with fail
              refine HCB.out.mono ?_
              rintro e w7 ⟨rfl, rfl⟩
              go_wp2
              go_end0
              exact ⟨.inl ⟨HC.out, rfl, sto_set HS6.out H3.out, by rw [HPP.out]; exact H3.out⟩, HK6.out.trans (kp_set _ _ _ _ _ (by simp))⟩
          · have HC := Lib.hid hc
            clear hc hx6 hs6 hk6 hrow
            unfold Stop
            go_wp2
            exact ⟨rfl, .inr ⟨HC.out, rfl, by rw [← HNB.out HC.out]; exact HS6.out⟩, HK6.out⟩
    · have H2 := Lib.hid h2
      refine (HG2.out _ hb3 h2).mono ?_
      rintro e x3 ⟨rfl, hb⟩
      have HB3 := Lib.hid (bel0 hb3 hb)
      have HCC := Lib.hid (HK2.out h1 h2)
      clear hb h2 hr1' hx5 hb3 HG2
      unfold Stop
      go_wp2
      exact ⟨rfl, .inr ⟨by rw [HCC.out]; exact H2.out, by rw [HCC.out]; rfl, HS.out _ HB3.out⟩, Kp.bel HB3.out⟩
  · have HB2 := HB
    have H1 := Lib.hid h1
    go_wp2_with fail
    refine (HG1.out _ HB.out h1).mono ?_
    rintro e w2 ⟨rfl, hb⟩
    have HB3 := Lib.hid (bel0 HB.out hb)
    have HCC := Lib.hid (HK.out h1)
    clear hb h1
    unfold Stop
    go_wp2
    exact ⟨rfl, .inr ⟨by rw [HCC.out]; exact H1.out, by rw [HCC.out]; rfl, HS.out _ HB3.out⟩, Kp.bel HB3.out⟩

end M
end Go.Proofs.YtfopjnfphlkcgaaGreat

/- The contracts of Shift, ToBinary and FromBinary. -/
import Derived.Test.YtlpekknhaaddcaaDoorDcMul
namespace Go.Proofs.YtlpekknhaaddcaaDoor
open Go.RowKit Go.Shelf
set_option linter.unusedVariables false
namespace E

/-- What Shift answers. -/
def shL (la : List UInt8) (n r : Int) : List UInt8 × Nat × Nat :=
  if n < -32 ∨ 31 < n ∨ opC la = 6 then ([], 0, 6) else if opC la = 7 ∨ r < 0 ∨ 9 < r then ([], 0, 7) else
    resS (dNeg la) (if n < 0 then dropN (dVal la) (-n).toNat r.toNat else dVal la * 10 ^ n.toNat) la.length
theorem dropN_lt {x n r B : Nat} (h : x + 1 < B) : dropN x n r < B := by
  unfold dropN
  have := Nat.div_le_self x (10 ^ n)
  split <;> omega
theorem Bx.set3' {w : World} {g : Nat} {t : TypeId} {a b c : Value} (h : Bx w g t #[a, b, c]) (x y : Value) : Bx ((w.setCell ⟨g, 1, none⟩ x).setCell ⟨g, 2, none⟩ y) g t #[a, x, y] := (h.set 1 x).set 2 y
set_option maxRecDepth 100000 in
set_option maxHeartbeats 4000000 in
theorem pshift_any (p : Option Addr) (cp : Nat) (la : List UInt8) (n r : Int) (w : World) (hn0 : -9223372036854775808 ≤ n) (hn1 : n < 9223372036854775808) (hr : Rd w p la) (hg : Sg w) :
    Calls Tryd.prog 27 #[.slice p la.length cp, .int .i64 n, .int .i64 r] w (R3Post w (shL la n r)) := by
  have HOP := Lib.hid (operand_any p cp la w hr hg)
  unfold OpPost at HOP
  by_cases hlow : n < -32
  · have hv : shL la n r = ([], 0, 6) := by unfold shL; rw [if_pos (.inl hlow)]
    have HV := Lib.hid hv
    clear hv hr hg
    go_enter Tryd.func27, Tryd.ntmps27
    go_wp2
    go_ret3
    exact ⟨_, by rw [HV.out]; rfl, by rw [HV.out]; exact SvB.nil _, Below.refl _ _⟩
  by_cases hhi : 31 < n
  · have hv : shL la n r = ([], 0, 6) := by unfold shL; rw [if_pos (.inr (.inl hhi))]
    have HV := Lib.hid hv
    clear hv hr hg
    go_enter Tryd.func27, Tryd.ntmps27
    go_wp2
    go_ret3
    exact ⟨_, by rw [HV.out]; rfl, by rw [HV.out]; exact SvB.nil _, Below.refl _ _⟩
  by_cases hz : opC la = 0
  · have h6 : ¬ (n < -32 ∨ 31 < n ∨ opC la = 6) := by omega
    obtain ⟨hok, hl1, hl2⟩ := opC_ok hz
    have vx := dVal_31 hl2 hl1
    rw [hz] at HOP
    have h00 : (((0 : Nat)) : Int) = 0 := rfl
    rw [h00] at HOP
    clear h00
    by_cases hr0 : r < 0 ∨ 9 < r
    · have hv : shL la n r = ([], 0, 7) := by unfold shL; rw [if_neg h6, if_pos (.inr hr0)]
      have HV := Lib.hid hv
      clear hv hr hg h6 hok hz
      by_cases hr1 : r < 0
      · clear hr0
        go_enter Tryd.func27, Tryd.ntmps27
        go_wp2_with fail
        refine (HOP.out).mono ?_
        rintro e w1 ⟨c, d, h1, rfl, hb⟩
        have HB2 := Lib.hid (bel0 hb (below_new w1 (.cells #[.bool (dNeg la), .int .u64 (c : Int), .int .u64 (d : Int)] 45)))
        clear hb h1 HOP
        go_wp2
        go_ret3
        exact ⟨_, by rw [HV.out]; rfl, by rw [HV.out]; exact SvB.nil _, HB2.out⟩
      · have hr2 : 9 < r := by omega
        clear hr0
        go_enter Tryd.func27, Tryd.ntmps27
        go_wp2_with fail
        refine (HOP.out).mono ?_
        rintro e w1 ⟨c, d, h1, rfl, hb⟩
        have HB2 := Lib.hid (bel0 hb (below_new w1 (.cells #[.bool (dNeg la), .int .u64 (c : Int), .int .u64 (d : Int)] 45)))
        clear hb h1 HOP
        go_wp2
        go_ret3
        exact ⟨_, by rw [HV.out]; rfl, by rw [HV.out]; exact SvB.nil _, HB2.out⟩
    · have h7 : ¬ (opC la = 7 ∨ r < 0 ∨ 9 < r) := by omega
      obtain ⟨m, rfl⟩ := Int.eq_ofNat_of_zero_le (show 0 ≤ r by omega)
      have hm9 : m ≤ 9 := by omega
      by_cases hneg : n < 0
      · obtain ⟨k, rfl⟩ : ∃ k : Nat, n = -(k : Int) := ⟨(-n).toNat, by omega⟩
        have hk1 : 1 ≤ k := by omega
        have hk2 : k ≤ 100 := by omega
        have hv : shL la (-(k : Int)) (m : Int) = resS (dNeg la) (dropN (dVal la) k m) la.length := by
          unfold shL
          rw [if_neg h6, if_neg h7, if_pos hneg]
          congr 2
          omega
        have HV := Lib.hid hv
        have hdl := dropN_lt (x := dVal la) (n := k) (r := m) (B := 100000000000000000000000000000000) (by omega)
        have HDR := Lib.hid (fun W a b (h : Pw (dVal la) a b) => pdrop_any (dVal la) k m a b W h (by omega) hk1 hk2 hm9)
        have HO0 := fun W c d (h : Pw (dropN (dVal la) k m) c d) => outcome_any (dNeg la) (dropN (dVal la) k m) 0 la.length c d W h hdl (by omega) hl1 hl2
        rw [Nat.pow_zero, Nat.mul_one] at HO0
        have h00 : (((0 : Nat)) : Int) = 0 := rfl
        rw [h00] at HO0
        have HO := Lib.hid HO0
        unfold R3Post at HO
        unfold PwPost at HDR
        generalize dropN (dVal la) k m = v at *
        have hmx : max (-(k : Int)) 0 = 0 := by omega
        have i0 : -(k : Int) < 0 := by omega
        clear hv hr hg h6 h7 hok hz hdl h00 HO0 vx hr0 hneg
        go_enter Tryd.func27, Tryd.ntmps27
        go_wp2_with fail
        refine (HOP.out).mono ?_
        rintro e w1 ⟨c, d, h1, rfl, hb⟩
        have hle1 : w.heap.size ≤ w1.heap.size := hb.size
        have HB2 := Lib.hid (bel0 hb (below_new w1 (.cells #[.bool (dNeg la), .int .u64 (c : Int), .int .u64 (d : Int)] 45)))
        have HN2 := Lib.hid (Bx.new w1 45 #[.bool (dNeg la), .int .u64 (c : Int), .int .u64 (d : Int)])
        have HD1 := Lib.hid (fun W => HDR.out W c d h1)
        clear hb h1 HOP HDR
        go_wp2_with fail
        refine (HD1.out _).mono ?_
        rintro e w2 ⟨a1, b1, hq1, rfl, hb⟩
        have HB3 := Lib.hid (bel0 HB2.out hb)
        have HN3 := Lib.hid (HN2.out.below hb)
        have HO1 := Lib.hid (fun W => HO.out W a1 b1 hq1)
        clear hb hq1 HO HD1
        obtain ⟨⟨d1, d2, d3⟩, f1, f2, f3⟩ := HN3.out.three
        go_wp2_with fail
        refine (HO1.out _).mono ?_
        rintro e w3 ⟨sv, rfl, hsv, hb⟩
        have HB4 := Lib.hid (bel0 ((HB3.out.setCell (p := ⟨w1.heap.size, 1, none⟩) hle1 _).setCell (p := ⟨w1.heap.size, 2, none⟩) hle1 _) hb)
        have HSV := Lib.hid hsv
        clear hb hsv
        go_wp2
        go_ret3
        exact ⟨_, by rw [HV.out]; rfl, by rw [HV.out]; exact HSV.out, HB4.out⟩
      · obtain ⟨k, rfl⟩ := Int.eq_ofNat_of_zero_le (show 0 ≤ n by omega)
        have hk2 : k ≤ 100 := by omega
        have hv : shL la (k : Int) (m : Int) = resS (dNeg la) (dVal la * 10 ^ k) la.length := by
          unfold shL
          rw [if_neg h6, if_neg h7, if_neg hneg, Int.toNat_natCast]
        have HV := Lib.hid hv
        have HO := Lib.hid (fun W c d (h : Pw (dVal la) c d) => outcome_any (dNeg la) (dVal la) k la.length c d W h (by omega) hk2 hl1 hl2)
        unfold R3Post at HO
        have hk31 : k ≤ 31 := by omega
        clear hv hr hg h6 h7 hok hz vx hr0 hneg hlow hhi hn0 hn1
        go_enter Tryd.func27, Tryd.ntmps27
        go_wp2_with fail
        refine (HOP.out).mono ?_
        rintro e w1 ⟨c, d, h1, rfl, hb⟩
        have HB2 := Lib.hid (bel0 hb (below_new w1 (.cells #[.bool (dNeg la), .int .u64 (c : Int), .int .u64 (d : Int)] 45)))
        have HO1 := Lib.hid (fun W => HO.out W c d h1)
        clear hb h1 HOP HO
        go_wp2_with fail
        refine (HO1.out _).mono ?_
        rintro e w3 ⟨sv, rfl, hsv, hb⟩
        have HB4 := Lib.hid (bel0 HB2.out hb)
        have HSV := Lib.hid hsv
        clear hb hsv
        go_wp2
        go_ret3
        exact ⟨_, by rw [HV.out]; rfl, by rw [HV.out]; exact HSV.out, HB4.out⟩
  · have hv : shL la n r = ([], 0, opC la) := by
      unfold shL
      rcases opC_cases la with h | h | h
      · exact absurd h hz
      · rw [if_pos (.inr (.inr h)), h]
      · rw [if_neg (by omega), if_pos (.inl h), h]
    have HV := Lib.hid hv
    have hcz : ((opC la : Int) == 0) = false := by
      simp only [beq_eq_false_iff_ne, ne_eq]
      omega
    clear hv hr hg
    generalize opC la = code at *
    clear hz
    go_enter Tryd.func27, Tryd.ntmps27
    go_wp2_with fail
    refine (HOP.out).mono ?_
    rintro e w1 ⟨c, d, h1, rfl, hb⟩
    have HB2 := Lib.hid (bel0 hb (below_new w1 (.cells #[.bool (dNeg la), .int .u64 (c : Int), .int .u64 (d : Int)] 45)))
    clear hb h1 HOP
    go_wp2
    go_ret3
    exact ⟨_, by rw [HV.out]; rfl, by rw [HV.out]; exact SvB.nil _, HB2.out⟩

theorem w32_range (V : Int) (h1 : -1000000000000000 < V) (h2 : V < 1000000000000000) : (V != wrap64 (wrap32 V)) = !(decide (-2147483648 ≤ V ∧ V ≤ 2147483647)) := by
  have e : wrap64 (wrap32 V) = (V + 2147483648) % 4294967296 - 2147483648 := by
    unfold wrap64 wrap32
    omega
  rw [e]
  by_cases h : -2147483648 ≤ V ∧ V ≤ 2147483647
  · rw [decide_eq_true h]
    have : V = (V + 2147483648) % 4294967296 - 2147483648 := by omega
    rw [← this]
    simp
  · rw [decide_eq_false h]
    have : V ≠ (V + 2147483648) % 4294967296 - 2147483648 := by omega
    simpa using this
/-- What ToBinary answers. -/
def tbV (lb : List UInt8) : Int := if dNeg lb then -(dVal lb : Int) else (dVal lb : Int)
def tbL (lb : List UInt8) : Int × Nat := if lb.length ≠ 8 then (0, 6) else if opC lb ≠ 0 then (0, opC lb) else (tbV lb % 4294967296, if -2147483648 ≤ tbV lb ∧ tbV lb ≤ 2147483647 then 0 else 9)
def TbPost (w : World) (r : Int × Nat) (e : Ending) (w' : World) : Prop := e = .returned (.tuple #[.int .u32 r.1, .int .i64 (r.2 : Int)]) ∧ Below w.heap.size w w'
set_option maxRecDepth 100000 in
set_option maxHeartbeats 4000000 in
theorem ptobin_any (p : Option Addr) (cp : Nat) (la : List UInt8) (w : World) (hlen : la.length ≤ 9223372036854775807) (hr : Rd w p la) (hg : Sg w) :
    Calls Tryd.prog 29 #[.slice p la.length cp] w (TbPost w (tbL la)) := by
  have HOP := Lib.hid (operand_any p cp la w hr hg)
  unfold OpPost at HOP
  by_cases hl : la.length = 8
  · by_cases hz : opC la = 0
    · have vx := dVal_15 (bs := la) (by omega) (by omega)
      have hv : tbL la = (tbV la % 4294967296, if -2147483648 ≤ tbV la ∧ tbV la ≤ 2147483647 then 0 else 9) := by unfold tbL; rw [if_neg (by omega), if_neg (by omega)]
      have HV := Lib.hid hv
      have HTV : Hid (tbV la = if dNeg la then -(dVal la : Int) else (dVal la : Int)) := Lib.hid rfl
      rw [hz] at HOP
      have h00 : (((0 : Nat)) : Int) = 0 := rfl
      rw [h00] at HOP
      obtain ⟨x, hx⟩ : ∃ x, x = dVal la := ⟨_, rfl⟩
      obtain ⟨na, hna⟩ : ∃ na, na = dNeg la := ⟨_, rfl⟩
      rw [← hx, ← hna] at HOP HTV
      rw [← hx] at vx
      rw [hl] at HOP ⊢
      clear hv hr hg h00 hz hx hna hlen hl
      generalize tbV la = V at *
      cases na
      · obtain rfl : V = (x : Int) := HTV.out
        go_enter Tryd.func29, Tryd.ntmps29
        go_wp2_with fail
        refine (HOP.out).mono ?_
        rintro e w1 ⟨c, d, h1, rfl, hb⟩
        have HB2 := Lib.hid (bel0 hb (below_new w1 (.cells #[.bool false, .int .u64 (c : Int), .int .u64 (d : Int)] 45)))
        obtain ⟨e1, e2⟩ := h1
        obtain rfl : c = 0 := by omega
        obtain rfl : d = x := by omega
        clear hb e1 e2 HOP
        go_wp2
        all_goals rename_i hh
        all_goals rw [w32_range _ (by omega) (by omega)] at hh
        all_goals go_ret2
        · refine ⟨?_, HB2.out⟩
          rw [HV.out, if_neg (by simpa using hh)]
          rfl
        · refine ⟨?_, HB2.out⟩
          rw [HV.out, if_pos (by simpa using hh)]
          rfl
      · obtain rfl : V = -(x : Int) := HTV.out
        go_enter Tryd.func29, Tryd.ntmps29
        go_wp2_with fail
        refine (HOP.out).mono ?_
        rintro e w1 ⟨c, d, h1, rfl, hb⟩
        have HB2 := Lib.hid (bel0 hb (below_new w1 (.cells #[.bool true, .int .u64 (c : Int), .int .u64 (d : Int)] 45)))
        obtain ⟨e1, e2⟩ := h1
        obtain rfl : c = 0 := by omega
        obtain rfl : d = x := by omega
        clear hb e1 e2 HOP
        go_wp2
        all_goals rename_i hh
        all_goals rw [w32_range _ (by omega) (by omega)] at hh
        all_goals go_ret2
        · refine ⟨?_, HB2.out⟩
          rw [HV.out, if_neg (by simpa using hh)]
          rfl
        · refine ⟨?_, HB2.out⟩
          rw [HV.out, if_pos (by simpa using hh)]
          rfl
    · have hv : tbL la = (0, opC la) := by unfold tbL; rw [if_neg (by omega), if_pos hz]
      have HV := Lib.hid hv
      have hcz : ((opC la : Int) == 0) = false := by
        simp only [beq_eq_false_iff_ne, ne_eq]
        omega
      rw [hl] at HOP ⊢
      clear hv hr hg hl hlen
      generalize opC la = code at *
      clear hz
      go_enter Tryd.func29, Tryd.ntmps29
      go_wp2_with fail
      refine (HOP.out).mono ?_
      rintro e w1 ⟨c, d, h1, rfl, hb⟩
      have HB2 := Lib.hid (bel0 hb (below_new w1 (.cells #[.bool (dNeg la), .int .u64 (c : Int), .int .u64 (d : Int)] 45)))
      clear hb h1 HOP
      go_wp2
      go_ret2
      exact ⟨by rw [HV.out]; rfl, HB2.out⟩
  · have hv : tbL la = (0, 6) := by unfold tbL; rw [if_pos hl]
    have HV := Lib.hid hv
    have hl8 : ((la.length : Int) == 8) = false := by
      simp only [beq_eq_false_iff_ne, ne_eq]
      omega
    clear hv hr hg HOP
    generalize la.length = n at *
    clear hl
    go_enter Tryd.func29, Tryd.ntmps29
    go_wp2
    go_ret2
    exact ⟨by rw [HV.out]; rfl, Below.refl _ _⟩
/-- What FromBinary answers. -/
def fbL (v : Nat) : List UInt8 := if v < 2147483648 then fldL false v 8 else fldL true (4294967296 - v) 8
theorem fbL_len (v : Nat) : (fbL v).length = 8 := by
  unfold fbL
  split <;> exact fldL_len _ _ _
def R1Post (w : World) (l : List UInt8) (e : Ending) (w' : World) : Prop := ∃ sv, e = .returned sv ∧ SvB w' sv l ∧ Below w.heap.size w w'
set_option maxRecDepth 100000 in
set_option maxHeartbeats 4000000 in
theorem pfrombin_any (v : Nat) (w : World) (hv : v < 4294967296) :
    Calls Tryd.prog 31 #[.int .u32 (v : Int)] w (R1Post w (fbL v)) := by
  have h00 : (((0 : Nat)) : Int) = 0 := rfl
  have h08 : (((8 : Nat)) : Int) = 8 := rfl
  by_cases hlt : v < 2147483648
  · have hf : fbL v = fldL false v 8 := by unfold fbL; rw [if_pos hlt]
    have HF0 := fun W => field_any false v 0 8 0 v W ⟨by omega, by omega⟩ (by omega) (by omega) (by omega) (by omega)
    rw [Nat.pow_zero, Nat.mul_one, h00, h08] at HF0
    have HF := Lib.hid HF0
    have HV := Lib.hid hf
    have HL := Lib.hid (fldL_len false v 8)
    unfold FdPost at HF
    generalize fldL false v 8 = F at *
    have hw : wrap64 (wrap32 (v : Int)) = (v : Int) := by
      unfold wrap64 wrap32
      omega
    have HB0 := Lib.hid (below_new w (.cells #[.bool false, .int .u64 0, .int .u64 (v : Int)] 45))
    clear hf HF0 h00 h08
    go_enter Tryd.func31, Tryd.ntmps31
    go_wp2_with fail
    refine (HF.out _).mono ?_
    rintro e w1 ⟨g, rfl, hk, hb⟩
    have HB1 := Lib.hid (bel0 HB0.out hb)
    have HK := Lib.hid (SvB.blk hk HL.out (by omega))
    clear hk hb
    go_wp2
    go_ret
    exact ⟨_, rfl, by rw [HV.out]; exact HK.out, HB1.out⟩
  · obtain ⟨m, hm⟩ : ∃ m, m = 4294967296 - v := ⟨_, rfl⟩
    have hf : fbL v = fldL true m 8 := by unfold fbL; rw [if_neg hlt, hm]
    have HF0 := fun W => field_any true m 0 8 0 m W ⟨by omega, by omega⟩ (by omega) (by omega) (by omega) (by omega)
    rw [Nat.pow_zero, Nat.mul_one, h00, h08] at HF0
    have HF := Lib.hid HF0
    have HV := Lib.hid hf
    have HL := Lib.hid (fldL_len true m 8)
    unfold FdPost at HF
    generalize fldL true m 8 = F at *
    have hw : wrap64 (wrap32 (v : Int)) = -(m : Int) := by
      unfold wrap64 wrap32
      omega
    have hm1 : 1 ≤ m := by omega
    have hm2 : m ≤ 2147483648 := by omega
    have HB0 := Lib.hid (below_new w (.cells #[.bool true, .int .u64 0, .int .u64 (m : Int)] 45))
    clear hf HF0 h00 h08 hlt hm
    go_enter Tryd.func31, Tryd.ntmps31
    go_wp2_with fail
    refine (HF.out _).mono ?_
    rintro e w1 ⟨g, rfl, hk, hb⟩
    have HB1 := Lib.hid (bel0 HB0.out hb)
    have HK := Lib.hid (SvB.blk hk HL.out (by omega))
    clear hk hb
    go_wp2
    go_ret
    exact ⟨_, rfl, by rw [HV.out]; exact HK.out, HB1.out⟩

end E
end Go.Proofs.YtlpekknhaaddcaaDoor

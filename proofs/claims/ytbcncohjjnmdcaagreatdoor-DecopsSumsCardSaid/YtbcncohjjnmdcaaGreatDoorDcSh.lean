/- The contracts of Shift, ToBinary and FromBinary. -/
import Derived.Test.YtbcncohjjnmdcaaGreatDoorRows
import Derived.Test.YtbcncohjjnmdcaaGreatDoorDcMul
import Derived.Test.YtbcncohjjnmdcaaGreatDoorDcOut
namespace Go.Proofs.YtbcncohjjnmdcaaGreatDoor
open Go.RowKit Go.Shelf
set_option linter.unusedVariables false
namespace E

theorem w32_range (V : Int) (h1 : -1000000000000000 < V) (h2 : V < 1000000000000000) : (V != wrap64 (wrap32 V)) = !(decide (-2147483648 ≤ V ∧ V ≤ 2147483647)) := by
  have e : wrap64 (wrap32 V) = (V + 2147483648) % 4294967296 - 2147483648 := by
    unfold wrap64 wrap32
    omega
  rw [e]
  by_cases h : -2147483648 ≤ V ∧ V ≤ 2147483647
  · rw [decide_eq_true h]
    have : V = (V + 2147483648) % 4294967296 - 2147483648 := by omega
    rw [← this]
    simp
  · rw [decide_eq_false h]
    have : V ≠ (V + 2147483648) % 4294967296 - 2147483648 := by omega
    simpa using this
/-- What ToBinary answers. -/
def tbV (lb : List UInt8) : Int := if dNeg lb then -(dVal lb : Int) else (dVal lb : Int)
def tbL (lb : List UInt8) : Int × Nat := if lb.length ≠ 8 then (0, 6) else if opC lb ≠ 0 then (0, opC lb) else (tbV lb % 4294967296, if -2147483648 ≤ tbV lb ∧ tbV lb ≤ 2147483647 then 0 else 9)
def TbPost (w : World) (r : Int × Nat) (e : Ending) (w' : World) : Prop := e = .returned (.tuple #[.int .u32 r.1, .int .i64 (r.2 : Int)]) ∧ Below w.heap.size w w'
set_option maxRecDepth 100000 in
set_option maxHeartbeats 4000000 in
theorem ptobin_any (p : Option Addr) (cp : Nat) (la : List UInt8) (w : World) (hlen : la.length ≤ 9223372036854775807) (hr : Rd w p la) (hg : Sg w) :
    Calls Tryz.prog 93 #[.slice p la.length cp] w (TbPost w (tbL la)) := by
  have HOP := Lib.hid (operand_any p cp la w hr hg)
  unfold OpPost at HOP
  by_cases hl : la.length = 8
  · by_cases hz : opC la = 0
    · have vx := dVal_15 (bs := la) (by omega) (by omega)
      have hv : tbL la = (tbV la % 4294967296, if -2147483648 ≤ tbV la ∧ tbV la ≤ 2147483647 then 0 else 9) := by unfold tbL; rw [if_neg (by omega), if_neg (by omega)]
      have HV := Lib.hid hv
      have HTV : Hid (tbV la = if dNeg la then -(dVal la : Int) else (dVal la : Int)) := Lib.hid rfl
      rw [hz] at HOP
      have h00 : (((0 : Nat)) : Int) = 0 := rfl
      rw [h00] at HOP
      obtain ⟨x, hx⟩ : ∃ x, x = dVal la := ⟨_, rfl⟩
      obtain ⟨na, hna⟩ : ∃ na, na = dNeg la := ⟨_, rfl⟩
      rw [← hx, ← hna] at HOP HTV
      rw [← hx] at vx
      rw [hl] at HOP ⊢
      clear hv hr hg h00 hz hx hna hlen hl
      generalize tbV la = V at *
      cases na
      · obtain rfl : V = (x : Int) := HTV.out
        go_enter Tryz.func93, Tryz.ntmps93
        go_wp2_with fail
        refine (HOP.out).mono ?_
        rintro e w1 ⟨c, d, h1, rfl, hb⟩
        have HB2 := Lib.hid (bel0 hb (below_new w1 (.cells #[.bool false, .int .u64 (c : Int), .int .u64 (d : Int)] 167)))
        obtain ⟨e1, e2⟩ := h1
        obtain rfl : c = 0 := by omega
        obtain rfl : d = x := by omega
        clear hb e1 e2 HOP
        go_wp2
        all_goals rename_i hh
        all_goals rw [w32_range _ (by omega) (by omega)] at hh
        all_goals go_ret2
        · refine ⟨?_, HB2.out⟩
          rw [HV.out, if_neg (by simpa using hh)]
          rfl
        · refine ⟨?_, HB2.out⟩
          rw [HV.out, if_pos (by simpa using hh)]
          rfl
      · obtain rfl : V = -(x : Int) := HTV.out
        go_enter Tryz.func93, Tryz.ntmps93
        go_wp2_with fail
        refine (HOP.out).mono ?_
        rintro e w1 ⟨c, d, h1, rfl, hb⟩
        have HB2 := Lib.hid (bel0 hb (below_new w1 (.cells #[.bool true, .int .u64 (c : Int), .int .u64 (d : Int)] 167)))
        obtain ⟨e1, e2⟩ := h1
        obtain rfl : c = 0 := by omega
        obtain rfl : d = x := by omega
        clear hb e1 e2 HOP
        go_wp2
        all_goals rename_i hh
        all_goals rw [w32_range _ (by omega) (by omega)] at hh
        all_goals go_ret2
        · refine ⟨?_, HB2.out⟩
          rw [HV.out, if_neg (by simpa using hh)]
          rfl
        · refine ⟨?_, HB2.out⟩
          rw [HV.out, if_pos (by simpa using hh)]
          rfl
    · have hv : tbL la = (0, opC la) := by unfold tbL; rw [if_neg (by omega), if_pos hz]
      have HV := Lib.hid hv
      have hcz : ((opC la : Int) == 0) = false := by
        simp only [beq_eq_false_iff_ne, ne_eq]
        omega
      rw [hl] at HOP ⊢
      clear hv hr hg hl hlen
      generalize opC la = code at *
      clear hz
      go_enter Tryz.func93, Tryz.ntmps93
      go_wp2_with fail
      refine (HOP.out).mono ?_
      rintro e w1 ⟨c, d, h1, rfl, hb⟩
      have HB2 := Lib.hid (bel0 hb (below_new w1 (.cells #[.bool (dNeg la), .int .u64 (c : Int), .int .u64 (d : Int)] 167)))
      clear hb h1 HOP
      go_wp2
      go_ret2
      exact ⟨by rw [HV.out]; rfl, HB2.out⟩
  · have hv : tbL la = (0, 6) := by unfold tbL; rw [if_pos hl]
    have HV := Lib.hid hv
    have hl8 : ((la.length : Int) == 8) = false := by
      simp only [beq_eq_false_iff_ne, ne_eq]
      omega
    clear hv hr hg HOP
    generalize la.length = n at *
    clear hl
    go_enter Tryz.func93, Tryz.ntmps93
    go_wp2
    go_ret2
    exact ⟨by rw [HV.out]; rfl, Below.refl _ _⟩
/-- What FromBinary answers. -/
def fbL (v : Nat) : List UInt8 := if v < 2147483648 then fldL false v 8 else fldL true (4294967296 - v) 8
theorem fbL_len (v : Nat) : (fbL v).length = 8 := by
  unfold fbL
  split <;> exact fldL_len _ _ _
def R1Post (w : World) (l : List UInt8) (e : Ending) (w' : World) : Prop := ∃ sv, e = .returned sv ∧ SvB w' sv l ∧ Below w.heap.size w w'
set_option maxRecDepth 100000 in
set_option maxHeartbeats 4000000 in
theorem pfrombin_any (v : Nat) (w : World) (hv : v < 4294967296) :
    Calls Tryz.prog 98 #[.int .u32 (v : Int)] w (R1Post w (fbL v)) := by
  have h00 : (((0 : Nat)) : Int) = 0 := rfl
  have h08 : (((8 : Nat)) : Int) = 8 := rfl
  by_cases hlt : v < 2147483648
  · have hf : fbL v = fldL false v 8 := by unfold fbL; rw [if_pos hlt]
    have HF0 := fun W => field_any false v 0 8 0 v W ⟨by omega, by omega⟩ (by omega) (by omega) (by omega) (by omega)
    rw [Nat.pow_zero, Nat.mul_one, h00, h08] at HF0
    have HF := Lib.hid HF0
    have HV := Lib.hid hf
    have HL := Lib.hid (fldL_len false v 8)
    unfold FdPost at HF
    generalize fldL false v 8 = F at *
    have hw : wrap64 (wrap32 (v : Int)) = (v : Int) := by
      unfold wrap64 wrap32
      omega
    have HB0 := Lib.hid (below_new w (.cells #[.bool false, .int .u64 0, .int .u64 (v : Int)] 167))
    clear hf HF0 h00 h08
    go_enter Tryz.func98, Tryz.ntmps98
    go_wp2_with fail
    refine (HF.out _).mono ?_
    rintro e w1 ⟨g, rfl, hk, hb⟩
    have HB1 := Lib.hid (bel0 HB0.out hb)
    have HK := Lib.hid (SvB.blk hk HL.out (by omega))
    clear hk hb
    go_wp2
    go_ret
    exact ⟨_, rfl, by rw [HV.out]; exact HK.out, HB1.out⟩
  · obtain ⟨m, hm⟩ : ∃ m, m = 4294967296 - v := ⟨_, rfl⟩
    have hf : fbL v = fldL true m 8 := by unfold fbL; rw [if_neg hlt, hm]
    have HF0 := fun W => field_any true m 0 8 0 m W ⟨by omega, by omega⟩ (by omega) (by omega) (by omega) (by omega)
    rw [Nat.pow_zero, Nat.mul_one, h00, h08] at HF0
    have HF := Lib.hid HF0
    have HV := Lib.hid hf
    have HL := Lib.hid (fldL_len true m 8)
    unfold FdPost at HF
    generalize fldL true m 8 = F at *
    have hw : wrap64 (wrap32 (v : Int)) = -(m : Int) := by
      unfold wrap64 wrap32
      omega
    have hm1 : 1 ≤ m := by omega
    have hm2 : m ≤ 2147483648 := by omega
    have HB0 := Lib.hid (below_new w (.cells #[.bool true, .int .u64 0, .int .u64 (m : Int)] 167))
    clear hf HF0 h00 h08 hlt hm
    go_enter Tryz.func98, Tryz.ntmps98
    go_wp2_with fail
    refine (HF.out _).mono ?_
    rintro e w1 ⟨g, rfl, hk, hb⟩
    have HB1 := Lib.hid (bel0 HB0.out hb)
    have HK := Lib.hid (SvB.blk hk HL.out (by omega))
    clear hk hb
    go_wp2
    go_ret
    exact ⟨_, rfl, by rw [HV.out]; exact HK.out, HB1.out⟩

end E
end Go.Proofs.YtbcncohjjnmdcaaGreatDoor

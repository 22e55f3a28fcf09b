/- The contracts of Shift, ToBinary and FromBinary. -/
import Derived.Test.YtbcncohjjnmdcaaGreatDoorRows
import Derived.Test.YtbcncohjjnmdcaaGreatDoorDcOut
namespace Go.Proofs.YtbcncohjjnmdcaaGreatDoor
open Go.RowKit Go.Shelf
set_option linter.unusedVariables false
namespace E

/-- What FromBinary answers. -/
def fbL (v : Nat) : List UInt8 := if v < 2147483648 then fldL false v 8 else fldL true (4294967296 - v) 8
theorem fbL_len (v : Nat) : (fbL v).length = 8 := by
  unfold fbL
  split <;> exact fldL_len _ _ _
def R1Post (w : World) (l : List UInt8) (e : Ending) (w' : World) : Prop := ∃ sv, e = .returned sv ∧ SvB w' sv l ∧ Below w.heap.size w w'
set_option maxRecDepth 100000 in
set_option maxHeartbeats 4000000 in
theorem pfrombin_any (v : Nat) (w : World) (hv : v < 4294967296) :
    Calls Tryz.prog 98 #[.int .u32 (v : Int)] w (R1Post w (fbL v)) := by
  have h00 : (((0 : Nat)) : Int) = 0 := rfl
  have h08 : (((8 : Nat)) : Int) = 8 := rfl
  by_cases hlt : v < 2147483648
  · have hf : fbL v = fldL false v 8 := by unfold fbL; rw [if_pos hlt]
    have HF0 := fun W => field_any false v 0 8 0 v W ⟨by omega, by omega⟩ (by omega) (by omega) (by omega) (by omega)
    rw [Nat.pow_zero, Nat.mul_one, h00, h08] at HF0
    have HF := Lib.hid HF0
    have HV := Lib.hid hf
    have HL := Lib.hid (fldL_len false v 8)
    unfold FdPost at HF
    generalize fldL false v 8 = F at *
    have hw : wrap64 (wrap32 (v : Int)) = (v : Int) := by
      unfold wrap64 wrap32
      omega
    have HB0 := Lib.hid (below_new w (.cells #[.bool false, .int .u64 0, .int .u64 (v : Int)] 167))
    clear hf HF0 h00 h08
    go_enter Tryz.func98, Tryz.ntmps98
    go_wp2_with fail
    refine (HF.out _).mono ?_
    rintro e w1 ⟨g, rfl, hk, hb⟩
    have HB1 := Lib.hid (bel0 HB0.out hb)
    have HK := Lib.hid (SvB.blk hk HL.out (by omega))
    clear hk hb
    go_wp2
    go_ret
    exact ⟨_, rfl, by rw [HV.out]; exact HK.out, HB1.out⟩
  · obtain ⟨m, hm⟩ : ∃ m, m = 4294967296 - v := ⟨_, rfl⟩
    have hf : fbL v = fldL true m 8 := by unfold fbL; rw [if_neg hlt, hm]
    have HF0 := fun W => field_any true m 0 8 0 m W ⟨by omega, by omega⟩ (by omega) (by omega) (by omega) (by omega)
    rw [Nat.pow_zero, Nat.mul_one, h00, h08] at HF0
    have HF := Lib.hid HF0
    have HV := Lib.hid hf
    have HL := Lib.hid (fldL_len true m 8)
    unfold FdPost at HF
    generalize fldL true m 8 = F at *
    have hw : wrap64 (wrap32 (v : Int)) = -(m : Int) := by
      unfold wrap64 wrap32
      omega
    have hm1 : 1 ≤ m := by omega
    have hm2 : m ≤ 2147483648 := by omega
    have HB0 := Lib.hid (below_new w (.cells #[.bool true, .int .u64 0, .int .u64 (m : Int)] 167))
    clear hf HF0 h00 h08 hlt hm
    go_enter Tryz.func98, Tryz.ntmps98
    go_wp2_with fail
    refine (HF.out _).mono ?_
    rintro e w1 ⟨g, rfl, hk, hb⟩
    have HB1 := Lib.hid (bel0 HB0.out hb)
    have HK := Lib.hid (SvB.blk hk HL.out (by omega))
    clear hk hb
    go_wp2
    go_ret
    exact ⟨_, rfl, by rw [HV.out]; exact HK.out, HB1.out⟩

end E
end Go.Proofs.YtbcncohjjnmdcaaGreatDoor

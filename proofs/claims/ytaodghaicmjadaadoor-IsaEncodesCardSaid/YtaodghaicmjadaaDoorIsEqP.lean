/- What the given answers ask of an instruction is what the chapter asks, and their bytes are its bytes: nine formats. -/
import Derived.Test.YtaodghaicmjadaaDoorIsRWi
import Derived.Test.YtaodghaicmjadaaDoorIsEncode
import Derived.Test.YtaodghaicmjadaaDoorIsROwnB
namespace Go.Proofs.YtaodghaicmjadaaDoor
open Go.RowKit Go.Shelf
set_option linter.unusedVariables false
namespace E

def mostF (F : Nat) : Int := if F = 5 then 255 else 15
set_option maxHeartbeats 1000000 in
theorem ok_1 (Q : Ins) (hf : Q.fo = 1) : okB 1 Q = (wiB 15 Q && !insNe Q (ownQ 1 Q)) := by
  rw [Bool.eq_iff_iff]
  unfold okB wiB insNe ownQ hB Ins.hd
  simp only [fldsT, List.foldl_cons, List.foldl_nil, ckStep, takeF, fs, fv, Ins.set, Ins.get, Bool.true_and]
  simp only [inR, Bool.and_eq_true, Bool.not_not, decide_eq_true_eq, ins_iff, true_and]
  omega
set_option maxHeartbeats 1000000 in
theorem ok_2 (Q : Ins) (hf : Q.fo = 2) : okB 2 Q = (wiB 15 Q && !insNe Q (ownQ 2 Q)) := by
  rw [Bool.eq_iff_iff]
  unfold okB wiB insNe ownQ hB Ins.hd
  simp only [fldsT, List.foldl_cons, List.foldl_nil, ckStep, takeF, fs, fv, Ins.set, Ins.get, Bool.true_and]
  simp only [inR, Bool.and_eq_true, Bool.not_not, decide_eq_true_eq, ins_iff, true_and]
  omega
set_option maxHeartbeats 1000000 in
theorem ok_3 (Q : Ins) (hf : Q.fo = 3) : okB 3 Q = (wiB 15 Q && !insNe Q (ownQ 3 Q)) := by
  rw [Bool.eq_iff_iff]
  unfold okB wiB insNe ownQ hB Ins.hd
  simp only [fldsT, List.foldl_cons, List.foldl_nil, ckStep, takeF, fs, fv, Ins.set, Ins.get, Bool.true_and]
  simp only [inR, Bool.and_eq_true, Bool.not_not, decide_eq_true_eq, ins_iff, true_and]
  omega
set_option maxHeartbeats 1000000 in
theorem ok_4 (Q : Ins) (hf : Q.fo = 4) : okB 4 Q = (wiB 15 Q && !insNe Q (ownQ 4 Q)) := by
  rw [Bool.eq_iff_iff]
  unfold okB wiB insNe ownQ hB Ins.hd
  simp only [fldsT, List.foldl_cons, List.foldl_nil, ckStep, takeF, fs, fv, Ins.set, Ins.get, Bool.true_and]
  simp only [inR, Bool.and_eq_true, Bool.not_not, decide_eq_true_eq, ins_iff, true_and, and_true]
  omega
set_option maxHeartbeats 1000000 in
theorem ok_5 (Q : Ins) (hf : Q.fo = 5) : okB 5 Q = (wiB 255 Q && !insNe Q (ownQ 5 Q)) := by
  rw [Bool.eq_iff_iff]
  unfold okB wiB insNe ownQ hB Ins.hd
  simp only [fldsT, List.foldl_cons, List.foldl_nil, ckStep, takeF, fs, fv, Ins.set, Ins.get, Bool.true_and]
  simp only [inR, Bool.and_eq_true, Bool.not_not, decide_eq_true_eq, ins_iff, true_and]
  omega
set_option maxHeartbeats 1000000 in
theorem ok_6 (Q : Ins) (hf : Q.fo = 6) : okB 6 Q = (wiB 15 Q && !insNe Q (ownQ 6 Q)) := by
  rw [Bool.eq_iff_iff]
  unfold okB wiB insNe ownQ hB Ins.hd
  simp only [fldsT, List.foldl_cons, List.foldl_nil, ckStep, takeF, fs, fv, Ins.set, Ins.get, Bool.true_and]
  simp only [inR, Bool.and_eq_true, Bool.not_not, decide_eq_true_eq, ins_iff, true_and]
  omega
set_option maxHeartbeats 1000000 in
theorem ok_7 (Q : Ins) (hf : Q.fo = 7) : okB 7 Q = (wiB 15 Q && !insNe Q (ownQ 7 Q)) := by
  rw [Bool.eq_iff_iff]
  unfold okB wiB insNe ownQ hB Ins.hd
  simp only [fldsT, List.foldl_cons, List.foldl_nil, ckStep, takeF, fs, fv, Ins.set, Ins.get, Bool.true_and]
  simp only [inR, Bool.and_eq_true, Bool.not_not, decide_eq_true_eq, ins_iff, true_and, and_true]
  omega
set_option maxHeartbeats 1000000 in
theorem ok_8 (Q : Ins) (hf : Q.fo = 8) : okB 8 Q = (wiB 15 Q && !insNe Q (ownQ 8 Q)) := by
  have hz : inR 0 4 = true := rfl
  rw [Bool.eq_iff_iff]
  unfold okB wiB insNe ownQ hB Ins.hd
  simp only [fldsT, List.foldl_cons, List.foldl_nil, ckStep, takeF, fs, fv, Ins.set, Ins.get, hz, Bool.true_and, Bool.and_true]
  simp only [inR, Bool.and_eq_true, Bool.not_not, decide_eq_true_eq, ins_iff, true_and]
  omega
set_option maxHeartbeats 1000000 in
theorem ok_9 (Q : Ins) (hf : Q.fo = 9) : okB 9 Q = (wiB 15 Q && !insNe Q (ownQ 9 Q)) := by
  have hz : inR 0 8 = true := rfl
  rw [Bool.eq_iff_iff]
  unfold okB wiB insNe ownQ hB Ins.hd
  simp only [fldsT, List.foldl_cons, List.foldl_nil, ckStep, takeF, fs, fv, Ins.set, Ins.get, hz, Bool.true_and, Bool.and_true]
  simp only [inR, Bool.and_eq_true, Bool.not_not, decide_eq_true_eq, ins_iff, true_and]
  omega
def u8 (n : Nat) : UInt8 := UInt8.ofNat n
theorem u8_nat {n : Nat} (h : n < 256) : (u8 n).toNat = n := by
  unfold u8
  rw [UInt8.toNat_ofNat']
  exact Nat.mod_eq_of_lt h
theorem last_two (a : Nat) : lastB a 2 = [byN a 1, byN a 0] := rfl
theorem last_four (a : Nat) : lastB a 4 = [byN a 3, byN a 2, byN a 1, byN a 0] := rfl
theorem last_six (a : Nat) : lastB a 6 = [byN a 5, byN a 4, byN a 3, byN a 2, byN a 1, byN a 0] := rfl
theorem by_1 (op r1 r2 : Nat) (h : op < 256) (h_r1 : r1 < 16) (h_r2 : r2 < 16) : lastB (enW 1 ⟨(op : Int), 1, (r1 : Int), (r2 : Int), 0, 0, 0, 0, 0, 0, 0, 0⟩) 2 = [u8 op, u8 (16 * r1 + r2)] := by
  rw [last_two]
  unfold enW byN u8
  simp only [fldsT, List.foldl_cons, List.foldl_nil, enStep, fv, Ins.get, Int.toNat_natCast]
  refine (List.cons.injEq ..).mpr ⟨congrArg UInt8.ofNat ?_, ?_⟩
  · omega
  refine (List.cons.injEq ..).mpr ⟨congrArg UInt8.ofNat ?_, rfl⟩
  omega
theorem by_2 (op r1 x2 b2 d2 : Nat) (h : op < 256) (h_r1 : r1 < 16) (h_x2 : x2 < 16) (h_b2 : b2 < 16) (h_d2 : d2 < 4096) : lastB (enW 2 ⟨(op : Int), 2, (r1 : Int), 0, (x2 : Int), 0, 0, (b2 : Int), (d2 : Int), 0, 0, 0⟩) 4 = [u8 op, u8 (16 * r1 + x2), u8 (16 * b2 + d2 / 256), u8 (d2 % 256)] := by
  rw [last_four]
  unfold enW byN u8
  simp only [fldsT, List.foldl_cons, List.foldl_nil, enStep, fv, Ins.get, Int.toNat_natCast]
  refine (List.cons.injEq ..).mpr ⟨congrArg UInt8.ofNat ?_, ?_⟩
  · omega
  refine (List.cons.injEq ..).mpr ⟨congrArg UInt8.ofNat ?_, ?_⟩
  · omega
  refine (List.cons.injEq ..).mpr ⟨congrArg UInt8.ofNat ?_, ?_⟩
  · omega
  refine (List.cons.injEq ..).mpr ⟨congrArg UInt8.ofNat ?_, rfl⟩
  omega
theorem by_3 (op r1 r2 b2 d2 : Nat) (h : op < 256) (h_r1 : r1 < 16) (h_r2 : r2 < 16) (h_b2 : b2 < 16) (h_d2 : d2 < 4096) : lastB (enW 3 ⟨(op : Int), 3, (r1 : Int), (r2 : Int), 0, 0, 0, (b2 : Int), (d2 : Int), 0, 0, 0⟩) 4 = [u8 op, u8 (16 * r1 + r2), u8 (16 * b2 + d2 / 256), u8 (d2 % 256)] := by
  rw [last_four]
  unfold enW byN u8
  simp only [fldsT, List.foldl_cons, List.foldl_nil, enStep, fv, Ins.get, Int.toNat_natCast]
  refine (List.cons.injEq ..).mpr ⟨congrArg UInt8.ofNat ?_, ?_⟩
  · omega
  refine (List.cons.injEq ..).mpr ⟨congrArg UInt8.ofNat ?_, ?_⟩
  · omega
  refine (List.cons.injEq ..).mpr ⟨congrArg UInt8.ofNat ?_, ?_⟩
  · omega
  refine (List.cons.injEq ..).mpr ⟨congrArg UInt8.ofNat ?_, rfl⟩
  omega
theorem by_4 (op b1 d1 i2 : Nat) (h : op < 256) (h_b1 : b1 < 16) (h_d1 : d1 < 4096) (h_i2 : i2 < 256) : lastB (enW 4 ⟨(op : Int), 4, 0, 0, 0, (b1 : Int), (d1 : Int), 0, 0, 0, 0, (i2 : Int)⟩) 4 = [u8 op, u8 (i2), u8 (16 * b1 + d1 / 256), u8 (d1 % 256)] := by
  rw [last_four]
  unfold enW byN u8
  simp only [fldsT, List.foldl_cons, List.foldl_nil, enStep, fv, Ins.get, Int.toNat_natCast]
  refine (List.cons.injEq ..).mpr ⟨congrArg UInt8.ofNat ?_, ?_⟩
  · omega
  refine (List.cons.injEq ..).mpr ⟨congrArg UInt8.ofNat ?_, ?_⟩
  · omega
  refine (List.cons.injEq ..).mpr ⟨congrArg UInt8.ofNat ?_, ?_⟩
  · omega
  refine (List.cons.injEq ..).mpr ⟨congrArg UInt8.ofNat ?_, rfl⟩
  omega
theorem by_5 (op b1 d1 b2 d2 l1 : Nat) (h : op < 256) (h_b1 : b1 < 16) (h_d1 : d1 < 4096) (h_b2 : b2 < 16) (h_d2 : d2 < 4096) (h_l1 : l1 < 256) : lastB (enW 5 ⟨(op : Int), 5, 0, 0, 0, (b1 : Int), (d1 : Int), (b2 : Int), (d2 : Int), (l1 : Int), 0, 0⟩) 6 = [u8 op, u8 (l1), u8 (16 * b1 + d1 / 256), u8 (d1 % 256), u8 (16 * b2 + d2 / 256), u8 (d2 % 256)] := by
  rw [last_six]
  unfold enW byN u8
  simp only [fldsT, List.foldl_cons, List.foldl_nil, enStep, fv, Ins.get, Int.toNat_natCast]
  refine (List.cons.injEq ..).mpr ⟨congrArg UInt8.ofNat ?_, ?_⟩
  · omega
  refine (List.cons.injEq ..).mpr ⟨congrArg UInt8.ofNat ?_, ?_⟩
  · omega
  refine (List.cons.injEq ..).mpr ⟨congrArg UInt8.ofNat ?_, ?_⟩
  · omega
  refine (List.cons.injEq ..).mpr ⟨congrArg UInt8.ofNat ?_, ?_⟩
  · omega
  refine (List.cons.injEq ..).mpr ⟨congrArg UInt8.ofNat ?_, ?_⟩
  · omega
  refine (List.cons.injEq ..).mpr ⟨congrArg UInt8.ofNat ?_, rfl⟩
  omega
theorem by_6 (op b1 d1 b2 d2 l1 l2 : Nat) (h : op < 256) (h_b1 : b1 < 16) (h_d1 : d1 < 4096) (h_b2 : b2 < 16) (h_d2 : d2 < 4096) (h_l1 : l1 < 16) (h_l2 : l2 < 16) : lastB (enW 6 ⟨(op : Int), 6, 0, 0, 0, (b1 : Int), (d1 : Int), (b2 : Int), (d2 : Int), (l1 : Int), (l2 : Int), 0⟩) 6 = [u8 op, u8 (16 * l1 + l2), u8 (16 * b1 + d1 / 256), u8 (d1 % 256), u8 (16 * b2 + d2 / 256), u8 (d2 % 256)] := by
  rw [last_six]
  unfold enW byN u8
  simp only [fldsT, List.foldl_cons, List.foldl_nil, enStep, fv, Ins.get, Int.toNat_natCast]
  refine (List.cons.injEq ..).mpr ⟨congrArg UInt8.ofNat ?_, ?_⟩
  · omega
  refine (List.cons.injEq ..).mpr ⟨congrArg UInt8.ofNat ?_, ?_⟩
  · omega
  refine (List.cons.injEq ..).mpr ⟨congrArg UInt8.ofNat ?_, ?_⟩
  · omega
  refine (List.cons.injEq ..).mpr ⟨congrArg UInt8.ofNat ?_, ?_⟩
  · omega
  refine (List.cons.injEq ..).mpr ⟨congrArg UInt8.ofNat ?_, ?_⟩
  · omega
  refine (List.cons.injEq ..).mpr ⟨congrArg UInt8.ofNat ?_, rfl⟩
  omega
theorem by_7 (op i2 : Nat) (h : op < 256) (h_i2 : i2 < 256) : lastB (enW 7 ⟨(op : Int), 7, 0, 0, 0, 0, 0, 0, 0, 0, 0, (i2 : Int)⟩) 2 = [u8 op, u8 (i2)] := by
  rw [last_two]
  unfold enW byN u8
  simp only [fldsT, List.foldl_cons, List.foldl_nil, enStep, fv, Ins.get, Int.toNat_natCast]
  refine (List.cons.injEq ..).mpr ⟨congrArg UInt8.ofNat ?_, ?_⟩
  · omega
  refine (List.cons.injEq ..).mpr ⟨congrArg UInt8.ofNat ?_, rfl⟩
  omega
theorem by_8 (op r1 : Nat) (h : op < 256) (h_r1 : r1 < 16) : lastB (enW 8 ⟨(op : Int), 8, (r1 : Int), 0, 0, 0, 0, 0, 0, 0, 0, 0⟩) 2 = [u8 op, u8 (16 * r1)] := by
  rw [last_two]
  unfold enW byN u8
  simp only [fldsT, List.foldl_cons, List.foldl_nil, enStep, fv, Ins.get, Int.toNat_natCast, Int.toNat_zero]
  refine (List.cons.injEq ..).mpr ⟨congrArg UInt8.ofNat ?_, ?_⟩
  · omega
  refine (List.cons.injEq ..).mpr ⟨congrArg UInt8.ofNat ?_, rfl⟩
  omega
theorem by_9 (op b1 d1 : Nat) (h : op < 256) (h_b1 : b1 < 16) (h_d1 : d1 < 4096) : lastB (enW 9 ⟨(op : Int), 9, 0, 0, 0, (b1 : Int), (d1 : Int), 0, 0, 0, 0, 0⟩) 4 = [u8 op, u8 (0), u8 (16 * b1 + d1 / 256), u8 (d1 % 256)] := by
  rw [last_four]
  unfold enW byN u8
  simp only [fldsT, List.foldl_cons, List.foldl_nil, enStep, fv, Ins.get, Int.toNat_natCast, Int.toNat_zero]
  refine (List.cons.injEq ..).mpr ⟨congrArg UInt8.ofNat ?_, ?_⟩
  · omega
  refine (List.cons.injEq ..).mpr ⟨congrArg UInt8.ofNat ?_, ?_⟩
  · omega
  refine (List.cons.injEq ..).mpr ⟨congrArg UInt8.ofNat ?_, ?_⟩
  · omega
  refine (List.cons.injEq ..).mpr ⟨congrArg UInt8.ofNat ?_, rfl⟩
  omega
end E
end Go.Proofs.YtaodghaicmjadaaDoor

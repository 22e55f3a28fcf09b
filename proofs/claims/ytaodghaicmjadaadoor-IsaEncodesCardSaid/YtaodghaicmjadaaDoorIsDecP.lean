/- What the given answers' Decode reads is what the program's does: nine formats. -/
import Derived.Test.YtaodghaicmjadaaDoorIsBackP
namespace Go.Proofs.YtaodghaicmjadaaDoor
set_option linter.unusedVariables false
namespace E

def ownT (F : Nat) (Q : Ins) : Ins := (fldsT F).foldl (takeF Q) Q.hd
/-- All fields that the given answers' Decode reads, whatever the format. -/
def allQ (op F : Int) (y l1 b1 d1 b2 d2 : Nat) : Ins := ⟨op, F, ((y / 16 : Nat) : Int), ((y % 16 : Nat) : Int), ((y % 16 : Nat) : Int), (b1 : Int), (d1 : Int), (b2 : Int), (d2 : Int), (l1 : Int), ((y % 16 : Nat) : Int), (y : Int)⟩
theorem dc_1 (op : Int) (y l1 b1 d1 b2 d2 : Nat) (hy : y < 256) : dcQ op 1 1 (y) = ownT 1 (allQ op 1 y l1 b1 d1 b2 d2) := by
  unfold dcQ ownT allQ Ins.hd
  simp only [fldsT, List.foldl_cons, List.foldl_nil, dcStep, takeF, fs, fv, Ins.set, Ins.get, bitsN, List.map_cons, List.map_nil, List.sum_cons, List.sum_nil]
  refine (Ins.mk.injEq ..).mpr ?_
  refine ⟨rfl, rfl, ?_, ?_, ?_, ?_, ?_, ?_, ?_, ?_, ?_, ?_⟩ <;> first | rfl | omega
theorem dc_8 (op : Int) (y l1 b1 d1 b2 d2 : Nat) (hy : y < 256) : dcQ op 8 8 (y) = ownT 8 (allQ op 8 y l1 b1 d1 b2 d2) := by
  unfold dcQ ownT allQ Ins.hd
  simp only [fldsT, List.foldl_cons, List.foldl_nil, dcStep, takeF, fs, fv, Ins.set, Ins.get, bitsN, List.map_cons, List.map_nil, List.sum_cons, List.sum_nil]
  refine (Ins.mk.injEq ..).mpr ?_
  refine ⟨rfl, rfl, ?_, ?_, ?_, ?_, ?_, ?_, ?_, ?_, ?_, ?_⟩ <;> first | rfl | omega
theorem dc_7 (op : Int) (y l1 b1 d1 b2 d2 : Nat) (hy : y < 256) : dcQ op 7 7 (y) = ownT 7 (allQ op 7 y l1 b1 d1 b2 d2) := by
  unfold dcQ ownT allQ Ins.hd
  simp only [fldsT, List.foldl_cons, List.foldl_nil, dcStep, takeF, fs, fv, Ins.set, Ins.get, bitsN, List.map_cons, List.map_nil, List.sum_cons, List.sum_nil]
  refine (Ins.mk.injEq ..).mpr ?_
  refine ⟨rfl, rfl, ?_, ?_, ?_, ?_, ?_, ?_, ?_, ?_, ?_, ?_⟩ <;> first | rfl | omega
theorem dc_2 (op : Int) (y z t l1 b1 d1 : Nat) (hy : y < 256) (hz : z < 256) (ht : t < 256) : dcQ op 2 2 ((y * 256 + z) * 256 + t) = ownT 2 (allQ op 2 y l1 b1 d1 (z / 16) (z % 16 * 256 + t)) := by
  unfold dcQ ownT allQ Ins.hd
  simp only [fldsT, List.foldl_cons, List.foldl_nil, dcStep, takeF, fs, fv, Ins.set, Ins.get, bitsN, List.map_cons, List.map_nil, List.sum_cons, List.sum_nil]
  refine (Ins.mk.injEq ..).mpr ?_
  refine ⟨rfl, rfl, ?_, ?_, ?_, ?_, ?_, ?_, ?_, ?_, ?_, ?_⟩ <;> first | rfl | omega
theorem dc_3 (op : Int) (y z t l1 b1 d1 : Nat) (hy : y < 256) (hz : z < 256) (ht : t < 256) : dcQ op 3 3 ((y * 256 + z) * 256 + t) = ownT 3 (allQ op 3 y l1 b1 d1 (z / 16) (z % 16 * 256 + t)) := by
  unfold dcQ ownT allQ Ins.hd
  simp only [fldsT, List.foldl_cons, List.foldl_nil, dcStep, takeF, fs, fv, Ins.set, Ins.get, bitsN, List.map_cons, List.map_nil, List.sum_cons, List.sum_nil]
  refine (Ins.mk.injEq ..).mpr ?_
  refine ⟨rfl, rfl, ?_, ?_, ?_, ?_, ?_, ?_, ?_, ?_, ?_, ?_⟩ <;> first | rfl | omega
theorem dc_4 (op : Int) (y z t l1 b2 d2 : Nat) (hy : y < 256) (hz : z < 256) (ht : t < 256) : dcQ op 4 4 ((y * 256 + z) * 256 + t) = ownT 4 (allQ op 4 y l1 (z / 16) (z % 16 * 256 + t) b2 d2) := by
  unfold dcQ ownT allQ Ins.hd
  simp only [fldsT, List.foldl_cons, List.foldl_nil, dcStep, takeF, fs, fv, Ins.set, Ins.get, bitsN, List.map_cons, List.map_nil, List.sum_cons, List.sum_nil]
  refine (Ins.mk.injEq ..).mpr ?_
  refine ⟨rfl, rfl, ?_, ?_, ?_, ?_, ?_, ?_, ?_, ?_, ?_, ?_⟩ <;> first | rfl | omega
theorem dc_9 (op : Int) (y z t l1 b2 d2 : Nat) (hy : y < 256) (hz : z < 256) (ht : t < 256) : dcQ op 9 9 ((y * 256 + z) * 256 + t) = ownT 9 (allQ op 9 y l1 (z / 16) (z % 16 * 256 + t) b2 d2) := by
  unfold dcQ ownT allQ Ins.hd
  simp only [fldsT, List.foldl_cons, List.foldl_nil, dcStep, takeF, fs, fv, Ins.set, Ins.get, bitsN, List.map_cons, List.map_nil, List.sum_cons, List.sum_nil]
  refine (Ins.mk.injEq ..).mpr ?_
  refine ⟨rfl, rfl, ?_, ?_, ?_, ?_, ?_, ?_, ?_, ?_, ?_, ?_⟩ <;> first | rfl | omega
theorem dc_5 (op : Int) (y z t u v : Nat) (hy : y < 256) (hz : z < 256) (ht : t < 256) (hu : u < 256) (hv : v < 256) : dcQ op 5 5 ((((y * 256 + z) * 256 + t) * 256 + u) * 256 + v) = ownT 5 (allQ op 5 y (y) (z / 16) (z % 16 * 256 + t) (u / 16) (u % 16 * 256 + v)) := by
  unfold dcQ ownT allQ Ins.hd
  simp only [fldsT, List.foldl_cons, List.foldl_nil, dcStep, takeF, fs, fv, Ins.set, Ins.get, bitsN, List.map_cons, List.map_nil, List.sum_cons, List.sum_nil]
  refine (Ins.mk.injEq ..).mpr ?_
  refine ⟨rfl, rfl, ?_, ?_, ?_, ?_, ?_, ?_, ?_, ?_, ?_, ?_⟩ <;> first | rfl | omega
theorem dc_6 (op : Int) (y z t u v : Nat) (hy : y < 256) (hz : z < 256) (ht : t < 256) (hu : u < 256) (hv : v < 256) : dcQ op 6 6 ((((y * 256 + z) * 256 + t) * 256 + u) * 256 + v) = ownT 6 (allQ op 6 y (y / 16) (z / 16) (z % 16 * 256 + t) (u / 16) (u % 16 * 256 + v)) := by
  unfold dcQ ownT allQ Ins.hd
  simp only [fldsT, List.foldl_cons, List.foldl_nil, dcStep, takeF, fs, fv, Ins.set, Ins.get, bitsN, List.map_cons, List.map_nil, List.sum_cons, List.sum_nil]
  refine (Ins.mk.injEq ..).mpr ?_
  refine ⟨rfl, rfl, ?_, ?_, ?_, ?_, ?_, ?_, ?_, ?_, ?_, ?_⟩ <;> first | rfl | omega
end E
end Go.Proofs.YtaodghaicmjadaaDoor

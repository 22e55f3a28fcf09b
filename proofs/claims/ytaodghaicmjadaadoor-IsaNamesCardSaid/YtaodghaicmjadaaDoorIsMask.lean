/- The masks of the branches: the program's and the given answers'. -/
import Derived.Test.YtaodghaicmjadaaDoorIsROf
namespace Go.Proofs.YtaodghaicmjadaaDoor
open Go.RowKit Go.Shelf
set_option linter.unusedVariables false
namespace E

def mkN (i : Nat) : List UInt8 := ([[78, 79, 80], [66, 79], [66, 72], [66, 80], [66, 76], [66, 77], [66, 78, 69], [66, 78, 90], [66, 69], [66, 90], [66, 78, 76], [66, 78, 77], [66, 78, 72], [66, 78, 80], [66, 78, 79], [66]] : List (List UInt8)).getD i []
def mkV (i : Nat) : Nat := ([0, 1, 2, 2, 4, 4, 7, 7, 8, 8, 11, 11, 13, 13, 14, 15] : List Nat).getD i 0
/-- The place of a branch's mnemonic. -/
def bmI (l : List UInt8) : Option Nat := (List.range 16).find? fun i => l == mkN i
def bmV (o : Option Nat) : Value := .tuple #[.int .i64 ((o.map mkV).getD 0 : Nat), .bool o.isSome]
theorem bm_none (l : List UInt8) (h0 : l ≠ [78, 79, 80]) (h1 : l ≠ [66, 79]) (h2 : l ≠ [66, 72]) (h3 : l ≠ [66, 80]) (h4 : l ≠ [66, 76]) (h5 : l ≠ [66, 77]) (h6 : l ≠ [66, 78, 69]) (h7 : l ≠ [66, 78, 90]) (h8 : l ≠ [66, 69]) (h9 : l ≠ [66, 90]) (h10 : l ≠ [66, 78, 76]) (h11 : l ≠ [66, 78, 77]) (h12 : l ≠ [66, 78, 72]) (h13 : l ≠ [66, 78, 80]) (h14 : l ≠ [66, 78, 79]) (h15 : l ≠ [66]) : bmI l = none := by
  refine List.find?_eq_none.2 fun i hi he => ?_
  have hi16 := List.mem_range.1 hi
  have he2 : l = mkN i := by simpa using he
  match i, hi16 with
  | 0, _ => exact h0 he2
  | 1, _ => exact h1 he2
  | 2, _ => exact h2 he2
  | 3, _ => exact h3 he2
  | 4, _ => exact h4 he2
  | 5, _ => exact h5 he2
  | 6, _ => exact h6 he2
  | 7, _ => exact h7 he2
  | 8, _ => exact h8 he2
  | 9, _ => exact h9 he2
  | 10, _ => exact h10 he2
  | 11, _ => exact h11 he2
  | 12, _ => exact h12 he2
  | 13, _ => exact h13 he2
  | 14, _ => exact h14 he2
  | 15, _ => exact h15 he2
  | n + 16, h => exact absurd h (by omega)
set_option maxRecDepth 100000 in
set_option maxHeartbeats 4000000 in
theorem branchMask_any (s : ByteArray) (w : World) : Calls Tryd.prog 44 #[.string s] w fun e w' => e = .returned (bmV (bmI s.data.toList)) ∧ w = w' := by
  by_cases h0 : s.toList = [78, 79, 80]
  · have hv : bmV (bmI s.data.toList) = .tuple #[.int .i64 0, .bool true] := by rw [← Lib.toList_data, h0]; rfl
    have e0 : (s.toList == [78, 79, 80]) = true := by rw [h0]; rfl
    clear h0
    rw [hv]
    clear hv
    go_enter Tryd.func44, Tryd.ntmps44
    go_wp2
    exact bodyPost_ret (results_tt rfl rfl rfl) rfl ⟨rfl, rfl⟩
  by_cases h1 : s.toList = [66, 79]
  · have hv : bmV (bmI s.data.toList) = .tuple #[.int .i64 1, .bool true] := by rw [← Lib.toList_data, h1]; rfl
    have e0 : (s.toList == [78, 79, 80]) = false := by rw [h1]; rfl
    have e1 : (s.toList == [66, 79]) = true := by rw [h1]; rfl
    clear h1
    rw [hv]
    clear hv
    go_enter Tryd.func44, Tryd.ntmps44
    go_wp2
    exact bodyPost_ret (results_tt rfl rfl rfl) rfl ⟨rfl, rfl⟩
  by_cases h2 : s.toList = [66, 72]
  · have hv : bmV (bmI s.data.toList) = .tuple #[.int .i64 2, .bool true] := by rw [← Lib.toList_data, h2]; rfl
    have e0 : (s.toList == [78, 79, 80]) = false := by rw [h2]; rfl
    have e1 : (s.toList == [66, 79]) = false := by rw [h2]; rfl
    have e2 : (s.toList == [66, 72]) = true := by rw [h2]; rfl
    clear h2
    rw [hv]
    clear hv
    go_enter Tryd.func44, Tryd.ntmps44
    go_wp2
    exact bodyPost_ret (results_tt rfl rfl rfl) rfl ⟨rfl, rfl⟩
  by_cases h3 : s.toList = [66, 80]
  · have hv : bmV (bmI s.data.toList) = .tuple #[.int .i64 2, .bool true] := by rw [← Lib.toList_data, h3]; rfl
    have e0 : (s.toList == [78, 79, 80]) = false := by rw [h3]; rfl
    have e1 : (s.toList == [66, 79]) = false := by rw [h3]; rfl
    have e2 : (s.toList == [66, 72]) = false := by rw [h3]; rfl
    have e3 : (s.toList == [66, 80]) = true := by rw [h3]; rfl
    clear h3
    rw [hv]
    clear hv
    go_enter Tryd.func44, Tryd.ntmps44
    go_wp2
    exact bodyPost_ret (results_tt rfl rfl rfl) rfl ⟨rfl, rfl⟩
  by_cases h4 : s.toList = [66, 76]
  · have hv : bmV (bmI s.data.toList) = .tuple #[.int .i64 4, .bool true] := by rw [← Lib.toList_data, h4]; rfl
    have e0 : (s.toList == [78, 79, 80]) = false := by rw [h4]; rfl
    have e1 : (s.toList == [66, 79]) = false := by rw [h4]; rfl
    have e2 : (s.toList == [66, 72]) = false := by rw [h4]; rfl
    have e3 : (s.toList == [66, 80]) = false := by rw [h4]; rfl
    have e4 : (s.toList == [66, 76]) = true := by rw [h4]; rfl
    clear h4
    rw [hv]
    clear hv
    go_enter Tryd.func44, Tryd.ntmps44
    go_wp2
    exact bodyPost_ret (results_tt rfl rfl rfl) rfl ⟨rfl, rfl⟩
  by_cases h5 : s.toList = [66, 77]
  · have hv : bmV (bmI s.data.toList) = .tuple #[.int .i64 4, .bool true] := by rw [← Lib.toList_data, h5]; rfl
    have e0 : (s.toList == [78, 79, 80]) = false := by rw [h5]; rfl
    have e1 : (s.toList == [66, 79]) = false := by rw [h5]; rfl
    have e2 : (s.toList == [66, 72]) = false := by rw [h5]; rfl
    have e3 : (s.toList == [66, 80]) = false := by rw [h5]; rfl
    have e4 : (s.toList == [66, 76]) = false := by rw [h5]; rfl
    have e5 : (s.toList == [66, 77]) = true := by rw [h5]; rfl
    clear h5
    rw [hv]
    clear hv
    go_enter Tryd.func44, Tryd.ntmps44
    go_wp2
    exact bodyPost_ret (results_tt rfl rfl rfl) rfl ⟨rfl, rfl⟩
  by_cases h6 : s.toList = [66, 78, 69]
  · have hv : bmV (bmI s.data.toList) = .tuple #[.int .i64 7, .bool true] := by rw [← Lib.toList_data, h6]; rfl
    have e0 : (s.toList == [78, 79, 80]) = false := by rw [h6]; rfl
    have e1 : (s.toList == [66, 79]) = false := by rw [h6]; rfl
    have e2 : (s.toList == [66, 72]) = false := by rw [h6]; rfl
    have e3 : (s.toList == [66, 80]) = false := by rw [h6]; rfl
    have e4 : (s.toList == [66, 76]) = false := by rw [h6]; rfl
    have e5 : (s.toList == [66, 77]) = false := by rw [h6]; rfl
    have e6 : (s.toList == [66, 78, 69]) = true := by rw [h6]; rfl
    clear h6
    rw [hv]
    clear hv
    go_enter Tryd.func44, Tryd.ntmps44
    go_wp2
    exact bodyPost_ret (results_tt rfl rfl rfl) rfl ⟨rfl, rfl⟩
  by_cases h7 : s.toList = [66, 78, 90]
  · have hv : bmV (bmI s.data.toList) = .tuple #[.int .i64 7, .bool true] := by rw [← Lib.toList_data, h7]; rfl
    have e0 : (s.toList == [78, 79, 80]) = false := by rw [h7]; rfl
    have e1 : (s.toList == [66, 79]) = false := by rw [h7]; rfl
    have e2 : (s.toList == [66, 72]) = false := by rw [h7]; rfl
    have e3 : (s.toList == [66, 80]) = false := by rw [h7]; rfl
    have e4 : (s.toList == [66, 76]) = false := by rw [h7]; rfl
    have e5 : (s.toList == [66, 77]) = false := by rw [h7]; rfl
    have e6 : (s.toList == [66, 78, 69]) = false := by rw [h7]; rfl
    have e7 : (s.toList == [66, 78, 90]) = true := by rw [h7]; rfl
    clear h7
    rw [hv]
    clear hv
    go_enter Tryd.func44, Tryd.ntmps44
    go_wp2
    exact bodyPost_ret (results_tt rfl rfl rfl) rfl ⟨rfl, rfl⟩
  by_cases h8 : s.toList = [66, 69]
  · have hv : bmV (bmI s.data.toList) = .tuple #[.int .i64 8, .bool true] := by rw [← Lib.toList_data, h8]; rfl
    have e0 : (s.toList == [78, 79, 80]) = false := by rw [h8]; rfl
    have e1 : (s.toList == [66, 79]) = false := by rw [h8]; rfl
    have e2 : (s.toList == [66, 72]) = false := by rw [h8]; rfl
    have e3 : (s.toList == [66, 80]) = false := by rw [h8]; rfl
    have e4 : (s.toList == [66, 76]) = false := by rw [h8]; rfl
    have e5 : (s.toList == [66, 77]) = false := by rw [h8]; rfl
    have e6 : (s.toList == [66, 78, 69]) = false := by rw [h8]; rfl
    have e7 : (s.toList == [66, 78, 90]) = false := by rw [h8]; rfl
    have e8 : (s.toList == [66, 69]) = true := by rw [h8]; rfl
    clear h8
    rw [hv]
    clear hv
    go_enter Tryd.func44, Tryd.ntmps44
    go_wp2
    exact bodyPost_ret (results_tt rfl rfl rfl) rfl ⟨rfl, rfl⟩
  by_cases h9 : s.toList = [66, 90]
  · have hv : bmV (bmI s.data.toList) = .tuple #[.int .i64 8, .bool true] := by rw [← Lib.toList_data, h9]; rfl
    have e0 : (s.toList == [78, 79, 80]) = false := by rw [h9]; rfl
    have e1 : (s.toList == [66, 79]) = false := by rw [h9]; rfl
    have e2 : (s.toList == [66, 72]) = false := by rw [h9]; rfl
    have e3 : (s.toList == [66, 80]) = false := by rw [h9]; rfl
    have e4 : (s.toList == [66, 76]) = false := by rw [h9]; rfl
    have e5 : (s.toList == [66, 77]) = false := by rw [h9]; rfl
    have e6 : (s.toList == [66, 78, 69]) = false := by rw [h9]; rfl
    have e7 : (s.toList == [66, 78, 90]) = false := by rw [h9]; rfl
    have e8 : (s.toList == [66, 69]) = false := by rw [h9]; rfl
    have e9 : (s.toList == [66, 90]) = true := by rw [h9]; rfl
    clear h9
    rw [hv]
    clear hv
    go_enter Tryd.func44, Tryd.ntmps44
    go_wp2
    exact bodyPost_ret (results_tt rfl rfl rfl) rfl ⟨rfl, rfl⟩
  by_cases h10 : s.toList = [66, 78, 76]
  · have hv : bmV (bmI s.data.toList) = .tuple #[.int .i64 11, .bool true] := by rw [← Lib.toList_data, h10]; rfl
    have e0 : (s.toList == [78, 79, 80]) = false := by rw [h10]; rfl
    have e1 : (s.toList == [66, 79]) = false := by rw [h10]; rfl
    have e2 : (s.toList == [66, 72]) = false := by rw [h10]; rfl
    have e3 : (s.toList == [66, 80]) = false := by rw [h10]; rfl
    have e4 : (s.toList == [66, 76]) = false := by rw [h10]; rfl
    have e5 : (s.toList == [66, 77]) = false := by rw [h10]; rfl
    have e6 : (s.toList == [66, 78, 69]) = false := by rw [h10]; rfl
    have e7 : (s.toList == [66, 78, 90]) = false := by rw [h10]; rfl
    have e8 : (s.toList == [66, 69]) = false := by rw [h10]; rfl
    have e9 : (s.toList == [66, 90]) = false := by rw [h10]; rfl
    have e10 : (s.toList == [66, 78, 76]) = true := by rw [h10]; rfl
    clear h10
    rw [hv]
    clear hv
    go_enter Tryd.func44, Tryd.ntmps44
    go_wp2
    exact bodyPost_ret (results_tt rfl rfl rfl) rfl ⟨rfl, rfl⟩
  by_cases h11 : s.toList = [66, 78, 77]
  · have hv : bmV (bmI s.data.toList) = .tuple #[.int .i64 11, .bool true] := by rw [← Lib.toList_data, h11]; rfl
    have e0 : (s.toList == [78, 79, 80]) = false := by rw [h11]; rfl
    have e1 : (s.toList == [66, 79]) = false := by rw [h11]; rfl
    have e2 : (s.toList == [66, 72]) = false := by rw [h11]; rfl
    have e3 : (s.toList == [66, 80]) = false := by rw [h11]; rfl
    have e4 : (s.toList == [66, 76]) = false := by rw [h11]; rfl
    have e5 : (s.toList == [66, 77]) = false := by rw [h11]; rfl
    have e6 : (s.toList == [66, 78, 69]) = false := by rw [h11]; rfl
    have e7 : (s.toList == [66, 78, 90]) = false := by rw [h11]; rfl
    have e8 : (s.toList == [66, 69]) = false := by rw [h11]; rfl
    have e9 : (s.toList == [66, 90]) = false := by rw [h11]; rfl
    have e10 : (s.toList == [66, 78, 76]) = false := by rw [h11]; rfl
    have e11 : (s.toList == [66, 78, 77]) = true := by rw [h11]; rfl
    clear h11
    rw [hv]
    clear hv
    go_enter Tryd.func44, Tryd.ntmps44
    go_wp2
    exact bodyPost_ret (results_tt rfl rfl rfl) rfl ⟨rfl, rfl⟩
  by_cases h12 : s.toList = [66, 78, 72]
  · have hv : bmV (bmI s.data.toList) = .tuple #[.int .i64 13, .bool true] := by rw [← Lib.toList_data, h12]; rfl
    have e0 : (s.toList == [78, 79, 80]) = false := by rw [h12]; rfl
    have e1 : (s.toList == [66, 79]) = false := by rw [h12]; rfl
    have e2 : (s.toList == [66, 72]) = false := by rw [h12]; rfl
    have e3 : (s.toList == [66, 80]) = false := by rw [h12]; rfl
    have e4 : (s.toList == [66, 76]) = false := by rw [h12]; rfl
    have e5 : (s.toList == [66, 77]) = false := by rw [h12]; rfl
    have e6 : (s.toList == [66, 78, 69]) = false := by rw [h12]; rfl
    have e7 : (s.toList == [66, 78, 90]) = false := by rw [h12]; rfl
    have e8 : (s.toList == [66, 69]) = false := by rw [h12]; rfl
    have e9 : (s.toList == [66, 90]) = false := by rw [h12]; rfl
    have e10 : (s.toList == [66, 78, 76]) = false := by rw [h12]; rfl
    have e11 : (s.toList == [66, 78, 77]) = false := by rw [h12]; rfl
    have e12 : (s.toList == [66, 78, 72]) = true := by rw [h12]; rfl
    clear h12
    rw [hv]
    clear hv
    go_enter Tryd.func44, Tryd.ntmps44
    go_wp2
    exact bodyPost_ret (results_tt rfl rfl rfl) rfl ⟨rfl, rfl⟩
  by_cases h13 : s.toList = [66, 78, 80]
  · have hv : bmV (bmI s.data.toList) = .tuple #[.int .i64 13, .bool true] := by rw [← Lib.toList_data, h13]; rfl
    have e0 : (s.toList == [78, 79, 80]) = false := by rw [h13]; rfl
    have e1 : (s.toList == [66, 79]) = false := by rw [h13]; rfl
    have e2 : (s.toList == [66, 72]) = false := by rw [h13]; rfl
    have e3 : (s.toList == [66, 80]) = false := by rw [h13]; rfl
    have e4 : (s.toList == [66, 76]) = false := by rw [h13]; rfl
    have e5 : (s.toList == [66, 77]) = false := by rw [h13]; rfl
    have e6 : (s.toList == [66, 78, 69]) = false := by rw [h13]; rfl
    have e7 : (s.toList == [66, 78, 90]) = false := by rw [h13]; rfl
    have e8 : (s.toList == [66, 69]) = false := by rw [h13]; rfl
    have e9 : (s.toList == [66, 90]) = false := by rw [h13]; rfl
    have e10 : (s.toList == [66, 78, 76]) = false := by rw [h13]; rfl
    have e11 : (s.toList == [66, 78, 77]) = false := by rw [h13]; rfl
    have e12 : (s.toList == [66, 78, 72]) = false := by rw [h13]; rfl
    have e13 : (s.toList == [66, 78, 80]) = true := by rw [h13]; rfl
    clear h13
    rw [hv]
    clear hv
    go_enter Tryd.func44, Tryd.ntmps44
    go_wp2
    exact bodyPost_ret (results_tt rfl rfl rfl) rfl ⟨rfl, rfl⟩
  by_cases h14 : s.toList = [66, 78, 79]
  · have hv : bmV (bmI s.data.toList) = .tuple #[.int .i64 14, .bool true] := by rw [← Lib.toList_data, h14]; rfl
    have e0 : (s.toList == [78, 79, 80]) = false := by rw [h14]; rfl
    have e1 : (s.toList == [66, 79]) = false := by rw [h14]; rfl
    have e2 : (s.toList == [66, 72]) = false := by rw [h14]; rfl
    have e3 : (s.toList == [66, 80]) = false := by rw [h14]; rfl
    have e4 : (s.toList == [66, 76]) = false := by rw [h14]; rfl
    have e5 : (s.toList == [66, 77]) = false := by rw [h14]; rfl
    have e6 : (s.toList == [66, 78, 69]) = false := by rw [h14]; rfl
    have e7 : (s.toList == [66, 78, 90]) = false := by rw [h14]; rfl
    have e8 : (s.toList == [66, 69]) = false := by rw [h14]; rfl
    have e9 : (s.toList == [66, 90]) = false := by rw [h14]; rfl
    have e10 : (s.toList == [66, 78, 76]) = false := by rw [h14]; rfl
    have e11 : (s.toList == [66, 78, 77]) = false := by rw [h14]; rfl
    have e12 : (s.toList == [66, 78, 72]) = false := by rw [h14]; rfl
    have e13 : (s.toList == [66, 78, 80]) = false := by rw [h14]; rfl
    have e14 : (s.toList == [66, 78, 79]) = true := by rw [h14]; rfl
    clear h14
    rw [hv]
    clear hv
    go_enter Tryd.func44, Tryd.ntmps44
    go_wp2
    exact bodyPost_ret (results_tt rfl rfl rfl) rfl ⟨rfl, rfl⟩
  by_cases h15 : s.toList = [66]
  · have hv : bmV (bmI s.data.toList) = .tuple #[.int .i64 15, .bool true] := by rw [← Lib.toList_data, h15]; rfl
    have e0 : (s.toList == [78, 79, 80]) = false := by rw [h15]; rfl
    have e1 : (s.toList == [66, 79]) = false := by rw [h15]; rfl
    have e2 : (s.toList == [66, 72]) = false := by rw [h15]; rfl
    have e3 : (s.toList == [66, 80]) = false := by rw [h15]; rfl
    have e4 : (s.toList == [66, 76]) = false := by rw [h15]; rfl
    have e5 : (s.toList == [66, 77]) = false := by rw [h15]; rfl
    have e6 : (s.toList == [66, 78, 69]) = false := by rw [h15]; rfl
    have e7 : (s.toList == [66, 78, 90]) = false := by rw [h15]; rfl
    have e8 : (s.toList == [66, 69]) = false := by rw [h15]; rfl
    have e9 : (s.toList == [66, 90]) = false := by rw [h15]; rfl
    have e10 : (s.toList == [66, 78, 76]) = false := by rw [h15]; rfl
    have e11 : (s.toList == [66, 78, 77]) = false := by rw [h15]; rfl
    have e12 : (s.toList == [66, 78, 72]) = false := by rw [h15]; rfl
    have e13 : (s.toList == [66, 78, 80]) = false := by rw [h15]; rfl
    have e14 : (s.toList == [66, 78, 79]) = false := by rw [h15]; rfl
    have e15 : (s.toList == [66]) = true := by rw [h15]; rfl
    clear h15
    rw [hv]
    clear hv
    go_enter Tryd.func44, Tryd.ntmps44
    go_wp2
    exact bodyPost_ret (results_tt rfl rfl rfl) rfl ⟨rfl, rfl⟩
  have hv : bmV (bmI s.data.toList) = .tuple #[.int .i64 0, .bool false] := by rw [← Lib.toList_data, bm_none _ h0 h1 h2 h3 h4 h5 h6 h7 h8 h9 h10 h11 h12 h13 h14 h15]; rfl
  have e0 : (s.toList == [78, 79, 80]) = false := by rw [beq_eq_false_iff_ne]; exact h0
  have e1 : (s.toList == [66, 79]) = false := by rw [beq_eq_false_iff_ne]; exact h1
  have e2 : (s.toList == [66, 72]) = false := by rw [beq_eq_false_iff_ne]; exact h2
  have e3 : (s.toList == [66, 80]) = false := by rw [beq_eq_false_iff_ne]; exact h3
  have e4 : (s.toList == [66, 76]) = false := by rw [beq_eq_false_iff_ne]; exact h4
  have e5 : (s.toList == [66, 77]) = false := by rw [beq_eq_false_iff_ne]; exact h5
  have e6 : (s.toList == [66, 78, 69]) = false := by rw [beq_eq_false_iff_ne]; exact h6
  have e7 : (s.toList == [66, 78, 90]) = false := by rw [beq_eq_false_iff_ne]; exact h7
  have e8 : (s.toList == [66, 69]) = false := by rw [beq_eq_false_iff_ne]; exact h8
  have e9 : (s.toList == [66, 90]) = false := by rw [beq_eq_false_iff_ne]; exact h9
  have e10 : (s.toList == [66, 78, 76]) = false := by rw [beq_eq_false_iff_ne]; exact h10
  have e11 : (s.toList == [66, 78, 77]) = false := by rw [beq_eq_false_iff_ne]; exact h11
  have e12 : (s.toList == [66, 78, 72]) = false := by rw [beq_eq_false_iff_ne]; exact h12
  have e13 : (s.toList == [66, 78, 80]) = false := by rw [beq_eq_false_iff_ne]; exact h13
  have e14 : (s.toList == [66, 78, 79]) = false := by rw [beq_eq_false_iff_ne]; exact h14
  have e15 : (s.toList == [66]) = false := by rw [beq_eq_false_iff_ne]; exact h15
  clear h0 h1 h2 h3 h4 h5 h6 h7 h8 h9 h10 h11 h12 h13 h14 h15
  rw [hv]
  clear hv
  go_enter Tryd.func44, Tryd.ntmps44
  go_wp2
  exact bodyPost_ret (results_tt rfl rfl rfl) rfl ⟨rfl, rfl⟩

theorem results_ttt {P : Program} {fn : Func} {p q r : Tmp} {w : World} {v v' v'' : Value} {tmps : Array Value} (h : fn.results = #[.tmp p, .tmp q, .tmp r]) (hp : tmps.getD p undef = v) (hq : tmps.getD q undef = v') (hr : tmps.getD r undef = v'') : (results fn tmps).run P w = .ok (.tuple #[v, v', v'']) w := by
  subst hp hq hr
  simp [results, h, go_sem]
/-- What Mask answers. -/
def mskI (l : List UInt8) : Option (Nat × Bool) := (bmI (cutR l)).map fun i => (mkV i, hasR l)
def mskV (o : Option (Nat × Bool)) : Value := .tuple #[.int .i64 ((o.map (·.1)).getD 0 : Nat), .bool ((o.map (·.2)).getD false), .bool o.isSome]
set_option maxRecDepth 100000 in
theorem mask_any (s : ByteArray) (l : List UInt8) (w : World) (hs : s.data.toList = l) (hn : l.length ≤ 140737488355328) : Calls Tryd.prog 24 #[.string s] w fun e w' => e = .returned (mskV (mskI l)) ∧ w = w' := by
  have HC := Lib.hid (cut_any s l w hs hn)
  have HM := Lib.hid (branchMask_any ⟨(cutR l).toArray⟩ w)
  have e1 : (ByteArray.mk (cutR l).toArray).data.toList = cutR l := rfl
  rw [e1] at HM
  unfold mskI
  unfold bmV at HM
  clear hs hn e1
  generalize (ByteArray.mk (cutR l).toArray) = t at HC HM
  generalize hasR l = r at HC ⊢
  cases ho : bmI (cutR l) with
  | none =>
    rw [ho] at HM
    simp only [Option.map_none, Option.getD_none, Option.isSome_none] at HM
    clear ho
    go_enter Tryd.func24, Tryd.ntmps24
    go_wp2_with fail
    refine HC.out.mono ?_
    rintro e w1 ⟨rfl, rfl⟩
    go_wp2_with fail
    refine HM.out.mono ?_
    rintro e w1 ⟨rfl, rfl⟩
    go_wp2
    exact bodyPost_ret (results_ttt rfl rfl rfl rfl) rfl ⟨rfl, rfl⟩
  | some i =>
    rw [ho] at HM
    simp only [Option.map_some, Option.getD_some, Option.isSome_some] at HM
    generalize hm : mkV i = m at HM
    clear ho
    go_enter Tryd.func24, Tryd.ntmps24
    go_wp2_with fail
    refine HC.out.mono ?_
    rintro e w1 ⟨rfl, rfl⟩
    go_wp2_with fail
    refine HM.out.mono ?_
    rintro e w1 ⟨rfl, rfl⟩
    go_wp2
    exact bodyPost_ret (results_ttt rfl rfl rfl rfl) rfl ⟨by rw [← hm]; rfl, rfl⟩
end E
end Go.Proofs.YtaodghaicmjadaaDoor

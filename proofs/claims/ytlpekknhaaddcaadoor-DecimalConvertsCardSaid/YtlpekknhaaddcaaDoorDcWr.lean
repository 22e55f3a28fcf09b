/- The contracts of the writer of digits and of trim. -/
import Derived.Test.YtlpekknhaaddcaaDoorDcFld
import Derived.Test.YtlpekknhaaddcaaDoorPkTrim
import Derived.WalkSpells
namespace Go.Proofs.YtlpekknhaaddcaaDoor
open Go.RowKit Go.Shelf
set_option linter.unusedVariables false
namespace E

set_option maxRecDepth 100000 in
theorem dwriter_any (p : Option Addr) (n c z : Nat) (w : World) (hn : n ≤ 1000) (hz : z ≤ 1000) :
    Calls Tryd.prog 71 #[.slice p n c, .int .i64 (z : Int)] w fun e w' => e = .returned (.func (.func 89) #[] #[.pointer (some ⟨w.heap.size + 1, 0, none⟩), .pointer (some ⟨w.heap.size, 0, none⟩)]) ∧
      w' = (w.alloc (.cells #[.slice p n c] 22)).alloc (.cells #[.int .i64 ((n : Int) - 1 - z)] 3) := by
  go_enter Tryd.func71, Tryd.ntmps71
  go_wp2
  go_ret
  exact ⟨rfl, rfl⟩
set_option maxRecDepth 100000 in
theorem put_no (d : Nat) (B C : Nat) (k : Int) (w : World) (hk : k < 0) (hb : Bx w B 3 #[.int .i64 k]) :
    Calls Tryd.prog 89 #[.int .u64 (d : Int), .pointer (some ⟨B, 0, none⟩), .pointer (some ⟨C, 0, none⟩)] w fun e w' => e = .returned (.bool false) ∧ w = w' := by
  have c1 := hb.cell 0
  simp at c1
  clear hb
  go_enter Tryd.func89, Tryd.ntmps89
  go_wp2
  go_ret
  exact ⟨rfl, rfl⟩
set_option maxRecDepth 100000 in
theorem put_yes (d : Nat) (B C g n c k : Nat) (v : Value) (w : World) (hd : d ≤ 9) (hk : k < n) (hn : n ≤ 1000) (hb : Bx w B 3 #[.int .i64 (k : Int)]) (hc : Bx w C 22 #[.slice (some ⟨g, 0, none⟩) n c])
    (hv : w.cell? ⟨g, k, none⟩ = some v) (hf : w.frozen? ⟨g, k, none⟩ = false) (hg : g ≠ B) :
    Calls Tryd.prog 89 #[.int .u64 (d : Int), .pointer (some ⟨B, 0, none⟩), .pointer (some ⟨C, 0, none⟩)] w fun e w' => e = .returned (.bool true) ∧
      w' = (w.setCell ⟨g, k, none⟩ (.int .u8 (48 + (d : Int)))).setCell ⟨B, 0, none⟩ (.int .i64 ((k : Int) - 1)) := by
  have c1 := hb.cell 0
  have c2 := hc.cell 0
  have f1 := hb.frozen 0
  simp at c1 c2
  have HB := Lib.hid hb
  clear hb hc
  have i0 : (0 : Int) ≤ (k : Int) := by omega
  have i1 : (k : Int) < (n : Int) := by omega
  have c3 : (w.setCell ⟨g, k, none⟩ (.int .u8 (48 + (d : Int)))).cell? ⟨B, 0, none⟩ = some (.int .i64 (k : Int)) := by
    have h := (HB.out.far (p := ⟨g, k, none⟩) hg (.int .u8 (48 + (d : Int)))).cell 0
    simpa using h
  have f3 : (w.setCell ⟨g, k, none⟩ (.int .u8 (48 + (d : Int)))).frozen? ⟨B, 0, none⟩ = false := (HB.out.far (p := ⟨g, k, none⟩) hg (.int .u8 (48 + (d : Int)))).frozen 0
  go_enter Tryd.func89, Tryd.ntmps89
  go_wp2
  go_ret
  exact ⟨rfl, rfl⟩
theorem trimLeft_nil (w : World) : Calls Tryd.prog 91 #[.string ⟨#[]⟩, .string ⟨#[48]⟩] w fun e w' => e = .returned (.string ⟨#[]⟩) ∧ w = w' := by
  go_enter Tryd.func91, Tryd.ntmps91
  go_wp2
  go_ret
  exact ⟨rfl, rfl⟩
theorem trimLeft_all (s : ByteArray) (l : List UInt8) (w : World) (hs : s.data.toList = l) (hn : l.length ≤ 1000) :
    Calls Tryd.prog 91 #[.string s, .string ⟨#[48]⟩] w fun e w' => e = .returned (.string ⟨(l.dropWhile (· == 48)).toArray⟩) ∧ w = w' := by
  by_cases h0 : 1 ≤ l.length
  · exact trimLeft_any s l w hs h0 hn
  · have hl : l = [] := List.length_eq_zero_iff.1 (by omega)
    subst hl
    obtain rfl : s = ⟨#[]⟩ := ByteArray.ext (by
      have : s.data = #[] := by simpa using hs
      exact this)
    exact trimLeft_nil w
set_option maxRecDepth 100000 in
theorem trimD_any (s : ByteArray) (l : List UInt8) (w : World) (hs : s.data.toList = l) (h1 : 1 ≤ l.length) (hn : l.length ≤ 1000) :
    Calls Tryd.prog 73 #[.string s] w fun e w' => e = .returned (.string ⟨(trL l).toArray⟩) ∧ ∃ m, w' = w.drewN m := by
  have hz : s.size = l.length := by rw [← hs]; rfl
  obtain ⟨m, hm⟩ : ∃ m, l.length = m + 1 := ⟨l.length - 1, by omega⟩
  have e1 : (s.extract 0 m).data.toList = l.take m := by
    rw [Lib.extract_data, hs]
    simp
  have e2 : (s.extract m s.size).data.toList = l.drop m := by
    rw [Lib.extract_data, hs, hz, List.take_of_length_le (by rw [List.length_drop]; omega)]
  have hv : (⟨(trL l).toArray⟩ : ByteArray) = (⟨((l.take m).dropWhile (· == 48)).toArray⟩ : ByteArray) ++ s.extract m s.size := by
    refine ByteArray.ext ?_
    rw [ByteArray.data_append]
    apply Array.toList_inj.1
    rw [Array.toList_append, e2]
    show trL l = _
    unfold trL
    rw [hm, Nat.add_sub_cancel]
  have HT0 := fun W => trimLeft_all (s.extract 0 m) (l.take m) W e1 (by rw [List.length_take]; omega)
  have hdl : ((l.take m).dropWhile (· == 48)).length ≤ 1000 := by
    have h3 := (List.dropWhile_sublist (fun x : UInt8 => x == 48) (l := l.take m)).length_le
    rw [List.length_take] at h3
    omega
  obtain ⟨T, hT⟩ : ∃ T : ByteArray, T = ⟨((l.take m).dropWhile (· == 48)).toArray⟩ := ⟨_, rfl⟩
  have hTs : T.size ≤ 1000 := by rw [hT]; exact hdl
  rw [← hT] at hv HT0
  have HT := Lib.hid HT0
  clear HT0 hdl hT
  obtain ⟨U, hU⟩ : ∃ U, s.extract m s.size = U := ⟨_, rfl⟩
  have hUs : U.size ≤ 1000 := by rw [← hU, ByteArray.size_extract]; omega
  rw [hU] at hv
  have hTU : T.size + U.size ≤ 9223372036854775807 := by omega
  have HV := Lib.hid hv
  have hmI : (s.size : Int) - 1 = (m : Int) := by omega
  have hms : m ≤ s.size := by omega
  have hzn : s.size ≤ 1000 := by omega
  clear e1 e2 hs hz hm hv
  go_enter Tryd.func73, Tryd.ntmps73
  go_wp2
  go_quiet ((go_at_call 91; exact Calls.quiet_of_same ((HT.out _).mono fun e w5 ⟨he, hw⟩ => ⟨he, hw.symm⟩)))
  go_wp2

  go_ret
  exact ⟨by rw [HV.out]; rfl, _, rfl⟩

end E
end Go.Proofs.YtlpekknhaaddcaaDoor

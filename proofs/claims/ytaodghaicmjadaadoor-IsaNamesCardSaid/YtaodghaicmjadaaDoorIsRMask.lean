/- The given answers' Mask. -/
import Derived.Test.YtaodghaicmjadaaDoorIsMask
namespace Go.Proofs.YtaodghaicmjadaaDoor
open Go.RowKit Go.Shelf
set_option linter.unusedVariables false
namespace E

def mnC : Array Value := ((List.range 16).map fun i => (.string ⟨(mkN i).toArray⟩ : Value)).toArray
def mvC : Array Value := ((List.range 16).map fun i => (.int .i64 (mkV i : Int) : Value)).toArray
theorem mn_cell {W : World} {g : Nat} (h : Bx W g 9 mnC) {k : Nat} (hk : k < 16) : W.cell? ⟨g, k, none⟩ = some (.string ⟨(mkN k).toArray⟩) := by
  rw [h.cell]
  unfold mnC
  simp [hk]
theorem mv_cell {W : World} {g : Nat} (h : Bx W g 3 mvC) {k : Nat} (hk : k < 16) : W.cell? ⟨g, k, none⟩ = some (.int .i64 (mkV k : Int)) := by
  rw [h.cell]
  unfold mvC
  simp [hk]
theorem msk_all : (List.range 16).all (fun k => decide (mskI (mkN k) = some (mkV k, false) ∧ mskI (mkN k ++ [82]) = some (mkV k, true) ∧ (mkN k).length ≤ 3)) = true := by decide +kernel
theorem msk_hit {k : Nat} (hk : k < 16) : mskI (mkN k) = some (mkV k, false) ∧ mskI (mkN k ++ [82]) = some (mkV k, true) ∧ (mkN k).length ≤ 3 := of_decide_eq_true (List.all_eq_true.1 msk_all k (List.mem_range.2 hk))
theorem cut_back (l : List UInt8) : (hasR l = true → l = cutR l ++ [82]) ∧ (hasR l = false → cutR l = l) := by
  unfold cutR
  rw [← hasR]
  constructor
  · intro h
    rw [h, if_pos rfl]
    unfold hasR at h
    simp only [Bool.and_eq_true, decide_eq_true_eq, beq_iff_eq] at h
    obtain ⟨m, hm⟩ : ∃ m, l.length = m + 1 := ⟨l.length - 1, by omega⟩
    have h2 : gt l m = 82 := by have := h.2; rwa [hm, Nat.add_sub_cancel] at this
    rw [hm, Nat.add_sub_cancel, ← h2]
    have h3 := take_one (l := l) (k := m) (by omega)
    rw [← h3, List.take_of_length_le (by omega)]
  · intro h
    rw [h]
    rfl
theorem msk_miss {l : List UInt8} (h : ∀ j, j < 16 → l ≠ mkN j ∧ l ≠ mkN j ++ [82]) : mskI l = none := by
  unfold mskI
  cases e : bmI (cutR l) with
  | none => rfl
  | some i =>
    have hi := List.mem_range.1 (List.mem_of_find?_eq_some e)
    have he : cutR l = mkN i := by simpa using List.find?_some e
    obtain ⟨h1, h2⟩ := h i hi
    obtain ⟨c1, c2⟩ := cut_back l
    cases hr : hasR l with
    | true => exact absurd (he ▸ c1 hr) h2
    | false => exact absurd ((c2 hr).symm.trans he) h1
set_option maxRecDepth 100000 in
set_option maxHeartbeats 1000000 in
theorem mask_ref (s : ByteArray) (l : List UInt8) (w : World) (hs : s.data.toList = l) : Calls Tryd.prog 25 #[.string s] w (New w (mskV (mskI l))) := by
  have HN := Lib.hid ((Bx.new w 9 mnC).below (below_new _ (.cells mvC 3)))
  have HV := Lib.hid (Bx.new (w.alloc (.cells mnC 9)) 3 mvC)
  have HW := Lib.hid (below2 w (.cells mnC 9) (.cells mvC 3))
  obtain ⟨w2, hw2⟩ : ∃ w2, w2 = (w.alloc (.cells mnC 9)).alloc (.cells mvC 3) := ⟨_, rfl⟩
  rw [← hw2] at HN HV HW
  rw [World.size_alloc] at HV
  have HWE : Hid (_ = w2) := Lib.hid (hw2.trans (by kernel_rfl : _ = (w.alloc (.cells #[.string ⟨#[78, 79, 80]⟩, .string ⟨#[66, 79]⟩, .string ⟨#[66, 72]⟩, .string ⟨#[66, 80]⟩, .string ⟨#[66, 76]⟩, .string ⟨#[66, 77]⟩, .string ⟨#[66, 78, 69]⟩, .string ⟨#[66, 78, 90]⟩, .string ⟨#[66, 69]⟩, .string ⟨#[66, 90]⟩, .string ⟨#[66, 78, 76]⟩, .string ⟨#[66, 78, 77]⟩, .string ⟨#[66, 78, 72]⟩, .string ⟨#[66, 78, 80]⟩, .string ⟨#[66, 78, 79]⟩, .string ⟨#[66]⟩] 9)).alloc (.cells #[.int .i64 0, .int .i64 1, .int .i64 2, .int .i64 2, .int .i64 4, .int .i64 4, .int .i64 7, .int .i64 7, .int .i64 8, .int .i64 8, .int .i64 11, .int .i64 11, .int .i64 13, .int .i64 13, .int .i64 14, .int .i64 15] 3))).symm
  clear hw2
  go_enter Tryd.func25, Tryd.ntmps25
  go_wp2_with fail
  rw [HWE.out]
  go_loop [7] (fun i => ∃ k : Nat, k ≤ 16 ∧ i = .int .i64 k ∧ ∀ j, j < k → l ≠ mkN j ∧ l ≠ mkN j ++ [82]) (fun i => 16 - (intOf i).toNat)
  case atStart => exact ⟨0, Nat.zero_le _, rfl, fun j hj => by omega⟩
  case round =>
    obtain ⟨k, hk, rfl, hb⟩ := hrel
    by_cases hlt : k < 16
    · have c1 := mn_cell HN.out hlt
      have c2 := mv_cell HV.out hlt
      obtain ⟨m1, m2, m3⟩ := msk_hit hlt
      have hl : s.toList = l := by rw [Lib.toList_data, hs]
      have h63 : ¬ 9223372036854775807 < (mkN k).length + 1 := by omega
      have hcat : ((ByteArray.mk (mkN k).toArray) ++ (ByteArray.mk #[82])).toList = mkN k ++ [82] := by rw [Lib.toList_data]; simp
      by_cases hA : l = mkN k
      · have e1 : (s.toList == mkN k) = true := by rw [hl, hA]; simp
        have HX := Lib.hid (show mskI l = some (mkV k, false) by rw [hA]; exact m1)
        generalize hm : mkV k = m at c2 HX
        clear m1 m2 m3 hl h63 hcat hA hb hs hm
        go_wp2
        refine bodyPost_ret (results_ttt rfl rfl rfl rfl) rfl ⟨?_, HW.out⟩
        rw [HX.out]
        rfl
      · have e1 : (s.toList == mkN k) = false := by rw [hl, beq_eq_false_iff_ne]; exact hA
        by_cases hB : l = mkN k ++ [82]
        · have e2 : (s.toList == ((ByteArray.mk (mkN k).toArray) ++ (ByteArray.mk #[82])).toList) = true := by rw [hl, hcat, hB]; simp
          have HX := Lib.hid (show mskI l = some (mkV k, true) by rw [hB]; exact m2)
          generalize hm : mkV k = m at c2 HX
          clear m1 m2 m3 hl hcat hA hB hb hs hm
          go_wp2
          refine bodyPost_ret (results_ttt rfl rfl rfl rfl) rfl ⟨?_, HW.out⟩
          rw [HX.out]
          rfl
        · have e2 : (s.toList == ((ByteArray.mk (mkN k).toArray) ++ (ByteArray.mk #[82])).toList) = false := by rw [hl, hcat, beq_eq_false_iff_ne]; exact hB
          have HAB := Lib.hid (And.intro hA hB)
          clear m1 m2 m3 hl hcat hA hB hs c2
          go_wp2
          go_round
          case rel => exact ⟨k + 1, by omega, by go_num, fun j hj => by
            by_cases hjk : j < k
            · exact hb j hjk
            · obtain rfl : j = k := by omega
              exact HAB.out⟩
          case measure => simp [intOf]; omega
    · obtain rfl : k = 16 := by omega
      have HX := Lib.hid (msk_miss hb)
      clear hb hs
      go_wp2
      refine bodyPost_ret (results_ttt rfl rfl rfl rfl) rfl ⟨?_, HW.out⟩
      rw [HX.out]
      rfl
end E
end Go.Proofs.YtaodghaicmjadaaDoor

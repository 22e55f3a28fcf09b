/- The given answers' Privileged and Find. -/
import Derived.Test.YtaodghaicmjadaaDoorIsROf
namespace Go.Proofs.YtaodghaicmjadaaDoor
open Go.RowKit Go.Shelf
set_option linter.unusedVariables false
namespace E

def pvI (op : Int) : Bool := op == 8 || op == 9 || op == 128 || op == 130 || (decide (156 ≤ op) && decide (op ≤ 159))
theorem pv_all : (List.range 256).all (fun n => ((ixC (n : Int)).isSome && pvO (opO (ixC (n : Int)))) == pvI (n : Int)) = true := by decide +kernel
theorem pv_eq (op : Int) : ((ixC op).isSome && pvO (opO (ixC op))) = pvI op := by
  by_cases h : 0 ≤ op ∧ op ≤ 255
  · obtain ⟨n, rfl⟩ := Int.eq_ofNat_of_zero_le h.1
    have := List.all_eq_true.1 pv_all n (List.mem_range.2 (by omega))
    simpa using this
  · rw [ixC_out (by omega)]
    unfold pvI
    symm
    simp
    omega
set_option maxRecDepth 100000 in
set_option maxHeartbeats 1000000 in
theorem priv_ref (op : Int) (w : World) : Calls Tryd.prog 29 #[.int .i64 op] w fun e w' => e = .returned (.bool (pvI op)) ∧ w = w' := by
  by_cases h8 : op = 8
  · subst h8
    go_enter Tryd.func29, Tryd.ntmps29
    go_wp2
    go_ret
    exact ⟨rfl, rfl⟩
  by_cases h9 : op = 9
  · subst h9
    go_enter Tryd.func29, Tryd.ntmps29
    go_wp2
    go_ret
    exact ⟨rfl, rfl⟩
  by_cases h128 : op = 128
  · subst h128
    go_enter Tryd.func29, Tryd.ntmps29
    go_wp2
    go_ret
    exact ⟨rfl, rfl⟩
  by_cases h130 : op = 130
  · subst h130
    go_enter Tryd.func29, Tryd.ntmps29
    go_wp2
    go_ret
    exact ⟨rfl, rfl⟩
  have e8 : (op == 8) = false := by rw [beq_eq_false_iff_ne]; exact h8
  have e9 : (op == 9) = false := by rw [beq_eq_false_iff_ne]; exact h9
  have e128 : (op == 128) = false := by rw [beq_eq_false_iff_ne]; exact h128
  have e130 : (op == 130) = false := by rw [beq_eq_false_iff_ne]; exact h130
  have hv : pvI op = (decide (156 ≤ op) && decide (op ≤ 159)) := by unfold pvI; rw [e8, e9, e128, e130]; rfl
  have HV := Lib.hid hv
  clear hv
  by_cases ha : 156 ≤ op
  · by_cases hb : op ≤ 159
    · have hv : pvI op = true := by rw [HV.out, decide_eq_true ha, decide_eq_true hb]; rfl
      rw [hv]
      clear hv
      go_enter Tryd.func29, Tryd.ntmps29
      go_wp2
      go_ret
      exact ⟨rfl, rfl⟩
    · have hv : pvI op = false := by rw [HV.out, decide_eq_true ha, decide_eq_false hb]; rfl
      rw [hv]
      clear hv
      go_enter Tryd.func29, Tryd.ntmps29
      go_wp2
      go_ret
      exact ⟨rfl, rfl⟩
  · have hv : pvI op = false := by rw [HV.out, decide_eq_false ha]; rfl
    rw [hv]
    clear hv
    go_enter Tryd.func29, Tryd.ntmps29
    go_wp2
    go_ret
    exact ⟨rfl, rfl⟩
theorem ixN_hit {l : List UInt8} {k : Nat} (hk : k < 97) (h : nmK k = l) (hb : ∀ j, j < k → nmK j ≠ l) : ixN l = some k := by
  cases e : ixN l with
  | none =>
    have := List.find?_eq_none.1 e k (List.mem_range.2 hk)
    simp [h] at this
  | some j =>
    obtain ⟨hj, hjo⟩ := ixN_some e
    rcases Nat.lt_trichotomy j k with h1 | h1 | h1
    · exact absurd hjo (hb j h1)
    · rw [h1]
    · have := find_least e h1
      simp [h] at this
theorem ixN_miss {l : List UInt8} (hb : ∀ j, j < 97 → nmK j ≠ l) : ixN l = none :=
  List.find?_eq_none.2 fun k hk => by
    have := hb k (List.mem_range.1 hk)
    simpa using this
set_option maxRecDepth 100000 in
set_option maxHeartbeats 1000000 in
theorem find_ref (s : ByteArray) (l : List UInt8) (w : World) (hs : s.data.toList = l) : Calls Tryd.prog 23 #[.string s] w (New w (findV (ixN l))) := by
  have HR := Lib.hid rows_ref
  have HB := Lib.hid (Bx.new w 52 refC.toArray)
  have HW := Lib.hid (below_new w (.cells refC.toArray 52))
  obtain ⟨w2, hw2⟩ : ∃ w2, w2 = w.alloc (.cells refC.toArray 52) := ⟨_, rfl⟩
  rw [← hw2] at HB HW
  have HWE := Lib.hid hw2
  clear hw2
  go_enter Tryd.func23, Tryd.ntmps23
  go_wp2_with fail
  refine (HR.out _).mono ?_
  rintro e w' ⟨rfl, rfl⟩
  rw [← HWE.out]
  go_wp2_with fail
  go_loop [5] (fun i => ∃ k : Nat, k ≤ 97 ∧ i = .int .i64 k ∧ ∀ j, j < k → nmK j ≠ l) (fun i => 97 - (intOf i).toNat)
  case atStart => exact ⟨0, Nat.zero_le _, rfl, fun j hj => by omega⟩
  case round =>
    obtain ⟨k, hk, rfl, hb⟩ := hrel
    have hl : s.toList = l := by rw [Lib.toList_data, hs]
    by_cases hlt : k < 97
    · obtain ⟨c0, c1, c2⟩ := tab_cell HB.out hlt
      by_cases he : nmK k = l
      · have HX := Lib.hid (ixN_hit hlt he hb)
        have e1 : (nmK k == s.toList) = true := by rw [hl, he]; simp
        generalize hm : opK k = m at c0
        have HM := Lib.hid hm
        clear hb he hs hl c2 hm
        go_wp2
        refine bodyPost_ret (results_tt rfl rfl rfl) rfl ⟨?_, HW.out⟩
        rw [HX.out, ← HM.out]
        rfl
      · have e1 : (nmK k == s.toList) = false := by rw [hl, beq_eq_false_iff_ne]; exact he
        have HE := Lib.hid he
        clear he hs hl c2 c0
        go_wp2
        go_round
        case rel => exact ⟨k + 1, by omega, by go_num, fun j hj => by
          by_cases hjk : j < k
          · exact hb j hjk
          · obtain rfl : j = k := by omega
            exact HE.out⟩
        case measure => simp [intOf]; omega
    · obtain rfl : k = 97 := by omega
      have HX := Lib.hid (ixN_miss hb)
      clear hb hs hl
      go_wp2
      refine bodyPost_ret (results_tt rfl rfl rfl) rfl ⟨?_, HW.out⟩
      rw [HX.out]
      rfl
end E
end Go.Proofs.YtaodghaicmjadaaDoor

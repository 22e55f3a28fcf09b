/- The given answers: the code of an access. -/
import Derived.Test.YtnnpnklbhghegaaStCopy
namespace Go.Proofs.Ytnnpnklbhghegaa
open Go.RowKit Go.Shelf
set_option linter.unusedVariables false
namespace E

/-- May an access be made, a fetch or a store? -/
def pF (f : Bool) (key : Int) (l : UInt8) : Bool := stP key l || (f && !(l.toNat % 2 == 1))
theorem pF_no (key : Int) : pF false key = stP key := by funext l; simp [pF]
theorem pF_yes (key : Int) : pF true key = ftP key := by funext l; simp [pF, ftP]
theorem code_four {f : Bool} {key : Int} {ks : List UInt8} {x k q T : Nat} {C : Int} (hC : C = if allB (pF f key) ks x k = true then 0 else 4) (hT : T = x + k) (hxq : x ≤ q) (hq : q < T) (h : pF f key (gt ks (q / 2048)) = false) : C = 4 := by
  have e : x + (q - x) = q := by omega
  have h9 : allB (pF f key) ks x k = false := by
    refine allB_no (i := q - x) (by omega) ?_
    rw [e]
    exact h
  rw [hC, h9]
  rfl
set_option maxRecDepth 100000 in
set_option maxHeartbeats 2000000 in
theorem rcode_yes (f : Bool) (a g h n m c d : Nat) (x k : Nat) (key : Int) (bs ks : List UInt8) (w : World) (hxk : x + k ≤ n) (hst : Rfs w a g h n m c d bs ks) :
    Calls Try.prog 40 #[.pointer (some ⟨a, 0, none⟩), .int .i64 (x : Int), .int .i64 (k : Int), .int .i64 key, .bool f] w fun e w' => e = .returned (.int .i64 (if allB (pF f key) ks x k = true then 0 else 4)) ∧ w = w' := by
  have hnum := hst.nums
  have hin : inB n (x : Int) (k : Int) = true := inB_iff.2 ⟨by omega, by omega, by omega⟩
  have H1 := Lib.hid (rin_any a g n c (x : Int) (k : Int) w (by omega) hst.c0)
  rw [hin] at H1
  obtain ⟨C, hC⟩ : ∃ C : Int, C = if allB (pF f key) ks x k = true then 0 else 4 := ⟨_, rfl⟩
  rw [← hC]
  have HC := Lib.hid hC
  have HST := Lib.hid hst
  have c1 := hst.c1
  have HXK := Lib.hid hxk
  have HNUM := Lib.hid hnum
  have hex : wrap64 ((x : Int) + (k : Int)) = ((x + k : Nat) : Int) := by unfold wrap64; omega
  obtain ⟨T, hT⟩ : ∃ T, T = x + k := ⟨_, rfl⟩
  rw [← hT] at hex
  have HT := Lib.hid hT
  clear hnum hin hC hst hxk hT
  go_enter Try.func40, Try.ntmps40
  go_wp2_with fail
  refine H1.out.mono ?_
  rintro e w1 ⟨rfl, rfl⟩
  go_wp2
  go_loopw [11, 12] (fun i _ wr => wr = w ∧ ∃ q : Nat, x ≤ q ∧ q ≤ T ∧ i = .int .i64 (q : Int) ∧ ∀ j, j < q - x → pF f key (gt ks ((x + j) / 2048)) = true) (fun i _ _ => T - (intOf i).toNat)
  case atStart => exact ⟨rfl, x, Nat.le_refl _, by have := HT.out; omega, rfl, fun j hj => by omega⟩
  case round =>
    obtain ⟨rfl, q, hxq, hq, rfl, hall⟩ := hrel
    have HALL := Lib.hid hall
    by_cases hlt : q < T
    · obtain ⟨b, hb⟩ : ∃ b, b = q / 2048 := ⟨_, rfl⟩
      have hbm : b < m := by have := HNUM.out; have := HXK.out; have := HT.out; omega
      obtain ⟨v, hv⟩ : ∃ v, v = (gt ks b).toNat := ⟨_, rfl⟩
      have hv256 : v < 256 := by rw [hv]; exact (gt ks b).toNat_lt
      have hcell := HST.out.lock b hbm
      rw [← hv] at hcell
      have hqb : (q : Int) / 2048 = (b : Int) := by omega
      have hqT : (q : Int) < (T : Int) := by omega
      have hqw : wrap64 (b : Int) = (b : Int) := by have := HNUM.out; unfold wrap64; omega
      have hP : pF f key (gt ks (q / 2048)) = (key == 0 || key == (v : Int) / 2 || (f && !(v % 2 == 1))) := by
        unfold pF stP
        rw [← hb, ← hv, show ((v / 2 : Nat) : Int) = (v : Int) / 2 by omega]
      have hqs : (q : Int) ≤ 65536 := by have := HNUM.out; have := HXK.out; have := HT.out; omega
      have hbm' : (b : Int) < (m : Int) := by omega
      have HNO : Hid (pF f key (gt ks (q / 2048)) = false → C = 4) := Lib.hid (code_four HC.out HT.out hxq hlt)
      clear hall hb hv
      by_cases h0 : key = 0
      · have HP : Hid (pF f key (gt ks (q / 2048)) = true) := Lib.hid (by rw [hP, h0]; rfl)
        have e0 : (key != 0) = false := by rw [h0]; rfl
        clear h0
        clear hP
        go_wp2
        go_roundw
        case rel => exact ⟨trivial, q + 1, by omega, by omega, by go_num, fun j hj => by
          rcases Nat.lt_or_ge j (q - x) with h | h
          · exact HALL.out j h
          · rw [show x + j = q by omega]; exact HP.out⟩
        case measure => simp [intOf]; omega
      · by_cases h2 : key = (v : Int) / 2
        · have HP : Hid (pF f key (gt ks (q / 2048)) = true) := Lib.hid (by rw [hP]; simp [h2])
          have e0 : (key != 0) = true := by simpa using h0
          have e2 : (key != (v : Int) / 2) = false := by simpa using h2
          clear h0 h2
          clear hP
          go_wp2
          go_roundw
          case rel => exact ⟨trivial, q + 1, by omega, by omega, by go_num, fun j hj => by
            rcases Nat.lt_or_ge j (q - x) with h | h
            · exact HALL.out j h
            · rw [show x + j = q by omega]; exact HP.out⟩
          case measure => simp [intOf]; omega
        · cases f with
          | false =>
            obtain rfl : C = 4 := HNO.out (by rw [hP]; simp [h0, h2])
            have e0 : (key != 0) = true := by simpa using h0
            have e2 : (key != (v : Int) / 2) = true := by simpa using h2
            clear hP h0 h2
            go_wp2
            go_ret
            exact ⟨rfl, rfl⟩
          | true =>
            by_cases h3 : (v : Int) % 2 = 1
            · obtain rfl : C = 4 := HNO.out (by rw [hP]; simp [h0, h2]; omega)
              have e0 : (key != 0) = true := by simpa using h0
              have e2 : (key != (v : Int) / 2) = true := by simpa using h2
              clear hP h0 h2
              go_wp2
              go_ret
              exact ⟨rfl, rfl⟩
            · have HP : Hid (pF true key (gt ks (q / 2048)) = true) := Lib.hid (by rw [hP]; simp; right; omega)
              have e0 : (key != 0) = true := by simpa using h0
              have e2 : (key != (v : Int) / 2) = true := by simpa using h2
              clear h0 h2
              clear hP
              go_wp2
              go_roundw
              case rel => exact ⟨trivial, q + 1, by omega, by omega, by go_num, fun j hj => by
                rcases Nat.lt_or_ge j (q - x) with h | h
                · exact HALL.out j h
                · rw [show x + j = q by omega]; exact HP.out⟩
              case measure => simp [intOf]; omega
    · obtain rfl : q = T := by omega
      have hc0 : C = 0 := by
        rw [HC.out, if_pos]
        rw [allB_iff]
        intro j hj
        exact HALL.out j (by have := HT.out; omega)
      subst hc0
      clear hall
      go_wp2
      go_ret
      exact ⟨rfl, rfl⟩

end E
end Go.Proofs.Ytnnpnklbhghegaa

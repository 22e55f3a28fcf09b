/- The document's own Valid: its contract. -/
import Derived.Test.YtgnaiolbleadbaaDoorPkRef6
namespace Go.Proofs.YtgnaiolbleadbaaDoor
open Go.RowKit Go.Shelf
set_option linter.unusedVariables false
namespace E

set_option maxRecDepth 100000 in
set_option maxHeartbeats 2000000 in
theorem rvalid_any (neg : Bool) (s : ByteArray) (w : World) : Calls Tryd.prog 31 #[.agg #[.bool neg, .string s]] w (New w (.bool (okL s.data.toList))) := by
  obtain ⟨l, hl⟩ : ∃ l, l = s.data.toList := ⟨_, rfl⟩
  have hstr : ∀ k (h : k < s.size), s[k] = gt l k := fun k h => by rw [hl]; exact str_at s k h
  have hln : l.length = s.size := by rw [hl]; rfl
  rw [← hl]
  have HL := Lib.hid hln
  have HS := Lib.hid hstr
  clear hl hln hstr
  have HB := Lib.hid (below_new w (.cells #[.bool neg, .string s] 26))
  by_cases h1 : s.size < 1
  · have hv := okL_false1 (l := l) (.inl (by rw [HL.out]; exact h1))
    rw [hv]
    clear hv
    go_enter Tryd.func31, Tryd.ntmps31
    go_wp2
    go_ret
    exact ⟨rfl, HB.out⟩
  by_cases h2 : 31 < s.size
  · have hv := okL_false1 (l := l) (.inr (by rw [HL.out]; exact h2))
    rw [hv]
    clear hv
    go_enter Tryd.func31, Tryd.ntmps31
    go_wp2
    go_ret
    exact ⟨rfl, HB.out⟩
  have hs0 := HS.out 0 (by omega)
  by_cases h3 : gt l 0 = 48
  · have hi : ((gt l 0).toNat : Int) = 48 := by rw [h3]; rfl
    by_cases h5 : 1 < s.size
    · have hv := okL_false2 (l := l) (by rw [HL.out]; exact h5) h3
      rw [hv]
      clear hv h3
      go_enter Tryd.func31, Tryd.ntmps31
      go_wp2
      go_ret
      exact ⟨rfl, HB.out⟩
    · have HX : Hid (1 < s.size → gt l 0 ≠ 48) := Lib.hid (fun h => absurd h h5)
      clear h3
      go_enter Tryd.func31, Tryd.ntmps31
      go_wp2
      go_loop [3] (fun i => ∃ k : Nat, k ≤ s.size ∧ i = .int .i64 k ∧ ∀ j, j < k → isD (gt l j) = true) (fun i => s.size - (intOf i).toNat)
      case atStart => exact ⟨0, Nat.zero_le _, rfl, fun j hj => by omega⟩
      case round =>
        obtain ⟨k, hk, rfl, ha⟩ := hrel
        have HA := Lib.hid ha
        clear ha
        by_cases hlt : k < s.size
        · have hsk := HS.out k hlt
          by_cases hd : isD (gt l k) = true
          · have hd2 := (isD_iff _).1 hd
            have HD := Lib.hid hd
            clear hd
            go_wp2
            go_round
            case rel => exact ⟨k + 1, by omega, by go_num, fun j hj => by
              rcases Nat.lt_succ_iff_lt_or_eq.1 hj with h | h
              · exact HA.out j h
              · subst h; exact HD.out⟩
            case measure => simp [intOf]; omega
          · have hv := okL_false3 (l := l) (j := k) (by rw [HL.out]; exact hlt) (by simpa using hd)
            have HV := Lib.hid hv
            have hd2 : ¬ (48 ≤ (gt l k).toNat ∧ (gt l k).toNat ≤ 57) := fun h => hd ((isD_iff _).2 h)
            clear hv hd
            by_cases hlo : (gt l k).toNat < 48
            · go_wp2
              go_ret
              exact ⟨by rw [HV.out]; rfl, HB.out⟩
            · have hhi : 57 < (gt l k).toNat := by omega
              go_wp2
              go_ret
              exact ⟨by rw [HV.out]; rfl, HB.out⟩
        · obtain rfl : k = s.size := by omega
          have hv : okL l = true := (okL_iff l).2 ⟨⟨by rw [HL.out]; omega, by rw [HL.out]; omega, fun h => HX.out (by rw [← HL.out]; exact h)⟩, fun j hj => HA.out j (by rw [← HL.out]; exact hj)⟩
          have HV := Lib.hid hv
          clear hv
          go_wp2
          go_ret
          exact ⟨by rw [HV.out]; rfl, HB.out⟩
  · have hi : ¬ ((gt l 0).toNat : Int) = 48 := fun hh => h3 (UInt8.toNat_inj.1 (by show (gt l 0).toNat = 48; omega))
    have hib : (((gt l 0).toNat : Int) == 48) = false := by simpa using hi
    have HX : Hid (1 < s.size → gt l 0 ≠ 48) := Lib.hid (fun _ => h3)
    clear h3 hi
    go_enter Tryd.func31, Tryd.ntmps31
    go_wp2
    go_loop [3] (fun i => ∃ k : Nat, k ≤ s.size ∧ i = .int .i64 k ∧ ∀ j, j < k → isD (gt l j) = true) (fun i => s.size - (intOf i).toNat)
    case atStart => exact ⟨0, Nat.zero_le _, rfl, fun j hj => by omega⟩
    case round =>
      obtain ⟨k, hk, rfl, ha⟩ := hrel
      have HA := Lib.hid ha
      clear ha
      by_cases hlt : k < s.size
      · have hsk := HS.out k hlt
        by_cases hd : isD (gt l k) = true
        · have hd2 := (isD_iff _).1 hd
          have HD := Lib.hid hd
          clear hd
          go_wp2
          go_round
          case rel => exact ⟨k + 1, by omega, by go_num, fun j hj => by
            rcases Nat.lt_succ_iff_lt_or_eq.1 hj with h | h
            · exact HA.out j h
            · subst h; exact HD.out⟩
          case measure => simp [intOf]; omega
        · have hv := okL_false3 (l := l) (j := k) (by rw [HL.out]; exact hlt) (by simpa using hd)
          have HV := Lib.hid hv
          have hd2 : ¬ (48 ≤ (gt l k).toNat ∧ (gt l k).toNat ≤ 57) := fun h => hd ((isD_iff _).2 h)
          clear hv hd
          by_cases hlo : (gt l k).toNat < 48
          · go_wp2
            go_ret
            exact ⟨by rw [HV.out]; rfl, HB.out⟩
          · have hhi : 57 < (gt l k).toNat := by omega
            go_wp2
            go_ret
            exact ⟨by rw [HV.out]; rfl, HB.out⟩
      · obtain rfl : k = s.size := by omega
        have hv : okL l = true := (okL_iff l).2 ⟨⟨by rw [HL.out]; omega, by rw [HL.out]; omega, fun h => HX.out (by rw [← HL.out]; exact h)⟩, fun j hj => HA.out j (by rw [← HL.out]; exact hj)⟩
        have HV := Lib.hid hv
        clear hv
        go_wp2
        go_ret
        exact ⟨by rw [HV.out]; rfl, HB.out⟩

end E
end Go.Proofs.YtgnaiolbleadbaaDoor

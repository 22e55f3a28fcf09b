/- The contracts of Valid, encode, Encode and Zoned. -/
import Derived.Test.YtlpekknhaaddcaaDoorPkMoves
namespace Go.Proofs.YtlpekknhaaddcaaDoor
open Go.RowKit Go.Shelf
set_option linter.unusedVariables false
namespace E

/-- A number's value. -/
def decV (neg : Bool) (s : ByteArray) : Value := .agg #[.bool neg, .string s]
theorem okL_false1 {l : List UInt8} (h : l.length < 1 ∨ 31 < l.length) : okL l = false := by
  rw [Bool.eq_false_iff]
  intro hh
  have := ((okL_iff l).1 hh).1
  omega
theorem okL_false2 {l : List UInt8} (h : 1 < l.length) (h0 : gt l 0 = 48) : okL l = false := by
  rw [Bool.eq_false_iff]
  intro hh
  exact ((okL_iff l).1 hh).1.2.2 h h0
theorem okL_false3 {l : List UInt8} {j : Nat} (h : j < l.length) (h0 : isD (gt l j) = false) : okL l = false := by
  rw [Bool.eq_false_iff]
  intro hh
  rw [((okL_iff l).1 hh).2 j h] at h0
  cases h0
set_option maxRecDepth 100000 in
theorem valid_any (neg : Bool) (s : ByteArray) (w : World) : Calls Tryd.prog 98 #[.agg #[.bool neg, .string s]] w (New w (.bool (okL s.data.toList))) := by
  obtain ⟨l, hl⟩ : ∃ l, l = s.data.toList := ⟨_, rfl⟩
  have hstr : ∀ k (h : k < s.size), s[k] = gt l k := fun k h => by rw [hl]; exact str_at s k h
  have hln : l.length = s.size := by rw [hl]; rfl
  rw [← hl]
  have HL := Lib.hid hln
  have HS := Lib.hid hstr
  clear hl hln hstr
  have HB := Lib.hid (below_new w (.cells #[.bool neg, .string s] 78))
  by_cases h1 : s.size < 1
  · have hv := okL_false1 (l := l) (.inl (by rw [HL.out]; exact h1))
    rw [hv]
    clear hv
    go_enter Tryd.func98, Tryd.ntmps98
    go_wp2
    go_ret
    exact ⟨rfl, HB.out⟩
  by_cases h2 : 31 < s.size
  · have hv := okL_false1 (l := l) (.inr (by rw [HL.out]; exact h2))
    rw [hv]
    clear hv
    go_enter Tryd.func98, Tryd.ntmps98
    go_wp2
    go_ret
    exact ⟨rfl, HB.out⟩
  have rest : (1 < s.size → gt l 0 ≠ 48) → Calls Tryd.prog 98 #[.agg #[.bool neg, .string s]] w (New w (.bool (okL l))) := by
    intro h3
    by_cases h5 : 1 < s.size
    · have hs0 := HS.out 0 (by omega)
      have hi : ¬ ((gt l 0).toNat : Int) = 48 := fun hh => h3 h5 (UInt8.toNat_inj.1 (by show (gt l 0).toNat = 48; omega))
      have hib : (((gt l 0).toNat : Int) == 48) = false := by simpa using hi
      have HX := Lib.hid h3
      clear h3 hi
      go_enter Tryd.func98, Tryd.ntmps98
      go_wp2
      go_loop [25] (fun i => ∃ k : Nat, k ≤ s.size ∧ i = .int .i64 k ∧ ∀ j, j < k → isD (gt l j) = true) (fun i => s.size - (intOf i).toNat)
      case atStart => exact ⟨0, Nat.zero_le _, rfl, fun j hj => by omega⟩
      case round =>
        obtain ⟨k, hk, rfl, ha⟩ := hrel
        have HA := Lib.hid ha
        clear ha
        by_cases hlt : k < s.size
        · have hsk := HS.out k hlt
          by_cases hd : isD (gt l k) = true
          · have hd2 := (isD_iff _).1 hd
            have HD := Lib.hid hd
            clear hd
            go_wp2
            go_round
            case rel => exact ⟨k + 1, by omega, by go_num, fun j hj => by
              rcases Nat.lt_succ_iff_lt_or_eq.1 hj with h | h
              · exact HA.out j h
              · subst h; exact HD.out⟩
            case measure => simp [intOf]; omega
          · have hv := okL_false3 (l := l) (j := k) (by rw [HL.out]; exact hlt) (by simpa using hd)
            have HV := Lib.hid hv
            have hd2 : ¬ (48 ≤ (gt l k).toNat ∧ (gt l k).toNat ≤ 57) := fun h => hd ((isD_iff _).2 h)
            clear hv hd
            by_cases hlo : (gt l k).toNat < 48
            · go_wp2
              go_ret
              exact ⟨by rw [HV.out]; rfl, HB.out⟩
            · have hhi : 57 < (gt l k).toNat := by omega
              go_wp2
              go_ret
              exact ⟨by rw [HV.out]; rfl, HB.out⟩
        · obtain rfl : k = s.size := by omega
          have hv : okL l = true := (okL_iff l).2 ⟨⟨by rw [HL.out]; omega, by rw [HL.out]; omega, fun h => HX.out (by rw [← HL.out]; exact h)⟩, fun j hj => HA.out j (by rw [← HL.out]; exact hj)⟩
          have HV := Lib.hid hv
          clear hv
          go_wp2
          go_ret
          exact ⟨by rw [HV.out]; rfl, HB.out⟩
    · have HX := Lib.hid h3
      clear h3
      go_enter Tryd.func98, Tryd.ntmps98
      go_wp2
      go_loop [25] (fun i => ∃ k : Nat, k ≤ s.size ∧ i = .int .i64 k ∧ ∀ j, j < k → isD (gt l j) = true) (fun i => s.size - (intOf i).toNat)
      case atStart => exact ⟨0, Nat.zero_le _, rfl, fun j hj => by omega⟩
      case round =>
        obtain ⟨k, hk, rfl, ha⟩ := hrel
        have HA := Lib.hid ha
        clear ha
        by_cases hlt : k < s.size
        · have hsk := HS.out k hlt
          by_cases hd : isD (gt l k) = true
          · have hd2 := (isD_iff _).1 hd
            have HD := Lib.hid hd
            clear hd
            go_wp2
            go_round
            case rel => exact ⟨k + 1, by omega, by go_num, fun j hj => by
              rcases Nat.lt_succ_iff_lt_or_eq.1 hj with h | h
              · exact HA.out j h
              · subst h; exact HD.out⟩
            case measure => simp [intOf]; omega
          · have hv := okL_false3 (l := l) (j := k) (by rw [HL.out]; exact hlt) (by simpa using hd)
            have HV := Lib.hid hv
            have hd2 : ¬ (48 ≤ (gt l k).toNat ∧ (gt l k).toNat ≤ 57) := fun h => hd ((isD_iff _).2 h)
            clear hv hd
            by_cases hlo : (gt l k).toNat < 48
            · go_wp2
              go_ret
              exact ⟨by rw [HV.out]; rfl, HB.out⟩
            · have hhi : 57 < (gt l k).toNat := by omega
              go_wp2
              go_ret
              exact ⟨by rw [HV.out]; rfl, HB.out⟩
        · obtain rfl : k = s.size := by omega
          have hv : okL l = true := (okL_iff l).2 ⟨⟨by rw [HL.out]; omega, by rw [HL.out]; omega, fun h => HX.out (by rw [← HL.out]; exact h)⟩, fun j hj => HA.out j (by rw [← HL.out]; exact hj)⟩
          have HV := Lib.hid hv
          clear hv
          go_wp2
          go_ret
          exact ⟨by rw [HV.out]; rfl, HB.out⟩
  by_cases h3 : 1 < s.size
  · have hs0 := HS.out 0 (by omega)
    by_cases h4 : gt l 0 = 48
    · have hv := okL_false2 (l := l) (by rw [HL.out]; exact h3) h4
      rw [hv]
      have hi : s[0] = 48 := hs0.trans h4
      clear hv hs0 h4 rest
      go_enter Tryd.func98, Tryd.ntmps98
      go_wp2
      go_ret
      exact ⟨rfl, HB.out⟩
    · exact rest (fun _ => h4)
  · exact rest (fun h => absurd h h3)

end E
end Go.Proofs.YtlpekknhaaddcaaDoor

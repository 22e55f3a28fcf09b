/- The contracts of strings.TrimRight of blanks, strings.CutSuffix of one letter and strings.Repeat of few blanks. -/
import Derived.Test.YtaodghaicmjadaaDoorPsBase
import Derived.Test.YtaodghaicmjadaaDoorIsTab
import Derived.Lib.Strings
namespace Go.Proofs.YtaodghaicmjadaaDoor
open Go.RowKit
set_option linter.unusedVariables false
namespace E

theorem tr_snoc (l : List UInt8) (x : UInt8) : trimB (l ++ [x]) = if x = 32 then trimB l else l ++ [x] := by
  by_cases h : x = 32
  · subst h; simp [trimB]
  · simp [trimB, h]
theorem tr_step {l : List UInt8} {k : Nat} (h : k < l.length) (hx : gt l k = 32) : trimB (l.take (k + 1)) = trimB (l.take k) := by
  rw [take_one h, tr_snoc, if_pos hx]
theorem tr_stop {l : List UInt8} {k : Nat} (h : k < l.length) (hx : gt l k ≠ 32) : trimB (l.take (k + 1)) = l.take (k + 1) := by
  rw [take_one h, tr_snoc, if_neg hx]
theorem trimRByte_any (s : ByteArray) (l : List UInt8) (w : World) (hs : s.data.toList = l) (hn : l.length ≤ 1000) :
    Calls Tryd.prog 66 #[.string s, .int .u8 32] w fun e w' => e = .returned (.string ⟨(trimB l).toArray⟩) ∧ w = w' := by
  go_enter Tryd.func66, Tryd.ntmps66
  go_wp2
  go_loop [0] (fun v => ∃ (k : Nat) (t : ByteArray), k ≤ l.length ∧ v = .string t ∧ t.data.toList = l.take k ∧ trimB l = trimB (l.take k)) (fun v => (match v with | .string t => t.size | _ => 0))
  case atStart => exact ⟨l.length, s, Nat.le_refl _, rfl, by rw [List.take_length]; exact hs, by rw [List.take_length]⟩
  case round =>
    clear hs
    obtain ⟨k, t, hk, rfl, ht, hd⟩ := hrel
    have htz : t.size = k := by
      have := congrArg List.length ht
      rw [List.length_take, Nat.min_eq_left hk] at this
      exact this
    by_cases h0 : k = 0
    · subst h0
      have hf : trimB l = t.data.toList := by rw [hd, ht]; rfl
      have HF := Lib.hid hf
      clear hf hd ht
      go_wp2
      go_ret
      exact ⟨by rw [HF.out]; rfl, rfl⟩
    · obtain ⟨m, rfl⟩ : ∃ m, k = m + 1 := ⟨k - 1, by omega⟩
      have hml : m < l.length := by omega
      have hst : ∀ (hi : m < t.size), t[m] = gt l m := fun hi => by
        rw [str_at t m hi, ht]
        unfold gt
        simp
      have h1 : wrap64 ((t.size : Int) - 1) = (m : Int) := by rw [htz]; unfold wrap64; omega
      have HD := Lib.hid hd
      have HT := Lib.hid ht
      have hmt : m < t.size := by omega
      have hm1 : ((m : Int) + 1 - 1) = (m : Int) := by omega
      by_cases hx : gt l m = 32
      · have hdr : trimB l = trimB (l.take m) := by rw [hd, tr_step hml hx]
        have hex : (t.extract 0 m).data.toList = l.take m := by
          rw [Lib.extract_data, HT.out]
          simp [List.take_take]
        have hesz : (t.extract 0 m).size < t.size := by simp; omega
        have HR := Lib.hid hdr
        have HE := Lib.hid hex
        have HS := Lib.hid hesz
        have hi : t[m] = 32 := (hst hmt).trans hx
        clear hdr hex hesz hst hx hd ht
        go_wp2
        go_round
        case rel => exact ⟨m, _, by omega, rfl, HE.out, HR.out⟩
        case measure => exact HS.out
      · have hf : trimB l = t.data.toList := by rw [hd, tr_stop hml hx, ht]
        have HF := Lib.hid hf
        have hi : t[m] = gt l m := hst hmt
        have hx2 : ¬ ((gt l m).toNat : Int) = 32 := fun hh => hx (UInt8.toNat_inj.1 (by show (gt l m).toNat = 32; omega))
        clear hf hx hst hd ht
        go_wp2
        go_ret
        exact ⟨by rw [HF.out]; rfl, rfl⟩
set_option maxRecDepth 100000 in
theorem trimR_any (s : ByteArray) (l : List UInt8) (w : World) (hs : s.data.toList = l) (h0 : 1 ≤ l.length) (hn : l.length ≤ 1000) :
    Calls Tryd.prog 57 #[.string s, .string ⟨#[32]⟩] w fun e w' => e = .returned (.string ⟨(trimB l).toArray⟩) ∧ w = w' := by
  have HB := Lib.hid (fun W => trimRByte_any s l W hs hn)
  have hz : s.size = l.length := by rw [← hs]; rfl
  have hne : s.toList.isEmpty = false := by
    rw [Lib.toList_data, hs]
    cases l with
    | nil => simp at h0
    | cons _ _ => rfl
  go_enter Tryd.func57, Tryd.ntmps57
  go_wp2_with fail
  refine (HB.out _).mono ?_
  rintro e w' ⟨rfl, rfl⟩
  go_wp2
  go_ret
  exact ⟨rfl, rfl⟩
theorem hasSuffix_any (s : ByteArray) (l : List UInt8) (w : World) (hs : s.data.toList = l) (hn : l.length ≤ 140737488355328) :
    Calls Tryd.prog 65 #[.string s, .string ⟨#[82]⟩] w fun e w' => e = .returned (.bool (decide (1 ≤ l.length) && gt l (l.length - 1) == 82)) ∧ w = w' := by
  have hz : s.size = l.length := by rw [← hs]; rfl
  by_cases h0 : 1 ≤ l.length
  · obtain ⟨m, hm⟩ : ∃ m, l.length = m + 1 := ⟨l.length - 1, by omega⟩
    have h1 : wrap64 ((s.size : Int) - 1) = (m : Int) := by rw [hz, hm]; unfold wrap64; omega
    have hsz : s.size = m + 1 := by omega
    have hex : (s.extract m (m + 1)).data.toList = [gt l m] := by
      rw [Lib.extract_data, hs, show m + 1 - m = 1 by omega, List.take_one, List.head?_drop, List.getElem?_eq_getElem (by omega)]
      rw [gt_lt (by omega)]
      rfl
    obtain ⟨x, hx⟩ : ∃ x, x = gt l m := ⟨_, rfl⟩
    rw [decide_eq_true h0, Bool.true_and, hm, Nat.add_sub_cancel, ← hx]
    rw [← hx] at hex
    have he2 : s.extract m (m + 1) = ⟨#[x]⟩ := by
      have h3 : (s.extract m (m + 1)).data = #[x] := Array.toList_inj.1 hex
      cases hq : s.extract m (m + 1) with
      | mk d => rw [hq] at h3; exact congrArg ByteArray.mk h3
    have hmb : (m : Int) ≤ 140737488355328 := by omega
    have hm0 : (1 : Int) ≤ (m : Int) + 1 := by omega
    clear hs hz hm hx hex h0 hn h1
    go_enter Tryd.func65, Tryd.ntmps65
    go_wp2
    go_ret
    exact ⟨by simp, rfl⟩
  · have h1 : l.length = 0 := by omega
    have hz0 : s.size = 0 := by omega
    rw [decide_eq_false h0, Bool.false_and]
    clear hs hz h0 hn h1
    go_enter Tryd.func65, Tryd.ntmps65
    go_wp2
    go_ret
    exact ⟨rfl, rfl⟩
theorem mul64_few (n : Nat) (hn : n ≤ 4) (w : World) : Calls Tryd.prog 71 #[.int .u64 1, .int .u64 (n : Int)] w fun e w' => e = .returned (.tuple #[.int .u64 0, .int .u64 (n : Int)]) ∧ w = w' := by
  obtain rfl | rfl | rfl | rfl | rfl : n = 0 ∨ n = 1 ∨ n = 2 ∨ n = 3 ∨ n = 4 := by omega
  all_goals
    go_enter Tryd.func71, Tryd.ntmps71
    go_wp2
    go_ret2
    exact ⟨rfl, rfl⟩
theorem mul_few (n : Nat) (hn : n ≤ 4) (w : World) : Calls Tryd.prog 59 #[.int .u64 1, .int .u64 (n : Int)] w fun e w' => e = .returned (.tuple #[.int .u64 0, .int .u64 (n : Int)]) ∧ w = w' := by
  have H := Lib.hid (mul64_few n hn w)
  go_enter Tryd.func59, Tryd.ntmps59
  go_wp2_with fail
  refine H.out.mono ?_
  rintro e w' ⟨rfl, rfl⟩
  go_wp2
  go_ret2
  exact ⟨rfl, rfl⟩
/-- A name without an R at its end, and whether it had one. -/
def cutR (l : List UInt8) : List UInt8 := if decide (1 ≤ l.length) && gt l (l.length - 1) == 82 then l.take (l.length - 1) else l
def hasR (l : List UInt8) : Bool := decide (1 ≤ l.length) && gt l (l.length - 1) == 82
theorem cutIn_any (s : ByteArray) (l : List UInt8) (w : World) (hs : s.data.toList = l) (hn : l.length ≤ 140737488355328) :
    Calls Tryd.prog 56 #[.string s, .string ⟨#[82]⟩] w fun e w' => e = .returned (.tuple #[.string ⟨(cutR l).toArray⟩, .bool (hasR l)]) ∧ w = w' := by
  have H := Lib.hid (hasSuffix_any s l w hs hn)
  have hz : s.size = l.length := by rw [← hs]; rfl
  cases e : hasR l with
  | false =>
    have e2 : cutR l = s.data.toList := by unfold cutR; rw [← hasR, e, hs]; rfl
    rw [← hasR, e] at H
    rw [e2]
    clear hs hz e e2
    go_enter Tryd.func56, Tryd.ntmps56
    go_wp2_with fail
    refine H.out.mono ?_
    rintro e w' ⟨rfl, rfl⟩
    go_wp2
    go_ret2
    exact ⟨rfl, rfl⟩
  | true =>
    have h1 : 1 ≤ l.length := by
      unfold hasR at e
      simp at e
      omega
    obtain ⟨m, hm⟩ : ∃ m, l.length = m + 1 := ⟨l.length - 1, by omega⟩
    have e2 : cutR l = l.take m := by unfold cutR; rw [← hasR, e, hm]; rfl
    have hex : s.extract 0 m = ⟨(cutR l).toArray⟩ := by
      have h3 : (s.extract 0 m).data = (cutR l).toArray := Array.toList_inj.1 (by rw [Lib.extract_data, hs, e2]; simp)
      cases hq : s.extract 0 m with
      | mk d => rw [hq] at h3; exact congrArg ByteArray.mk h3
    rw [← hasR, e] at H
    have hsz : s.size = m + 1 := by omega
    have hmb : (m : Int) ≤ 140737488355328 := by omega
    have hm0 : (1 : Int) ≤ (m : Int) + 1 := by omega
    have HX := Lib.hid hex
    clear hs hz e e2 hex hm h1
    go_enter Tryd.func56, Tryd.ntmps56
    go_wp2_with fail
    refine H.out.mono ?_
    rintro e w' ⟨rfl, rfl⟩
    go_wp2
    go_ret2
    exact ⟨by rw [HX.out]; rfl, rfl⟩
theorem cut_any (s : ByteArray) (l : List UInt8) (w : World) (hs : s.data.toList = l) (hn : l.length ≤ 140737488355328) :
    Calls Tryd.prog 43 #[.string s, .string ⟨#[82]⟩] w fun e w' => e = .returned (.tuple #[.string ⟨(cutR l).toArray⟩, .bool (hasR l)]) ∧ w = w' := by
  have H := Lib.hid (cutIn_any s l w hs hn)
  clear hs
  go_enter Tryd.func43, Tryd.ntmps43
  go_wp2_with fail
  refine H.out.mono ?_
  rintro e w' ⟨rfl, rfl⟩
  go_wp2
  go_ret2
  exact ⟨rfl, rfl⟩
theorem prefIn_any (b : ByteArray) (hb : b.size = 128) (hx : b.extract 0 1 = ⟨#[32]⟩) (w : World) : Calls Tryd.prog 72 #[.string b, .string ⟨#[32]⟩] w fun e w' => e = .returned (.bool true) ∧ w = w' := by
  go_enter Tryd.func72, Tryd.ntmps72
  go_wp2
  go_ret
  exact ⟨rfl, rfl⟩
theorem pref_any (b : ByteArray) (hb : b.size = 128) (hx : b.extract 0 1 = ⟨#[32]⟩) (w : World) : Calls Tryd.prog 60 #[.string b, .string ⟨#[32]⟩] w fun e w' => e = .returned (.bool true) ∧ w = w' := by
  have H := Lib.hid (prefIn_any b hb hx w)
  clear hb hx
  go_enter Tryd.func60, Tryd.ntmps60
  go_wp2_with fail
  refine H.out.mono ?_
  rintro e w' ⟨rfl, rfl⟩
  go_wp2
  go_ret
  exact ⟨rfl, rfl⟩
set_option maxRecDepth 100000 in
theorem repeat_few (n : Nat) (hn : n ≤ 4) (w : World) : Calls Tryd.prog 55 #[.string ⟨#[32]⟩, .int .i64 (n : Int)] w fun e w' => e = .returned (.string ⟨(List.replicate n 32).toArray⟩) ∧ w = w' := by
  have H := Lib.hid (mul_few n hn w)
  obtain rfl | rfl | rfl | rfl | rfl : n = 0 ∨ n = 1 ∨ n = 2 ∨ n = 3 ∨ n = 4 := by omega
  · go_enter Tryd.func55, Tryd.ntmps55
    go_wp2
    go_ret
    exact ⟨rfl, rfl⟩
  · go_enter Tryd.func55, Tryd.ntmps55
    go_wp2
    go_ret
    exact ⟨rfl, rfl⟩
  all_goals
    go_enter Tryd.func55, Tryd.ntmps55
    go_wp2_with fail
    refine H.out.mono ?_
    rintro e w' ⟨rfl, rfl⟩
    go_wp2_with fail
    refine (pref_any _ (by kernel_rfl) (by kernel_rfl) _).mono ?_
    rintro e w' ⟨rfl, rfl⟩
    go_wp2
    go_ret
    exact ⟨by kernel_rfl, rfl⟩

end E
end Go.Proofs.YtaodghaicmjadaaDoor

/- The contracts of slices.Reverse of bytes and of strings.TrimLeft of zeros. -/
import Derived.Test.YtlpekknhaaddcaaDoorPkDig
import Derived.Lib.Strings
namespace Go.Proofs.YtlpekknhaaddcaaDoor
open Go.RowKit
set_option linter.unusedVariables false
namespace E

/-- A list whose first k and last k places are exchanged. -/
def revK (l : List UInt8) (k : Nat) : List UInt8 := (List.range l.length).map fun i => if i < k ∨ l.length - k ≤ i then gt l (l.length - 1 - i) else gt l i
theorem revK_len (l : List UInt8) (k : Nat) : (revK l k).length = l.length := by simp [revK]
theorem gt_revK (l : List UInt8) (k i : Nat) (h : i < l.length) : gt (revK l k) i = if i < k ∨ l.length - k ≤ i then gt l (l.length - 1 - i) else gt l i := by
  rw [gt_lt (by rw [revK_len]; exact h)]
  simp [revK]
theorem gt_ext {l m : List UInt8} (hl : l.length = m.length) (h : ∀ i, i < l.length → gt l i = gt m i) : l = m :=
  List.ext_getElem hl fun i h1 h2 => by
    have := h i h1
    rwa [gt_lt h1, gt_lt h2] at this
theorem revK_zero (l : List UInt8) : revK l 0 = l := gt_ext (revK_len _ _) fun i hi => by
  rw [revK_len] at hi
  rw [gt_revK _ _ _ hi, if_neg (by omega)]
theorem revK_end (l : List UInt8) (k : Nat) (h : l.length ≤ 2 * k + 1) (h2 : 2 * k ≤ l.length) : revK l k = l.reverse := gt_ext (by rw [revK_len]; simp) fun i hi => by
  rw [revK_len] at hi
  have hr : gt l.reverse i = gt l (l.length - 1 - i) := by
    rw [gt_lt (by simpa using hi), gt_lt (by omega), List.getElem_reverse]
  rw [gt_revK _ _ _ hi, hr]
  by_cases hc : i < k ∨ l.length - k ≤ i
  · rw [if_pos hc]
  · rw [if_neg hc]; congr 1; omega
theorem revK_step (l : List UInt8) (k q : Nat) (h : q + 1 + k = l.length) (hkq : k < q) : ((revK l k).set k (gt (revK l k) q)).set q (gt (revK l k) k) = revK l (k + 1) := gt_ext (by simp [revK_len]) fun i hi => by
  rw [List.length_set, List.length_set, revK_len] at hi
  rw [gt_set _ _ _ _ (by rw [List.length_set, revK_len]; omega), gt_set _ _ _ _ (by rw [revK_len]; omega), gt_revK l (k + 1) i hi]
  have e1 : gt (revK l k) q = gt l q := by rw [gt_revK l k q (by omega), if_neg (by omega)]
  have e2 : gt (revK l k) k = gt l k := by rw [gt_revK l k k (by omega), if_neg (by omega)]
  rw [e1, e2]
  by_cases h1 : q = i
  · subst h1
    rw [if_pos rfl, if_pos (by omega)]; congr 1; omega
  rw [if_neg h1]
  by_cases h2 : k = i
  · subst h2
    rw [if_pos rfl, if_pos (by omega)]; congr 1; omega
  rw [if_neg h2, gt_revK l k i hi]
  by_cases hc : i < k ∨ l.length - k ≤ i
  · rw [if_pos hc, if_pos (by omega)]
  · rw [if_neg hc, if_neg (by omega)]
set_option maxRecDepth 100000 in
theorem reverse_any (g c base : Nat) (l : List UInt8) (w : World) (hl : 1 ≤ l.length) (hn : l.length ≤ 1000) (hr : Blk w base g l) :
    Calls Tryd.prog 95 #[.slice (some ⟨g, 0, none⟩) l.length c] w fun e w' => (∃ v, e = .returned v) ∧ Blk w' base g l.reverse ∧ w.grownBy w' (some g) := by
  obtain ⟨n, hln⟩ : ∃ n, n = l.length := ⟨_, rfl⟩
  rw [← hln] at hl hn ⊢
  have HL := Lib.hid hln
  rw [← revK_zero l] at hr
  clear hln
  go_enter Tryd.func95, Tryd.ntmps95
  go_wp2
  go_loopw [2, 3] (fun i j wr => ∃ k q : Nat, q + 1 + k = n ∧ k ≤ q + 1 ∧ i = .int .i64 k ∧ j = .int .i64 q ∧ Blk wr base g (revK l k) ∧ w.grownBy wr (some g)) (fun i _ _ => n - (intOf i).toNat)
  case atStart => exact ⟨0, n - 1, by omega, by omega, rfl, by congr 1; omega, hr, grown_drewN w 0 _⟩
  case round =>
    clear hr
    obtain ⟨k, q, hq, hkq, rfl, rfl, hb, hg⟩ := hrel
    have HB := Lib.hid hb
    have HG := Lib.hid hg
    clear hb hg
    by_cases hlt : k < q
    · have c1 := HB.out.cell k (by rw [revK_len, ← HL.out]; omega)
      have c2 := HB.out.cell q (by rw [revK_len, ← HL.out]; omega)
      have f1 := HB.out.frozen k
      have f2 := HB.out.frozen q
      have hne : ¬ k = q := by omega
      have hkn : k < n := by omega
      have hqn : q < n := by omega
      go_wp2
      go_region
      go_wp2
      obtain ⟨b1, g1⟩ := HB.out.stored k (gt (revK l k) q)
      obtain ⟨b2, g2⟩ := b1.stored q (gt (revK l k) k)
      rw [revK_step l k q (by rw [← HL.out]; exact hq) hlt] at b2
      refine ⟨⟨k + 1, q - 1, by omega, by omega, by go_num, by congr 1; omega, b2.below (Below.refl _ _).drew, ?_⟩, by simp [intOf]; omega⟩
      exact World.grownBy.trans (World.grownBy.trans (World.grownBy.trans HG.out g1) g2) (grown_drewN _ 1 _)
    · go_wp2
      go_end0
      have hb := HB.out
      rw [revK_end l k (by rw [← HL.out]; omega) (by rw [← HL.out]; omega)] at hb
      exact ⟨⟨_, rfl⟩, hb, HG.out⟩
theorem drop_one {l : List UInt8} {k : Nat} (h : k < l.length) : l.drop k = gt l k :: l.drop (k + 1) := by
  rw [gt_lt h]
  exact List.drop_eq_getElem_cons h
theorem trimByte_any (s : ByteArray) (x : UInt8) (l : List UInt8) (w : World) (hs : s.data.toList = l) (hn : l.length ≤ 1000) :
    Calls Tryd.prog 101 #[.string s, .int .u8 (x.toNat : Int)] w fun e w' => e = .returned (.string ⟨(l.dropWhile (· == x)).toArray⟩) ∧ w = w' := by
  go_enter Tryd.func101, Tryd.ntmps101
  go_wp2
  go_loop [0] (fun v => ∃ (k : Nat) (t : ByteArray), k ≤ l.length ∧ v = .string t ∧ t.data.toList = l.drop k ∧ l.dropWhile (· == x) = (l.drop k).dropWhile (· == x)) (fun v => (match v with | .string t => t.size | _ => 0))
  case atStart => exact ⟨0, s, Nat.zero_le _, rfl, by simpa using hs, by simp⟩
  case round =>
    clear hs
    obtain ⟨k, t, hk, rfl, ht, hd⟩ := hrel
    have htz : t.size = l.length - k := by
      have := congrArg List.length ht
      rw [List.length_drop] at this
      exact this
    by_cases hlt : k < l.length
    · have h0 : 0 < t.size := by omega
      have hst : t[0] = gt l k := by
        rw [str_at t 0 h0, ht, drop_one hlt]
        rfl
      have HD := Lib.hid hd
      have HT := Lib.hid ht
      have HZ := Lib.hid htz
      clear hd ht htz
      by_cases hx : gt l k = x
      · have h1 : (1 : Int) ≤ (t.size : Int) := by omega
        have hdr : l.dropWhile (· == x) = (l.drop (k + 1)).dropWhile (· == x) := by
          rw [HD.out, drop_one hlt, List.dropWhile_cons, if_pos (by simp [hx])]
        have hex : (t.extract 1 t.size).data.toList = l.drop (k + 1) := by
          rw [Lib.extract_data, HT.out, List.drop_drop, List.take_of_length_le (by rw [List.length_drop]; rw [HZ.out]; omega)]
        have hesz : (t.extract 1 t.size).size < t.size := by simp; omega
        have HR := Lib.hid hdr
        have HE := Lib.hid hex
        have HS := Lib.hid hesz
        have hi : t[0] = x := hst.trans hx
        clear hdr hex hesz hst hx
        go_wp2
        go_round
        case rel => exact ⟨k + 1, _, by omega, rfl, HE.out, HR.out⟩
        case measure => exact HS.out
      · have hi : ¬ ((gt l k).toNat : Int) = (x.toNat : Int) := fun hh => hx (UInt8.toNat_inj.1 (by omega))
        have hf : l.dropWhile (· == x) = t.data.toList := by
          rw [HD.out, HT.out, drop_one hlt, List.dropWhile_cons, if_neg (by simpa using hx)]
        have HF := Lib.hid hf
        clear hf hx
        go_wp2
        go_ret
        exact ⟨by rw [HF.out]; rfl, rfl⟩
    · have hf : l.dropWhile (· == x) = t.data.toList := by
        rw [hd, ht, List.drop_eq_nil_of_le (by omega)]
        rfl
      have HF := Lib.hid hf
      have hz : t.size = 0 := by omega
      clear hf hd ht htz
      go_wp2
      go_ret
      exact ⟨by rw [HF.out]; rfl, rfl⟩
set_option maxRecDepth 100000 in
theorem trimLeft_any (s : ByteArray) (l : List UInt8) (w : World) (hs : s.data.toList = l) (h0 : 1 ≤ l.length) (hn : l.length ≤ 1000) :
    Calls Tryd.prog 91 #[.string s, .string ⟨#[48]⟩] w fun e w' => e = .returned (.string ⟨(l.dropWhile (· == 48)).toArray⟩) ∧ w = w' := by
  have HB := Lib.hid (fun W => trimByte_any s 48 l W hs hn)
  have hz : s.size = l.length := by rw [← hs]; rfl
  have hne : s.toList.isEmpty = false := by
    rw [Lib.toList_data, hs]
    cases l with
    | nil => simp at h0
    | cons _ _ => rfl
  go_enter Tryd.func91, Tryd.ntmps91
  go_wp2_with fail
  refine (HB.out _).mono ?_
  rintro e w' ⟨rfl, rfl⟩
  go_wp2
  go_ret
  exact ⟨rfl, rfl⟩

end E
end Go.Proofs.YtlpekknhaaddcaaDoor

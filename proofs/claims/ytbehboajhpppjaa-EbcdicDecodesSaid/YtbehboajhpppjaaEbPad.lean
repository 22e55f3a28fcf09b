/- The contracts of Pad. -/
import Derived.Test.YtbehboajhpppjaaRows
import Derived.WalkKit
import Derived.ProofKit
import Derived.Lib.Hide
import Derived.Deep.Cut
import Derived.Deep.DeepMust
import Derived.Deep.QuietTactic
import Derived.BigQuiet
import Derived.OwnWalk
import Derived.Laws.CopyOwn
import Derived.Laws.AppendOwn
import Derived.Laws.OwnMore
import Derived.Laws.AppendOwnNone
import Derived.Deep.Draws
import Derived.Laws.IdiomStrings
import Derived.Below
import Derived.Test.YtbehboajhpppjaaEbRep
namespace Go.Proofs.Ytbehboajhpppjaa
open Go.RowKit
set_option linter.unusedVariables false
namespace E

theorem pad_arg (s : ByteArray) (n : Int) (h : n < 0 ∨ 65536 < n) (w : World) :
    Calls Try.prog 23 #[.string s, .int .i64 n] w (New w (.tuple #[.slice none 0 0, .int .i64 1])) := by
  by_cases h0 : n < 0
  · go_enter Try.func23, Try.ntmps23
    go_wp2
    go_ret2
    exact ⟨rfl, Below.refl _ _⟩
  · have h1 : 65536 < n := by omega
    go_enter Try.func23, Try.ntmps23
    go_wp2
    go_ret2
    exact ⟨rfl, Below.refl _ _⟩
theorem pad_long (s : ByteArray) (n : Int) (h0 : 0 ≤ n) (h1 : n ≤ 65536) (h : n < s.size) (hs : s.size ≤ 9223372036854775807) (w : World) :
    Calls Try.prog 23 #[.string s, .int .i64 n] w (New w (.tuple #[.slice none 0 0, .int .i64 2])) := by
  go_enter Try.func23, Try.ntmps23
  go_wp2
  go_ret2
  exact ⟨rfl, Below.refl _ _⟩
theorem pad_char (s : ByteArray) (n : Int) (h0 : 0 ≤ n) (h1 : n ≤ 65536) (h : (s.size : Int) ≤ n) (hc : s.data.toList.all isC = false) (w : World) :
    Calls Try.prog 23 #[.string s, .int .i64 n] w (New w (.tuple #[.slice none 0 0, .int .i64 20])) := by
  have HC := Lib.hid hc; clear hc
  go_enter Try.func23, Try.ntmps23
  go_wp2_with fail
  refine (encode_any s _ (by omega)).mono ?_
  rintro e w2 (⟨ha, _⟩ | ⟨_, rfl, hb⟩)
  · rw [HC.out] at ha; cases ha
  · have HB := Lib.hid hb; clear hb
    go_wp2
    go_ret2
    exact ⟨rfl, HB.out⟩

theorem rpad_arg (s : ByteArray) (n : Int) (h : n < 0 ∨ 65536 < n) (w : World) :
    Calls Try.prog 24 #[.string s, .int .i64 n] w (New w (.tuple #[.slice none 0 0, .int .i64 1])) := by
  by_cases h0 : n < 0
  · go_enter Try.func24, Try.ntmps24
    go_wp2
    go_ret2
    exact ⟨rfl, Below.refl _ _⟩
  · have h1 : 65536 < n := by omega
    go_enter Try.func24, Try.ntmps24
    go_wp2
    go_ret2
    exact ⟨rfl, Below.refl _ _⟩
theorem rpad_long (s : ByteArray) (n : Int) (h0 : 0 ≤ n) (h1 : n ≤ 65536) (h : n < s.size) (hs : s.size ≤ 9223372036854775807) (w : World) :
    Calls Try.prog 24 #[.string s, .int .i64 n] w (New w (.tuple #[.slice none 0 0, .int .i64 2])) := by
  go_enter Try.func24, Try.ntmps24
  go_wp2
  go_ret2
  exact ⟨rfl, Below.refl _ _⟩
theorem rpad_char (s : ByteArray) (n : Int) (h0 : 0 ≤ n) (h1 : n ≤ 65536) (h : (s.size : Int) ≤ n) (hc : s.data.toList.all isC = false) (w : World) :
    Calls Try.prog 24 #[.string s, .int .i64 n] w (New w (.tuple #[.slice none 0 0, .int .i64 20])) := by
  have HC := Lib.hid hc; clear hc
  go_enter Try.func24, Try.ntmps24
  go_wp2_with fail
  refine (rencode_any s _ (by omega)).mono ?_
  rintro e w2 (⟨ha, _⟩ | ⟨_, rfl, hb⟩)
  · rw [HC.out] at ha; cases ha
  · have HB := Lib.hid hb; clear hb
    go_wp2
    go_ret2
    exact ⟨rfl, HB.out⟩

/-- What a padded field is. -/
def padL (l : List UInt8) (n : Nat) : List UInt8 := l.map codeV ++ List.replicate (n - l.length) 64
theorem padL_len (l : List UInt8) (n : Nat) (h : l.length ≤ n) : (padL l n).length = n := by simp [padL]; omega
/-- What Pad leaves where nothing is wrong. -/
def PadPost (w : World) (l : List UInt8) (n : Nat) (e : Ending) (w' : World) : Prop :=
  ∃ sv, e = .returned (.tuple #[sv, .int .i64 0]) ∧ Own w' w.heap.size sv (padL l n) ∧ Below w.heap.size w w'

def RepM (w : World) (m : Nat) (e : Ending) (w' : World) : Prop :=
  ∃ g c, e = .returned (.slice (some ⟨g, 0, none⟩) m c) ∧ (∀ j, j < m → w'.cell? ⟨g, j, none⟩ = some (.int .u8 64)) ∧ Below w.heap.size w w'
theorem repeat_64 (B n : Nat) (w : World) (hn : n ≤ 8192) (hx : w.cell? ⟨B, 0, none⟩ = some (.int .u8 64)) :
    Calls Try.prog 28 #[.slice (some ⟨B, 0, none⟩) 1 1, .int .i64 (n : Int)] w (RepM w n) := by
  refine (repeat_any 64 B n w hn hx).mono ?_
  rintro e w' ⟨g, c, rfl, hc, hb⟩
  refine ⟨g, c, by rw [List.length_replicate], fun j hj => ?_, hb⟩
  have hj' : j < (List.replicate n (64 : UInt8)).length := by rw [List.length_replicate]; exact hj
  have h := hc j hj'
  rw [gt_lt hj', List.getElem_replicate] at h
  exact h

set_option maxRecDepth 100000 in
theorem pad_yes (s : ByteArray) (n : Nat) (h1 : n ≤ 65536) (hr : n ≤ s.size + 8192) (h : s.size ≤ n) (hc : s.data.toList.all isC = true) (w : World) :
    Calls Try.prog 23 #[.string s, .int .i64 (n : Int)] w (PadPost w s.data.toList n) := by
  obtain ⟨i0, hi, hz0, hz1, hz2⟩ := info_parts info5
  obtain ⟨l, hl⟩ : ∃ l, l = s.data.toList := ⟨_, rfl⟩
  have hln : l.length = s.size := by rw [hl]; rfl
  have HE := Lib.hid (encode_any s w (by omega))
  rw [← hl] at hc HE ⊢
  have HL := Lib.hid hln
  have HC := Lib.hid hc
  clear hl hln hc
  go_enter Try.func23, Try.ntmps23
  go_wp2_with fail
  refine HE.out.mono ?_
  rintro e w2 (⟨_, sv, rfl, hown, hbw⟩ | ⟨ha, _⟩)
  · unfold Own at hown
    rw [List.length_map, HL.out] at hown
    obtain ⟨m, rfl⟩ : ∃ m, n = s.size + m := ⟨n - s.size, by omega⟩
    have HB := Lib.hid hbw; clear hbw
    have HO := Lib.hid hown; clear hown
    go_wp2_with fail
    rw [show ((s.size : Int) + m - s.size) = (m : Int) from by omega]
    refine (repeat_64 w2.heap.size m _ (by omega) (by simp [go_sem])).mono ?_
    rintro e w3 ⟨g, c, rfl, hcells, hb3⟩
    have hb23 : Below w2.heap.size w2 w3 := (below_new w2 _).trans (hb3.mono (below_new w2 _).size)
    have hown := own_kept HO.out hb23
    have hbw := HB.out.trans (hb23.mono HB.out.size)
    have HX := Lib.hid hcells
    clear hb3 hb23 HO HB hcells
    obtain ⟨L, hL⟩ : ∃ L, L = List.replicate m (64 : UInt8) := ⟨_, rfl⟩
    have hLm : (bsU L).length = m * 1 := by rw [hL, bsU_len, List.length_replicate, Nat.mul_one]
    have hsrc : ∀ j u, (bsU L)[j]? = some u → w3.cell? ((⟨g, 0, none⟩ : Addr).add j) = some u := fun j u hu => by
      have hj : j < m := by
        have := (List.getElem?_eq_some_iff.1 hu).1
        rw [hLm] at this; omega
      rw [bsU_get _ j (by rw [hL, List.length_replicate]; exact hj), gt_lt (by rw [hL, List.length_replicate]; exact hj)] at hu
      subst hL
      rw [List.getElem_replicate] at hu
      rw [show ((⟨g, 0, none⟩ : Addr).add j) = ⟨g, j, none⟩ from by by_cases h : j = 0 <;> simp [Addr.add, h], HX.out j hj]
      exact hu
    have HLM := Lib.hid hLm
    have HS := Lib.hid hsrc
    have HLL := Lib.hid hL
    clear hLm hsrc hL HX
    go_wp2_with (at_builtin; refine wpList_append_own _ rfl (.tmp 26) (.tmp 32) 26 rfl (w.heap.size) 5 i0 (.int .u8 0) 1 1 Try.underlying26 hi hz0 hz1 hz2 rfl (by decide) _ (s.size) _ rfl hown ⟨g, 0, none⟩ m c (bsU L) rfl HLM.out HS.out (bsU_one _) ?c3 ?c4 ?c5 ?_)
    case c3 => unfold maxLen; omega
    case c4 => omega
    case c5 => exact hbw.size
    intro v' w4 hown' hgrow _
    have hb1 := hbw.grown hgrow hbw.size (fun r hr => (hown.lt r hr).1)
    clear hgrow hown hbw
    have HO := Lib.hid hown'
    have HB := Lib.hid hb1
    clear hown' hb1
    go_wp2
    go_ret2
    refine ⟨_, rfl, ?_, HB.out⟩
    unfold Own
    rw [padL_len _ _ (by rw [HL.out]; omega)]
    have h2 := HO.out
    rw [HLL.out] at h2
    unfold padL
    rw [HL.out, Nat.add_sub_cancel_left]
    rw [show bsU (l.map codeV ++ List.replicate m 64) = bsU (l.map codeV) ++ bsU (List.replicate m 64) from by simp [bsU]]
    exact h2
  · rw [HC.out] at ha; cases ha

theorem pad_snoc {w : World} {base k : Nat} {sv : Value} {l : List UInt8} (hk : l.length ≤ k) (h : w.ownsRow base 5 1 sv (k + 1) (bsU (padL l k) ++ [.int .u8 64])) : w.ownsRow base 5 1 sv (k + 1) (bsU (padL l (k + 1))) := by
  have e : padL l (k + 1) = padL l k ++ [64] := by
    unfold padL
    rw [Nat.succ_sub hk, List.replicate_succ', List.append_assoc]
  rw [e, bsU_snoc]
  exact h
def lenOf : Value → Nat | .slice _ n _ => n | _ => 0
theorem own_slice {w : World} {base n : Nat} {sv : Value} {xs : List Value} (h : w.ownsRow base 5 1 sv n xs) : ∃ p c, sv = .slice p n c := by
  obtain ⟨hlen, h1 | ⟨g, cap, cur, hv, _⟩⟩ := h
  · obtain ⟨h2, h3⟩ := h1
    exact ⟨none, 0, by rw [h2, h3]⟩
  · exact ⟨_, _, hv⟩
set_option maxRecDepth 100000 in
theorem rpad_yes (s : ByteArray) (n : Nat) (h1 : n ≤ 65536) (h : s.size ≤ n) (hc : s.data.toList.all isC = true) (w : World) :
    Calls Try.prog 24 #[.string s, .int .i64 (n : Int)] w (PadPost w s.data.toList n) := by
  obtain ⟨i0, hi, hz0, hz1, hz2⟩ := info_parts info5
  obtain ⟨l, hl⟩ : ∃ l, l = s.data.toList := ⟨_, rfl⟩
  have hln : l.length = s.size := by rw [hl]; rfl
  have HE := Lib.hid (rencode_any s w (by omega))
  rw [← hl] at hc HE ⊢
  have HL := Lib.hid hln
  have HC := Lib.hid hc
  clear hl hln hc
  go_enter Try.func24, Try.ntmps24
  go_wp2_with fail
  refine HE.out.mono ?_
  rintro e w2 (⟨_, sv, rfl, hown, hbw⟩ | ⟨ha, _⟩)
  · unfold Own at hown
    rw [List.length_map, HL.out] at hown
    have hown0 : w2.ownsRow w.heap.size 5 1 sv s.size (bsU (padL l s.size)) := by
      unfold padL
      rw [HL.out, Nat.sub_self]
      simpa using hown
    have HB := Lib.hid hbw; clear hbw
    have HO := Lib.hid hown0; clear hown hown0
    go_wp2
    go_loopw [6] (fun tv wr => Below w.heap.size w wr ∧ ∃ k : Nat, s.size ≤ k ∧ k ≤ n ∧ (∃ p c, tv = .slice p k c) ∧ wr.ownsRow w.heap.size 5 1 tv k (bsU (padL l k))) (fun tv _ => n - lenOf tv)
    case atStart => exact ⟨HB.out, s.size, Nat.le_refl _, h, own_slice HO.out, HO.out⟩
    case round =>
      clear HB HO
      obtain ⟨hbw, k, hk0, hk, ⟨p, c, rfl⟩, hown⟩ := hrel
      by_cases hlt : k < n
      · go_wp2_with (at_builtin; refine wpList_append_own _ rfl (.tmp 30) (.tmp 31) 26 rfl (w.heap.size) 5 i0 (.int .u8 0) 1 1 Try.underlying26 hi hz0 hz1 hz2 rfl (by decide) _ (k) _ rfl (hown.alloc _) ⟨wr.heap.size, 0, none⟩ 1 1 [.int .u8 64] rfl rfl ?c1 ?c2 ?c3 ?c4 ?c5 ?_)
        case c1 => exact cellNew _ _ _
        case c2 => intro u hu; simp at hu; subst hu; rfl
        case c3 => unfold maxLen; omega
        case c4 => omega
        case c5 => have := hbw.size; simp; omega
        intro v' w3 hown' hgrow _
        have hb1 := (hbw.alloc hbw.size _).grown hgrow (by have := hbw.size; simp; omega) (fun r hr => (hown.lt r hr).1)
        obtain ⟨p2, c2, rfl⟩ := own_slice hown'
        have HO := Lib.hid hown'; clear hown'
        clear hgrow hown hbw
        go_wp2
        go_roundw
        case rel => exact ⟨hb1, k + 1, by omega, by omega, ⟨_, _, rfl⟩, pad_snoc (by rw [HL.out]; exact hk0) HO.out⟩
        case measure => simp [lenOf]; omega
      · obtain rfl : k = n := by omega
        have HO := Lib.hid hown; clear hown
        have HB := Lib.hid hbw; clear hbw
        go_wp2
        go_ret2
        exact ⟨_, rfl, by unfold Own; rw [padL_len _ _ (by rw [HL.out]; exact h)]; exact HO.out, HB.out⟩
  · rw [HC.out] at ha; cases ha

end E
end Go.Proofs.Ytbehboajhpppjaa

/- The statement WordFieldsBack: all cases together. -/
import Derived.Test.YtkbnciekhllcpaaRows
import Derived.WalkKit
import Derived.ProofKit
import Derived.Deep.QuietTactic
import Derived.BigQuiet
import Derived.OwnWalk
import Derived.Laws.CopyOwn
import Derived.Laws.AppendOwn
import Derived.Laws.OwnMore
import Derived.Laws.AppendOwnNone
import Derived.Deep.Draws
import Derived.Lib.Hide
import Derived.Test.YtkbnciekhllcpaaBack2
import Derived.Test.YtkbnciekhllcpaaFields3
namespace Go.Proofs.Ytkbnciekhllcpaa
open Go.RowKit
set_option linter.unusedVariables false
namespace W

theorem back_long (p : Option Addr) (n c : Nat) (at' v : Int) (w : World) (hn : 4096 < n) (hm : n ≤ 9223372036854775807) :
    Calls Try.prog 9 #[.slice p n c, .int .i64 at', .int .u32 v] w fun e w' => e = .returned (.bool true) ∧ Below w.heap.size w w' := by
  go_enter Try.func9, Try.ntmps9
  go_wp2_with fail
  refine (works_any _).mono ?_
  rintro e w1 ⟨rfl, _, hb1⟩
  have HB := Lib.hid hb1; clear hb1
  go_wp2
  go_ret
  exact ⟨rfl, HB.out⟩
set_option maxRecDepth 100000 in
theorem back_none (p : Option Addr) (n c : Nat) (at' v : Int) (w : World) (hn : n ≤ 4096) (a0 : -9223372036854775808 ≤ at') (a1 : at' < 9223372036854775808) (v0 : 0 ≤ v) (v1 : v < 4294967296) (h : ¬ (0 ≤ at' ∧ at' + 2 ≤ n)) :
    Calls Try.prog 9 #[.slice p n c, .int .i64 at', .int .u32 v] w fun e w' => e = .returned (.bool true) ∧ Below w.heap.size w w' := by
  have h4 : ¬ (0 ≤ at' ∧ at' + 4 ≤ n) := by omega
  have hn' : n ≤ 9223372036854775807 := by omega
  have HPF := Lib.hid (fun W => wPutFull_no p n c at' v W v0 v1 hn' h4)
  have HPH := Lib.hid (fun W => wPutHalf_no p n c at' v W v0 v1 hn' h)
  clear h4
  by_cases h1 : at' < 0
  · clear h
    go_enter Try.func9, Try.ntmps9
    go_wp2_with fail
    refine (works_any _).mono ?_
    rintro e w1 ⟨rfl, _, hb1⟩
    have B1 := Lib.hid hb1; clear hb1
    go_wp2_with fail
    refine (HPF.out _).mono ?_
    rintro e w2 ⟨rfl, hb2, _⟩
    have B2 := Lib.hid (B1.out.trans (hb2.mono B1.out.size)); clear hb2
    go_wp2_with fail
    refine (HPH.out _).mono ?_
    rintro e w3 ⟨rfl, hb3, _⟩
    have B3 := Lib.hid (B2.out.trans (hb3.mono B2.out.size)); clear hb3
    go_wp2
    go_ret
    exact ⟨rfl, B3.out⟩
  · have h2 : (n : Int) - 2 < at' := by omega
    have h3 : (n : Int) - 4 < at' := by omega
    clear h
    go_enter Try.func9, Try.ntmps9
    go_wp2_with fail
    refine (works_any _).mono ?_
    rintro e w1 ⟨rfl, _, hb1⟩
    have B1 := Lib.hid hb1; clear hb1
    go_wp2_with fail
    refine (HPF.out _).mono ?_
    rintro e w2 ⟨rfl, hb2, _⟩
    have B2 := Lib.hid (B1.out.trans (hb2.mono B1.out.size)); clear hb2
    go_wp2_with fail
    refine (HPH.out _).mono ?_
    rintro e w3 ⟨rfl, hb3, _⟩
    have B3 := Lib.hid (B2.out.trans (hb3.mono B2.out.size)); clear hb3
    go_wp2
    go_ret
    exact ⟨rfl, B3.out⟩
theorem Rd.part {W : World} {p : Option Addr} {xs : List Int} (h : Rd W p xs) (k : Nat) : Rd W p (xs.take k) := by
  rcases h with h | ⟨B, off, hp, hc⟩
  · exact .inl (by rw [h, List.take_nil])
  · refine .inr ⟨B, off, hp, fun j hj => ?_⟩
    rw [List.length_take] at hj
    rw [hc j (by omega)]
    simp only [List.getD_eq_getElem?_getD, List.getElem?_take, if_pos (show j < k by omega)]
theorem Rd.rest {W : World} {g o : Nat} {xs : List Int} (h : Rd W (some ⟨g, o, none⟩) xs) (k : Nat) : Rd W (some ⟨g, o + k, none⟩) (xs.drop k) := by
  rcases h with h | ⟨B, off, hp, hc⟩
  · exact .inl (by rw [h]; exact List.drop_nil)
  · simp at hp
    obtain ⟨rfl, rfl⟩ := hp
    refine .inr ⟨g, o + k, rfl, fun j hj => ?_⟩
    rw [List.length_drop] at hj
    rw [Nat.add_assoc, hc (k + j) (by omega)]
    simp only [List.getD_eq_getElem?_getD, List.getElem?_drop]
theorem putL_take {l fs : List Int} {k : Nat} (h : k + fs.length ≤ l.length) : (putL l k fs).take k = l.take k := by
  unfold putL
  rw [List.take_append_of_le_length (by simp; omega), List.take_take, Nat.min_self]
theorem putL_drop {l fs : List Int} {k : Nat} (h : k + fs.length ≤ l.length) : (putL l k fs).drop (k + fs.length) = l.drop (k + fs.length) := by
  unfold putL
  rw [← List.append_assoc, List.drop_append_of_le_length (by simp; omega), List.drop_of_length_le (by simp; omega), List.nil_append]
theorem putL_at {l fs : List Int} {k j : Nat} (h : k + fs.length ≤ l.length) (hj : j < fs.length) : (putL l k fs).getD (k + j) 0 = fs.getD j 0 := by
  unfold putL
  rw [List.getD_eq_getElem?_getD, List.getElem?_append_right (by simp; omega), List.getElem?_append_left (by simp; omega)]
  rw [show k + j - (l.take k).length = j by simp; omega, List.getD_eq_getElem?_getD]
theorem parts {W : World} {B off g n k m : Nat} {l fs : List Int} (hl : l.length = n) (hm : fs.length = m) (hk : k + m ≤ n) (hb : Rd W (some ⟨B, off, none⟩) l) (hr : Rd W (some ⟨g, 0, none⟩) (putL l k fs)) :
    EqRd W (some ⟨g, 0, none⟩) (some ⟨B, off, none⟩) k ∧ EqRd W (some ⟨g, k + m, none⟩) (some ⟨B, off + (k + m), none⟩) (n - (k + m)) := by
  have hf : k + fs.length ≤ l.length := by omega
  refine ⟨⟨l.take k, by rw [List.length_take]; omega, ?_, hb.part k⟩, ⟨l.drop (k + m), by rw [List.length_drop]; omega, ?_, hb.rest (k + m)⟩⟩
  · have := hr.part k
    rw [putL_take hf] at this; exact this
  · have := hr.rest (k + m)
    rw [← hm, putL_drop hf, Nat.zero_add] at this
    rw [← hm]; exact this
theorem full_of {l : List Int} {v : Int} {k : Nat} (v0 : 0 ≤ v) (v1 : v < 4294967296) (hk : k + 4 ≤ l.length) : jn (sh (fun j => (putL l k [v / 16777216, v / 65536 % 256, v / 256 % 256, v % 256]).getD j 0) k) 4 = v := by
  have h : ∀ j, j < 4 → sh (fun j => (putL l k [v / 16777216, v / 65536 % 256, v / 256 % 256, v % 256]).getD j 0) k j = [v / 16777216, v / 65536 % 256, v / 256 % 256, v % 256].getD j 0 := fun j hj => putL_at (by show k + 4 ≤ _; omega) hj
  simp only [jn, h 0 (by omega), h 1 (by omega), h 2 (by omega), h 3 (by omega)]
  simp [List.getD_eq_getElem?_getD]
  omega
theorem half_of {l : List Int} {v : Int} {k : Nat} (v0 : 0 ≤ v) (v1 : v < 4294967296) (hk : k + 2 ≤ l.length) : jn (sh (fun j => (putL l k [v / 256 % 256, v % 256]).getD j 0) k) 2 = v % 65536 := by
  have h : ∀ j, j < 2 → sh (fun j => (putL l k [v / 256 % 256, v % 256]).getD j 0) k j = [v / 256 % 256, v % 256].getD j 0 := fun j hj => putL_at (by show k + 2 ≤ _; omega) hj
  simp only [jn, h 0 (by omega), h 1 (by omega)]
  simp [List.getD_eq_getElem?_getD]
  omega
theorem sg_half (v : Int) : sg (h16 (v % 65536)) = wrap64 (IntKind.i16.wrap (IntKind.u16.wrap v)) := by
  rw [wrap64_eq]
  unfold sg h16
  simp [IntKind.wrap, IntKind.bits, IntKind.signed]
  (repeat' split) <;> omega
theorem back_all (p : Option Addr) (n c : Nat) (l : List Int) (at' v : Int) (w : World) (hl : l.length = n) (hm : n ≤ 9223372036854775807) (hlb : IsB l) (hs : Src w p c l) (hnc : n ≤ c) (hcm : c ≤ 9223372036854775807) (a0 : -9223372036854775808 ≤ at') (a1 : at' < 9223372036854775808) (v0 : 0 ≤ v) (v1 : v < 4294967296) :
    Calls Try.prog 9 #[.slice p n c, .int .i64 at', .int .u32 v] w fun e w' => e = .returned (.bool true) ∧ Below w.heap.size w w' := by
  by_cases hn : 4096 < n
  · exact back_long p n c at' v w hn hm
  subst hl
  have hn' : l.length ≤ 4096 := by omega
  by_cases h2 : 0 ≤ at' ∧ at' + 2 ≤ l.length
  · obtain ⟨k, rfl⟩ := Int.eq_ofNat_of_zero_le h2.1
    have hk2 : k + 2 ≤ l.length := by omega
    have hrd := hs.rd
    rcases hs with ⟨h0, _⟩ | ⟨B, off, rfl, hc⟩
    · rw [h0] at hk2; simp at hk2
    have hrdW : ∀ W, Below w.heap.size w W → Rd W (some ⟨B, off, none⟩) l := fun W hb => hrd.below hb
    have HPH := Lib.hid (fun W (hb : Below w.heap.size w W) => (wPutHalf_yes (some ⟨B, off, none⟩) l.length c k l v W v0 v1 (by omega) (by omega) rfl (hrdW W hb) hk2).mono fun e w' h =>
      (⟨W.heap.size + 1, h.1, by omega, h.2.1, ownRd (ownOf _ W.heap.size _ _ _ (putL_len (by show k + 2 ≤ _; omega)) (by omega) (by omega) h.2.2) (putL_len (by show k + 2 ≤ _; omega))⟩ : Put2 W l.length (putL l k [v / 256 % 256, v % 256]) e w'))
    have HH := Lib.hid (fun W g (h : Rd W (some ⟨g, 0, none⟩) (putL l k [v / 256 % 256, v % 256])) => (by
      obtain ⟨B', off', hp, hc'⟩ := src_some (c := 0) (.inr (by
        rcases h with h | h
        · exact absurd (congrArg List.length h) (by rw [putL_len (by show k + 2 ≤ _; omega)]; intro h'; simp only [List.length_nil] at h'; omega)
        · exact h)) (by rw [putL_len (by show k + 2 ≤ _; omega)]; omega)
      simp at hp
      obtain ⟨rfl, rfl⟩ := hp
      have hh := wHalf_yes g 0 l.length l.length k (fun j => (putL l k [v / 256 % 256, v % 256]).getD j 0) W (by omega) (Nat.le_refl _) (by rw [putL_len (by show k + 2 ≤ _; omega)] at hc'; exact hc') (fun j _ => (isB_put k hlb (isB2 v0)).at j) hk2
      rw [half_of v0 v1 hk2] at hh
      exact hh : Calls Try.prog 20 #[.slice (some ⟨g, 0, none⟩) l.length l.length, .int .i64 k] W fun e w' => e = .returned (.tuple #[.int .u32 (h16 (v % 65536)), .bool true]) ∧ W = w'))
    have EH := Lib.hid (fun W g (hb : Below w.heap.size w W) (h : Rd W (some ⟨g, 0, none⟩) (putL l k [v / 256 % 256, v % 256])) => parts rfl rfl hk2 (hrdW W hb) h)
    have hh0 : 0 ≤ h16 (v % 65536) ∧ h16 (v % 65536) < 4294967296 := by unfold h16; split <;> omega
    have HSG := Lib.hid (fun W => by have h := lsigned_any (h16 (v % 65536)) hh0.1 hh0.2 W; rw [sg_half] at h; exact h)
    by_cases h4 : k + 4 ≤ l.length
    · have HPF := Lib.hid (fun W (hb : Below w.heap.size w W) => (wPutFull_yes (some ⟨B, off, none⟩) l.length c k l v W v0 v1 (by omega) (by omega) rfl (hrdW W hb) h4).mono fun e w' h =>
        (⟨W.heap.size + 1, h.1, by omega, h.2.1, ownRd (ownOf _ W.heap.size _ _ _ (putL_len (by show k + 4 ≤ _; omega)) (by omega) (by omega) h.2.2) (putL_len (by show k + 4 ≤ _; omega))⟩ : Put2 W l.length (putL l k [v / 16777216, v / 65536 % 256, v / 256 % 256, v % 256]) e w'))
      have HF := Lib.hid (fun W g (h : Rd W (some ⟨g, 0, none⟩) (putL l k [v / 16777216, v / 65536 % 256, v / 256 % 256, v % 256])) => (by
        obtain ⟨B', off', hp, hc'⟩ := src_some (c := 0) (.inr (by
          rcases h with h | h
          · exact absurd (congrArg List.length h) (by rw [putL_len (by show k + 4 ≤ _; omega)]; intro h'; simp only [List.length_nil] at h'; omega)
          · exact h)) (by rw [putL_len (by show k + 4 ≤ _; omega)]; omega)
        simp at hp
        obtain ⟨rfl, rfl⟩ := hp
        have hh := wFull_yes g 0 l.length l.length k (fun j => (putL l k [v / 16777216, v / 65536 % 256, v / 256 % 256, v % 256]).getD j 0) W (by omega) (Nat.le_refl _) (by rw [putL_len (by show k + 4 ≤ _; omega)] at hc'; exact hc') (fun j _ => (isB_put k hlb (isB4 v0 v1)).at j) h4
        rw [full_of v0 v1 h4] at hh
        exact hh : Calls Try.prog 22 #[.slice (some ⟨g, 0, none⟩) l.length l.length, .int .i64 k] W fun e w' => e = .returned (.tuple #[.int .u32 v, .bool true]) ∧ W = w'))
      have EF := Lib.hid (fun W g (hb : Below w.heap.size w W) (h : Rd W (some ⟨g, 0, none⟩) (putL l k [v / 16777216, v / 65536 % 256, v / 256 % 256, v % 256])) => parts rfl rfl h4 (hrdW W hb) h)
      rcases Nat.lt_or_ge (k + 4) l.length with hk | hk
      · exact back_both_lt B off l.length c k _ _ v _ w hn' hnc hcm v0 v1 hh0.1 hh0.2 hk HPF HF EF HPH HH EH HSG
      · rcases Nat.lt_or_ge l.length c with hlc | hlc
        · exact back_both_el B off l.length c k _ _ v _ w hn' hnc hcm v0 v1 hh0.1 hh0.2 (by omega) hlc HPF HF EF HPH HH EH HSG
        · obtain rfl : c = l.length := by omega
          exact back_both_ec B off l.length k _ _ v _ w hn' hm v0 v1 hh0.1 hh0.2 h4 hk HPF HF EF HPH HH EH HSG
    · have h4' : ¬ (0 ≤ (k : Int) ∧ (k : Int) + 4 ≤ l.length) := by omega
      have HPF := Lib.hid (fun W (_ : Below w.heap.size w W) => (wPutFull_no (some ⟨B, off, none⟩) l.length c k v W v0 v1 (by omega) h4').mono fun e w' h => (⟨h.1, h.2.1⟩ : e = .returned (.tuple #[.slice none 0 0, .bool false]) ∧ Below W.heap.size W w'))
      rcases Nat.lt_or_ge (k + 2) l.length with hk | hk
      · exact back_half_lt B off l.length c k _ [] v _ w hn' hnc hcm v0 v1 hh0.1 hh0.2 hk (by omega) HPF HPH HH EH HSG
      · rcases Nat.lt_or_ge l.length c with hlc | hlc
        · exact back_half_el B off l.length c k _ [] v _ w hn' hnc hcm v0 v1 hh0.1 hh0.2 (by omega) hlc (by omega) HPF HPH HH EH HSG
        · obtain rfl : c = l.length := by omega
          exact back_half_ec B off l.length k _ [] v _ w hn' hm v0 v1 hh0.1 hh0.2 hk2 hk (by omega) HPF HPH HH EH HSG
  · exact back_none p l.length c at' v w hn' a0 a1 v0 v1 h2

end W
end Go.Proofs.Ytkbnciekhllcpaa

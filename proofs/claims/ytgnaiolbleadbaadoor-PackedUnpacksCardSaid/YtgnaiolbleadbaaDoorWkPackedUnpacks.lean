/- The walk of the statement PackedUnpacks: it answers true, and below its own memory nothing turns. -/
import Derived.Test.YtgnaiolbleadbaaDoorPkWorks
import Derived.Test.YtgnaiolbleadbaaDoorPkPure
import Derived.Test.YtgnaiolbleadbaaDoorPkLaid
namespace Go.Proofs.YtgnaiolbleadbaaDoor.packedUnpacks
open Go.ChangeShapes Go.WideShapes Go.ChangeAt Go.RowKit Go.ChangeMaps E
set_option linter.unusedVariables false

theorem wrap_u8 (x : UInt8) : wrap64 (x.toNat : Int) = (x.toNat : Int) := by
  have := x.toNat_lt
  unfold wrap64
  omega
theorem part_of (x : UInt8) (j : Nat) (hj : 1 ≤ j) (hj2 : j ≤ 16) : ∃ q : Nat, q < j ∧ (wrap64 (x.toNat : Int)).tmod (j : Int) = (q : Int) := by
  rw [wrap_u8]
  have h1 := Int.tmod_nonneg (a := (x.toNat : Int)) (j : Int) (by omega)
  have h2 := Int.tmod_lt_of_pos (x.toNat : Int) (show 0 < (j : Int) by omega)
  obtain ⟨q, hq⟩ := Int.eq_ofNat_of_zero_le h1
  exact ⟨q, by omega, hq⟩
theorem wrap_small (m : Int) (h0 : 0 ≤ m) (h : m < 1000000) : wrap64 m = m := by
  unfold wrap64
  omega
set_option maxRecDepth 100000 in
theorem walk (p : Option Addr) (c : Nat) (l : List UInt8) (hc : l.length ≤ c) (hcc : c ≤ 9223372036854775807) (hnil : p = none → c = 0) (x : UInt8) (w : World) (hg : Sg w) (hr : Rd w p l) :
    Calls Tryd.prog 7 #[.slice p l.length c, .int .u8 (x.toNat : Int)] w (New w (.bool true)) := by
  by_cases h8 : 8 < l.length
  · have hll : (l.take 8).length = 8 := by simp; omega
    have hrl : Rd w p (l.take 8) := hr.take 8
    obtain ⟨q, hq, hq2⟩ := part_of x 2 (by omega) (by omega)
    obtain ⟨m, hm⟩ : ∃ m : Nat, m = 15 + q := ⟨_, rfl⟩
    have hM : wrap64 (15 + (wrap64 (x.toNat : Int)).tmod 2) = (m : Int) := by
      have e : ((2 : Nat) : Int) = 2 := rfl
      rw [e] at hq2
      rw [hq2, wrap_small _ (by omega) (by omega)]; omega
    have hm1 : 15 ≤ m := by omega
    have hm2 : m ≤ 16 := by omega
    clear hq2 hm hq
    have HG := Lib.hid hg
    have HR := Lib.hid hrl
    have hu : ∀ W, Rd W p (l.take 8) → Calls Tryd.prog 20 #[.slice p 8 c, .int .i64 (m : Int)] W (FPost W m (unpackL (l.take 8) m)) := fun W h => by
      have := MvPost.yes (n := m) (unpack_any p c (m : Int) (l.take 8) W h) (by unfold szB; rw [decide_eq_true (by omega), decide_eq_true (by omega)]; rfl) rfl
      rw [hll] at this
      exact this
    have hp : ∀ g W, Rd W (some ⟨g, 0, none⟩) (unpackL (l.take 8) m) → Calls Tryd.prog 18 #[.slice (some ⟨g, 0, none⟩) m m, .int .i64 8] W (FPost W 8 (l.take 8)) := fun g W h => by
      have hpu := pack_unpack (l.take 8) m (by omega) (by omega)
      rw [hll] at hpu
      have h2 := MvPost.yes (n := 8) (m := (l.take 8)) (pack_any _ m ((8 : Nat) : Int) _ W h) (by unfold szB; rw [unpackL_len, decide_eq_true (by omega), decide_eq_true (by omega)]; rfl) (by rw [Int.toNat_natCast]; exact hpu)
      rw [unpackL_len] at h2
      exact h2
    have hs : ∀ g W, Rd W (some ⟨g, 0, none⟩) (l.take 8) → Rd W p (l.take 8) → Calls Tryd.prog 26 #[.slice (some ⟨g, 0, none⟩) 8 8, .slice p 8 c] W fun e w' => e = .returned (.bool true) ∧ W = w' := fun g W h h2 => by
      have := same_true (some ⟨g, 0, none⟩) p 8 c (l.take 8) W h h2
      rw [hll] at this
      exact this
    have HU := Lib.hid hu
    have HP := Lib.hid hp
    have HS := Lib.hid hs
    clear hg hr hrl hu hp hs hll
    go_enter Tryd.func7, Tryd.ntmps7
    go_wp2_with fail
    refine (works_any w HG.out).mono ?_
    rintro e w1 ⟨rfl, hb1⟩
    have HB1 := Lib.hid hb1
    clear hb1
    go_wp2_with fail
    refine (HU.out _ (HR.out.below HB1.out)).mono ?_
    rintro e w2 ⟨g, rfl, hq, hb⟩
    have HB2 := Lib.hid (bel0 HB1.out hb)
    have HQ := Lib.hid hq
    clear hb hq
    go_wp2_with fail
    refine (HP.out _ _ HQ.out).mono ?_
    rintro e w3 ⟨g2, rfl, hq2, hb⟩
    have HB3 := Lib.hid (bel0 HB2.out hb)
    have HQ2 := Lib.hid hq2
    clear hb hq2
    go_wp2_with fail
    refine (HS.out _ _ HQ2.out (HR.out.below HB3.out)).mono ?_
    rintro e w4 ⟨rfl, rfl⟩
    go_wp2
    go_ret
    exact ⟨rfl, HB3.out⟩
  by_cases h0 : l.length = 0
  · rw [h0] at hc ⊢
    obtain rfl : l = [] := List.length_eq_zero_iff.1 h0
    have HU := Lib.hid (fun n W => (unpack_any p c n [] W (.inl rfl) : Calls Tryd.prog 20 #[.slice p 0 c, .int .i64 n] W _))
    have HG := Lib.hid hg
    clear hg hr h0
    go_enter Tryd.func7, Tryd.ntmps7
    go_wp2_with fail
    refine (works_any w HG.out).mono ?_
    rintro e w1 ⟨rfl, hb1⟩
    have HB1 := Lib.hid hb1
    clear hb1
    go_wp2_with fail
    refine (HU.out _ _).mono ?_
    rintro e w2 (⟨ho, _⟩ | ⟨_, rfl, hb⟩)
    · cases ho
    have HB2 := Lib.hid (bel0 HB1.out hb)
    clear hb
    go_wp2
    go_ret
    exact ⟨rfl, HB2.out⟩
  · obtain ⟨k, hk⟩ : ∃ k, k = l.length := ⟨_, rfl⟩
    have hll : l.length = k := hk.symm
    have hrl : Rd w p l := hr
    obtain ⟨q, hq, hq2⟩ := part_of x (17 - (2 * k - 1)) (by omega) (by omega)
    obtain ⟨m, hm⟩ : ∃ m : Nat, m = 2 * k - 1 + q := ⟨_, rfl⟩
    have e : ((17 - (2 * k - 1) : Nat) : Int) = 17 - (2 * (k : Int) - 1) := by omega
    rw [e] at hq2
    have hM : wrap64 (2 * (k : Int) - 1 + (wrap64 (x.toNat : Int)).tmod (17 - (2 * (k : Int) - 1))) = (m : Int) := by
      rw [hq2, wrap_small _ (by omega) (by omega)]; omega
    have hm1 : 2 * k - 1 ≤ m := by omega
    have hm2 : m ≤ 16 := by omega
    have hk1 : 1 ≤ k := by omega
    have hk8 : k ≤ 8 := by omega
    clear hq2 e hm hq
    rw [← hk] at hc h8 h0 ⊢
    clear hk
    have HG := Lib.hid hg
    have HR := Lib.hid hrl
    have hu : ∀ W, Rd W p l → Calls Tryd.prog 20 #[.slice p k c, .int .i64 (m : Int)] W (FPost W m (unpackL l m)) := fun W h => by
      have := MvPost.yes (n := m) (unpack_any p c (m : Int) l W h) (by unfold szB; rw [decide_eq_true (by omega), decide_eq_true (by omega)]; rfl) rfl
      rw [hll] at this
      exact this
    have hp : ∀ g W, Rd W (some ⟨g, 0, none⟩) (unpackL l m) → Calls Tryd.prog 18 #[.slice (some ⟨g, 0, none⟩) m m, .int .i64 k] W (FPost W k l) := fun g W h => by
      have hpu := pack_unpack l m (by omega) (by omega)
      rw [hll] at hpu
      have h2 := MvPost.yes (n := k) (m := l) (pack_any _ m ((k : Nat) : Int) _ W h) (by unfold szB; rw [unpackL_len, decide_eq_true (by omega), decide_eq_true (by omega)]; rfl) (by rw [Int.toNat_natCast]; exact hpu)
      rw [unpackL_len] at h2
      exact h2
    have hs : ∀ g W, Rd W (some ⟨g, 0, none⟩) l → Rd W p l → Calls Tryd.prog 26 #[.slice (some ⟨g, 0, none⟩) k k, .slice p k c] W fun e w' => e = .returned (.bool true) ∧ W = w' := fun g W h h2 => by
      have := same_true (some ⟨g, 0, none⟩) p k c l W h h2
      rw [hll] at this
      exact this
    have HU := Lib.hid hu
    have HP := Lib.hid hp
    have HS := Lib.hid hs
    clear hg hr hrl hu hp hs hll
    go_enter Tryd.func7, Tryd.ntmps7
    go_wp2_with fail
    refine (works_any w HG.out).mono ?_
    rintro e w1 ⟨rfl, hb1⟩
    have HB1 := Lib.hid hb1
    clear hb1
    go_wp2_with fail
    refine (HU.out _ (HR.out.below HB1.out)).mono ?_
    rintro e w2 ⟨g, rfl, hq, hb⟩
    have HB2 := Lib.hid (bel0 HB1.out hb)
    have HQ := Lib.hid hq
    clear hb hq
    go_wp2_with fail
    refine (HP.out _ _ HQ.out).mono ?_
    rintro e w3 ⟨g2, rfl, hq2, hb⟩
    have HB3 := Lib.hid (bel0 HB2.out hb)
    have HQ2 := Lib.hid hq2
    clear hb hq2
    go_wp2_with fail
    refine (HS.out _ _ HQ2.out (HR.out.below HB3.out)).mono ?_
    rintro e w4 ⟨rfl, rfl⟩
    go_wp2
    go_ret
    exact ⟨rfl, HB3.out⟩

end Go.Proofs.YtgnaiolbleadbaaDoor.packedUnpacks

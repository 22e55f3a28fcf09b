/- The walk of the statement PackedZones: it answers true, and below its own memory nothing turns. -/
import Derived.Test.YtgnaiolbleadbaaDoorPkWorks
import Derived.Test.YtgnaiolbleadbaaDoorPkPure
import Derived.Test.YtgnaiolbleadbaaDoorPkLaid
namespace Go.Proofs.YtgnaiolbleadbaaDoor.packedZones
open Go.ChangeShapes Go.WideShapes Go.ChangeAt Go.RowKit Go.ChangeMaps E
set_option linter.unusedVariables false

theorem wrap_u8 (x : UInt8) : wrap64 (x.toNat : Int) = (x.toNat : Int) := by
  have := x.toNat_lt
  unfold wrap64
  omega
theorem part_of (x : UInt8) (j : Nat) (hj : 1 ≤ j) (hj2 : j ≤ 16) : ∃ q : Nat, q < j ∧ (wrap64 (x.toNat : Int)).tmod (j : Int) = (q : Int) := by
  rw [wrap_u8]
  have h1 := Int.tmod_nonneg (a := (x.toNat : Int)) (j : Int) (by omega)
  have h2 := Int.tmod_lt_of_pos (x.toNat : Int) (show 0 < (j : Int) by omega)
  obtain ⟨q, hq⟩ := Int.eq_ofNat_of_zero_le h1
  exact ⟨q, by omega, hq⟩
theorem wrap_small (m : Int) (h0 : 0 ≤ m) (h : m < 1000000) : wrap64 m = m := by
  unfold wrap64
  omega
set_option maxRecDepth 100000 in
theorem walk (s : ByteArray) (hs0 : s.size ≤ 9223372036854775807) (neg : Bool) (x y : UInt8) (w : World) (hg : Sg w) :
    Calls Tryd.prog 8 #[.string s, .bool neg, .int .u8 (x.toNat : Int), .int .u8 (y.toNat : Int)] w (New w (.bool true)) := by
  have HG := Lib.hid hg
  obtain ⟨k, hk⟩ : ∃ k : Nat, 1 + (x.toNat : Int) % 16 = (k : Int) := ⟨1 + x.toNat % 16, by push_cast; rfl⟩
  have hk1 : 1 ≤ k := by omega
  have hk2 : k ≤ 16 := by omega
  obtain ⟨q, hq, hq2⟩ := part_of y (17 - (k / 2 + 1)) (by omega) (by omega)
  obtain ⟨n, hn⟩ : ∃ n : Nat, n = k / 2 + 1 + q := ⟨_, rfl⟩
  have e : ((17 - (k / 2 + 1) : Nat) : Int) = 17 - ((k : Int) / 2 + 1) := by omega
  rw [e] at hq2
  have hN : wrap64 ((k : Int) / 2 + 1 + (wrap64 (y.toNat : Int)).tmod (17 - ((k : Int) / 2 + 1))) = (n : Int) := by
    rw [hq2, wrap_small _ (by omega) (by omega)]; omega
  have hn1 : k / 2 + 1 ≤ n := by omega
  have hn2 : n ≤ 16 := by omega
  clear hg hn hq hq2 e
  go_enter Tryd.func8, Tryd.ntmps8
  go_wp2_with fail
  refine (works_any w HG.out).mono ?_
  rintro e w1 ⟨rfl, hb1⟩
  have HB1 := Lib.hid hb1
  clear hb1
  go_wp2_with fail
  refine (number_any neg s _).mono ?_
  rintro e w2 ⟨t, rfl, hok, hb⟩
  have HB2 := Lib.hid (bel0 HB1.out hb)
  have HD2 := Lib.hid (DecB.new w2 neg t)
  obtain ⟨dl, hdl⟩ : ∃ dl, t.data.toList = dl := ⟨_, rfl⟩
  rw [hdl] at hok
  have htl : t = ⟨dl.toArray⟩ := by rw [← hdl]
  have hlt : dl.length = t.size := by rw [← hdl]; rfl
  have hz := fun W => EnPost.yes' (n := k) (m := zonL neg dl k) (ov := decide (k < dl.length)) (pzon_any neg t (k : Int) dl W hdl) (by unfold enB; rw [hok, decide_eq_true (by omega)]; rfl) rfl rfl
  have hpk : ∀ g W, Rd W (some ⟨g, 0, none⟩) (zonL neg dl k) → Calls Tryd.prog 18 #[.slice (some ⟨g, 0, none⟩) k k, .int .i64 (n : Int)] W (FPost W n (packL (zonL neg dl k) n)) := fun g W h => by
    have h2 := MvPost.yes (n := n) (m := packL (zonL neg dl k) n) (pack_any _ k (n : Int) _ W h) (by unfold szB; rw [zonL_len, decide_eq_true (by omega), decide_eq_true (by omega)]; rfl) rfl
    rw [zonL_len] at h2
    exact h2
  have hdd : dl.length ≤ k → ∀ g W, Rd W (some ⟨g, 0, none⟩) (packL (zonL neg dl k) n) → Sg W → Calls Tryd.prog 25 #[.slice (some ⟨g, 0, none⟩) n n] W (New W (.tuple #[.agg #[.bool neg, .string t], .bool true])) := fun hle g W h hg => by
    obtain ⟨f1, f2, f3⟩ := dec_field (bs := packL (zonL neg dl k) n) (dl := dl) (neg := neg) (by rw [packL_len]; omega) (by rw [packL_len]; omega) hok
      (by rw [nib_pack _ _ _ (by omega), if_pos rfl, nib_zon _ _ _ _ (by omega), if_pos rfl])
      (fun i hi => by
        rw [packL_len] at hi
        rw [nib_pack _ _ _ (by omega), if_neg (by omega), zonL_len]
        by_cases hik : 1 + i - 1 < k
        · rw [if_pos hik, nib_zon _ _ _ _ (by omega), if_neg (by omega), if_pos (by omega)]
          congr 1; omega
        · rw [if_neg hik, List.getD_eq_getElem?_getD, List.getElem?_eq_none (by rw [fg_len]; omega)]; rfl)
    have h2 := decode_any (some ⟨g, 0, none⟩) n _ W h hg
    rw [packL_len] at h2
    refine h2.mono fun e w' ⟨he, hb⟩ => ⟨?_, hb⟩
    rw [he, f1, f2, f3 (by rw [packL_len]; omega), ← htl]
  have HZ := Lib.hid hz
  have HP := Lib.hid hpk
  have HDD := Lib.hid hdd
  have HLT := Lib.hid hlt
  rw [hlt] at hz
  clear hb hz hpk hdd hok hdl htl hlt
  go_wp2_with fail
  refine (HZ.out _).mono ?_
  rintro e w3 ⟨g, rfl, hr, hb⟩
  have HB3 := Lib.hid (bel1 HB2.out hb)
  have HD3 := Lib.hid (HD2.out.below hb)
  have HR := Lib.hid hr
  obtain ⟨⟨c1, c2⟩, _⟩ := (HD2.out.below hb).cells
  have HG3 := Lib.hid (HG.out.below HB3.out)
  rw [HLT.out]
  clear hb hr HB1 HB2 HD2 HZ
  by_cases hov : k < t.size
  · rw [decide_eq_true hov]
    go_wp2
    go_ret
    exact ⟨rfl, HB3.out⟩
  · rw [decide_eq_false hov]
    have hov2 : dl.length ≤ k := by rw [HLT.out]; omega
    have hd2 := HDD.out hov2
    have HD2 := Lib.hid hd2
    clear hd2 hov2 HDD
    go_wp2_with fail
    refine (HP.out _ _ HR.out).mono ?_
    rintro e w4 ⟨g2, rfl, hr, hb⟩
    have HB4 := Lib.hid (bel0 HB3.out hb)
    have HD4 := Lib.hid (HD3.out.below hb)
    have HR4 := Lib.hid hr
    clear hb hr c1 c2
    go_wp2_with fail
    refine (HD2.out _ _ HR4.out (HG.out.below HB4.out)).mono ?_
    rintro e w5 ⟨rfl, hb⟩
    have HB5 := Lib.hid (bel0 HB4.out hb)
    have hd5 := HD4.out.below hb
    obtain ⟨⟨c1, c2⟩, _⟩ := (hd5.below (below_new w5 (.cells #[.bool neg, .string t] 26))).cells
    clear hb hd5
    have HB6 := Lib.hid (bel0 HB5.out (below_new w5 (.cells #[.bool neg, .string t] 26)))
    go_wp2
    go_ret
    exact ⟨by simp, HB6.out⟩

end Go.Proofs.YtgnaiolbleadbaaDoor.packedZones

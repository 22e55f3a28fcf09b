/- The walk of the statement IsaNames: it answers true, and below its own memory nothing turns. -/
import Derived.Test.YtaodghaicmjadaaDoorIsOpen
import Derived.Test.YtaodghaicmjadaaDoorIsRFind
import Derived.Test.YtaodghaicmjadaaDoorIsRMask
namespace Go.Proofs.YtaodghaicmjadaaDoor.isaNames
open Go.RowKit Go.Shelf E
set_option linter.unusedVariables false

set_option maxRecDepth 100000 in
set_option maxHeartbeats 1000000 in
theorem walk (op : Int) (h1 : -9223372036854775808 ≤ op) (h2 : op < 9223372036854775808) (s : ByteArray) (hn : s.data.toList.length ≤ 140737488351232) (w : World) : Calls Tryd.prog 6 #[.int .i64 op, .string s] w (New w (.bool true)) := by
  obtain ⟨l, hl⟩ : ∃ l, s.data.toList = l := ⟨_, rfl⟩
  rw [hl] at hn
  have HF := Lib.hid (fun W => find_any s l W hl (Nat.le_trans hn (by decide)))
  have HG := Lib.hid (fun W => find_ref s l W hl)
  have HM := Lib.hid (fun W => mask_any s l W hl (Nat.le_trans hn (by decide)))
  have HK := Lib.hid (fun W => mask_ref s l W hl)
  have HN := Lib.hid (fun W => name_any op W)
  have HO := Lib.hid (fun W => name_ref op W)
  have HP := Lib.hid (fun W => priv_any op W)
  have HR := Lib.hid (fun W => priv_ref op W)
  rw [pv_eq] at HP
  unfold findV at HF HG
  unfold mskV at HM HK
  unfold nameV at HN HO
  clear h1 h2 hn hl
  generalize (opO (ixN l) : Int) = x1 at HF HG
  generalize (ixN l).isSome = b1 at HF HG
  generalize (((mskI l).map (·.1)).getD 0 : Nat) = x2 at HM HK
  generalize ((mskI l).map (·.2)).getD false = b2 at HM HK
  generalize (mskI l).isSome = b3 at HM HK
  generalize (⟨(nmO (ixC op)).toArray⟩ : ByteArray) = t at HN HO
  generalize pvI op = b4 at HP HR
  go_enter Tryd.func6, Tryd.ntmps6
  go_wp2_with fail
  refine (HF.out _).mono ?_
  rintro e w1 ⟨rfl, hb⟩
  have HB1 := Lib.hid hb
  clear hb
  go_wp2_with fail
  refine (HG.out _).mono ?_
  rintro e w2 ⟨rfl, hb⟩
  have HB2 := Lib.hid (bel0 HB1.out hb)
  clear hb HB1
  go_wp2_with fail
  refine (HM.out _).mono ?_
  rintro e w3 ⟨rfl, rfl⟩
  go_wp2_with fail
  refine (HK.out _).mono ?_
  rintro e w4 ⟨rfl, hb⟩
  have HB4 := Lib.hid (bel0 HB2.out hb)
  clear hb HB2
  go_wp2_with fail
  refine (HN.out _).mono ?_
  rintro e w5 ⟨rfl, hb⟩
  have HB5 := Lib.hid (bel0 HB4.out hb)
  clear hb HB4
  go_wp2_with fail
  refine (HO.out _).mono ?_
  rintro e w6 ⟨rfl, hb⟩
  have HB6 := Lib.hid (bel0 HB5.out hb)
  clear hb HB5
  go_wp2_with fail
  refine (HP.out _).mono ?_
  rintro e w7 ⟨rfl, hb⟩
  have HB7 := Lib.hid (bel0 HB6.out hb)
  clear hb HB6
  go_wp2_with fail
  refine (HR.out _).mono ?_
  rintro e w8 ⟨rfl, rfl⟩
  go_wp2_with fail
  refine (works_any _).mono ?_
  rintro e w9 ⟨rfl, hb⟩
  have HB9 := Lib.hid (bel0 HB7.out hb)
  clear hb HB7
  go_wp2
  go_ret
  exact ⟨rfl, HB9.out⟩
end Go.Proofs.YtaodghaicmjadaaDoor.isaNames

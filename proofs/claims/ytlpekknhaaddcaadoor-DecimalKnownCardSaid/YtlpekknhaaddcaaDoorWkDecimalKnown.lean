/- The walk of the statement DecimalKnown: it answers true, and below its own memory nothing turns. -/
import Derived.Test.YtlpekknhaaddcaaDoorDcWorks
import Derived.Test.YtlpekknhaaddcaaDoorDcLaid
namespace Go.Proofs.YtlpekknhaaddcaaDoor.decimalKnown
open Go.ChangeShapes Go.WideShapes Go.ChangeAt Go.RowKit Go.ChangeMaps E
set_option linter.unusedVariables false

theorem kn_add (w : World) (p q : Option Addr) (c d : Nat) (hp : Rd w p [153, 156]) (hq : Rd w q [28]) (hg : Sg w) : Calls Tryd.prog 13 #[.slice p 2 c, .slice q 1 d] w (R3Post w ([0, 12], 3, 10)) := by
  have h := padd_any p q c d [153, 156] [28] w hp hq hg
  rw [show addL [153, 156] [28] = ([0, 12], 3, 10) by decide +kernel] at h
  exact h
theorem kn_zap (w : World) (q : Option Addr) (d : Nat) (hq : Rd w q [1, 13]) (hg : Sg w) : Calls Tryd.prog 17 #[.int .i64 1, .slice q 2 d] w (R3Post w ([13], 3, 10)) := by
  have h := pzap_any 1 q d [1, 13] w hq hg
  rw [show zapL 1 [1, 13] = ([13], 3, 10) by decide +kernel] at h
  exact h
theorem kn_mul (w : World) (p q : Option Addr) (hp : Rd w p [0, 1, 44]) (hq : Rd w q [61]) (hg : Sg w) : Calls Tryd.prog 23 #[.slice p 3 3, .slice q 1 1] w (R2Post w ([0, 3, 109], 0)) := by
  have h := pmul_any p q 3 1 [0, 1, 44] [61] w (by simp) (by omega) (by simp) hp hq hg
  rw [show mulL [0, 1, 44] [61] = ([0, 3, 109], 0) by decide +kernel] at h
  exact h
theorem kn_sh (w : World) (p : Option Addr) (c : Nat) (hp : Rd w p [18, 92]) (hg : Sg w) : Calls Tryd.prog 27 #[.slice p 2 c, .int .i64 (-1), .int .i64 5] w (R3Post w ([1, 60], 2, 0)) := by
  have h := pshift_any p c [18, 92] (-1) 5 w (by omega) (by omega) hp hg
  rw [show shL [18, 92] (-1) 5 = ([1, 60], 2, 0) by decide +kernel] at h
  exact h
theorem kn_tb (w : World) (p : Option Addr) (c : Nat) (hp : Rd w p [0, 0, 0, 0, 0, 0, 18, 61]) (hg : Sg w) : Calls Tryd.prog 29 #[.slice p 8 c] w (TbPost w (4294967173, 0)) := by
  have h := ptobin_any p c [0, 0, 0, 0, 0, 0, 18, 61] w (by simp) hp hg
  rw [show tbL [0, 0, 0, 0, 0, 0, 18, 61] = (4294967173, 0) by decide +kernel] at h
  exact h
set_option maxRecDepth 100000 in
set_option maxHeartbeats 4000000 in
theorem walk (w : World) (hg : Sg w) : Calls Tryd.prog 9 #[] w (New w (.bool true)) := by
  have HG := Lib.hid hg
  clear hg
  go_enter Tryd.func9, Tryd.ntmps9
  have HC1 := Lib.hid (kn_add _ _ _ 2 1 ((rd_new w [153, 156] 5).below (below_new _ _)) (rd_second w (.cells (bsU [153, 156]).toArray 5) [28]) (HG.out.below (bel0 (Below.refl _ _) (below2 w (.cells (bsU [153, 156]).toArray 5) (.cells (bsU [28]).toArray 5)))))
  go_wp2_with fail
  refine (HC1.out).mono ?_
  rintro e w1 ⟨rv, rfl, hsv, hb⟩
  have HB1 := Lib.hid (bel0 (bel0 (Below.refl _ _) (below2 w (.cells (bsU [153, 156]).toArray 5) (.cells (bsU [28]).toArray 5))) hb)
  have Sr1 := Lib.hid hsv
  clear hb hsv HC1
  have HC2 := Lib.hid (kn_zap _ _ 2 (rd_new w1 [1, 13] 5) (HG.out.below (bel0 HB1.out (below_new w1 (.cells (bsU [1, 13]).toArray 5)))))
  go_wp2_with fail
  refine (HC2.out).mono ?_
  rintro e w2 ⟨zv, rfl, hsv, hb⟩
  have HB2 := Lib.hid (bel0 (bel0 HB1.out (below_new w1 (.cells (bsU [1, 13]).toArray 5))) hb)
  have Sr2 := Lib.hid (Sr1.out.below (bel0 (below_new w1 (.cells (bsU [1, 13]).toArray 5)) hb))
  have Sz2 := Lib.hid hsv
  clear hb hsv HC2 HB1 Sr1
  have HC3 := Lib.hid (kn_mul _ _ _ ((rd_new w2 [0, 1, 44] 5).below (below_new _ _)) (rd_second w2 (.cells (bsU [0, 1, 44]).toArray 5) [61]) (HG.out.below (bel0 HB2.out (below2 w2 (.cells (bsU [0, 1, 44]).toArray 5) (.cells (bsU [61]).toArray 5)))))
  go_wp2_with fail
  refine (HC3.out).mono ?_
  rintro e w3 ⟨mv, rfl, hsv, hb⟩
  have HB3 := Lib.hid (bel0 (bel0 HB2.out (below2 w2 (.cells (bsU [0, 1, 44]).toArray 5) (.cells (bsU [61]).toArray 5))) hb)
  have Sr3 := Lib.hid (Sr2.out.below (bel0 (below2 w2 (.cells (bsU [0, 1, 44]).toArray 5) (.cells (bsU [61]).toArray 5)) hb))
  have Sz3 := Lib.hid (Sz2.out.below (bel0 (below2 w2 (.cells (bsU [0, 1, 44]).toArray 5) (.cells (bsU [61]).toArray 5)) hb))
  have Sm3 := Lib.hid hsv
  clear hb hsv HC3 HB2 Sr2 Sz2
  have HC4 := Lib.hid (kn_sh _ _ 2 (rd_new w3 [18, 92] 5) (HG.out.below (bel0 HB3.out (below_new w3 (.cells (bsU [18, 92]).toArray 5)))))
  go_wp2_with fail
  refine (HC4.out).mono ?_
  rintro e w4 ⟨sv, rfl, hsv, hb⟩
  have HB4 := Lib.hid (bel0 (bel0 HB3.out (below_new w3 (.cells (bsU [18, 92]).toArray 5))) hb)
  have Sr4 := Lib.hid (Sr3.out.below (bel0 (below_new w3 (.cells (bsU [18, 92]).toArray 5)) hb))
  have Sz4 := Lib.hid (Sz3.out.below (bel0 (below_new w3 (.cells (bsU [18, 92]).toArray 5)) hb))
  have Sm4 := Lib.hid (Sm3.out.below (bel0 (below_new w3 (.cells (bsU [18, 92]).toArray 5)) hb))
  have Ss4 := Lib.hid hsv
  clear hb hsv HC4 HB3 Sr3 Sz3 Sm3
  have HC5 := Lib.hid (kn_tb _ _ 8 (rd_new w4 [0, 0, 0, 0, 0, 0, 18, 61] 5) (HG.out.below (bel0 HB4.out (below_new w4 (.cells (bsU [0, 0, 0, 0, 0, 0, 18, 61]).toArray 5)))))
  go_wp2_with fail
  refine (HC5.out).mono ?_
  rintro e w5 ⟨rfl, hb⟩
  have HB5 := Lib.hid (bel0 (bel0 HB4.out (below_new w4 (.cells (bsU [0, 0, 0, 0, 0, 0, 18, 61]).toArray 5))) hb)
  have Sr5 := Lib.hid (Sr4.out.below (bel0 (below_new w4 (.cells (bsU [0, 0, 0, 0, 0, 0, 18, 61]).toArray 5)) hb))
  have Sz5 := Lib.hid (Sz4.out.below (bel0 (below_new w4 (.cells (bsU [0, 0, 0, 0, 0, 0, 18, 61]).toArray 5)) hb))
  have Sm5 := Lib.hid (Sm4.out.below (bel0 (below_new w4 (.cells (bsU [0, 0, 0, 0, 0, 0, 18, 61]).toArray 5)) hb))
  have Ss5 := Lib.hid (Ss4.out.below (bel0 (below_new w4 (.cells (bsU [0, 0, 0, 0, 0, 0, 18, 61]).toArray 5)) hb))
  clear hb HC5 HB4 Sr4 Sz4 Sm4 Ss4
  go_wp2_with fail
  refine (same_svb (Sr5.out.below (below_new w5 (.cells (bsU [0, 12]).toArray 5))) (svb_new w5 [0, 12] (by simp))).mono ?_
  rintro e w6 ⟨rfl, rfl⟩
  have HB6 := Lib.hid (bel0 HB5.out (below_new w5 (.cells (bsU [0, 12]).toArray 5)))
  have Sz6 := Lib.hid (Sz5.out.below (below_new w5 (.cells (bsU [0, 12]).toArray 5)))
  have Sm6 := Lib.hid (Sm5.out.below (below_new w5 (.cells (bsU [0, 12]).toArray 5)))
  have Ss6 := Lib.hid (Ss5.out.below (below_new w5 (.cells (bsU [0, 12]).toArray 5)))
  clear HB5 Sr5 Sz5 Sm5 Ss5
  generalize hW6 : w5.alloc (.cells (bsU [0, 12]).toArray 5) = w6 at *
  clear hW6
  go_wp2_with fail
  refine (same_svb (Sz6.out.below (below_new w6 (.cells (bsU [13]).toArray 5))) (svb_new w6 [13] (by simp))).mono ?_
  rintro e w7 ⟨rfl, rfl⟩
  have HB7 := Lib.hid (bel0 HB6.out (below_new w6 (.cells (bsU [13]).toArray 5)))
  have Sm7 := Lib.hid (Sm6.out.below (below_new w6 (.cells (bsU [13]).toArray 5)))
  have Ss7 := Lib.hid (Ss6.out.below (below_new w6 (.cells (bsU [13]).toArray 5)))
  clear HB6 Sz6 Sm6 Ss6
  generalize hW7 : w6.alloc (.cells (bsU [13]).toArray 5) = w7 at *
  clear hW7
  go_wp2_with fail
  refine (same_svb (Sm7.out.below (below_new w7 (.cells (bsU [0, 3, 109]).toArray 5))) (svb_new w7 [0, 3, 109] (by simp))).mono ?_
  rintro e w8 ⟨rfl, rfl⟩
  have HB8 := Lib.hid (bel0 HB7.out (below_new w7 (.cells (bsU [0, 3, 109]).toArray 5)))
  have Ss8 := Lib.hid (Ss7.out.below (below_new w7 (.cells (bsU [0, 3, 109]).toArray 5)))
  clear HB7 Sm7 Ss7
  generalize hW8 : w7.alloc (.cells (bsU [0, 3, 109]).toArray 5) = w8 at *
  clear hW8
  go_wp2_with fail
  refine (same_svb (Ss8.out.below (below_new w8 (.cells (bsU [1, 60]).toArray 5))) (svb_new w8 [1, 60] (by simp))).mono ?_
  rintro e w9 ⟨rfl, rfl⟩
  have HB9 := Lib.hid (bel0 HB8.out (below_new w8 (.cells (bsU [1, 60]).toArray 5)))
  clear HB8 Ss8
  generalize hW9 : w8.alloc (.cells (bsU [1, 60]).toArray 5) = w9 at *
  clear hW9
  go_wp2_with fail
  refine (works_any w9 (HG.out.below HB9.out)).mono ?_
  rintro e w10 ⟨rfl, hb⟩
  have HB10 := Lib.hid (bel0 HB9.out hb)
  clear hb
  go_wp2
  go_ret
  exact ⟨rfl, HB10.out⟩

end Go.Proofs.YtlpekknhaaddcaaDoor.decimalKnown

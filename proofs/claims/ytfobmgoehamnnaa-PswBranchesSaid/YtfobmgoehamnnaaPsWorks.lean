/- The examples that each statement asks for. -/
import Derived.Test.YtfobmgoehamnnaaPsDec
import Derived.Test.YtfobmgoehamnnaaPsAdv
namespace Go.Proofs.Ytfobmgoehamnnaa
open Go.RowKit
set_option linter.unusedVariables false
namespace E

theorem rd_second (w : World) (o : Obj) (l : List UInt8) : Rd ((w.alloc o).alloc (.cells (bsU l).toArray 5)) (some ⟨w.heap.size + 1, 0, none⟩) l := by
  have h := rd_new (w.alloc o) l 5
  rw [World.size_alloc] at h
  exact h
theorem svb_second (w : World) (o : Obj) (l : List UInt8) (hl : l.length ≤ 1000) : SvB ((w.alloc o).alloc (.cells (bsU l).toArray 5)) (.slice (some ⟨w.heap.size + 1, 0, none⟩) l.length l.length) l := ⟨_, _, rfl, rd_second w o l, Nat.le_refl _, by omega, fun h => by cases h⟩
theorem wk_enc (w : World) : Calls Try.prog 12 #[.agg #[.int .i64 255, .int .i64 3, .bool false, .bool true, .bool false, .int .i64 0, .int .i64 0, .int .i64 2, .int .i64 0, .int .i64 4096]] w (fun e w' => ∃ p c, e = .returned (.tuple #[.slice p 8 c, .bool true]) ∧ SvB w' (.slice p 8 c) [255, 50, 0, 0, 32, 0, 16, 0] ∧ Below w.heap.size w w') :=
  (enc_yes ⟨255, 3, false, true, false, 0, 0, 2, 0, 4096⟩ w (by decide +kernel)).mono fun e w' h => by
    obtain ⟨p, c, h1, h2, h3⟩ := h
    rw [show encL ⟨255, 3, false, true, false, 0, 0, 2, 0, 4096⟩ = [255, 50, 0, 0, 32, 0, 16, 0] by decide +kernel] at h2
    exact ⟨p, c, h1, h2, h3⟩
theorem wk_dec (v : Value) (w : World) (h : SvB w v [0, 1, 1, 2, 204, 0, 0, 0]) : Calls Try.prog 18 #[v] w (New w (.tuple #[.agg #[.int .i64 0, .int .i64 0, .bool false, .bool false, .bool true, .int .i64 258, .int .i64 3, .int .i64 0, .int .i64 12, .int .i64 0], .bool true])) := by
  have h1 := dec_any v _ w h
  rw [show decL [0, 1, 1, 2, 204, 0, 0, 0] = ⟨0, 0, false, false, true, 258, 3, 0, 12, 0⟩ by decide +kernel, show decOk [0, 1, 1, 2, 204, 0, 0, 0] = true by decide +kernel] at h1
  exact h1
theorem wk_br (c : Int) (b : Bool) (w : World) (h : brB 7 c = b) : Calls Try.prog 20 #[.int .i64 7, .int .i64 c] w (New w (.bool b)) := by
  have h1 := branch_any 7 c w
  rw [h] at h1
  exact h1
theorem wk_adm (c : Int) (b : Bool) (w : World) (h : adB ⟨64, 0, false, false, false, 0, 0, 0, 0, 0⟩ 5 0 c = b) : Calls Try.prog 22 #[.agg #[.int .i64 64, .int .i64 0, .bool false, .bool false, .bool false, .int .i64 0, .int .i64 0, .int .i64 0, .int .i64 0, .int .i64 0], .int .i64 5, .int .i64 0, .int .i64 c] w (New w (.bool b)) := by
  have h1 := adm_any ⟨64, 0, false, false, false, 0, 0, 0, 0, 0⟩ 5 0 c w
  rw [h] at h1
  exact h1
theorem wk_adv (w : World) : Calls Try.prog 24 #[.agg #[.int .i64 0, .int .i64 0, .bool false, .bool false, .bool false, .int .i64 0, .int .i64 0, .int .i64 0, .int .i64 0, .int .i64 16777214], .int .i64 4] w (New w (.agg #[.int .i64 0, .int .i64 0, .bool false, .bool false, .bool false, .int .i64 0, .int .i64 2, .int .i64 0, .int .i64 0, .int .i64 2])) := by
  have h1 := adv_any ⟨0, 0, false, false, false, 0, 0, 0, 0, 16777214⟩ 4 w
  rw [show adv ⟨0, 0, false, false, false, 0, 0, 0, 0, 16777214⟩ 4 = ⟨0, 0, false, false, false, 0, 2, 0, 0, 2⟩ by decide +kernel] at h1
  exact h1
set_option maxRecDepth 100000 in
set_option maxHeartbeats 1000000 in
theorem works_any (w : World) : Calls Try.prog 17 #[] w (New w (.bool true)) := by
  go_enter Try.func17, Try.ntmps17
  go_wp2_with fail
  refine (wk_enc _).mono ?_
  rintro e w1 ⟨p, c, rfl, hs, hb⟩
  have HB1 := Lib.hid (bel0 (below_new _ _) hb)
  have HS := Lib.hid hs
  have hs2 := svb_new w1 [0, 1, 1, 2, 204, 0, 0, 0] (by simp)
  have HD := Lib.hid hs2
  clear hb hs hs2
  go_wp2_with fail
  refine (wk_dec _ _ HD.out).mono ?_
  rintro e w2 ⟨rfl, hb⟩
  have HB2 := Lib.hid (bel0 HB1.out (bel0 (below_new _ _) hb))
  have HS2 := Lib.hid (HS.out.below (bel0 (below_new w1 _) hb))
  clear hb HD HS
  have hx := svb_second w2 (.cells #[.int .i64 0, .int .i64 0, .bool false, .bool false, .bool true, .int .i64 258, .int .i64 3, .int .i64 0, .int .i64 12, .int .i64 0] 23) [255, 50, 0, 0, 32, 0, 16, 0] (by simp)
  have hq := (Bx.new w2 23 #[.int .i64 0, .int .i64 0, .bool false, .bool false, .bool true, .int .i64 258, .int .i64 3, .int .i64 0, .int .i64 12, .int .i64 0]).below (below_new _ (.cells (bsU [255, 50, 0, 0, 32, 0, 16, 0]).toArray 5))
  have hb2 := below2 w2 (.cells #[.int .i64 0, .int .i64 0, .bool false, .bool false, .bool true, .int .i64 258, .int .i64 3, .int .i64 0, .int .i64 12, .int .i64 0] 23) (.cells (bsU [255, 50, 0, 0, 32, 0, 16, 0]).toArray 5)
  have HE := Lib.hid hx
  have HQ := Lib.hid hq
  have HN := Lib.hid hb2
  clear hx hq hb2
  go_wp2_with fail
  refine (same_svb (HS2.out.below HN.out) HE.out).mono ?_
  rintro e w3 ⟨rfl, hb⟩
  have HB3 := Lib.hid (bel0 HB2.out (bel0 HN.out hb))
  have HQ3 := Lib.hid (HQ.out.below hb)
  clear hb HS2 HE HQ HN
  obtain ⟨c0, c1, c2, c3, c4, c5, c6, c7, c8, c9⟩ := cells_of (Q := ⟨0, 0, false, false, true, 258, 3, 0, 12, 0⟩) HQ3.out
  clear HQ3
  go_wp2_with fail
  refine (wk_br 1 true _ (by decide +kernel)).mono ?_
  rintro e w4 ⟨rfl, hb⟩
  have HB4 := Lib.hid (bel0 HB3.out hb)
  clear hb HB3
  clear c0 c1 c2 c3 c4 c5 c6 c7 c8 c9
  go_wp2_with fail
  refine (wk_br 0 false _ (by decide +kernel)).mono ?_
  rintro e w5 ⟨rfl, hb⟩
  have HB5 := Lib.hid (bel0 HB4.out hb)
  clear hb HB4
  go_wp2_with fail
  refine (wk_adm 1 true _ (by decide +kernel)).mono ?_
  rintro e w6 ⟨rfl, hb⟩
  have HB6 := Lib.hid (bel0 HB5.out hb)
  clear hb HB5
  go_wp2_with fail
  refine (wk_adm 0 false _ (by decide +kernel)).mono ?_
  rintro e w7 ⟨rfl, hb⟩
  have HB7 := Lib.hid (bel0 HB6.out hb)
  clear hb HB6
  go_wp2_with fail
  refine (wk_adv _).mono ?_
  rintro e w8 ⟨rfl, hb⟩
  have HB8 := Lib.hid (bel0 HB7.out hb)
  clear hb HB7
  go_wp2
  go_ret
  exact ⟨rfl, HB8.out⟩

end E
end Go.Proofs.Ytfobmgoehamnnaa

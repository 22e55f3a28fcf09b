/- The given answers' Encode: formats. -/
import Derived.Test.YtaodghaicmjadaaDoorIsRAd
namespace Go.Proofs.YtaodghaicmjadaaDoor
open Go.RowKit Go.Shelf
set_option linter.unusedVariables false
namespace E

set_option maxRecDepth 100000 in
set_option maxHeartbeats 1000000 in
theorem enc_4 (op b1 d1 i2 : Nat) (h : op < 256) (h_b1 : b1 < 16) (h_d1 : d1 < 4096) (h_i2 : i2 < 256) (w : World) (hC : ∀ W, Calls Tryd.prog 18 #[(Ins.mk (op : Int) 4 0 0 0 (b1 : Int) (d1 : Int) 0 0 0 0 (i2 : Int)).val] W (New W (.int .i64 0))) :
    Calls Tryd.prog 16 #[(Ins.mk (op : Int) 4 0 0 0 (b1 : Int) (d1 : Int) 0 0 0 0 (i2 : Int)).val] w fun e w' => ∃ sv, e = .returned (.tuple #[sv, .int .i64 0]) ∧ Hold w' w.heap.size sv [u8 op, u8 (i2), u8 (16 * b1 + d1 / 256), u8 (d1 % 256)] ∧ Below w.heap.size w w' := by
  have HC := Lib.hid hC
  have e1 : ((u8 op).toNat : Int) = (op : Int) := by rw [u8_nat h]
  have e2 : ((u8 (i2)).toNat : Int) = (i2 : Int) := by rw [u8_nat (by omega)]
  have i_b1 : (b1 : Int) < 16 := by omega
  have i_d1 : (d1 : Int) < 4096 := by omega
  have i_i2 : (i2 : Int) < 256 := by omega
  have iop : (op : Int) < 256 := by omega
  have HH := Lib.hid (show True ∧ b1 < 16 ∧ d1 < 4096 ∧ i2 < 256 from ⟨trivial, h_b1, h_d1, h_i2⟩)
  have HE := Lib.hid (And.intro e1 e2)
  obtain ⟨Q, hQ⟩ : ∃ Q : Ins, Q = Ins.mk (op : Int) 4 0 0 0 (b1 : Int) (d1 : Int) 0 0 0 0 (i2 : Int) := ⟨_, rfl⟩
  have HQ1 := Lib.hid (Bx.new w 28 Q.cs)
  have HB1 := Lib.hid (below_new w (.cells Q.cs 28))
  obtain ⟨I, hI⟩ : ∃ I, I = w.heap.size := ⟨_, rfl⟩
  obtain ⟨w1, hw1⟩ : ∃ w1, w1 = w.alloc (.cells Q.cs 28) := ⟨_, rfl⟩
  rw [← hw1] at HB1 HQ1
  rw [← hI] at HQ1
  obtain ⟨c0, c1, c2, c3, c4, c5, c6, c7, c8, c9, c10, c11⟩ := bx_cells HQ1.out
  have HQQ := Lib.hid hQ
  rw [hQ] at hw1 c0 c1 c2 c3 c4 c5 c6 c7 c8 c9 c10 c11
  dsimp only at c0 c1 c2 c3 c4 c5 c6 c7 c8 c9 c10 c11
  unfold Ins.cs at hw1
  dsimp only at hw1
  have HWI := Lib.hid (And.intro hw1 hI)
  rw [hw1] at c0 c1 c2 c3 c4 c5 c6 c7 c8 c9 c10 c11
  rw [hI] at c0 c1 c2 c3 c4 c5 c6 c7 c8 c9 c10 c11
  unfold Ins.val at HC ⊢
  dsimp only at HC ⊢
  clear hw1 hI hQ hC e1 e2 h h_b1 h_d1 h_i2
  go_enter Tryd.func16, Tryd.ntmps16
  go_wp2_with fail
  clear c0 c1 c2 c3 c4 c5 c6 c7 c8 c9 c10 c11
  rw [← HWI.out.1, ← HWI.out.2]
  refine (HC.out _).mono ?_
  rintro e w2 ⟨rfl, hb⟩
  have HB2 := Lib.hid (bel0 HB1.out hb)
  have HQ2 := Lib.hid (HQ1.out.below hb)
  clear hb HQ1 HB1 HC HWI
  have hq2 := HQ2.out
  rw [HQQ.out] at hq2
  obtain ⟨c0, c1, c2, c3, c4, c5, c6, c7, c8, c9, c10, c11⟩ := bx_cells hq2
  have hq3 := hq2.below (below_new w2 (.cells #[.int .u8 (op : Int)] 5))
  obtain ⟨d0, d1', d2', d3, d4, d5, d6, d7, d8, d9, d10, d11⟩ := bx_cells hq3
  dsimp only at c0 c1 c2 c3 c4 c5 c6 c7 c8 c9 c10 c11 d0 d1' d2' d3 d4 d5 d6 d7 d8 d9 d10 d11
  clear hq2 hq3
  have hO := own_first w2 (u8 op)
  have hR := rd_first (w2.alloc (.cells #[.int .u8 (op : Int)] 5)) (u8 (i2))
  rw [HE.out.1] at hO
  rw [HE.out.2] at hR
  have hbl := below_new (w2.alloc (.cells #[.int .u8 (op : Int)] 5)) (.cells #[.int .u8 ((i2 : Int))] 5)
  have HO := Lib.hid (own_kept hO hbl)
  rw [World.size_alloc] at hR
  have HR := Lib.hid hR
  have HBL := Lib.hid (bel0 (below_new w2 (.cells #[.int .u8 (op : Int)] 5)) hbl)
  clear hO hR hbl
  go_wp2_with (at_builtin; refine append_rd rfl (.tmp 54) (.tmp 58) rfl w2.heap.size (.slice (some ⟨w2.heap.size, 0, none⟩) 1 1) 1 (bsU [u8 op]) rfl HO.out (some ⟨w2.heap.size + 1, 0, none⟩) 1 1 [u8 (i2)] rfl rfl (by intro h; cases h) HR.out (by decide) HBL.out.size ?_)
  rintro v5 w5 ho5 hg5
  have HB5 := Lib.hid (HBL.out.grown hg5 HBL.out.size (fun r hr => by cases hr; exact Nat.le_refl _))
  have HO5 := Lib.hid ho5
  clear ho5 hg5 HR HO HBL c0 c1 c2 c3 c4 c5 c6 c7 c8 c9 c10 c11 d0 d1' d2' d3 d4 d5 d6 d7 d8 d9 d10 d11
  have hq5 := HQ2.out.below HB5.out
  rw [HQQ.out] at hq5
  obtain ⟨c0, c1, c2, c3, c4, c5, c6, c7, c8, c9, c10, c11⟩ := bx_cells hq5
  dsimp only at c0 c1 c2 c3 c4 c5 c6 c7 c8 c9 c10 c11
  clear hq5
  go_wp2_with fail
  clear c0 c1 c2 c3 c4 c5 c6 c7 c8 c9 c10 c11
  refine (address_ref b1 d1 (by have := HH.out; omega) (by have := HH.out; omega) _).mono ?_
  rintro e w6 ⟨rfl, hr, hb⟩
  have HR := Lib.hid hr
  have HB6 := Lib.hid ((HB5.out).trans (hb.mono HB5.out.size))
  have HO6 := Lib.hid (own_kept HO5.out hb)
  clear hr hb HO5 HB5
  go_wp2_with (at_builtin; refine append_rd rfl (.tmp 100) (.tmp 105) rfl w2.heap.size v5 2 _ rfl HO6.out _ 2 2 [u8 (16 * b1 + d1 / 256), u8 (d1 % 256)] rfl rfl (by intro h; cases h) HR.out (by decide) HB6.out.size ?_)
  rintro v7 w7 ho hg
  have HB7 := Lib.hid (HB6.out.grown hg HB6.out.size (own_ge HO6.out))
  have HO7 := Lib.hid ho
  clear ho hg HR HO6 HB6
  go_wp2
  refine bodyPost_ret (results_tt rfl rfl rfl) rfl ⟨_, rfl, ?_, bel0 HB2.out HB7.out⟩
  exact Hold.base (show Hold w7 w2.heap.size v7 [u8 op, u8 (i2), u8 (16 * b1 + d1 / 256), u8 (d1 % 256)] from HO7.out) HB2.out.size
set_option maxRecDepth 100000 in
set_option maxHeartbeats 1000000 in
theorem enc_9 (op b1 d1 : Nat) (h : op < 256) (h_b1 : b1 < 16) (h_d1 : d1 < 4096) (w : World) (hC : ∀ W, Calls Tryd.prog 18 #[(Ins.mk (op : Int) 9 0 0 0 (b1 : Int) (d1 : Int) 0 0 0 0 0).val] W (New W (.int .i64 0))) :
    Calls Tryd.prog 16 #[(Ins.mk (op : Int) 9 0 0 0 (b1 : Int) (d1 : Int) 0 0 0 0 0).val] w fun e w' => ∃ sv, e = .returned (.tuple #[sv, .int .i64 0]) ∧ Hold w' w.heap.size sv [u8 op, u8 (0), u8 (16 * b1 + d1 / 256), u8 (d1 % 256)] ∧ Below w.heap.size w w' := by
  have HC := Lib.hid hC
  have e1 : ((u8 op).toNat : Int) = (op : Int) := by rw [u8_nat h]
  have e2 : ((u8 (0)).toNat : Int) = 0 := by rw [u8_nat (by omega)]; rfl
  have i_b1 : (b1 : Int) < 16 := by omega
  have i_d1 : (d1 : Int) < 4096 := by omega
  have iop : (op : Int) < 256 := by omega
  have HH := Lib.hid (show True ∧ b1 < 16 ∧ d1 < 4096 from ⟨trivial, h_b1, h_d1⟩)
  have HE := Lib.hid (And.intro e1 e2)
  obtain ⟨Q, hQ⟩ : ∃ Q : Ins, Q = Ins.mk (op : Int) 9 0 0 0 (b1 : Int) (d1 : Int) 0 0 0 0 0 := ⟨_, rfl⟩
  have HQ1 := Lib.hid (Bx.new w 28 Q.cs)
  have HB1 := Lib.hid (below_new w (.cells Q.cs 28))
  obtain ⟨I, hI⟩ : ∃ I, I = w.heap.size := ⟨_, rfl⟩
  obtain ⟨w1, hw1⟩ : ∃ w1, w1 = w.alloc (.cells Q.cs 28) := ⟨_, rfl⟩
  rw [← hw1] at HB1 HQ1
  rw [← hI] at HQ1
  obtain ⟨c0, c1, c2, c3, c4, c5, c6, c7, c8, c9, c10, c11⟩ := bx_cells HQ1.out
  have HQQ := Lib.hid hQ
  rw [hQ] at hw1 c0 c1 c2 c3 c4 c5 c6 c7 c8 c9 c10 c11
  dsimp only at c0 c1 c2 c3 c4 c5 c6 c7 c8 c9 c10 c11
  unfold Ins.cs at hw1
  dsimp only at hw1
  have HWI := Lib.hid (And.intro hw1 hI)
  rw [hw1] at c0 c1 c2 c3 c4 c5 c6 c7 c8 c9 c10 c11
  rw [hI] at c0 c1 c2 c3 c4 c5 c6 c7 c8 c9 c10 c11
  unfold Ins.val at HC ⊢
  dsimp only at HC ⊢
  clear hw1 hI hQ hC e1 e2 h h_b1 h_d1
  go_enter Tryd.func16, Tryd.ntmps16
  go_wp2_with fail
  clear c0 c1 c2 c3 c4 c5 c6 c7 c8 c9 c10 c11
  rw [← HWI.out.1, ← HWI.out.2]
  refine (HC.out _).mono ?_
  rintro e w2 ⟨rfl, hb⟩
  have HB2 := Lib.hid (bel0 HB1.out hb)
  have HQ2 := Lib.hid (HQ1.out.below hb)
  clear hb HQ1 HB1 HC HWI
  have hq2 := HQ2.out
  rw [HQQ.out] at hq2
  obtain ⟨c0, c1, c2, c3, c4, c5, c6, c7, c8, c9, c10, c11⟩ := bx_cells hq2
  have hq3 := hq2.below (below_new w2 (.cells #[.int .u8 (op : Int)] 5))
  obtain ⟨d0, d1', d2', d3, d4, d5, d6, d7, d8, d9, d10, d11⟩ := bx_cells hq3
  dsimp only at c0 c1 c2 c3 c4 c5 c6 c7 c8 c9 c10 c11 d0 d1' d2' d3 d4 d5 d6 d7 d8 d9 d10 d11
  clear hq2 hq3
  have hO := own_first w2 (u8 op)
  have hR := rd_first (w2.alloc (.cells #[.int .u8 (op : Int)] 5)) (u8 (0))
  rw [HE.out.1] at hO
  rw [HE.out.2] at hR
  have hbl := below_new (w2.alloc (.cells #[.int .u8 (op : Int)] 5)) (.cells #[.int .u8 (0)] 5)
  have HO := Lib.hid (own_kept hO hbl)
  rw [World.size_alloc] at hR
  have HR := Lib.hid hR
  have HBL := Lib.hid (bel0 (below_new w2 (.cells #[.int .u8 (op : Int)] 5)) hbl)
  clear hO hR hbl
  go_wp2_with (at_builtin; refine append_rd rfl (.tmp 62) (.tmp 63) rfl w2.heap.size (.slice (some ⟨w2.heap.size, 0, none⟩) 1 1) 1 (bsU [u8 op]) rfl HO.out (some ⟨w2.heap.size + 1, 0, none⟩) 1 1 [u8 (0)] rfl rfl (by intro h; cases h) HR.out (by decide) HBL.out.size ?_)
  rintro v5 w5 ho5 hg5
  have HB5 := Lib.hid (HBL.out.grown hg5 HBL.out.size (fun r hr => by cases hr; exact Nat.le_refl _))
  have HO5 := Lib.hid ho5
  clear ho5 hg5 HR HO HBL c0 c1 c2 c3 c4 c5 c6 c7 c8 c9 c10 c11 d0 d1' d2' d3 d4 d5 d6 d7 d8 d9 d10 d11
  have hq5 := HQ2.out.below HB5.out
  rw [HQQ.out] at hq5
  obtain ⟨c0, c1, c2, c3, c4, c5, c6, c7, c8, c9, c10, c11⟩ := bx_cells hq5
  dsimp only at c0 c1 c2 c3 c4 c5 c6 c7 c8 c9 c10 c11
  clear hq5
  go_wp2_with fail
  clear c0 c1 c2 c3 c4 c5 c6 c7 c8 c9 c10 c11
  refine (address_ref b1 d1 (by have := HH.out; omega) (by have := HH.out; omega) _).mono ?_
  rintro e w6 ⟨rfl, hr, hb⟩
  have HR := Lib.hid hr
  have HB6 := Lib.hid ((HB5.out).trans (hb.mono HB5.out.size))
  have HO6 := Lib.hid (own_kept HO5.out hb)
  clear hr hb HO5 HB5
  go_wp2_with (at_builtin; refine append_rd rfl (.tmp 100) (.tmp 105) rfl w2.heap.size v5 2 _ rfl HO6.out _ 2 2 [u8 (16 * b1 + d1 / 256), u8 (d1 % 256)] rfl rfl (by intro h; cases h) HR.out (by decide) HB6.out.size ?_)
  rintro v7 w7 ho hg
  have HB7 := Lib.hid (HB6.out.grown hg HB6.out.size (own_ge HO6.out))
  have HO7 := Lib.hid ho
  clear ho hg HR HO6 HB6
  go_wp2
  refine bodyPost_ret (results_tt rfl rfl rfl) rfl ⟨_, rfl, ?_, bel0 HB2.out HB7.out⟩
  exact Hold.base (show Hold w7 w2.heap.size v7 [u8 op, u8 (0), u8 (16 * b1 + d1 / 256), u8 (d1 % 256)] from HO7.out) HB2.out.size
end E
end Go.Proofs.YtaodghaicmjadaaDoor

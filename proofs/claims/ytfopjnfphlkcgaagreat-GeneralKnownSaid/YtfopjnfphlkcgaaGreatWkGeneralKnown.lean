/- The walk of the statement GeneralKnown. -/
import Derived.Test.YtfopjnfphlkcgaaGreatRows
import Derived.Test.YtfopjnfphlkcgaaGreatGnKb
import Derived.Test.YtfopjnfphlkcgaaGreatGnWorks
namespace Go.Proofs.YtfopjnfphlkcgaaGreat
namespace E
end E
open Go.RowKit Go.Shelf E
set_option linter.unusedVariables false
namespace M

set_option maxRecDepth 100000 in
set_option maxHeartbeats 8000000 in
theorem wk_known_of (hkb : ∀ A g h X, Sto X A g h 2048 1 kb1 (List.replicate 1 0) → Calls Tryz.prog 28 #[.pointer (some ⟨A, 0, none⟩)] X fun e X' => e = .returned (.bool true) ∧ Kp X X' [g]) (w : World) : Calls Tryz.prog 12 #[] w (New w (.bool true)) := by
  have HKB := Lib.hid hkb
  clear hkb
  have HNEW := Lib.hid (new_any 2048 w (by decide))
  have HW := Lib.hid (fun X => works_any X)
  go_enter Tryz.func12, Tryz.ntmps12
  go_wp2_with fail
  refine HNEW.out.mono ?_
  rintro e x1 ⟨A, g, h, rfl, hst, hA, hg, hh, hb⟩
  have HG : Hid (w.heap.size ≤ g) := Lib.hid hg
  have HST : Hid (Sto x1 A g h 2048 1 kb0 (List.replicate 1 0)) := Lib.hid hst
  have HB := Lib.hid hb
  clear hst hA hg hh hb HNEW
  go_wp2_with fail
  obtain ⟨BZ, hBZ⟩ : ∃ b, b = x1.heap.size := ⟨_, rfl⟩
  obtain ⟨y1, hy1⟩ : ∃ y, y = x1.alloc (.cells #[.int .i64 0, .int .i64 0, .bool false, .bool false, .bool false, .int .i64 0, .int .i64 0, .int .i64 0, .int .i64 0, .int .i64 0] 30) := ⟨_, rfl⟩
  have b1 : Below x1.heap.size x1 y1 := by rw [hy1]; exact below_new _ _
  have HZ : Hid (Bx y1 BZ 30 #[.int .i64 0, .int .i64 0, .bool false, .bool false, .bool false, .int .i64 0, .int .i64 0, .int .i64 0, .int .i64 0, .int .i64 0]) := Lib.hid (by rw [hy1, hBZ]; exact Bx.new x1 _ _)
  have HST1 := Lib.hid (HST.out.below b1)
  have HB1 := Lib.hid (bel0 HB.out b1)
  have HZG : Hid (BZ ≠ g) := Lib.hid (Row.ne HZ.out.row HST1.out.2.1 (by decide))
  rw [← hy1, ← hBZ]
  clear hy1 hBZ b1 HST HB
  refine (kn_a1 A g h 1 y1 HST1.out).mono ?_
  rintro e x2 ⟨rfl, hs, hk⟩
  have HST2 := Lib.hid hs
  have HB2 := Lib.hid (Kp.below HB1.out hk (by simpa using HG.out))
  have HZ2 := Lib.hid (HZ.out.kp hk (by simpa using HZG.out))
  have LZ := Lib.hid (fun X (hX : Below x2.heap.size x2 X) => run_loadVar_row (P := Tryz.prog) X BZ _ 30 _ _ _ (HZ2.out.below hX) Tryz.underlying30 rfl (by kernel_rfl))
  clear hs hk HST1 HB1 HZ
  go_wp2_with (refine wpList_valW (by rfl) (exec_load 30 _ rfl ⟨BZ, 0, none⟩ rfl (LZ.out _ (bel0 (below_new _ _) (below_new _ _)))) ?_)
  obtain ⟨Ba, hBa⟩ : ∃ b, b = x2.heap.size := ⟨_, rfl⟩
  obtain ⟨ya, hya⟩ : ∃ y, y = x2.alloc (.cells #[.int .u32 0, .int .u32 5, .int .u32 4294967291, .int .u32 0, .int .u32 0, .int .u32 0, .int .u32 0, .int .u32 0, .int .u32 0, .int .u32 0, .int .u32 0, .int .u32 0, .int .u32 0, .int .u32 0, .int .u32 0, .int .u32 0] 28) := ⟨_, rfl⟩
  obtain ⟨y2, hy2⟩ : ∃ y, y = ya.alloc (.cells #[.int .i64 0, .int .i64 0, .bool false, .bool false, .bool false, .int .i64 0, .int .i64 0, .int .i64 2, .int .i64 0, .int .i64 0] 30) := ⟨_, rfl⟩
  have sa : ya.heap.size = Ba + 1 := by rw [hya, hBa]; simp
  have ba : Below x2.heap.size x2 ya := by rw [hya]; exact below_new _ _
  have b2 : Below ya.heap.size ya y2 := by rw [hy2]; exact below_new _ _
  have ra : Bx ya Ba 28 #[.int .u32 0, .int .u32 5, .int .u32 4294967291, .int .u32 0, .int .u32 0, .int .u32 0, .int .u32 0, .int .u32 0, .int .u32 0, .int .u32 0, .int .u32 0, .int .u32 0, .int .u32 0, .int .u32 0, .int .u32 0, .int .u32 0] := by rw [hya, hBa]; exact Bx.new x2 _ _
  have HA2 : Hid (Bx y2 Ba 28 #[.int .u32 0, .int .u32 5, .int .u32 4294967291, .int .u32 0, .int .u32 0, .int .u32 0, .int .u32 0, .int .u32 0, .int .u32 0, .int .u32 0, .int .u32 0, .int .u32 0, .int .u32 0, .int .u32 0, .int .u32 0, .int .u32 0] ∧ Bx y2 (Ba + 1) 30 #[.int .i64 0, .int .i64 0, .bool false, .bool false, .bool false, .int .i64 0, .int .i64 0, .int .i64 2, .int .i64 0, .int .i64 0]) := Lib.hid ⟨ra.below b2, by rw [hy2, ← sa]; exact Bx.new ya _ _⟩
  have HST3 := Lib.hid (HST2.out.below (bel0 ba b2))
  have HB3 := Lib.hid (bel0 HB2.out (bel0 ba b2))
  have HZ3 := Lib.hid (HZ2.out.below (bel0 ba b2))
  have HAG : Hid (Ba ≠ g ∧ Ba + 1 ≠ g) := Lib.hid ⟨Row.ne HA2.out.1.row HST3.out.2.1 (by decide), Row.ne HA2.out.2.row HST3.out.2.1 (by decide)⟩
  have HBaW : Hid (w.heap.size ≤ Ba) := Lib.hid (by have := HB2.out.size; omega)
  rw [← hya, ← hy2, ← hBa]
  clear hya hy2 hBa sa ba b2 ra HST2 HB2 HZ2 LZ
  refine (kn_a2 A g h 1 y2 HST3.out).mono ?_
  rintro e x3 ⟨rfl, hs, hk⟩
  have HST4 := Lib.hid hs
  have HB4 := Lib.hid (Kp.below HB3.out hk (by simpa using HG.out))
  have HZ4 := Lib.hid (HZ3.out.kp hk (by simpa using HZG.out))
  have HA4 := Lib.hid (And.intro (HA2.out.1.kp hk (by simpa using HAG.out.1)) (HA2.out.2.kp hk (by simpa using HAG.out.2)))
  clear hs hk HST3 HB3 HZ3 HA2
  have ca1 := HA4.out.1.cell 1
  have cp7 := HA4.out.2.cell 7
  simp only [List.getElem?_toArray, List.getElem?_cons_succ, List.getElem?_cons_zero] at ca1 cp7
  have ta := HA4.out.1.lt
  have tp := HA4.out.2.lt
  go_wp2_with fail
  have HAx := Lib.hid HA4.out.1
  have HPx := Lib.hid HA4.out.2
  clear HA4
  obtain ⟨S1, hS1⟩ : ∃ b, b = x3.heap.size := ⟨_, rfl⟩
  obtain ⟨g1a, hg1a⟩ : ∃ y, y = x3.alloc (.cells #[.int .u32 0, .int .u32 2147483648, .int .u32 2147483648, .int .u32 0, .int .u32 0, .int .u32 0, .int .u32 0, .int .u32 0, .int .u32 0, .int .u32 0, .int .u32 0, .int .u32 0, .int .u32 0, .int .u32 0, .int .u32 0, .int .u32 0] 28) := ⟨_, rfl⟩
  have sg1a : g1a.heap.size = S1 + 1 := by rw [hg1a]; simp [hS1]
  have bg1a : Below x3.heap.size x3 g1a := by rw [hg1a]; exact below_new _ _
  have rg1a : Bx g1a (S1) 28 #[.int .u32 0, .int .u32 2147483648, .int .u32 2147483648, .int .u32 0, .int .u32 0, .int .u32 0, .int .u32 0, .int .u32 0, .int .u32 0, .int .u32 0, .int .u32 0, .int .u32 0, .int .u32 0, .int .u32 0, .int .u32 0, .int .u32 0] := by rw [hg1a, hS1]; exact Bx.new x3 _ _
  obtain ⟨g1b, hg1b⟩ : ∃ y, y = g1a.alloc (.cells #[.int .i64 0, .int .i64 0, .bool false, .bool false, .bool false, .int .i64 0, .int .i64 0, .int .i64 3, .int .i64 0, .int .i64 0] 30) := ⟨_, rfl⟩
  have sg1b : g1b.heap.size = S1 + 1 + 1 := by rw [hg1b]; simp [sg1a]
  have bg1b : Below g1a.heap.size g1a g1b := by rw [hg1b]; exact below_new _ _
  have rg1b : Bx g1b (S1 + 1) 30 #[.int .i64 0, .int .i64 0, .bool false, .bool false, .bool false, .int .i64 0, .int .i64 0, .int .i64 3, .int .i64 0, .int .i64 0] := by rw [hg1b, ← sg1a]; exact Bx.new g1a _ _
  obtain ⟨g1c, hg1c⟩ : ∃ y, y = g1b.alloc (.cells #[.int .u8 0, .int .u8 0, .int .u8 0, .int .u8 3] 5) := ⟨_, rfl⟩
  have sg1c : g1c.heap.size = S1 + 1 + 1 + 1 := by rw [hg1c]; simp [sg1b]
  have bg1c : Below g1b.heap.size g1b g1c := by rw [hg1c]; exact below_new _ _
  have rg1c : Bx g1c (S1 + 1 + 1) 5 #[.int .u8 0, .int .u8 0, .int .u8 0, .int .u8 3] := by rw [hg1c, ← sg1b]; exact Bx.new g1b _ _
  have HZ1 := Lib.hid (HZ4.out.below (bel0 (bel0 bg1a bg1b) bg1c))
  clear HZ4
  have HA1 := Lib.hid (HAx.out.below (bel0 (bel0 bg1a bg1b) bg1c))
  clear HAx
  have HP1 := Lib.hid (HPx.out.below (bel0 (bel0 bg1a bg1b) bg1c))
  clear HPx
  have HS1 := Lib.hid (HST4.out.below (bel0 (bel0 bg1a bg1b) bg1c))
  have HB1k := Lib.hid (bel0 HB4.out (bel0 (bel0 bg1a bg1b) bg1c))
  clear HST4 HB4
  rw [← hg1a, ← hg1b, ← hg1c, ← hS1]
  have HSV : Hid (SvB g1c (.slice (some ⟨S1 + 1 + 1, 0, none⟩) 4 4) [0, 0, 0, 3]) := Lib.hid (by rw [hg1c, ← sg1b]; exact svb_new _ [0, 0, 0, 3] (by decide))
  clear hg1a sg1a bg1a rg1a hg1b sg1b bg1b rg1b hg1c sg1c bg1c rg1c hS1
  refine (put_lit A g h 400 _ [0, 0, 0, 3] kb0 kb1 g1c HS1.out HSV.out (by decide) (by kernel_rfl)).mono ?_
  rintro e x2c ⟨rfl, hs, hk⟩
  have HZ2 := Lib.hid (HZ1.out.kp hk (by simpa using Row.ne HZ1.out.row HS1.out.2.1 (by decide)))
  have HA2 := Lib.hid (HA1.out.kp hk (by simpa using Row.ne HA1.out.row HS1.out.2.1 (by decide)))
  have HP2 := Lib.hid (HP1.out.kp hk (by simpa using Row.ne HP1.out.row HS1.out.2.1 (by decide)))
  clear HZ1
  clear HA1
  clear HP1
  have HS2 := Lib.hid hs
  have HB2k := Lib.hid (Kp.below HB1k.out hk (by simpa using HG.out))
  clear hs hk HS1 HB1k
  clear HSV
  have LZ := Lib.hid (fun X (hX : Below x2c.heap.size x2c X) => run_loadVar_row (P := Tryz.prog) X BZ _ 30 _ _ _ (HZ2.out.below hX) Tryz.underlying30 rfl (by kernel_rfl))
  go_wp2_with (refine wpList_valW (by rfl) (exec_load 30 _ rfl ⟨BZ, 0, none⟩ rfl (LZ.out _ (Below.refl _ _))) ?_)
  clear LZ
  refine (kn_a3 A g h 1 x2c HS2.out).mono ?_
  rintro e x3c ⟨rfl, hs, hk⟩
  have HZ3 := Lib.hid (HZ2.out.kp hk (by simpa using Row.ne HZ2.out.row HS2.out.2.1 (by decide)))
  have HA3 := Lib.hid (HA2.out.kp hk (by simpa using Row.ne HA2.out.row HS2.out.2.1 (by decide)))
  have HP3 := Lib.hid (HP2.out.kp hk (by simpa using Row.ne HP2.out.row HS2.out.2.1 (by decide)))
  clear HZ2
  clear HA2
  clear HP2
  have HS3 := Lib.hid hs
  have HB3k := Lib.hid (Kp.below HB2k.out hk (by simpa using HG.out))
  clear hs hk HS2 HB2k
  have HSTR : Hid ((storeVar 28 ⟨Ba, 0, none⟩ (.agg #[.int .u32 0, .int .u32 0, .int .u32 4294967295, .int .u32 4294967290, .int .u32 0, .int .u32 0, .int .u32 0, .int .u32 0, .int .u32 0, .int .u32 0, .int .u32 0, .int .u32 0, .int .u32 0, .int .u32 0, .int .u32 0, .int .u32 0])).run Tryz.prog x3c = .ok () (x3c.setRow Ba (regA (regL [(2, 4294967295), (3, 4294967290)])))) := Lib.hid (store_regs HA3.out rfl (regL [(2, 4294967295), (3, 4294967290)]))
  have LZ2 := Lib.hid (run_loadVar_row (P := Tryz.prog) (x3c.setRow Ba (regA (regL [(2, 4294967295), (3, 4294967290)]))) BZ _ 30 _ _ _ (bx_row2 HZ3.out (Row.ne HZ3.out.row HA3.out.row (by decide)) _) Tryz.underlying30 rfl (by kernel_rfl))
  go_wp2_with (first | (refine wpList_skp rfl (exec_stk 28 _ _ rfl ⟨Ba, 0, none⟩ rfl _ rfl HSTR.out) ?_) | (refine wpList_valW (by rfl) (exec_load 30 _ rfl ⟨BZ, 0, none⟩ rfl LZ2.out) ?_))
  obtain ⟨z4, hz4⟩ : ∃ y, y = x3c.setRow Ba (regA (regL [(2, 4294967295), (3, 4294967290)])) := ⟨_, rfl⟩
  have HZ4 := Lib.hid (show Bx z4 _ _ _ by rw [hz4]; exact bx_row2 HZ3.out (Row.ne HZ3.out.row HA3.out.row (by decide)) _)
  have HA4 : Hid (Bx z4 Ba 28 #[.int .u32 0, .int .u32 0, .int .u32 4294967295, .int .u32 4294967290, .int .u32 0, .int .u32 0, .int .u32 0, .int .u32 0, .int .u32 0, .int .u32 0, .int .u32 0, .int .u32 0, .int .u32 0, .int .u32 0, .int .u32 0, .int .u32 0]) := Lib.hid (by rw [hz4]; exact bx_row3 HA3.out _)
  have HP4 := Lib.hid (show Bx z4 _ _ _ by rw [hz4]; exact bx_row2 HP3.out (Row.ne HP3.out.row HA3.out.row (by decide)) _)
  have HS4 := Lib.hid (show Sto z4 _ _ _ _ _ _ _ by rw [hz4]; exact sto_st HS3.out HA3.out (by decide) (by decide) (by decide))
  have HB4k := Lib.hid (show Below w.heap.size w z4 by rw [hz4]; exact kp_nil (kp_row (Kp.bel HB3k.out) HBaW.out _))
  rw [← hz4]
  clear hz4 HSTR LZ2 HS3 HB3k HZ3 HA3 HP3
  refine (kn_a4 A g h 1 z4 HS4.out).mono ?_
  rintro e x5c ⟨rfl, hs, hk⟩
  have HZ5 := Lib.hid (HZ4.out.kp hk (by simpa using Row.ne HZ4.out.row HS4.out.2.1 (by decide)))
  have HA5 := Lib.hid (HA4.out.kp hk (by simpa using Row.ne HA4.out.row HS4.out.2.1 (by decide)))
  have HP5 := Lib.hid (HP4.out.kp hk (by simpa using Row.ne HP4.out.row HS4.out.2.1 (by decide)))
  clear HZ4
  clear HA4
  clear HP4
  have HS5 := Lib.hid hs
  have HB5k := Lib.hid (Kp.below HB4k.out hk (by simpa using HG.out))
  clear hs hk HS4 HB4k
  have LZ := Lib.hid (fun X (hX : Below x5c.heap.size x5c X) => run_loadVar_row (P := Tryz.prog) X BZ _ 30 _ _ _ (HZ5.out.below hX) Tryz.underlying30 rfl (by kernel_rfl))
  go_wp2_with (refine wpList_valW (by rfl) (exec_load 30 _ rfl ⟨BZ, 0, none⟩ rfl (LZ.out _ (bel0 (below_new _ _) (below_new _ _)))) ?_)
  clear LZ
  obtain ⟨S6, hS6⟩ : ∃ b, b = x5c.heap.size := ⟨_, rfl⟩
  obtain ⟨g6a, hg6a⟩ : ∃ y, y = x5c.alloc (.cells #[.int .u32 0, .int .u32 0, .int .u32 0, .int .u32 0, .int .u32 0, .int .u32 0, .int .u32 0, .int .u32 0, .int .u32 0, .int .u32 0, .int .u32 0, .int .u32 0, .int .u32 0, .int .u32 0, .int .u32 0, .int .u32 0] 28) := ⟨_, rfl⟩
  have sg6a : g6a.heap.size = S6 + 1 := by rw [hg6a]; simp [hS6]
  have bg6a : Below x5c.heap.size x5c g6a := by rw [hg6a]; exact below_new _ _
  have rg6a : Bx g6a (S6) 28 #[.int .u32 0, .int .u32 0, .int .u32 0, .int .u32 0, .int .u32 0, .int .u32 0, .int .u32 0, .int .u32 0, .int .u32 0, .int .u32 0, .int .u32 0, .int .u32 0, .int .u32 0, .int .u32 0, .int .u32 0, .int .u32 0] := by rw [hg6a, hS6]; exact Bx.new x5c _ _
  obtain ⟨g6b, hg6b⟩ : ∃ y, y = g6a.alloc (.cells #[.int .i64 0, .int .i64 0, .bool false, .bool false, .bool false, .int .i64 0, .int .i64 0, .int .i64 0, .int .i64 0, .int .i64 0] 30) := ⟨_, rfl⟩
  have sg6b : g6b.heap.size = S6 + 1 + 1 := by rw [hg6b]; simp [sg6a]
  have bg6b : Below g6a.heap.size g6a g6b := by rw [hg6b]; exact below_new _ _
  have rg6b : Bx g6b (S6 + 1) 30 #[.int .i64 0, .int .i64 0, .bool false, .bool false, .bool false, .int .i64 0, .int .i64 0, .int .i64 0, .int .i64 0, .int .i64 0] := by rw [hg6b, ← sg6a]; exact Bx.new g6a _ _
  have HZ6 := Lib.hid (HZ5.out.below (bel0 bg6a bg6b))
  clear HZ5
  have HA6 := Lib.hid (HA5.out.below (bel0 bg6a bg6b))
  clear HA5
  have HP6 := Lib.hid (HP5.out.below (bel0 bg6a bg6b))
  clear HP5
  have HS6 := Lib.hid (HS5.out.below (bel0 bg6a bg6b))
  have HB6k := Lib.hid (bel0 HB5k.out (bel0 bg6a bg6b))
  clear HS5 HB5k
  rw [← hg6a, ← hg6b, ← hS6]
  clear hg6a sg6a bg6a rg6a hg6b sg6b bg6b rg6b hS6
  refine (kn_a5 A g h 1 g6b HS6.out).mono ?_
  rintro e x7c ⟨rfl, hs, hk⟩
  have HZ7 := Lib.hid (HZ6.out.kp hk (by simpa using Row.ne HZ6.out.row HS6.out.2.1 (by decide)))
  have HA7 := Lib.hid (HA6.out.kp hk (by simpa using Row.ne HA6.out.row HS6.out.2.1 (by decide)))
  have HP7 := Lib.hid (HP6.out.kp hk (by simpa using Row.ne HP6.out.row HS6.out.2.1 (by decide)))
  clear HZ6
  clear HA6
  clear HP6
  have HS7 := Lib.hid hs
  have HB7k := Lib.hid (Kp.below HB6k.out hk (by simpa using HG.out))
  clear hs hk HS6 HB6k
  have LZ := Lib.hid (fun X (hX : Below x7c.heap.size x7c X) => run_loadVar_row (P := Tryz.prog) X BZ _ 30 _ _ _ (HZ7.out.below hX) Tryz.underlying30 rfl (by kernel_rfl))
  go_wp2_with (refine wpList_valW (by rfl) (exec_load 30 _ rfl ⟨BZ, 0, none⟩ rfl (LZ.out _ (bel0 (below_new _ _) (below_new _ _)))) ?_)
  clear LZ
  obtain ⟨S8, hS8⟩ : ∃ b, b = x7c.heap.size := ⟨_, rfl⟩
  obtain ⟨g8a, hg8a⟩ : ∃ y, y = x7c.alloc (.cells #[.int .u32 0, .int .u32 0, .int .u32 0, .int .u32 9, .int .u32 0, .int .u32 0, .int .u32 0, .int .u32 0, .int .u32 0, .int .u32 0, .int .u32 0, .int .u32 0, .int .u32 0, .int .u32 0, .int .u32 0, .int .u32 0] 28) := ⟨_, rfl⟩
  have sg8a : g8a.heap.size = S8 + 1 := by rw [hg8a]; simp [hS8]
  have bg8a : Below x7c.heap.size x7c g8a := by rw [hg8a]; exact below_new _ _
  have rg8a : Bx g8a (S8) 28 #[.int .u32 0, .int .u32 0, .int .u32 0, .int .u32 9, .int .u32 0, .int .u32 0, .int .u32 0, .int .u32 0, .int .u32 0, .int .u32 0, .int .u32 0, .int .u32 0, .int .u32 0, .int .u32 0, .int .u32 0, .int .u32 0] := by rw [hg8a, hS8]; exact Bx.new x7c _ _
  obtain ⟨g8b, hg8b⟩ : ∃ y, y = g8a.alloc (.cells #[.int .i64 0, .int .i64 0, .bool false, .bool false, .bool false, .int .i64 0, .int .i64 0, .int .i64 0, .int .i64 0, .int .i64 0] 30) := ⟨_, rfl⟩
  have sg8b : g8b.heap.size = S8 + 1 + 1 := by rw [hg8b]; simp [sg8a]
  have bg8b : Below g8a.heap.size g8a g8b := by rw [hg8b]; exact below_new _ _
  have rg8b : Bx g8b (S8 + 1) 30 #[.int .i64 0, .int .i64 0, .bool false, .bool false, .bool false, .int .i64 0, .int .i64 0, .int .i64 0, .int .i64 0, .int .i64 0] := by rw [hg8b, ← sg8a]; exact Bx.new g8a _ _
  have HZ8 := Lib.hid (HZ7.out.below (bel0 bg8a bg8b))
  clear HZ7
  have HA8 := Lib.hid (HA7.out.below (bel0 bg8a bg8b))
  clear HA7
  have HP8 := Lib.hid (HP7.out.below (bel0 bg8a bg8b))
  clear HP7
  have HS8 := Lib.hid (HS7.out.below (bel0 bg8a bg8b))
  have HB8k := Lib.hid (bel0 HB7k.out (bel0 bg8a bg8b))
  clear HS7 HB7k
  rw [← hg8a, ← hg8b, ← hS8]
  clear hg8a sg8a bg8a rg8a hg8b sg8b bg8b rg8b hS8
  refine (kn_a6 A g h 1 g8b HS8.out).mono ?_
  rintro e x9c ⟨rfl, hs, hk⟩
  have HZ9 := Lib.hid (HZ8.out.kp hk (by simpa using Row.ne HZ8.out.row HS8.out.2.1 (by decide)))
  have HA9 := Lib.hid (HA8.out.kp hk (by simpa using Row.ne HA8.out.row HS8.out.2.1 (by decide)))
  have HP9 := Lib.hid (HP8.out.kp hk (by simpa using Row.ne HP8.out.row HS8.out.2.1 (by decide)))
  clear HZ8
  clear HA8
  clear HP8
  have HS9 := Lib.hid hs
  have HB9k := Lib.hid (Kp.below HB8k.out hk (by simpa using HG.out))
  clear hs hk HS8 HB8k
  have cHA2 := HA9.out.cell 2
  have cHA3 := HA9.out.cell 3
  simp only [List.getElem?_toArray, List.getElem?_cons_succ, List.getElem?_cons_zero] at cHA2 cHA3
  have tHA := HA9.out.lt
  go_wp2_with fail
  obtain ⟨S10, hS10⟩ : ∃ b, b = x9c.heap.size := ⟨_, rfl⟩
  obtain ⟨g10a, hg10a⟩ : ∃ y, y = x9c.alloc (.cells #[.int .u32 0, .int .u32 0, .int .u32 0, .int .u32 0, .int .u32 0, .int .u32 0, .int .u32 0, .int .u32 0, .int .u32 0, .int .u32 0, .int .u32 0, .int .u32 0, .int .u32 0, .int .u32 0, .int .u32 0, .int .u32 0] 28) := ⟨_, rfl⟩
  have sg10a : g10a.heap.size = S10 + 1 := by rw [hg10a]; simp [hS10]
  have bg10a : Below x9c.heap.size x9c g10a := by rw [hg10a]; exact below_new _ _
  have rg10a : Bx g10a (S10) 28 #[.int .u32 0, .int .u32 0, .int .u32 0, .int .u32 0, .int .u32 0, .int .u32 0, .int .u32 0, .int .u32 0, .int .u32 0, .int .u32 0, .int .u32 0, .int .u32 0, .int .u32 0, .int .u32 0, .int .u32 0, .int .u32 0] := by rw [hg10a, hS10]; exact Bx.new x9c _ _
  obtain ⟨g10b, hg10b⟩ : ∃ y, y = g10a.alloc (.cells #[.int .i64 0, .int .i64 0, .bool false, .bool false, .bool false, .int .i64 0, .int .i64 0, .int .i64 0, .int .i64 0, .int .i64 0] 30) := ⟨_, rfl⟩
  have sg10b : g10b.heap.size = S10 + 1 + 1 := by rw [hg10b]; simp [sg10a]
  have bg10b : Below g10a.heap.size g10a g10b := by rw [hg10b]; exact below_new _ _
  have rg10b : Bx g10b (S10 + 1) 30 #[.int .i64 0, .int .i64 0, .bool false, .bool false, .bool false, .int .i64 0, .int .i64 0, .int .i64 0, .int .i64 0, .int .i64 0] := by rw [hg10b, ← sg10a]; exact Bx.new g10a _ _
  have HZ10 := Lib.hid (HZ9.out.below (bel0 bg10a bg10b))
  clear HZ9
  have HA10 := Lib.hid (HA9.out.below (bel0 bg10a bg10b))
  clear HA9
  have HP10 := Lib.hid (HP9.out.below (bel0 bg10a bg10b))
  clear HP9
  have HS10 := Lib.hid (HS9.out.below (bel0 bg10a bg10b))
  have HB10k := Lib.hid (bel0 HB9k.out (bel0 bg10a bg10b))
  clear HS9 HB9k
  rw [← hg10a, ← hg10b, ← hS10]
  clear hg10a sg10a bg10a rg10a hg10b sg10b bg10b rg10b hS10
  refine (HKB.out A g h g10b HS10.out).mono ?_
  rintro e t1 ⟨rfl, hk⟩
  have HBt := Lib.hid (Kp.below HB10k.out hk (by simpa using HG.out))
  clear hk HKB
  go_wp2_with fail
  refine (HW.out _).mono ?_
  rintro e t2 ⟨rfl, hb⟩
  have HBu := Lib.hid (bel0 HBt.out hb)
  clear hb
  go_wp2
  go_ret
  exact ⟨rfl, HBu.out⟩
theorem wk_known (w : World) : Calls Tryz.prog 12 #[] w (New w (.bool true)) := wk_known_of (fun A g h X hX => kbytes_any A g h X hX) w

end M
end Go.Proofs.YtfopjnfphlkcgaaGreat

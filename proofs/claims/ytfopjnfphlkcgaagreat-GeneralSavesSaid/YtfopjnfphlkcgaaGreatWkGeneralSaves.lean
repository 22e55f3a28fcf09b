/- The walk of the statement GeneralSaves. -/
import Derived.Test.YtfopjnfphlkcgaaGreatRows
import Derived.Test.YtfopjnfphlkcgaaGreatGnSv
import Derived.Test.YtfopjnfphlkcgaaGreatGnWorks
import Derived.Test.YtfopjnfphlkcgaaGreatPsLaid
import Derived.Test.YtfopjnfphlkcgaaGreatWkGeneralNone
namespace Go.Proofs.YtfopjnfphlkcgaaGreat
open Go.RowKit Go.Shelf E
set_option linter.unusedVariables false
namespace M

theorem regs_ne (R : Nat → Int) (w : World) : (binOp .neq 28 (.agg #[.int .u32 (R 0), .int .u32 (R 1), .int .u32 (R 2), .int .u32 (R 3), .int .u32 (R 4), .int .u32 (R 5), .int .u32 (R 6), .int .u32 (R 7), .int .u32 (R 8), .int .u32 (R 9), .int .u32 (R 10), .int .u32 (R 11), .int .u32 (R 12), .int .u32 (R 13), .int .u32 (R 14), .int .u32 (R 15)]) (.agg #[.int .u32 (R 0), .int .u32 (R 1), .int .u32 (R 2), .int .u32 (R 3), .int .u32 (R 4), .int .u32 (R 5), .int .u32 (R 6), .int .u32 (R 7), .int .u32 (R 8), .int .u32 (R 9), .int .u32 (R 10), .int .u32 (R 11), .int .u32 (R 12), .int .u32 (R 13), .int .u32 (R 14), .int .u32 (R 15)])).run Tryz.prog w = .ok (.bool false) w := by
  have h := equal_regs R w
  first
    | (rw [run_neq_struct, h]; rfl)
    | (simp [binOp, h])
theorem reg_cell {X : World} {B : Nat} {R : Nat → Int} (h : Bx X B 28 #[.int .u32 (R 0), .int .u32 (R 1), .int .u32 (R 2), .int .u32 (R 3), .int .u32 (R 4), .int .u32 (R 5), .int .u32 (R 6), .int .u32 (R 7), .int .u32 (R 8), .int .u32 (R 9), .int .u32 (R 10), .int .u32 (R 11), .int .u32 (R 12), .int .u32 (R 13), .int .u32 (R 14), .int .u32 (R 15)]) (n : Nat) (hn : n < 16) : X.cell? ⟨B, n, none⟩ = some (.int .u32 (R n)) := by
  rw [h.cell n]
  rcases lt16 hn with rfl | rfl | rfl | rfl | rfl | rfl | rfl | rfl | rfl | rfl | rfl | rfl | rfl | rfl | rfl | rfl <;> rfl
attribute [local go_sem 5000] regs_self psw_self regs_ne
set_option maxRecDepth 100000 in
set_option maxHeartbeats 4000000 in
theorem wk_saves (Ro Rn : Nat → Int) (x : UInt8) (w : World) (hRo : RegOk Ro) (hRn : RegOk Rn) : Calls Tryz.prog 8 #[.agg #[.int .u32 (Ro 0), .int .u32 (Ro 1), .int .u32 (Ro 2), .int .u32 (Ro 3), .int .u32 (Ro 4), .int .u32 (Ro 5), .int .u32 (Ro 6), .int .u32 (Ro 7), .int .u32 (Ro 8), .int .u32 (Ro 9), .int .u32 (Ro 10), .int .u32 (Ro 11), .int .u32 (Ro 12), .int .u32 (Ro 13), .int .u32 (Ro 14), .int .u32 (Ro 15)], .agg #[.int .u32 (Rn 0), .int .u32 (Rn 1), .int .u32 (Rn 2), .int .u32 (Rn 3), .int .u32 (Rn 4), .int .u32 (Rn 5), .int .u32 (Rn 6), .int .u32 (Rn 7), .int .u32 (Rn 8), .int .u32 (Rn 9), .int .u32 (Rn 10), .int .u32 (Rn 11), .int .u32 (Rn 12), .int .u32 (Rn 13), .int .u32 (Rn 14), .int .u32 (Rn 15)], .int .u8 (x.toNat : Int)] w (New w (.bool true)) := by
  have hx := x.toNat_lt
  generalize x.toNat = X at *
  obtain ⟨a, ha⟩ : ∃ a, a = X / 16 := ⟨_, rfl⟩
  obtain ⟨b, hb⟩ : ∃ b, b = X % 16 := ⟨_, rfl⟩
  have HEQ : Hid ((X : Int) / 16 = (a : Int) ∧ (X : Int) % 16 = (b : Int)) := Lib.hid ⟨by omega, by omega⟩
  have hxI : (X : Int) < 256 := by omega
  obtain ⟨bs', Q, hy, hn, h1, h2⟩ := saves_exec a b Ro Rn (List.replicate 2048 0) (List.replicate 1 0) (by omega) (by omega) hRo hRn (List.length_replicate ..)
  have HAB := Lib.hid (And.intro (show a < 16 by omega) (show b < 16 by omega))
  have HY := Lib.hid hy
  have HN := Lib.hid hn
  have HE1 := Lib.hid h1
  have HE2 := Lib.hid h2
  clear hy hn h1 h2 ha hb hx
  obtain ⟨wA, hwA⟩ : ∃ wA, wA = w.alloc (.cells #[.int .u32 (Ro 0), .int .u32 (Ro 1), .int .u32 (Ro 2), .int .u32 (Ro 3), .int .u32 (Ro 4), .int .u32 (Ro 5), .int .u32 (Ro 6), .int .u32 (Ro 7), .int .u32 (Ro 8), .int .u32 (Ro 9), .int .u32 (Ro 10), .int .u32 (Ro 11), .int .u32 (Ro 12), .int .u32 (Ro 13), .int .u32 (Ro 14), .int .u32 (Ro 15)] 28) := ⟨_, rfl⟩
  obtain ⟨wB, hwB⟩ : ∃ wB, wB = wA.alloc (.cells #[.int .u32 (Rn 0), .int .u32 (Rn 1), .int .u32 (Rn 2), .int .u32 (Rn 3), .int .u32 (Rn 4), .int .u32 (Rn 5), .int .u32 (Rn 6), .int .u32 (Rn 7), .int .u32 (Rn 8), .int .u32 (Rn 9), .int .u32 (Rn 10), .int .u32 (Rn 11), .int .u32 (Rn 12), .int .u32 (Rn 13), .int .u32 (Rn 14), .int .u32 (Rn 15)] 28) := ⟨_, rfl⟩
  have sA : wA.heap.size = w.heap.size + 1 := by rw [hwA]; simp
  have bA : Below w.heap.size w wA := by rw [hwA]; exact below_new _ _
  have bB : Below wA.heap.size wA wB := by rw [hwB]; exact below_new _ _
  have KA : Bx wB w.heap.size 28 #[.int .u32 (Ro 0), .int .u32 (Ro 1), .int .u32 (Ro 2), .int .u32 (Ro 3), .int .u32 (Ro 4), .int .u32 (Ro 5), .int .u32 (Ro 6), .int .u32 (Ro 7), .int .u32 (Ro 8), .int .u32 (Ro 9), .int .u32 (Ro 10), .int .u32 (Ro 11), .int .u32 (Ro 12), .int .u32 (Ro 13), .int .u32 (Ro 14), .int .u32 (Ro 15)] := by
    have h1 : Bx wA w.heap.size 28 #[.int .u32 (Ro 0), .int .u32 (Ro 1), .int .u32 (Ro 2), .int .u32 (Ro 3), .int .u32 (Ro 4), .int .u32 (Ro 5), .int .u32 (Ro 6), .int .u32 (Ro 7), .int .u32 (Ro 8), .int .u32 (Ro 9), .int .u32 (Ro 10), .int .u32 (Ro 11), .int .u32 (Ro 12), .int .u32 (Ro 13), .int .u32 (Ro 14), .int .u32 (Ro 15)] := by rw [hwA]; exact Bx.new w _ _
    exact h1.below bB
  have KB : Bx wB (w.heap.size + 1) 28 #[.int .u32 (Rn 0), .int .u32 (Rn 1), .int .u32 (Rn 2), .int .u32 (Rn 3), .int .u32 (Rn 4), .int .u32 (Rn 5), .int .u32 (Rn 6), .int .u32 (Rn 7), .int .u32 (Rn 8), .int .u32 (Rn 9), .int .u32 (Rn 10), .int .u32 (Rn 11), .int .u32 (Rn 12), .int .u32 (Rn 13), .int .u32 (Rn 14), .int .u32 (Rn 15)] := by rw [hwB, ← sA]; exact Bx.new wA _ _
  have HK := Lib.hid (And.intro KA KB)
  have HB0 := Lib.hid (bel0 bA bB)
  have HNEW := Lib.hid (new_any 2048 wB (by decide))
  have HW := Lib.hid (fun X => works_any X)
  have HWD := Lib.hid (And.intro hwA hwB)
  obtain ⟨BA, hBA⟩ : ∃ BA, BA = w.heap.size := ⟨_, rfl⟩
  have HBA := Lib.hid hBA
  have HSB : Hid (BA + 2 ≤ wB.heap.size) := Lib.hid (by rw [hBA, hwB]; simp; omega)
  clear sA bA bB KA KB hwA hwB hBA
  go_enter Tryz.func8, Tryz.ntmps8
  go_wp2_with fail
  rw [← HWD.out.1, ← HWD.out.2]
  refine HNEW.out.mono ?_
  rintro e w1 ⟨A, g, h, rfl, hst, hA, hg, hh, hb⟩
  have HST := Lib.hid hst
  have HG : Hid (wB.heap.size ≤ g) := Lib.hid hg
  have HB := Lib.hid (bel0 HB0.out hb)
  have HK1 := Lib.hid (And.intro (HK.out.1.below hb) (HK.out.2.below hb))
  clear hst hA hg hh hb HNEW HK HB0 HWD
  go_wp2_with fail
  refine (HW.out _).mono ?_
  rintro e w2 ⟨rfl, hb⟩
  have HST2 := Lib.hid (HST.out.below hb)
  have HB2 := Lib.hid (bel0 HB.out hb)
  have HK2 := Lib.hid (And.intro (HK1.out.1.below hb) (HK1.out.2.below hb))
  have HGW : Hid (w.heap.size ≤ g ∧ BA ≠ g ∧ BA + 1 ≠ g) := Lib.hid (by have := HG.out; have := HSB.out; have := HBA.out; omega)
  clear hb HST HB HW HK1
  have L2 := Lib.hid (fun X (hX : Below w2.heap.size w2 X) => run_loadVar_row (P := Tryz.prog) X w.heap.size _ 28 _ _ _ (HK2.out.1.below hX) Tryz.underlying28 rfl (by kernel_rfl))
  go_wp2_with (refine wpList_valW (by rfl) (exec_load 28 _ rfl ⟨w.heap.size, 0, none⟩ rfl (L2.out _ (Below.refl _ _))) ?_)
  rw [HEQ.out.1, HEQ.out.2]
  refine (HE1.out A g h _ w2 HST2.out).mono ?_
  rintro e w4 ⟨rfl, hs4, hk4⟩
  have HST4 := Lib.hid hs4
  have HB4 := Lib.hid (Kp.below HB2.out hk4 (by simpa using HGW.out.1))
  have HK4 := Lib.hid (And.intro (HK2.out.1.kp hk4 (by rw [← HBA.out]; simpa using HGW.out.2.1)) (HK2.out.2.kp hk4 (by rw [← HBA.out]; simpa using HGW.out.2.2)))
  have HL4 := Lib.hid hs4.2.1.lt
  clear hs4 hk4 HST2 HB2 HK2 HE1 L2
  have L4 := Lib.hid (fun X (hX : Below w4.heap.size w4 X) => run_loadVar_row (P := Tryz.prog) X (w.heap.size + 1) _ 28 _ _ _ (HK4.out.2.below hX) Tryz.underlying28 rfl (by kernel_rfl))
  go_wp2_with (refine wpList_valW (by rfl) (exec_load 28 _ rfl ⟨w.heap.size + 1, 0, none⟩ rfl (L4.out _ (bel0 (below_new _ _) (below_new _ _)))) ?_)
  obtain ⟨y3, hy3⟩ : ∃ y, y = w4.alloc (.cells #[.int .u32 (Ro 0), .int .u32 (Ro 1), .int .u32 (Ro 2), .int .u32 (Ro 3), .int .u32 (Ro 4), .int .u32 (Ro 5), .int .u32 (Ro 6), .int .u32 (Ro 7), .int .u32 (Ro 8), .int .u32 (Ro 9), .int .u32 (Ro 10), .int .u32 (Ro 11), .int .u32 (Ro 12), .int .u32 (Ro 13), .int .u32 (Ro 14), .int .u32 (Ro 15)] 28) := ⟨_, rfl⟩
  obtain ⟨y4, hy4⟩ : ∃ y, y = y3.alloc (.cells #[.int .i64 0, .int .i64 0, .bool false, .bool false, .bool false, .int .i64 0, .int .i64 0, .int .i64 0, .int .i64 0, .int .i64 0] 30) := ⟨_, rfl⟩
  have s3 : y3.heap.size = w4.heap.size + 1 := by rw [hy3]; simp
  have b3 : Below w4.heap.size w4 y3 := by rw [hy3]; exact below_new _ _
  have b4 : Below y3.heap.size y3 y4 := by rw [hy4]; exact below_new _ _
  have r3 : Bx y4 w4.heap.size 28 #[.int .u32 (Ro 0), .int .u32 (Ro 1), .int .u32 (Ro 2), .int .u32 (Ro 3), .int .u32 (Ro 4), .int .u32 (Ro 5), .int .u32 (Ro 6), .int .u32 (Ro 7), .int .u32 (Ro 8), .int .u32 (Ro 9), .int .u32 (Ro 10), .int .u32 (Ro 11), .int .u32 (Ro 12), .int .u32 (Ro 13), .int .u32 (Ro 14), .int .u32 (Ro 15)] := by
    have h1 : Bx y3 w4.heap.size 28 #[.int .u32 (Ro 0), .int .u32 (Ro 1), .int .u32 (Ro 2), .int .u32 (Ro 3), .int .u32 (Ro 4), .int .u32 (Ro 5), .int .u32 (Ro 6), .int .u32 (Ro 7), .int .u32 (Ro 8), .int .u32 (Ro 9), .int .u32 (Ro 10), .int .u32 (Ro 11), .int .u32 (Ro 12), .int .u32 (Ro 13), .int .u32 (Ro 14), .int .u32 (Ro 15)] := by rw [hy3]; exact Bx.new w4 _ _
    exact h1.below b4
  have r4 : Bx y4 (w4.heap.size + 1) 30 #[.int .i64 0, .int .i64 0, .bool false, .bool false, .bool false, .int .i64 0, .int .i64 0, .int .i64 0, .int .i64 0, .int .i64 0] := by rw [hy4, ← s3]; exact Bx.new y3 _ _
  have HR := Lib.hid (And.intro r3 r4)
  have HST5 := Lib.hid (HST4.out.below (bel0 b3 b4))
  have HB5 := Lib.hid (bel0 HB4.out (bel0 b3 b4))
  have HK5 := Lib.hid (And.intro (HK4.out.1.below (bel0 b3 b4)) (HK4.out.2.below (bel0 b3 b4)))
  have HGX : Hid (w4.heap.size ≠ g ∧ w4.heap.size + 1 ≠ g) := Lib.hid (by have := HL4.out; omega)
  rw [← hy3, ← hy4]
  clear hy3 hy4 s3 b3 b4 r3 r4 HST4 HB4 HK4 HL4 L4
  refine (HE2.out A g h _ y4 HST5.out).mono ?_
  rintro e w5 ⟨rfl, hs5, hk5⟩
  have HB6 := Lib.hid (Kp.below HB5.out hk5 (by simpa using HGW.out.1))
  have HK6 := Lib.hid (And.intro (HK5.out.1.kp hk5 (by rw [← HBA.out]; simpa using HGW.out.2.1)) (HK5.out.2.kp hk5 (by rw [← HBA.out]; simpa using HGW.out.2.2)))
  have HR6 := Lib.hid (And.intro (HR.out.1.kp hk5 (by simpa using HGX.out.1)) (HR.out.2.kp hk5 (by simpa using HGX.out.2)))
  clear hs5 hk5 HST5 HB5 HK5 HE2 HR HGX HGW
  obtain ⟨B3, hB3⟩ : ∃ B, B = w4.heap.size := ⟨_, rfl⟩
  have L5 := Lib.hid (fun X (hX : Below w5.heap.size w5 X) => run_loadVar_row (P := Tryz.prog) X w.heap.size _ 28 _ _ _ (HK6.out.1.below hX) Tryz.underlying28 rfl (by kernel_rfl))
  have L6 := Lib.hid (fun X (hX : Below w5.heap.size w5 X) => run_loadVar_row (P := Tryz.prog) X w4.heap.size _ 28 _ _ _ (HR6.out.1.below hX) Tryz.underlying28 rfl (by kernel_rfl))
  have L7 := Lib.hid (fun X (hX : Below w5.heap.size w5 X) => run_loadVar_row (P := Tryz.prog) X (w4.heap.size + 1) _ 30 _ _ _ (HR6.out.2.below hX) Tryz.underlying30 rfl (by kernel_rfl))
  have LQ : Hid (∀ X, Below w5.heap.size w5 X → ∀ y, Bx X y 30 #[.int .i64 0, .int .i64 0, .bool false, .bool false, .bool false, .int .i64 0, .int .i64 0, .int .i64 0, .int .i64 0, .int .i64 0] → (loadVar 30 ⟨y, 0, none⟩).run Tryz.prog X = .ok (.agg #[.int .i64 0, .int .i64 0, .bool false, .bool false, .bool false, .int .i64 0, .int .i64 0, .int .i64 0, .int .i64 0, .int .i64 0]) X) := Lib.hid (fun X _ y hy => run_loadVar_row (P := Tryz.prog) X y _ 30 _ _ _ hy Tryz.underlying30 rfl (by kernel_rfl))
  go_wp2_with (first | (refine wpList_valW (by rfl) (exec_load 28 _ rfl ⟨w.heap.size, 0, none⟩ rfl (L5.out _ (bel0 (below_new _ _) (below_new _ _)))) ?_) | (refine wpList_valW (by rfl) (exec_load 28 _ rfl ⟨w4.heap.size, 0, none⟩ rfl (L6.out _ (bel0 (below_new _ _) (below_new _ _)))) ?_) | (refine wpList_valW (by rfl) (exec_load 30 _ rfl ⟨w4.heap.size + 1, 0, none⟩ rfl (L7.out _ (bel0 (below_new _ _) (below_new _ _)))) ?_))
  obtain ⟨y5, hy5⟩ : ∃ y, y = w5.alloc (.cells #[.int .u32 (Q 0), .int .u32 (Q 1), .int .u32 (Q 2), .int .u32 (Q 3), .int .u32 (Q 4), .int .u32 (Q 5), .int .u32 (Q 6), .int .u32 (Q 7), .int .u32 (Q 8), .int .u32 (Q 9), .int .u32 (Q 10), .int .u32 (Q 11), .int .u32 (Q 12), .int .u32 (Q 13), .int .u32 (Q 14), .int .u32 (Q 15)] 28) := ⟨_, rfl⟩
  obtain ⟨y6, hy6⟩ : ∃ y, y = y5.alloc (.cells #[.int .i64 0, .int .i64 0, .bool false, .bool false, .bool false, .int .i64 0, .int .i64 0, .int .i64 0, .int .i64 0, .int .i64 0] 30) := ⟨_, rfl⟩
  have b5 : Below w5.heap.size w5 y5 := by rw [hy5]; exact below_new _ _
  have b6 : Below y5.heap.size y5 y6 := by rw [hy6]; exact below_new _ _
  have r5 : Bx y6 w5.heap.size 28 #[.int .u32 (Q 0), .int .u32 (Q 1), .int .u32 (Q 2), .int .u32 (Q 3), .int .u32 (Q 4), .int .u32 (Q 5), .int .u32 (Q 6), .int .u32 (Q 7), .int .u32 (Q 8), .int .u32 (Q 9), .int .u32 (Q 10), .int .u32 (Q 11), .int .u32 (Q 12), .int .u32 (Q 13), .int .u32 (Q 14), .int .u32 (Q 15)] := by
    have h1 : Bx y5 w5.heap.size 28 #[.int .u32 (Q 0), .int .u32 (Q 1), .int .u32 (Q 2), .int .u32 (Q 3), .int .u32 (Q 4), .int .u32 (Q 5), .int .u32 (Q 6), .int .u32 (Q 7), .int .u32 (Q 8), .int .u32 (Q 9), .int .u32 (Q 10), .int .u32 (Q 11), .int .u32 (Q 12), .int .u32 (Q 13), .int .u32 (Q 14), .int .u32 (Q 15)] := by rw [hy5]; exact Bx.new w5 _ _
    exact h1.below b6
  have HC := Lib.hid (fun n (hn : n < 16) => And.intro (reg_cell r5 n hn) (And.intro (reg_cell (HK6.out.1.below (bel0 b5 b6)) n hn) (reg_cell (HK6.out.2.below (bel0 b5 b6)) n hn)))
  have HB7 := Lib.hid (bel0 HB6.out (bel0 b5 b6))
  rw [← hy5, ← hy6]
  clear hy5 hy6 b5 b6 r5 HK6 HB6 HR6 L5 L6 L7 LQ HBA HSB HG hB3
  have hab := HAB.out
  have ha16 : (a : Int) < 16 := by omega
  have hb16 : (b : Int) < 16 := by omega
  go_loopw [17] (fun i wr => (∃ m, wr = y6.drewN m) ∧ ∃ k : Nat, k ≤ 16 ∧ i = .int .i64 (k : Int)) (fun i _ => 16 - (intOf i).toNat)
  case atStart => exact ⟨⟨0, rfl⟩, 0, by decide, rfl⟩
  case round =>
    obtain ⟨⟨m, rfl⟩, k, hk, rfl⟩ := hrel
    by_cases hlt : k < 16
    · obtain ⟨c14, c3, c4⟩ := HC.out k hlt
      have hlt' : (k : Int) < 16 := by omega
      have hyk := HY.out k hlt
      have hnk := HN.out k hlt
      unfold inS at hyk hnk
      by_cases h1 : b < a
      · have h1' : (b : Int) < (a : Int) := by omega
        rw [if_pos h1] at hyk hnk
        by_cases h2 : a ≤ k
        · have h2' : (a : Int) ≤ (k : Int) := by omega
          by_cases h3 : k ≤ b
          · omega
          · have h3' : ¬ ((k : Int) ≤ (b : Int)) := by omega
            rw [hyk (by simp [h2])] at c14
            clear hyk hnk
            generalize Ro k = u at c14 c3
            generalize Rn k = v at c4
            go_wp2
            go_quiet (fail)
            go_wp2
            go_roundw
            case rel => exact ⟨⟨_, rfl⟩, k + 1, hlt, by go_num⟩
            case measure => simp [intOf]; omega
        · have h2' : ¬ ((a : Int) ≤ (k : Int)) := by omega
          by_cases h3 : k ≤ b
          · have h3' : (k : Int) ≤ (b : Int) := by omega
            rw [hyk (by simp [h3])] at c14
            clear hyk hnk
            generalize Ro k = u at c14 c3
            generalize Rn k = v at c4
            go_wp2
            go_quiet (fail)
            go_wp2
            go_roundw
            case rel => exact ⟨⟨_, rfl⟩, k + 1, hlt, by go_num⟩
            case measure => simp [intOf]; omega
          · have h3' : ¬ ((k : Int) ≤ (b : Int)) := by omega
            rw [hnk (by simp [h2, h3])] at c14
            clear hyk hnk
            generalize Ro k = u at c3
            generalize Rn k = v at c14 c4
            go_wp2
            go_quiet (fail)
            go_wp2
            go_roundw
            case rel => exact ⟨⟨_, rfl⟩, k + 1, hlt, by go_num⟩
            case measure => simp [intOf]; omega
      · have h1' : ¬ ((b : Int) < (a : Int)) := by omega
        rw [if_neg h1] at hyk hnk
        by_cases h2 : a ≤ k
        · have h2' : (a : Int) ≤ (k : Int) := by omega
          by_cases h3 : k ≤ b
          · have h3' : (k : Int) ≤ (b : Int) := by omega
            rw [hyk (by simp [h2, h3])] at c14
            clear hyk hnk
            generalize Ro k = u at c14 c3
            generalize Rn k = v at c4
            go_wp2
            go_quiet (fail)
            go_wp2
            go_roundw
            case rel => exact ⟨⟨_, rfl⟩, k + 1, hlt, by go_num⟩
            case measure => simp [intOf]; omega
          · have h3' : ¬ ((k : Int) ≤ (b : Int)) := by omega
            rw [hnk (by simp [h3])] at c14
            clear hyk hnk
            generalize Ro k = u at c3
            generalize Rn k = v at c14 c4
            go_wp2
            go_quiet (fail)
            go_wp2
            go_roundw
            case rel => exact ⟨⟨_, rfl⟩, k + 1, hlt, by go_num⟩
            case measure => simp [intOf]; omega
        · have h2' : ¬ ((a : Int) ≤ (k : Int)) := by omega
          rw [hnk (by simp [h2])] at c14
          clear hyk hnk
          generalize Ro k = u at c3
          generalize Rn k = v at c14 c4
          go_wp2
          go_quiet (fail)
          go_wp2
          go_roundw
          case rel => exact ⟨⟨_, rfl⟩, k + 1, hlt, by go_num⟩
          case measure => simp [intOf]; omega
    · obtain rfl : k = 16 := by omega
      clear HC HY HN
      go_wp2
      go_ret
      exact ⟨rfl, bel0 HB7.out (belowDraw _ _)⟩

end M
end Go.Proofs.YtfopjnfphlkcgaaGreat

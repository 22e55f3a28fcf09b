/- The examples with bytes and branches. -/
import Derived.Test.YtfopjnfphlkcgaaGreatRows
import Derived.Test.YtfopjnfphlkcgaaGreatGnFs
import Derived.Test.YtfopjnfphlkcgaaGreatGnKn
import Derived.Test.YtfopjnfphlkcgaaGreatGnSs
import Derived.Test.YtfopjnfphlkcgaaGreatPsLaid
import Derived.Test.YtfopjnfphlkcgaaGreatWkGeneralNone
namespace Go.Proofs.YtfopjnfphlkcgaaGreat
namespace E
end E
open Go.RowKit Go.Shelf E
set_option linter.unusedVariables false
namespace M

theorem exec_stk {P : Program} {o : Oper} {a : Act} {w w' : World} (t : TypeId) (x y : Operand) (hop : o.op = Op.store t x y) (ad : Addr) (hp : a.eval x = .pointer (some ad)) (v : Value) (hv : a.eval y = v) (hs : (storeVar t ad v).run P w = .ok () w') : (execOp a.eval o).run P w = .ok .skip w' := by
  simp [execOp, hop, hp, hv, Instr.storeAt, Instr.sureAddr, hs, Result.andThen]
theorem put_lit (A g h x : Nat) (v : Value) (b bs bs2 : List UInt8) (w : World) (hs : Sto w A g h 2048 1 bs (List.replicate 1 0)) (hv : SvB w v b) (hx : x + b.length ≤ 2048) (hb : E.putL bs x b = bs2) : Calls Tryz.prog 26 #[.pointer (some ⟨A, 0, none⟩), .int .i64 (x : Int), v, .int .i64 0] w fun e w' => e = .returned (.int .i64 0) ∧ Sto w' A g h 2048 1 bs2 (List.replicate 1 0) ∧ Kp w w' [g] := by
  have h1 := put_any A g h 2048 1 (x : Int) 0 v b bs (List.replicate 1 0) w (by omega) hs hv
  have hc : codeV (stP 0) 2048 (List.replicate 1 0) (x : Int) (b.length : Int) = 0 := code_zero stP_zero hx
  unfold putB at h1
  rw [hc, if_pos rfl, Int.toNat_natCast, hb] at h1
  refine h1.mono ?_
  rintro e w' ⟨rfl, hg, hs'⟩
  exact ⟨rfl, hs', Kp.of hg (List.mem_singleton.2 rfl)⟩
theorem ckb_mk {f : (Nat → Value) → Act} {a : Act} (h : a = f (fun i => a.tmps.getD i undef)) : ∃ u, a = f u := ⟨_, h⟩
theorem kp_rowIn {w W : World} {l : List Nat} (h : Kp w W l) {b : Nat} (hb : b ∈ l) (cs : Array Value) : Kp w (W.setRow b cs) l := ⟨h.os, h.tape, h.output, by simpa [World.setRow] using h.size, fun k hk hn => (setRow_other W b k _ (fun e => hn (by rw [e]; exact hb))).trans (h.block k hk hn)⟩
theorem kp_drop {w X Y : World} {g b : Nat} (h : Kp w X [g]) (k : Kp X Y [g, b]) (hb : w.heap.size ≤ b) : Kp w Y [g] := ⟨k.os.trans h.os, k.tape.trans h.tape, k.output.trans h.output, Nat.le_trans h.size k.size, fun i hi hn => (k.block i (Nat.lt_of_lt_of_le hi h.size) (fun hm => by simp at hm hn; omega)).trans (h.block i hi hn)⟩
theorem kb_byts (A g h : Nat) (X : World) (hX : Sto X A g h 2048 1 kb4 (List.replicate 1 0)) : Calls Tryz.prog 20 #[.pointer (some ⟨A, 0, none⟩), .int .i64 600, .int .i64 4] X (BytPost X [1, 1, 1, 1]) := by
  have h1 := bytes_any A g h 2048 1 600 4 kb4 (List.replicate 1 0) X (by decide) hX
  rw [show bytL 2048 kb4 600 4 = [1, 1, 1, 1] by kernel_rfl] at h1
  exact h1
set_option maxRecDepth 100000 in
set_option maxHeartbeats 20000000 in
theorem kbytes_any (A g h : Nat) (w : World) (hst : Sto w A g h 2048 1 kb1 (List.replicate 1 0)) : Calls Tryz.prog 28 #[.pointer (some ⟨A, 0, none⟩)] w fun e w' => e = .returned (.bool true) ∧ Kp w w' [g] := by
  have HST0 := Lib.hid hst
  have HB0 := Lib.hid (Kp.refl w [g])
  have HSS1 : Hid (∀ X, Calls Tryz.prog 27 #[.int .i64 210, .int .i64 3] X (New X (.agg #[.int .i64 210, .int .i64 5, .int .i64 0, .int .i64 0, .int .i64 0, .int .i64 14, .int .i64 0, .int .i64 15, .int .i64 0, .int .i64 2, .int .i64 0, .int .i64 0]))) := Lib.hid (fun X => ss_any 210 3 X (by decide) (by decide))
  have HSS2 : Hid (∀ X, Calls Tryz.prog 27 #[.int .i64 221, .int .i64 3] X (New X (.agg #[.int .i64 221, .int .i64 5, .int .i64 0, .int .i64 0, .int .i64 0, .int .i64 14, .int .i64 0, .int .i64 15, .int .i64 0, .int .i64 2, .int .i64 0, .int .i64 0]))) := Lib.hid (fun X => ss_any 221 3 X (by decide) (by decide))
  clear hst
  go_enter Tryz.func28, Tryz.ntmps28
  go_wp2_with fail
  obtain ⟨S1, hS1⟩ : ∃ b, b = w.heap.size := ⟨_, rfl⟩
  obtain ⟨g1a, hg1a⟩ : ∃ y, y = w.alloc (.cells #[.int .i64 0, .int .i64 0, .bool false, .bool false, .bool false, .int .i64 0, .int .i64 0, .int .i64 0, .int .i64 0, .int .i64 0] 30) := ⟨_, rfl⟩
  have sg1a : g1a.heap.size = S1 + 1 := by rw [hg1a]; simp [hS1]
  have bg1a : Below w.heap.size w g1a := by rw [hg1a]; exact below_new _ _
  have rg1a : Bx g1a (S1) 30 #[.int .i64 0, .int .i64 0, .bool false, .bool false, .bool false, .int .i64 0, .int .i64 0, .int .i64 0, .int .i64 0, .int .i64 0] := by rw [hg1a, hS1]; exact Bx.new w _ _
  obtain ⟨g1b, hg1b⟩ : ∃ y, y = g1a.alloc (.cells #[.int .u8 128] 5) := ⟨_, rfl⟩
  have sg1b : g1b.heap.size = S1 + 1 + 1 := by rw [hg1b]; simp [sg1a]
  have bg1b : Below g1a.heap.size g1a g1b := by rw [hg1b]; exact below_new _ _
  have rg1b : Bx g1b (S1 + 1) 5 #[.int .u8 128] := by rw [hg1b, ← sg1a]; exact Bx.new g1a _ _
  have HS1 := Lib.hid (HST0.out.below (bel0 bg1a bg1b))
  have HB1k := Lib.hid (HB0.out.trans (Kp.bel (bel0 bg1a bg1b)))
  clear HST0 HB0
  have HZ1 := Lib.hid (rg1a.below bg1b)
  rw [← hg1a, ← hg1b, ← hS1]
  have HSV : Hid (SvB g1b (.slice (some ⟨S1 + 1, 0, none⟩) 1 1) [128]) := Lib.hid (by rw [hg1b, ← sg1a]; exact svb_new _ [128] (by decide))
  clear hg1a sg1a bg1a rg1a hg1b sg1b bg1b rg1b hS1
  refine (put_lit A g h 500 _ [128] kb1 kb2 g1b HS1.out HSV.out (by decide) (by kernel_rfl)).mono ?_
  rintro e x2c ⟨rfl, hs, hk⟩
  have HZ2 := Lib.hid (HZ1.out.kp hk (by simpa using Row.ne HZ1.out.row HS1.out.2.1 (by decide)))
  clear HZ1
  have HS2 := Lib.hid hs
  have HB2k := Lib.hid (HB1k.out.trans hk)
  clear hs hk HS1 HB1k
  clear HSV
  have LZ := Lib.hid (fun X (hX : Below x2c.heap.size x2c X) => run_loadVar_row (P := Tryz.prog) X S1 _ 30 _ _ _ (HZ2.out.below hX) Tryz.underlying30 rfl (by kernel_rfl))
  go_wp2_with (refine wpList_valW (by rfl) (exec_load 30 _ rfl ⟨S1, 0, none⟩ rfl (LZ.out _ (Below.refl _ _))) ?_)
  clear LZ
  refine (kn_b1 A g h 1 x2c HS2.out).mono ?_
  rintro e x3c ⟨rfl, hs, hk⟩
  have HZ3 := Lib.hid (HZ2.out.kp hk (by simpa using Row.ne HZ2.out.row HS2.out.2.1 (by decide)))
  clear HZ2
  have HS3 := Lib.hid hs
  have HB3k := Lib.hid (HB2k.out.trans hk)
  clear hs hk HS2 HB2k
  have LZ := Lib.hid (fun X (hX : Below x3c.heap.size x3c X) => run_loadVar_row (P := Tryz.prog) X S1 _ 30 _ _ _ (HZ3.out.below hX) Tryz.underlying30 rfl (by kernel_rfl))
  go_wp2_with (refine wpList_valW (by rfl) (exec_load 30 _ rfl ⟨S1, 0, none⟩ rfl (LZ.out _ (bel0 (below_new _ _) (below_new _ _)))) ?_)
  clear LZ
  have hzl := HZ3.out.lt
  have hwl := HB3k.out.size
  obtain ⟨S4, hS4⟩ : ∃ b, b = x3c.heap.size := ⟨_, rfl⟩
  obtain ⟨g4a, hg4a⟩ : ∃ y, y = x3c.alloc (.cells #[.int .u32 0, .int .u32 0, .int .u32 0, .int .u32 0, .int .u32 0, .int .u32 0, .int .u32 0, .int .u32 0, .int .u32 0, .int .u32 0, .int .u32 0, .int .u32 0, .int .u32 0, .int .u32 0, .int .u32 0, .int .u32 0] 28) := ⟨_, rfl⟩
  have sg4a : g4a.heap.size = S4 + 1 := by rw [hg4a]; simp [hS4]
  have bg4a : Below x3c.heap.size x3c g4a := by rw [hg4a]; exact below_new _ _
  have rg4a : Bx g4a (S4) 28 #[.int .u32 0, .int .u32 0, .int .u32 0, .int .u32 0, .int .u32 0, .int .u32 0, .int .u32 0, .int .u32 0, .int .u32 0, .int .u32 0, .int .u32 0, .int .u32 0, .int .u32 0, .int .u32 0, .int .u32 0, .int .u32 0] := by rw [hg4a, hS4]; exact Bx.new x3c _ _
  obtain ⟨g4b, hg4b⟩ : ∃ y, y = g4a.alloc (.cells #[.int .i64 0, .int .i64 0, .bool false, .bool false, .bool false, .int .i64 0, .int .i64 0, .int .i64 1, .int .i64 0, .int .i64 0] 30) := ⟨_, rfl⟩
  have sg4b : g4b.heap.size = S4 + 1 + 1 := by rw [hg4b]; simp [sg4a]
  have bg4b : Below g4a.heap.size g4a g4b := by rw [hg4b]; exact below_new _ _
  have rg4b : Bx g4b (S4 + 1) 30 #[.int .i64 0, .int .i64 0, .bool false, .bool false, .bool false, .int .i64 0, .int .i64 0, .int .i64 1, .int .i64 0, .int .i64 0] := by rw [hg4b, ← sg4a]; exact Bx.new g4a _ _
  have HZ4 := Lib.hid (HZ3.out.below (bel0 bg4a bg4b))
  clear HZ3
  have HS4 := Lib.hid (HS3.out.below (bel0 bg4a bg4b))
  have HB4k := Lib.hid (HB3k.out.trans (Kp.bel (bel0 bg4a bg4b)))
  clear HS3 HB3k
  have H44 := Lib.hid (rg4a.below bg4b)
  have H54 := Lib.hid (rg4b)
  rw [← hg4a, ← hg4b, ← hS4]
  have HZ5 : Hid (S1 ≠ S4 + 1 ∧ w.heap.size ≤ S4 + 1) := Lib.hid (by have e9 := hS4; omega)
  clear hzl hwl
  clear hg4a sg4a bg4a rg4a hg4b sg4b bg4b rg4b hS4
  refine (kn_b2 A g h 1 g4b HS4.out).mono ?_
  rintro e x5c ⟨rfl, hs, hk⟩
  have HZ5 := Lib.hid (HZ4.out.kp hk (by simpa using Row.ne HZ4.out.row HS4.out.2.1 (by decide)))
  have H45 := Lib.hid (H44.out.kp hk (by simpa using Row.ne H44.out.row HS4.out.2.1 (by decide)))
  have H55 := Lib.hid (H54.out.kp hk (by simpa using Row.ne H54.out.row HS4.out.2.1 (by decide)))
  clear HZ4
  clear H44
  clear H54
  have HS5 := Lib.hid hs
  have HB5k := Lib.hid (HB4k.out.trans hk)
  clear hs hk HS4 HB4k
  go_wp2_with fail
  obtain ⟨S6, hS6⟩ : ∃ b, b = x5c.heap.size := ⟨_, rfl⟩
  obtain ⟨g6a, hg6a⟩ : ∃ y, y = x5c.alloc (.cells #[.int .u32 0, .int .u32 0, .int .u32 0, .int .u32 0, .int .u32 0, .int .u32 0, .int .u32 0, .int .u32 0, .int .u32 0, .int .u32 0, .int .u32 0, .int .u32 0, .int .u32 0, .int .u32 0, .int .u32 0, .int .u32 0] 28) := ⟨_, rfl⟩
  have sg6a : g6a.heap.size = S6 + 1 := by rw [hg6a]; simp [hS6]
  have bg6a : Below x5c.heap.size x5c g6a := by rw [hg6a]; exact below_new _ _
  have rg6a : Bx g6a (S6) 28 #[.int .u32 0, .int .u32 0, .int .u32 0, .int .u32 0, .int .u32 0, .int .u32 0, .int .u32 0, .int .u32 0, .int .u32 0, .int .u32 0, .int .u32 0, .int .u32 0, .int .u32 0, .int .u32 0, .int .u32 0, .int .u32 0] := by rw [hg6a, hS6]; exact Bx.new x5c _ _
  obtain ⟨g6b, hg6b⟩ : ∃ y, y = g6a.alloc (.cells #[.int .i64 0, .int .i64 0, .bool false, .bool false, .bool false, .int .i64 0, .int .i64 0, .int .i64 0, .int .i64 0, .int .i64 0] 30) := ⟨_, rfl⟩
  have sg6b : g6b.heap.size = S6 + 1 + 1 := by rw [hg6b]; simp [sg6a]
  have bg6b : Below g6a.heap.size g6a g6b := by rw [hg6b]; exact below_new _ _
  have rg6b : Bx g6b (S6 + 1) 30 #[.int .i64 0, .int .i64 0, .bool false, .bool false, .bool false, .int .i64 0, .int .i64 0, .int .i64 0, .int .i64 0, .int .i64 0] := by rw [hg6b, ← sg6a]; exact Bx.new g6a _ _
  obtain ⟨g6c, hg6c⟩ : ∃ y, y = g6b.alloc (.cells #[.int .u8 1, .int .u8 2, .int .u8 3, .int .u8 4] 5) := ⟨_, rfl⟩
  have sg6c : g6c.heap.size = S6 + 1 + 1 + 1 := by rw [hg6c]; simp [sg6b]
  have bg6c : Below g6b.heap.size g6b g6c := by rw [hg6c]; exact below_new _ _
  have rg6c : Bx g6c (S6 + 1 + 1) 5 #[.int .u8 1, .int .u8 2, .int .u8 3, .int .u8 4] := by rw [hg6c, ← sg6b]; exact Bx.new g6b _ _
  have HZ6 := Lib.hid (HZ5.out.below (bel0 (bel0 bg6a bg6b) bg6c))
  clear HZ5
  have H46 := Lib.hid (H45.out.below (bel0 (bel0 bg6a bg6b) bg6c))
  clear H45
  have H56 := Lib.hid (H55.out.below (bel0 (bel0 bg6a bg6b) bg6c))
  clear H55
  have HS6 := Lib.hid (HS5.out.below (bel0 (bel0 bg6a bg6b) bg6c))
  have HB6k := Lib.hid (HB5k.out.trans (Kp.bel (bel0 (bel0 bg6a bg6b) bg6c)))
  clear HS5 HB5k
  have H86 := Lib.hid (rg6b.below bg6c)
  rw [← hg6a, ← hg6b, ← hg6c, ← hS6]
  have HSV : Hid (SvB g6c (.slice (some ⟨S6 + 1 + 1, 0, none⟩) 4 4) [1, 2, 3, 4]) := Lib.hid (by rw [hg6c, ← sg6b]; exact svb_new _ [1, 2, 3, 4] (by decide))
  clear hg6a sg6a bg6a rg6a hg6b sg6b bg6b rg6b hg6c sg6c bg6c rg6c hS6
  refine (put_lit A g h 600 _ [1, 2, 3, 4] kb2 kb3 g6c HS6.out HSV.out (by decide) (by kernel_rfl)).mono ?_
  rintro e x7c ⟨rfl, hs, hk⟩
  have HZ7 := Lib.hid (HZ6.out.kp hk (by simpa using Row.ne HZ6.out.row HS6.out.2.1 (by decide)))
  have H47 := Lib.hid (H46.out.kp hk (by simpa using Row.ne H46.out.row HS6.out.2.1 (by decide)))
  have H57 := Lib.hid (H56.out.kp hk (by simpa using Row.ne H56.out.row HS6.out.2.1 (by decide)))
  have H87 := Lib.hid (H86.out.kp hk (by simpa using Row.ne H86.out.row HS6.out.2.1 (by decide)))
  clear HZ6
  clear H46
  clear H56
  clear H86
  have HS7 := Lib.hid hs
  have HB7k := Lib.hid (HB6k.out.trans hk)
  clear hs hk HS6 HB6k
  clear HSV
  go_wp2_with fail
  have HB6 := Lib.hid H47.out.lt
  have HSR := Lib.hid (fun (W : World) B x (h : Bx W B 28 x) (hx : x.size = 16) => (show (storeVar 28 ⟨B, 0, none⟩ (.agg #[.int .u32 0, .int .u32 0, .int .u32 0, .int .u32 0, .int .u32 0, .int .u32 0, .int .u32 0, .int .u32 0, .int .u32 0, .int .u32 0, .int .u32 0, .int .u32 0, .int .u32 0, .int .u32 0, .int .u32 601, .int .u32 600])).run Tryz.prog W = .ok () (W.setRow B (regA (regL [(14, 601), (15, 600)]))) from store_regs h hx (regL [(14, 601), (15, 600)])))
  have HSP := Lib.hid (fun (W : World) B x (h : Bx W B 30 x) (hx : x.size = 10) => (show (storeVar 30 ⟨B, 0, none⟩ (.agg #[.int .i64 0, .int .i64 0, .bool false, .bool false, .bool false, .int .i64 0, .int .i64 0, .int .i64 0, .int .i64 0, .int .i64 0])).run Tryz.prog W = .ok () (W.setRow B (pswA ⟨0, 0, false, false, false, 0, 0, 0, 0, 0⟩)) from store_psw h hx ⟨0, 0, false, false, false, 0, 0, 0, 0, 0⟩))
  have HE := Lib.hid (fun A g h m X hs => kn_b3 A g h m X hs)
  have F0 : Hid (FS x7c S4 A g h 2048 1 #[.int .u32 0, .int .u32 0, .int .u32 0, .int .u32 0, .int .u32 0, .int .u32 0, .int .u32 0, .int .u32 0, .int .u32 0, .int .u32 0, .int .u32 0, .int .u32 0, .int .u32 0, .int .u32 0, .int .u32 0, .int .u32 0] kb3 (List.replicate 1 0) none none x7c) := Lib.hid ⟨Kp.refl _ _, H47.out, HS7.out, (fun _ h => by cases h), (fun _ h => by cases h)⟩
  have HZG : Hid (S1 ≠ g) := Lib.hid (Row.ne HZ7.out.row HS7.out.2.1 (by decide))
  refine Code.wp_mono (Q := fun e a W => e = .normal ∧ ∃ B7 B8 : Nat, (∃ u : Nat → Value, a = { tmps := #[.pointer (some ⟨A, 0, none⟩), u 1, .bool false, .pointer (some ⟨S1, 0, none⟩), u 4, .pointer (some ⟨S4 + 1, 0, none⟩), u 6, u 7, .pointer (some ⟨S6 + 1, 0, none⟩), u 9, u 10, u 11, .int .i64 0, u 13, u 14, u 15, u 16, u 17, u 18, u 19, u 20, u 21, u 22, u 23, u 24, u 25, u 26, u 27, u 28, u 29, u 30, u 31, u 32, u 33, u 34, u 35, u 36, u 37, u 38, u 39, u 40, u 41, u 42, u 43, u 44, u 45, u 46, u 47, u 48, u 49, u 50, u 51, u 52, u 53, u 54, u 55, u 56, u 57, u 58, u 59, u 60, u 61, u 62, u 63, u 64, u 65, u 66, u 67, u 68, u 69, u 70, u 71, u 72, u 73, u 74, u 75, u 76, u 77, u 78, u 79, u 80, u 81, u 82, u 83, u 84, u 85, u 86, u 87, u 88, u 89, u 90, u 91, u 92, u 93, u 94, u 95, u 96, u 97, u 98, u 99, u 100, u 101, u 102, u 103, u 104, u 105, u 106, u 107, u 108, u 109, u 110, u 111, u 112, u 113, u 114, u 115, u 116, u 117, u 118, u 119, u 120, u 121, u 122, u 123, u 124, u 125, u 126, u 127, u 128, u 129, u 130, u 131, u 132, u 133, u 134, u 135, u 136, u 137, u 138, u 139, u 140, u 141, u 142, u 143, u 144, u 145], defers := [] }) ∧ Kp x7c W [g] ∧ Bx W S4 28 #[.int .u32 0, .int .u32 0, .int .u32 0, .int .u32 0, .int .u32 0, .int .u32 0, .int .u32 0, .int .u32 0, .int .u32 0, .int .u32 0, .int .u32 0, .int .u32 0, .int .u32 0, .int .u32 0, .int .u32 0, .int .u32 0] ∧ Sto W A g h 2048 1 kb4 (List.replicate 1 0) ∧ Bx W B8 30 (pswA (⟨0, 0, false, false, false, 0, 0, 0, 0, 0⟩))) ?_ ?_
  rotate_left
  · refine wp_region_held_drew (S := FB x7c S4 g #[.int .u32 0, .int .u32 0, .int .u32 0, .int .u32 0, .int .u32 0, .int .u32 0, .int .u32 0, .int .u32 0, .int .u32 0, .int .u32 0, .int .u32 0, .int .u32 0, .int .u32 0, .int .u32 0, .int .u32 0, .int .u32 0]) (by kernel_rfl) F0.out.drew.fb (fun k0 => ?_)
    have f00 := F0.out.drew
    obtain ⟨Y0, hY0⟩ : ∃ y, y = x7c.drew := ⟨_, rfl⟩
    rw [← hY0] at f00 k0 ⊢
    have F00 := Lib.hid f00
    clear F0 f00 hY0
    show wpAnyH _ _ _ _ _ 14 #[false, false, false, false, false, false, false, false, false, false, false, false, false, false] _ _
    refine wpAnyH_take (i := 1) (oi := { dst := some 44, op := Go.Op.build 28 #[(14, Go.Operand.const (Go.Value.int Go.IntKind.u32 601)), (15, Go.Operand.const (Go.Value.int Go.IntKind.u32 600))], type := 28, pos := "outright.go:193", after := #[], guard := none }) (v := .agg #[.int .u32 0, .int .u32 0, .int .u32 0, .int .u32 0, .int .u32 0, .int .u32 0, .int .u32 0, .int .u32 0, .int .u32 0, .int .u32 0, .int .u32 0, .int .u32 0, .int .u32 0, .int .u32 0, .int .u32 601, .int .u32 600]) rfl (by kernel_rfl) (by kernel_rfl) (by kernel_rfl) (fun _ _ _ h => by cases h.1) (Or.inl ⟨by rfl, fun W hSw => by (try dsimp only at hSw); go_simp⟩) k0 ?_
    try simp only [Act.put, List.setIfInBounds_toArray, List.set_cons_zero, List.set_cons_succ]
    refine wpAnyH_take (i := 2) (oi := { dst := some 45, op := Go.Op.load 30 (Go.Operand.tmp 3), type := 30, pos := "outright.go:193", after := #[], guard := none }) (v := .agg #[.int .i64 0, .int .i64 0, .bool false, .bool false, .bool false, .int .i64 0, .int .i64 0, .int .i64 0, .int .i64 0, .int .i64 0]) rfl (by kernel_rfl) (by kernel_rfl) (by kernel_rfl) (fun _ _ _ h => by cases h.1) (Or.inl ⟨by rfl, fun W hSw => exec_load _ _ rfl _ rfl (run_loadVar_row (P := Tryz.prog) W S1 _ 30 _ _ _ (HZ7.out.kp hSw.1 (by simpa using HZG.out)) Tryz.underlying30 rfl (by kernel_rfl))⟩) k0 ?_
    try simp only [Act.put, List.setIfInBounds_toArray, List.set_cons_zero, List.set_cons_succ]
    refine wpAnyH_take (i := 3) (oi := { dst := some 46, op := Go.Op.move (Go.Operand.tmp 0), type := 37, pos := "outright.go:193", after := #[], guard := none }) (v := .pointer (some ⟨A, 0, none⟩)) rfl (by kernel_rfl) (by kernel_rfl) (by kernel_rfl) (fun _ _ _ h => by cases h.1) (Or.inl ⟨by rfl, fun W hSw => by (try dsimp only at hSw); go_simp⟩) k0 ?_
    try simp only [Act.put, List.setIfInBounds_toArray, List.set_cons_zero, List.set_cons_succ]
    refine wpAnyH_ready (rs := [0, 9, 10]) (by kernel_rfl) (by simp) ?_
    refine AllReadyH.cons (o := { dst := some 43, op := Go.Op.call { callee := Go.Callee.value (Go.Operand.func 27), args := #[Go.Operand.const (Go.Value.int Go.IntKind.i64 210), Go.Operand.const (Go.Value.int Go.IntKind.i64 3)], argTypes := #[3, 3] }, type := 25, pos := "outright.go:193", after := #[], guard := none }) rfl (fun K hK => ?_) (AllReadyH.cons (o := { dst := some 10, op := Go.Op.alloc 28, type := 0, pos := "outright.go:193", after := #[], guard := none }) rfl (fun K hK => ?_) (AllReadyH.cons (o := { dst := some 11, op := Go.Op.alloc 30, type := 0, pos := "outright.go:193", after := #[], guard := none }) rfl (fun K hK => ?_) AllReadyH.nil))
    · go_simp
      go_at_call 27
      refine (HSS1.out Y0).mono ?_
      rintro e Y1 ⟨rfl, hb⟩
      have F1 := Lib.hid (F00.out.below hb)
      clear hb
      go_wp2_with fail
      refine hK.out _ _ F1.out.fb (fun k1 => ?_)
      clear hK K
      try simp only [List.setIfInBounds_toArray, List.set_cons_zero]
      refine wpAnyH_ready (rs := [4, 9, 10]) (by kernel_rfl) (by simp) ?_
      refine AllReadyH.cons (o := { dst := some 47, op := Go.Op.call { callee := Go.Callee.value (Go.Operand.func 17), args := #[Go.Operand.tmp 43, Go.Operand.tmp 44, Go.Operand.tmp 45, Go.Operand.tmp 46], argTypes := #[25, 28, 30, 37] }, type := 41, pos := "outright.go:193", after := #[{ on := 0, ground := Go.Ground.data }, { on := 1, ground := Go.Ground.data }, { on := 2, ground := Go.Ground.data }, { on := 3, ground := Go.Ground.data }, { on := 0, ground := Go.Ground.chain }], guard := none }) rfl (fun K hK => ?_) (AllReadyH.cons (o := { dst := some 10, op := Go.Op.alloc 28, type := 0, pos := "outright.go:193", after := #[], guard := none }) rfl (fun K hK => ?_) (AllReadyH.cons (o := { dst := some 11, op := Go.Op.alloc 30, type := 0, pos := "outright.go:193", after := #[], guard := none }) rfl (fun K hK => ?_) AllReadyH.nil))
      · go_simp
        go_at_call 17
        refine (HE.out A g h 1 Y1 F1.out.2.2.1).mono ?_
        rintro e Y2 ⟨rfl, hs, hk⟩
        have F2 := Lib.hid (F1.out.exec hs hk)
        clear hs hk
        go_wp2_with fail
        refine hK.out _ _ F2.out.fb (fun k2 => ?_)
        clear hK K
        try simp only [List.setIfInBounds_toArray, List.set_cons_zero, List.set_cons_succ]
        refine wpAnyH_take (i := 5) (oi := { dst := some 42, op := Go.Op.move (Go.Operand.tmp 47), type := 41, pos := "outright.go:193", after := #[{ on := 4, ground := Go.Ground.data }], guard := none }) (v := .tuple #[.agg #[.int .u32 0, .int .u32 0, .int .u32 0, .int .u32 0, .int .u32 0, .int .u32 0, .int .u32 0, .int .u32 0, .int .u32 0, .int .u32 0, .int .u32 0, .int .u32 0, .int .u32 0, .int .u32 0, .int .u32 601, .int .u32 600], .agg #[.int .i64 0, .int .i64 0, .bool false, .bool false, .bool false, .int .i64 0, .int .i64 0, .int .i64 0, .int .i64 0, .int .i64 0], .int .i64 0]) rfl (by kernel_rfl) (by kernel_rfl) (by kernel_rfl) (fun _ _ _ h => by cases h.1) (Or.inl ⟨by rfl, fun W hSw => by (try dsimp only at hSw); go_simp⟩) k2 ?_
        try simp only [Act.put, List.setIfInBounds_toArray, List.set_cons_zero, List.set_cons_succ]
        refine wpAnyH_take (i := 6) (oi := { dst := some 48, op := Go.Op.extract (Go.Operand.tmp 42) 0, type := 28, pos := "outright.go:193", after := #[{ on := 5, ground := Go.Ground.data }], guard := none }) (v := .agg #[.int .u32 0, .int .u32 0, .int .u32 0, .int .u32 0, .int .u32 0, .int .u32 0, .int .u32 0, .int .u32 0, .int .u32 0, .int .u32 0, .int .u32 0, .int .u32 0, .int .u32 0, .int .u32 0, .int .u32 601, .int .u32 600]) rfl (by kernel_rfl) (by kernel_rfl) (by kernel_rfl) (fun _ _ _ h => by cases h.1) (Or.inl ⟨by rfl, fun W hSw => by (try dsimp only at hSw); go_simp⟩) k2 ?_
        try simp only [Act.put, List.setIfInBounds_toArray, List.set_cons_zero, List.set_cons_succ]
        refine wpAnyH_take (i := 7) (oi := { dst := some 49, op := Go.Op.extract (Go.Operand.tmp 42) 1, type := 30, pos := "outright.go:193", after := #[{ on := 5, ground := Go.Ground.data }, { on := 11, ground := Go.Ground.gcOnly Go.Departure.lateStores }], guard := none }) (v := .agg #[.int .i64 0, .int .i64 0, .bool false, .bool false, .bool false, .int .i64 0, .int .i64 0, .int .i64 0, .int .i64 0, .int .i64 0]) rfl (by kernel_rfl) (by kernel_rfl) (by kernel_rfl) (fun _ _ _ h => by cases h.1) (Or.inl ⟨by rfl, fun W hSw => by (try dsimp only at hSw); go_simp⟩) k2 ?_
        try simp only [Act.put, List.setIfInBounds_toArray, List.set_cons_zero, List.set_cons_succ]
        refine wpAnyH_take (i := 8) (oi := { dst := some 50, op := Go.Op.extract (Go.Operand.tmp 42) 2, type := 3, pos := "outright.go:193", after := #[{ on := 5, ground := Go.Ground.data }, { on := 12, ground := Go.Ground.gcOnly Go.Departure.lateStores }], guard := none }) (v := .int .i64 0) rfl (by kernel_rfl) (by kernel_rfl) (by kernel_rfl) (fun _ _ _ h => by cases h.1) (Or.inl ⟨by rfl, fun W hSw => by (try dsimp only at hSw); go_simp⟩) k2 ?_
        try simp only [Act.put, List.setIfInBounds_toArray, List.set_cons_zero, List.set_cons_succ]
        refine wpAnyH_ready (rs := [9, 10]) (by kernel_rfl) (by simp) ?_
        refine AllReadyH.cons (o := { dst := some 10, op := Go.Op.alloc 28, type := 0, pos := "outright.go:193", after := #[], guard := none }) rfl (fun K hK => ?_) (AllReadyH.cons (o := { dst := some 11, op := Go.Op.alloc 30, type := 0, pos := "outright.go:193", after := #[], guard := none }) rfl (fun K hK => ?_) AllReadyH.nil)
        · go_simp
          have f3 := F2.out.al
          obtain ⟨Y3, hY3⟩ : ∃ y, y = Y2.alloc (.cells #[.int .u32 0, .int .u32 0, .int .u32 0, .int .u32 0, .int .u32 0, .int .u32 0, .int .u32 0, .int .u32 0, .int .u32 0, .int .u32 0, .int .u32 0, .int .u32 0, .int .u32 0, .int .u32 0, .int .u32 0, .int .u32 0] 28) := ⟨_, rfl⟩
          obtain ⟨B7, hB7⟩ : ∃ b, b = Y2.heap.size := ⟨_, rfl⟩
          rw [← hY3, ← hB7] at f3 ⊢
          have F3 := Lib.hid f3
          clear hY3 hB7 f3
          refine hK.out _ _ F3.out.fb (fun k3 => ?_)
          clear hK K
          try simp only [List.setIfInBounds_toArray, List.set_cons_zero, List.set_cons_succ]
          refine wpAnyH_ready (rs := [10]) (by kernel_rfl) (by simp) ?_
          refine AllReadyH.cons (o := { dst := some 11, op := Go.Op.alloc 30, type := 0, pos := "outright.go:193", after := #[], guard := none }) rfl (fun K hK => ?_) AllReadyH.nil
          go_simp
          have f4 := F3.out.al2
          obtain ⟨Y4, hY4⟩ : ∃ y, y = Y3.alloc (.cells #[.int .i64 0, .int .i64 0, .bool false, .bool false, .bool false, .int .i64 0, .int .i64 0, .int .i64 0, .int .i64 0, .int .i64 0] 30) := ⟨_, rfl⟩
          obtain ⟨B8, hB8⟩ : ∃ b, b = Y3.heap.size := ⟨_, rfl⟩
          rw [← hY4, ← hB8] at f4 ⊢
          have F4 := Lib.hid f4
          clear hY4 hB8 f4
          refine hK.out _ _ F4.out.fb (fun k4 => ?_)
          clear hK K
          try simp only [List.setIfInBounds_toArray, List.set_cons_zero, List.set_cons_succ]
          refine wpAnyH_ready (rs := [11]) (by kernel_rfl) (by simp) ?_
          refine AllReadyH.cons (o := { dst := none, op := Go.Op.store 28 (Go.Operand.tmp 10) (Go.Operand.tmp 48), type := 0, pos := "outright.go:193", after := #[{ on := 9, ground := Go.Ground.data }, { on := 6, ground := Go.Ground.data }, { on := 4, ground := Go.Ground.chain }, { on := 0, ground := Go.Ground.phase }, { on := 1, ground := Go.Ground.phase }, { on := 2, ground := Go.Ground.phase }, { on := 3, ground := Go.Ground.phase }, { on := 4, ground := Go.Ground.phase }, { on := 5, ground := Go.Ground.phase }, { on := 6, ground := Go.Ground.phase }, { on := 7, ground := Go.Ground.textOnly Go.Departure.lateStores }, { on := 8, ground := Go.Ground.textOnly Go.Departure.lateStores }, { on := 9, ground := Go.Ground.phase }, { on := 10, ground := Go.Ground.phase }], guard := none }) rfl (fun K hK => ?_) AllReadyH.nil
          obtain ⟨hb5, x5, hx5, hr5⟩ := F4.out.2.2.2.1 B7 rfl
          rw [if_pos (by rfl)]
          refine op_store _ _ _ rfl _ rfl _ rfl (HSR.out _ _ _ hr5 hx5) ?_
          have f5 := F4.out.st HB6.out ((regL [(14, 601), (15, 600)]))
          obtain ⟨Y5, hY5⟩ : ∃ y, y = Y4.setRow B7 (regA ((regL [(14, 601), (15, 600)]))) := ⟨_, rfl⟩
          rw [← hY5] at f5 ⊢
          have F5 := Lib.hid f5
          clear hY5 f5 hb5 hx5 hr5 x5
          refine hK.out _ _ F5.out.fb (fun k5 => ?_)
          clear hK K
          try simp only [List.setIfInBounds_toArray, List.set_cons_zero, List.set_cons_succ]
          refine wpAnyH_ready (rs := [12]) (by kernel_rfl) (by simp) ?_
          refine AllReadyH.cons (o := { dst := none, op := Go.Op.store 30 (Go.Operand.tmp 11) (Go.Operand.tmp 49), type := 0, pos := "outright.go:193", after := #[{ on := 10, ground := Go.Ground.data }, { on := 7, ground := Go.Ground.data }, { on := 11, ground := Go.Ground.chain }, { on := 0, ground := Go.Ground.phase }, { on := 1, ground := Go.Ground.phase }, { on := 2, ground := Go.Ground.phase }, { on := 3, ground := Go.Ground.phase }, { on := 4, ground := Go.Ground.phase }, { on := 5, ground := Go.Ground.phase }, { on := 6, ground := Go.Ground.phase }, { on := 7, ground := Go.Ground.phase }, { on := 8, ground := Go.Ground.textOnly Go.Departure.lateStores }, { on := 9, ground := Go.Ground.phase }, { on := 10, ground := Go.Ground.phase }, { on := 11, ground := Go.Ground.phase }], guard := none }) rfl (fun K hK => ?_) AllReadyH.nil
          obtain ⟨hb6, x6, hx6, hr6⟩ := F5.out.2.2.2.2 B8 rfl
          rw [if_pos (by rfl)]
          refine op_store _ _ _ rfl _ rfl _ rfl (HSP.out _ _ _ hr6 hx6) ?_
          have f6 := F5.out.st2 (⟨0, 0, false, false, false, 0, 0, 0, 0, 0⟩)
          obtain ⟨Y6, hY6⟩ : ∃ y, y = Y5.setRow B8 (pswA (⟨0, 0, false, false, false, 0, 0, 0, 0, 0⟩)) := ⟨_, rfl⟩
          rw [← hY6] at f6 ⊢
          have F6 := Lib.hid f6.1
          have P6 := Lib.hid f6.2
          clear hY6 f6 hb6 hx6 hr6 x6
          refine hK.out _ _ F6.out.fb (fun k6 => ?_)
          clear hK K
          try simp only [List.setIfInBounds_toArray, List.set_cons_zero, List.set_cons_succ]
          refine wpAnyH_take (i := 13) (oi := { dst := some 12, op := Go.Op.assign (Go.Operand.tmp 50), type := 3, pos := "outright.go:193", after := #[{ on := 8, ground := Go.Ground.data }, { on := 12, ground := Go.Ground.chain }, { on := 0, ground := Go.Ground.phase }, { on := 1, ground := Go.Ground.phase }, { on := 2, ground := Go.Ground.phase }, { on := 3, ground := Go.Ground.phase }, { on := 4, ground := Go.Ground.phase }, { on := 5, ground := Go.Ground.phase }, { on := 6, ground := Go.Ground.phase }, { on := 7, ground := Go.Ground.phase }, { on := 8, ground := Go.Ground.phase }, { on := 9, ground := Go.Ground.phase }, { on := 10, ground := Go.Ground.phase }, { on := 11, ground := Go.Ground.phase }, { on := 12, ground := Go.Ground.phase }], guard := none }) (v := .int .i64 0) rfl (by kernel_rfl) (by kernel_rfl) (by kernel_rfl) (fun _ _ _ h => by cases h.1) (Or.inl ⟨by rfl, fun W hSw => by (try dsimp only at hSw); go_simp⟩) k6 ?_
          try simp only [Act.put, List.setIfInBounds_toArray, List.set_cons_zero, List.set_cons_succ]
          refine wpAnyH_done (by kernel_rfl) ?_ _
          refine id ?_
          exact ⟨rfl, B7, B8, ckb_mk rfl, F6.out.1, F6.out.2.1, F6.out.2.2.1, P6.out⟩
        · go_simp
          have f3 := F2.out.al2
          obtain ⟨Y3, hY3⟩ : ∃ y, y = Y2.alloc (.cells #[.int .i64 0, .int .i64 0, .bool false, .bool false, .bool false, .int .i64 0, .int .i64 0, .int .i64 0, .int .i64 0, .int .i64 0] 30) := ⟨_, rfl⟩
          obtain ⟨B8, hB8⟩ : ∃ b, b = Y2.heap.size := ⟨_, rfl⟩
          rw [← hY3, ← hB8] at f3 ⊢
          have F3 := Lib.hid f3
          clear hY3 hB8 f3
          refine hK.out _ _ F3.out.fb (fun k3 => ?_)
          clear hK K
          try simp only [List.setIfInBounds_toArray, List.set_cons_zero, List.set_cons_succ]
          refine wpAnyH_ready (rs := [9]) (by kernel_rfl) (by simp) ?_
          refine AllReadyH.cons (o := { dst := some 10, op := Go.Op.alloc 28, type := 0, pos := "outright.go:193", after := #[], guard := none }) rfl (fun K hK => ?_) AllReadyH.nil
          go_simp
          have f4 := F3.out.al
          obtain ⟨Y4, hY4⟩ : ∃ y, y = Y3.alloc (.cells #[.int .u32 0, .int .u32 0, .int .u32 0, .int .u32 0, .int .u32 0, .int .u32 0, .int .u32 0, .int .u32 0, .int .u32 0, .int .u32 0, .int .u32 0, .int .u32 0, .int .u32 0, .int .u32 0, .int .u32 0, .int .u32 0] 28) := ⟨_, rfl⟩
          obtain ⟨B7, hB7⟩ : ∃ b, b = Y3.heap.size := ⟨_, rfl⟩
          rw [← hY4, ← hB7] at f4 ⊢
          have F4 := Lib.hid f4
          clear hY4 hB7 f4
          refine hK.out _ _ F4.out.fb (fun k4 => ?_)
          clear hK K
          try simp only [List.setIfInBounds_toArray, List.set_cons_zero, List.set_cons_succ]
          refine wpAnyH_ready (rs := [11]) (by kernel_rfl) (by simp) ?_
          refine AllReadyH.cons (o := { dst := none, op := Go.Op.store 28 (Go.Operand.tmp 10) (Go.Operand.tmp 48), type := 0, pos := "outright.go:193", after := #[{ on := 9, ground := Go.Ground.data }, { on := 6, ground := Go.Ground.data }, { on := 4, ground := Go.Ground.chain }, { on := 0, ground := Go.Ground.phase }, { on := 1, ground := Go.Ground.phase }, { on := 2, ground := Go.Ground.phase }, { on := 3, ground := Go.Ground.phase }, { on := 4, ground := Go.Ground.phase }, { on := 5, ground := Go.Ground.phase }, { on := 6, ground := Go.Ground.phase }, { on := 7, ground := Go.Ground.textOnly Go.Departure.lateStores }, { on := 8, ground := Go.Ground.textOnly Go.Departure.lateStores }, { on := 9, ground := Go.Ground.phase }, { on := 10, ground := Go.Ground.phase }], guard := none }) rfl (fun K hK => ?_) AllReadyH.nil
          obtain ⟨hb5, x5, hx5, hr5⟩ := F4.out.2.2.2.1 B7 rfl
          rw [if_pos (by rfl)]
          refine op_store _ _ _ rfl _ rfl _ rfl (HSR.out _ _ _ hr5 hx5) ?_
          have f5 := F4.out.st HB6.out ((regL [(14, 601), (15, 600)]))
          obtain ⟨Y5, hY5⟩ : ∃ y, y = Y4.setRow B7 (regA ((regL [(14, 601), (15, 600)]))) := ⟨_, rfl⟩
          rw [← hY5] at f5 ⊢
          have F5 := Lib.hid f5
          clear hY5 f5 hb5 hx5 hr5 x5
          refine hK.out _ _ F5.out.fb (fun k5 => ?_)
          clear hK K
          try simp only [List.setIfInBounds_toArray, List.set_cons_zero, List.set_cons_succ]
          refine wpAnyH_ready (rs := [12]) (by kernel_rfl) (by simp) ?_
          refine AllReadyH.cons (o := { dst := none, op := Go.Op.store 30 (Go.Operand.tmp 11) (Go.Operand.tmp 49), type := 0, pos := "outright.go:193", after := #[{ on := 10, ground := Go.Ground.data }, { on := 7, ground := Go.Ground.data }, { on := 11, ground := Go.Ground.chain }, { on := 0, ground := Go.Ground.phase }, { on := 1, ground := Go.Ground.phase }, { on := 2, ground := Go.Ground.phase }, { on := 3, ground := Go.Ground.phase }, { on := 4, ground := Go.Ground.phase }, { on := 5, ground := Go.Ground.phase }, { on := 6, ground := Go.Ground.phase }, { on := 7, ground := Go.Ground.phase }, { on := 8, ground := Go.Ground.textOnly Go.Departure.lateStores }, { on := 9, ground := Go.Ground.phase }, { on := 10, ground := Go.Ground.phase }, { on := 11, ground := Go.Ground.phase }], guard := none }) rfl (fun K hK => ?_) AllReadyH.nil
          obtain ⟨hb6, x6, hx6, hr6⟩ := F5.out.2.2.2.2 B8 rfl
          rw [if_pos (by rfl)]
          refine op_store _ _ _ rfl _ rfl _ rfl (HSP.out _ _ _ hr6 hx6) ?_
          have f6 := F5.out.st2 (⟨0, 0, false, false, false, 0, 0, 0, 0, 0⟩)
          obtain ⟨Y6, hY6⟩ : ∃ y, y = Y5.setRow B8 (pswA (⟨0, 0, false, false, false, 0, 0, 0, 0, 0⟩)) := ⟨_, rfl⟩
          rw [← hY6] at f6 ⊢
          have F6 := Lib.hid f6.1
          have P6 := Lib.hid f6.2
          clear hY6 f6 hb6 hx6 hr6 x6
          refine hK.out _ _ F6.out.fb (fun k6 => ?_)
          clear hK K
          try simp only [List.setIfInBounds_toArray, List.set_cons_zero, List.set_cons_succ]
          refine wpAnyH_take (i := 13) (oi := { dst := some 12, op := Go.Op.assign (Go.Operand.tmp 50), type := 3, pos := "outright.go:193", after := #[{ on := 8, ground := Go.Ground.data }, { on := 12, ground := Go.Ground.chain }, { on := 0, ground := Go.Ground.phase }, { on := 1, ground := Go.Ground.phase }, { on := 2, ground := Go.Ground.phase }, { on := 3, ground := Go.Ground.phase }, { on := 4, ground := Go.Ground.phase }, { on := 5, ground := Go.Ground.phase }, { on := 6, ground := Go.Ground.phase }, { on := 7, ground := Go.Ground.phase }, { on := 8, ground := Go.Ground.phase }, { on := 9, ground := Go.Ground.phase }, { on := 10, ground := Go.Ground.phase }, { on := 11, ground := Go.Ground.phase }, { on := 12, ground := Go.Ground.phase }], guard := none }) (v := .int .i64 0) rfl (by kernel_rfl) (by kernel_rfl) (by kernel_rfl) (fun _ _ _ h => by cases h.1) (Or.inl ⟨by rfl, fun W hSw => by (try dsimp only at hSw); go_simp⟩) k6 ?_
          try simp only [Act.put, List.setIfInBounds_toArray, List.set_cons_zero, List.set_cons_succ]
          refine wpAnyH_done (by kernel_rfl) ?_ _
          refine id ?_
          exact ⟨rfl, B7, B8, ckb_mk rfl, F6.out.1, F6.out.2.1, F6.out.2.2.1, P6.out⟩
      · go_simp
        have f2 := F1.out.al
        obtain ⟨Y2, hY2⟩ : ∃ y, y = Y1.alloc (.cells #[.int .u32 0, .int .u32 0, .int .u32 0, .int .u32 0, .int .u32 0, .int .u32 0, .int .u32 0, .int .u32 0, .int .u32 0, .int .u32 0, .int .u32 0, .int .u32 0, .int .u32 0, .int .u32 0, .int .u32 0, .int .u32 0] 28) := ⟨_, rfl⟩
        obtain ⟨B7, hB7⟩ : ∃ b, b = Y1.heap.size := ⟨_, rfl⟩
        rw [← hY2, ← hB7] at f2 ⊢
        have F2 := Lib.hid f2
        clear hY2 hB7 f2
        refine hK.out _ _ F2.out.fb (fun k2 => ?_)
        clear hK K
        try simp only [List.setIfInBounds_toArray, List.set_cons_zero, List.set_cons_succ]
        refine wpAnyH_ready (rs := [4, 10]) (by kernel_rfl) (by simp) ?_
        refine AllReadyH.cons (o := { dst := some 47, op := Go.Op.call { callee := Go.Callee.value (Go.Operand.func 17), args := #[Go.Operand.tmp 43, Go.Operand.tmp 44, Go.Operand.tmp 45, Go.Operand.tmp 46], argTypes := #[25, 28, 30, 37] }, type := 41, pos := "outright.go:193", after := #[{ on := 0, ground := Go.Ground.data }, { on := 1, ground := Go.Ground.data }, { on := 2, ground := Go.Ground.data }, { on := 3, ground := Go.Ground.data }, { on := 0, ground := Go.Ground.chain }], guard := none }) rfl (fun K hK => ?_) (AllReadyH.cons (o := { dst := some 11, op := Go.Op.alloc 30, type := 0, pos := "outright.go:193", after := #[], guard := none }) rfl (fun K hK => ?_) AllReadyH.nil)
        · go_simp
          go_at_call 17
          refine (HE.out A g h 1 Y2 F2.out.2.2.1).mono ?_
          rintro e Y3 ⟨rfl, hs, hk⟩
          have F3 := Lib.hid (F2.out.exec hs hk)
          clear hs hk
          go_wp2_with fail
          refine hK.out _ _ F3.out.fb (fun k3 => ?_)
          clear hK K
          try simp only [List.setIfInBounds_toArray, List.set_cons_zero, List.set_cons_succ]
          refine wpAnyH_take (i := 5) (oi := { dst := some 42, op := Go.Op.move (Go.Operand.tmp 47), type := 41, pos := "outright.go:193", after := #[{ on := 4, ground := Go.Ground.data }], guard := none }) (v := .tuple #[.agg #[.int .u32 0, .int .u32 0, .int .u32 0, .int .u32 0, .int .u32 0, .int .u32 0, .int .u32 0, .int .u32 0, .int .u32 0, .int .u32 0, .int .u32 0, .int .u32 0, .int .u32 0, .int .u32 0, .int .u32 601, .int .u32 600], .agg #[.int .i64 0, .int .i64 0, .bool false, .bool false, .bool false, .int .i64 0, .int .i64 0, .int .i64 0, .int .i64 0, .int .i64 0], .int .i64 0]) rfl (by kernel_rfl) (by kernel_rfl) (by kernel_rfl) (fun _ _ _ h => by cases h.1) (Or.inl ⟨by rfl, fun W hSw => by (try dsimp only at hSw); go_simp⟩) k3 ?_
          try simp only [Act.put, List.setIfInBounds_toArray, List.set_cons_zero, List.set_cons_succ]
          refine wpAnyH_take (i := 6) (oi := { dst := some 48, op := Go.Op.extract (Go.Operand.tmp 42) 0, type := 28, pos := "outright.go:193", after := #[{ on := 5, ground := Go.Ground.data }], guard := none }) (v := .agg #[.int .u32 0, .int .u32 0, .int .u32 0, .int .u32 0, .int .u32 0, .int .u32 0, .int .u32 0, .int .u32 0, .int .u32 0, .int .u32 0, .int .u32 0, .int .u32 0, .int .u32 0, .int .u32 0, .int .u32 601, .int .u32 600]) rfl (by kernel_rfl) (by kernel_rfl) (by kernel_rfl) (fun _ _ _ h => by cases h.1) (Or.inl ⟨by rfl, fun W hSw => by (try dsimp only at hSw); go_simp⟩) k3 ?_
          try simp only [Act.put, List.setIfInBounds_toArray, List.set_cons_zero, List.set_cons_succ]
          refine wpAnyH_take (i := 7) (oi := { dst := some 49, op := Go.Op.extract (Go.Operand.tmp 42) 1, type := 30, pos := "outright.go:193", after := #[{ on := 5, ground := Go.Ground.data }, { on := 11, ground := Go.Ground.gcOnly Go.Departure.lateStores }], guard := none }) (v := .agg #[.int .i64 0, .int .i64 0, .bool false, .bool false, .bool false, .int .i64 0, .int .i64 0, .int .i64 0, .int .i64 0, .int .i64 0]) rfl (by kernel_rfl) (by kernel_rfl) (by kernel_rfl) (fun _ _ _ h => by cases h.1) (Or.inl ⟨by rfl, fun W hSw => by (try dsimp only at hSw); go_simp⟩) k3 ?_
          try simp only [Act.put, List.setIfInBounds_toArray, List.set_cons_zero, List.set_cons_succ]
          refine wpAnyH_take (i := 8) (oi := { dst := some 50, op := Go.Op.extract (Go.Operand.tmp 42) 2, type := 3, pos := "outright.go:193", after := #[{ on := 5, ground := Go.Ground.data }, { on := 12, ground := Go.Ground.gcOnly Go.Departure.lateStores }], guard := none }) (v := .int .i64 0) rfl (by kernel_rfl) (by kernel_rfl) (by kernel_rfl) (fun _ _ _ h => by cases h.1) (Or.inl ⟨by rfl, fun W hSw => by (try dsimp only at hSw); go_simp⟩) k3 ?_
          try simp only [Act.put, List.setIfInBounds_toArray, List.set_cons_zero, List.set_cons_succ]
          refine wpAnyH_ready (rs := [10]) (by kernel_rfl) (by simp) ?_
          refine AllReadyH.cons (o := { dst := some 11, op := Go.Op.alloc 30, type := 0, pos := "outright.go:193", after := #[], guard := none }) rfl (fun K hK => ?_) AllReadyH.nil
          go_simp
          have f4 := F3.out.al2
          obtain ⟨Y4, hY4⟩ : ∃ y, y = Y3.alloc (.cells #[.int .i64 0, .int .i64 0, .bool false, .bool false, .bool false, .int .i64 0, .int .i64 0, .int .i64 0, .int .i64 0, .int .i64 0] 30) := ⟨_, rfl⟩
          obtain ⟨B8, hB8⟩ : ∃ b, b = Y3.heap.size := ⟨_, rfl⟩
          rw [← hY4, ← hB8] at f4 ⊢
          have F4 := Lib.hid f4
          clear hY4 hB8 f4
          refine hK.out _ _ F4.out.fb (fun k4 => ?_)
          clear hK K
          try simp only [List.setIfInBounds_toArray, List.set_cons_zero, List.set_cons_succ]
          refine wpAnyH_ready (rs := [11]) (by kernel_rfl) (by simp) ?_
          refine AllReadyH.cons (o := { dst := none, op := Go.Op.store 28 (Go.Operand.tmp 10) (Go.Operand.tmp 48), type := 0, pos := "outright.go:193", after := #[{ on := 9, ground := Go.Ground.data }, { on := 6, ground := Go.Ground.data }, { on := 4, ground := Go.Ground.chain }, { on := 0, ground := Go.Ground.phase }, { on := 1, ground := Go.Ground.phase }, { on := 2, ground := Go.Ground.phase }, { on := 3, ground := Go.Ground.phase }, { on := 4, ground := Go.Ground.phase }, { on := 5, ground := Go.Ground.phase }, { on := 6, ground := Go.Ground.phase }, { on := 7, ground := Go.Ground.textOnly Go.Departure.lateStores }, { on := 8, ground := Go.Ground.textOnly Go.Departure.lateStores }, { on := 9, ground := Go.Ground.phase }, { on := 10, ground := Go.Ground.phase }], guard := none }) rfl (fun K hK => ?_) AllReadyH.nil
          obtain ⟨hb5, x5, hx5, hr5⟩ := F4.out.2.2.2.1 B7 rfl
          rw [if_pos (by rfl)]
          refine op_store _ _ _ rfl _ rfl _ rfl (HSR.out _ _ _ hr5 hx5) ?_
          have f5 := F4.out.st HB6.out ((regL [(14, 601), (15, 600)]))
          obtain ⟨Y5, hY5⟩ : ∃ y, y = Y4.setRow B7 (regA ((regL [(14, 601), (15, 600)]))) := ⟨_, rfl⟩
          rw [← hY5] at f5 ⊢
          have F5 := Lib.hid f5
          clear hY5 f5 hb5 hx5 hr5 x5
          refine hK.out _ _ F5.out.fb (fun k5 => ?_)
          clear hK K
          try simp only [List.setIfInBounds_toArray, List.set_cons_zero, List.set_cons_succ]
          refine wpAnyH_ready (rs := [12]) (by kernel_rfl) (by simp) ?_
          refine AllReadyH.cons (o := { dst := none, op := Go.Op.store 30 (Go.Operand.tmp 11) (Go.Operand.tmp 49), type := 0, pos := "outright.go:193", after := #[{ on := 10, ground := Go.Ground.data }, { on := 7, ground := Go.Ground.data }, { on := 11, ground := Go.Ground.chain }, { on := 0, ground := Go.Ground.phase }, { on := 1, ground := Go.Ground.phase }, { on := 2, ground := Go.Ground.phase }, { on := 3, ground := Go.Ground.phase }, { on := 4, ground := Go.Ground.phase }, { on := 5, ground := Go.Ground.phase }, { on := 6, ground := Go.Ground.phase }, { on := 7, ground := Go.Ground.phase }, { on := 8, ground := Go.Ground.textOnly Go.Departure.lateStores }, { on := 9, ground := Go.Ground.phase }, { on := 10, ground := Go.Ground.phase }, { on := 11, ground := Go.Ground.phase }], guard := none }) rfl (fun K hK => ?_) AllReadyH.nil
          obtain ⟨hb6, x6, hx6, hr6⟩ := F5.out.2.2.2.2 B8 rfl
          rw [if_pos (by rfl)]
          refine op_store _ _ _ rfl _ rfl _ rfl (HSP.out _ _ _ hr6 hx6) ?_
          have f6 := F5.out.st2 (⟨0, 0, false, false, false, 0, 0, 0, 0, 0⟩)
          obtain ⟨Y6, hY6⟩ : ∃ y, y = Y5.setRow B8 (pswA (⟨0, 0, false, false, false, 0, 0, 0, 0, 0⟩)) := ⟨_, rfl⟩
          rw [← hY6] at f6 ⊢
          have F6 := Lib.hid f6.1
          have P6 := Lib.hid f6.2
          clear hY6 f6 hb6 hx6 hr6 x6
          refine hK.out _ _ F6.out.fb (fun k6 => ?_)
          clear hK K
          try simp only [List.setIfInBounds_toArray, List.set_cons_zero, List.set_cons_succ]
          refine wpAnyH_take (i := 13) (oi := { dst := some 12, op := Go.Op.assign (Go.Operand.tmp 50), type := 3, pos := "outright.go:193", after := #[{ on := 8, ground := Go.Ground.data }, { on := 12, ground := Go.Ground.chain }, { on := 0, ground := Go.Ground.phase }, { on := 1, ground := Go.Ground.phase }, { on := 2, ground := Go.Ground.phase }, { on := 3, ground := Go.Ground.phase }, { on := 4, ground := Go.Ground.phase }, { on := 5, ground := Go.Ground.phase }, { on := 6, ground := Go.Ground.phase }, { on := 7, ground := Go.Ground.phase }, { on := 8, ground := Go.Ground.phase }, { on := 9, ground := Go.Ground.phase }, { on := 10, ground := Go.Ground.phase }, { on := 11, ground := Go.Ground.phase }, { on := 12, ground := Go.Ground.phase }], guard := none }) (v := .int .i64 0) rfl (by kernel_rfl) (by kernel_rfl) (by kernel_rfl) (fun _ _ _ h => by cases h.1) (Or.inl ⟨by rfl, fun W hSw => by (try dsimp only at hSw); go_simp⟩) k6 ?_
          try simp only [Act.put, List.setIfInBounds_toArray, List.set_cons_zero, List.set_cons_succ]
          refine wpAnyH_done (by kernel_rfl) ?_ _
          refine id ?_
          exact ⟨rfl, B7, B8, ckb_mk rfl, F6.out.1, F6.out.2.1, F6.out.2.2.1, P6.out⟩
        · go_simp
          have f3 := F2.out.al2
          obtain ⟨Y3, hY3⟩ : ∃ y, y = Y2.alloc (.cells #[.int .i64 0, .int .i64 0, .bool false, .bool false, .bool false, .int .i64 0, .int .i64 0, .int .i64 0, .int .i64 0, .int .i64 0] 30) := ⟨_, rfl⟩
          obtain ⟨B8, hB8⟩ : ∃ b, b = Y2.heap.size := ⟨_, rfl⟩
          rw [← hY3, ← hB8] at f3 ⊢
          have F3 := Lib.hid f3
          clear hY3 hB8 f3
          refine hK.out _ _ F3.out.fb (fun k3 => ?_)
          clear hK K
          try simp only [List.setIfInBounds_toArray, List.set_cons_zero, List.set_cons_succ]
          refine wpAnyH_ready (rs := [4]) (by kernel_rfl) (by simp) ?_
          refine AllReadyH.cons (o := { dst := some 47, op := Go.Op.call { callee := Go.Callee.value (Go.Operand.func 17), args := #[Go.Operand.tmp 43, Go.Operand.tmp 44, Go.Operand.tmp 45, Go.Operand.tmp 46], argTypes := #[25, 28, 30, 37] }, type := 41, pos := "outright.go:193", after := #[{ on := 0, ground := Go.Ground.data }, { on := 1, ground := Go.Ground.data }, { on := 2, ground := Go.Ground.data }, { on := 3, ground := Go.Ground.data }, { on := 0, ground := Go.Ground.chain }], guard := none }) rfl (fun K hK => ?_) AllReadyH.nil
          go_simp
          go_at_call 17
          refine (HE.out A g h 1 Y3 F3.out.2.2.1).mono ?_
          rintro e Y4 ⟨rfl, hs, hk⟩
          have F4 := Lib.hid (F3.out.exec hs hk)
          clear hs hk
          go_wp2_with fail
          refine hK.out _ _ F4.out.fb (fun k4 => ?_)
          clear hK K
          try simp only [List.setIfInBounds_toArray, List.set_cons_zero, List.set_cons_succ]
          refine wpAnyH_take (i := 5) (oi := { dst := some 42, op := Go.Op.move (Go.Operand.tmp 47), type := 41, pos := "outright.go:193", after := #[{ on := 4, ground := Go.Ground.data }], guard := none }) (v := .tuple #[.agg #[.int .u32 0, .int .u32 0, .int .u32 0, .int .u32 0, .int .u32 0, .int .u32 0, .int .u32 0, .int .u32 0, .int .u32 0, .int .u32 0, .int .u32 0, .int .u32 0, .int .u32 0, .int .u32 0, .int .u32 601, .int .u32 600], .agg #[.int .i64 0, .int .i64 0, .bool false, .bool false, .bool false, .int .i64 0, .int .i64 0, .int .i64 0, .int .i64 0, .int .i64 0], .int .i64 0]) rfl (by kernel_rfl) (by kernel_rfl) (by kernel_rfl) (fun _ _ _ h => by cases h.1) (Or.inl ⟨by rfl, fun W hSw => by (try dsimp only at hSw); go_simp⟩) k4 ?_
          try simp only [Act.put, List.setIfInBounds_toArray, List.set_cons_zero, List.set_cons_succ]
          refine wpAnyH_take (i := 6) (oi := { dst := some 48, op := Go.Op.extract (Go.Operand.tmp 42) 0, type := 28, pos := "outright.go:193", after := #[{ on := 5, ground := Go.Ground.data }], guard := none }) (v := .agg #[.int .u32 0, .int .u32 0, .int .u32 0, .int .u32 0, .int .u32 0, .int .u32 0, .int .u32 0, .int .u32 0, .int .u32 0, .int .u32 0, .int .u32 0, .int .u32 0, .int .u32 0, .int .u32 0, .int .u32 601, .int .u32 600]) rfl (by kernel_rfl) (by kernel_rfl) (by kernel_rfl) (fun _ _ _ h => by cases h.1) (Or.inl ⟨by rfl, fun W hSw => by (try dsimp only at hSw); go_simp⟩) k4 ?_
          try simp only [Act.put, List.setIfInBounds_toArray, List.set_cons_zero, List.set_cons_succ]
          refine wpAnyH_take (i := 7) (oi := { dst := some 49, op := Go.Op.extract (Go.Operand.tmp 42) 1, type := 30, pos := "outright.go:193", after := #[{ on := 5, ground := Go.Ground.data }, { on := 11, ground := Go.Ground.gcOnly Go.Departure.lateStores }], guard := none }) (v := .agg #[.int .i64 0, .int .i64 0, .bool false, .bool false, .bool false, .int .i64 0, .int .i64 0, .int .i64 0, .int .i64 0, .int .i64 0]) rfl (by kernel_rfl) (by kernel_rfl) (by kernel_rfl) (fun _ _ _ h => by cases h.1) (Or.inl ⟨by rfl, fun W hSw => by (try dsimp only at hSw); go_simp⟩) k4 ?_
          try simp only [Act.put, List.setIfInBounds_toArray, List.set_cons_zero, List.set_cons_succ]
          refine wpAnyH_take (i := 8) (oi := { dst := some 50, op := Go.Op.extract (Go.Operand.tmp 42) 2, type := 3, pos := "outright.go:193", after := #[{ on := 5, ground := Go.Ground.data }, { on := 12, ground := Go.Ground.gcOnly Go.Departure.lateStores }], guard := none }) (v := .int .i64 0) rfl (by kernel_rfl) (by kernel_rfl) (by kernel_rfl) (fun _ _ _ h => by cases h.1) (Or.inl ⟨by rfl, fun W hSw => by (try dsimp only at hSw); go_simp⟩) k4 ?_
          try simp only [Act.put, List.setIfInBounds_toArray, List.set_cons_zero, List.set_cons_succ]
          refine wpAnyH_ready (rs := [11]) (by kernel_rfl) (by simp) ?_
          refine AllReadyH.cons (o := { dst := none, op := Go.Op.store 28 (Go.Operand.tmp 10) (Go.Operand.tmp 48), type := 0, pos := "outright.go:193", after := #[{ on := 9, ground := Go.Ground.data }, { on := 6, ground := Go.Ground.data }, { on := 4, ground := Go.Ground.chain }, { on := 0, ground := Go.Ground.phase }, { on := 1, ground := Go.Ground.phase }, { on := 2, ground := Go.Ground.phase }, { on := 3, ground := Go.Ground.phase }, { on := 4, ground := Go.Ground.phase }, { on := 5, ground := Go.Ground.phase }, { on := 6, ground := Go.Ground.phase }, { on := 7, ground := Go.Ground.textOnly Go.Departure.lateStores }, { on := 8, ground := Go.Ground.textOnly Go.Departure.lateStores }, { on := 9, ground := Go.Ground.phase }, { on := 10, ground := Go.Ground.phase }], guard := none }) rfl (fun K hK => ?_) AllReadyH.nil
          obtain ⟨hb5, x5, hx5, hr5⟩ := F4.out.2.2.2.1 B7 rfl
          rw [if_pos (by rfl)]
          refine op_store _ _ _ rfl _ rfl _ rfl (HSR.out _ _ _ hr5 hx5) ?_
          have f5 := F4.out.st HB6.out ((regL [(14, 601), (15, 600)]))
          obtain ⟨Y5, hY5⟩ : ∃ y, y = Y4.setRow B7 (regA ((regL [(14, 601), (15, 600)]))) := ⟨_, rfl⟩
          rw [← hY5] at f5 ⊢
          have F5 := Lib.hid f5
          clear hY5 f5 hb5 hx5 hr5 x5
          refine hK.out _ _ F5.out.fb (fun k5 => ?_)
          clear hK K
          try simp only [List.setIfInBounds_toArray, List.set_cons_zero, List.set_cons_succ]
          refine wpAnyH_ready (rs := [12]) (by kernel_rfl) (by simp) ?_
          refine AllReadyH.cons (o := { dst := none, op := Go.Op.store 30 (Go.Operand.tmp 11) (Go.Operand.tmp 49), type := 0, pos := "outright.go:193", after := #[{ on := 10, ground := Go.Ground.data }, { on := 7, ground := Go.Ground.data }, { on := 11, ground := Go.Ground.chain }, { on := 0, ground := Go.Ground.phase }, { on := 1, ground := Go.Ground.phase }, { on := 2, ground := Go.Ground.phase }, { on := 3, ground := Go.Ground.phase }, { on := 4, ground := Go.Ground.phase }, { on := 5, ground := Go.Ground.phase }, { on := 6, ground := Go.Ground.phase }, { on := 7, ground := Go.Ground.phase }, { on := 8, ground := Go.Ground.textOnly Go.Departure.lateStores }, { on := 9, ground := Go.Ground.phase }, { on := 10, ground := Go.Ground.phase }, { on := 11, ground := Go.Ground.phase }], guard := none }) rfl (fun K hK => ?_) AllReadyH.nil
          obtain ⟨hb6, x6, hx6, hr6⟩ := F5.out.2.2.2.2 B8 rfl
          rw [if_pos (by rfl)]
          refine op_store _ _ _ rfl _ rfl _ rfl (HSP.out _ _ _ hr6 hx6) ?_
          have f6 := F5.out.st2 (⟨0, 0, false, false, false, 0, 0, 0, 0, 0⟩)
          obtain ⟨Y6, hY6⟩ : ∃ y, y = Y5.setRow B8 (pswA (⟨0, 0, false, false, false, 0, 0, 0, 0, 0⟩)) := ⟨_, rfl⟩
          rw [← hY6] at f6 ⊢
          have F6 := Lib.hid f6.1
          have P6 := Lib.hid f6.2
          clear hY6 f6 hb6 hx6 hr6 x6
          refine hK.out _ _ F6.out.fb (fun k6 => ?_)
          clear hK K
          try simp only [List.setIfInBounds_toArray, List.set_cons_zero, List.set_cons_succ]
          refine wpAnyH_take (i := 13) (oi := { dst := some 12, op := Go.Op.assign (Go.Operand.tmp 50), type := 3, pos := "outright.go:193", after := #[{ on := 8, ground := Go.Ground.data }, { on := 12, ground := Go.Ground.chain }, { on := 0, ground := Go.Ground.phase }, { on := 1, ground := Go.Ground.phase }, { on := 2, ground := Go.Ground.phase }, { on := 3, ground := Go.Ground.phase }, { on := 4, ground := Go.Ground.phase }, { on := 5, ground := Go.Ground.phase }, { on := 6, ground := Go.Ground.phase }, { on := 7, ground := Go.Ground.phase }, { on := 8, ground := Go.Ground.phase }, { on := 9, ground := Go.Ground.phase }, { on := 10, ground := Go.Ground.phase }, { on := 11, ground := Go.Ground.phase }, { on := 12, ground := Go.Ground.phase }], guard := none }) (v := .int .i64 0) rfl (by kernel_rfl) (by kernel_rfl) (by kernel_rfl) (fun _ _ _ h => by cases h.1) (Or.inl ⟨by rfl, fun W hSw => by (try dsimp only at hSw); go_simp⟩) k6 ?_
          try simp only [Act.put, List.setIfInBounds_toArray, List.set_cons_zero, List.set_cons_succ]
          refine wpAnyH_done (by kernel_rfl) ?_ _
          refine id ?_
          exact ⟨rfl, B7, B8, ckb_mk rfl, F6.out.1, F6.out.2.1, F6.out.2.2.1, P6.out⟩
      · go_simp
        have f2 := F1.out.al2
        obtain ⟨Y2, hY2⟩ : ∃ y, y = Y1.alloc (.cells #[.int .i64 0, .int .i64 0, .bool false, .bool false, .bool false, .int .i64 0, .int .i64 0, .int .i64 0, .int .i64 0, .int .i64 0] 30) := ⟨_, rfl⟩
        obtain ⟨B8, hB8⟩ : ∃ b, b = Y1.heap.size := ⟨_, rfl⟩
        rw [← hY2, ← hB8] at f2 ⊢
        have F2 := Lib.hid f2
        clear hY2 hB8 f2
        refine hK.out _ _ F2.out.fb (fun k2 => ?_)
        clear hK K
        try simp only [List.setIfInBounds_toArray, List.set_cons_zero, List.set_cons_succ]
        refine wpAnyH_ready (rs := [4, 9]) (by kernel_rfl) (by simp) ?_
        refine AllReadyH.cons (o := { dst := some 47, op := Go.Op.call { callee := Go.Callee.value (Go.Operand.func 17), args := #[Go.Operand.tmp 43, Go.Operand.tmp 44, Go.Operand.tmp 45, Go.Operand.tmp 46], argTypes := #[25, 28, 30, 37] }, type := 41, pos := "outright.go:193", after := #[{ on := 0, ground := Go.Ground.data }, { on := 1, ground := Go.Ground.data }, { on := 2, ground := Go.Ground.data }, { on := 3, ground := Go.Ground.data }, { on := 0, ground := Go.Ground.chain }], guard := none }) rfl (fun K hK => ?_) (AllReadyH.cons (o := { dst := some 10, op := Go.Op.alloc 28, type := 0, pos := "outright.go:193", after := #[], guard := none }) rfl (fun K hK => ?_) AllReadyH.nil)
        · go_simp
          go_at_call 17
          refine (HE.out A g h 1 Y2 F2.out.2.2.1).mono ?_
          rintro e Y3 ⟨rfl, hs, hk⟩
          have F3 := Lib.hid (F2.out.exec hs hk)
          clear hs hk
          go_wp2_with fail
          refine hK.out _ _ F3.out.fb (fun k3 => ?_)
          clear hK K
          try simp only [List.setIfInBounds_toArray, List.set_cons_zero, List.set_cons_succ]
          refine wpAnyH_take (i := 5) (oi := { dst := some 42, op := Go.Op.move (Go.Operand.tmp 47), type := 41, pos := "outright.go:193", after := #[{ on := 4, ground := Go.Ground.data }], guard := none }) (v := .tuple #[.agg #[.int .u32 0, .int .u32 0, .int .u32 0, .int .u32 0, .int .u32 0, .int .u32 0, .int .u32 0, .int .u32 0, .int .u32 0, .int .u32 0, .int .u32 0, .int .u32 0, .int .u32 0, .int .u32 0, .int .u32 601, .int .u32 600], .agg #[.int .i64 0, .int .i64 0, .bool false, .bool false, .bool false, .int .i64 0, .int .i64 0, .int .i64 0, .int .i64 0, .int .i64 0], .int .i64 0]) rfl (by kernel_rfl) (by kernel_rfl) (by kernel_rfl) (fun _ _ _ h => by cases h.1) (Or.inl ⟨by rfl, fun W hSw => by (try dsimp only at hSw); go_simp⟩) k3 ?_
          try simp only [Act.put, List.setIfInBounds_toArray, List.set_cons_zero, List.set_cons_succ]
          refine wpAnyH_take (i := 6) (oi := { dst := some 48, op := Go.Op.extract (Go.Operand.tmp 42) 0, type := 28, pos := "outright.go:193", after := #[{ on := 5, ground := Go.Ground.data }], guard := none }) (v := .agg #[.int .u32 0, .int .u32 0, .int .u32 0, .int .u32 0, .int .u32 0, .int .u32 0, .int .u32 0, .int .u32 0, .int .u32 0, .int .u32 0, .int .u32 0, .int .u32 0, .int .u32 0, .int .u32 0, .int .u32 601, .int .u32 600]) rfl (by kernel_rfl) (by kernel_rfl) (by kernel_rfl) (fun _ _ _ h => by cases h.1) (Or.inl ⟨by rfl, fun W hSw => by (try dsimp only at hSw); go_simp⟩) k3 ?_
          try simp only [Act.put, List.setIfInBounds_toArray, List.set_cons_zero, List.set_cons_succ]
          refine wpAnyH_take (i := 7) (oi := { dst := some 49, op := Go.Op.extract (Go.Operand.tmp 42) 1, type := 30, pos := "outright.go:193", after := #[{ on := 5, ground := Go.Ground.data }, { on := 11, ground := Go.Ground.gcOnly Go.Departure.lateStores }], guard := none }) (v := .agg #[.int .i64 0, .int .i64 0, .bool false, .bool false, .bool false, .int .i64 0, .int .i64 0, .int .i64 0, .int .i64 0, .int .i64 0]) rfl (by kernel_rfl) (by kernel_rfl) (by kernel_rfl) (fun _ _ _ h => by cases h.1) (Or.inl ⟨by rfl, fun W hSw => by (try dsimp only at hSw); go_simp⟩) k3 ?_
          try simp only [Act.put, List.setIfInBounds_toArray, List.set_cons_zero, List.set_cons_succ]
          refine wpAnyH_take (i := 8) (oi := { dst := some 50, op := Go.Op.extract (Go.Operand.tmp 42) 2, type := 3, pos := "outright.go:193", after := #[{ on := 5, ground := Go.Ground.data }, { on := 12, ground := Go.Ground.gcOnly Go.Departure.lateStores }], guard := none }) (v := .int .i64 0) rfl (by kernel_rfl) (by kernel_rfl) (by kernel_rfl) (fun _ _ _ h => by cases h.1) (Or.inl ⟨by rfl, fun W hSw => by (try dsimp only at hSw); go_simp⟩) k3 ?_
          try simp only [Act.put, List.setIfInBounds_toArray, List.set_cons_zero, List.set_cons_succ]
          refine wpAnyH_ready (rs := [9]) (by kernel_rfl) (by simp) ?_
          refine AllReadyH.cons (o := { dst := some 10, op := Go.Op.alloc 28, type := 0, pos := "outright.go:193", after := #[], guard := none }) rfl (fun K hK => ?_) AllReadyH.nil
          go_simp
          have f4 := F3.out.al
          obtain ⟨Y4, hY4⟩ : ∃ y, y = Y3.alloc (.cells #[.int .u32 0, .int .u32 0, .int .u32 0, .int .u32 0, .int .u32 0, .int .u32 0, .int .u32 0, .int .u32 0, .int .u32 0, .int .u32 0, .int .u32 0, .int .u32 0, .int .u32 0, .int .u32 0, .int .u32 0, .int .u32 0] 28) := ⟨_, rfl⟩
          obtain ⟨B7, hB7⟩ : ∃ b, b = Y3.heap.size := ⟨_, rfl⟩
          rw [← hY4, ← hB7] at f4 ⊢
          have F4 := Lib.hid f4
          clear hY4 hB7 f4
          refine hK.out _ _ F4.out.fb (fun k4 => ?_)
          clear hK K
          try simp only [List.setIfInBounds_toArray, List.set_cons_zero, List.set_cons_succ]
          refine wpAnyH_ready (rs := [11]) (by kernel_rfl) (by simp) ?_
          refine AllReadyH.cons (o := { dst := none, op := Go.Op.store 28 (Go.Operand.tmp 10) (Go.Operand.tmp 48), type := 0, pos := "outright.go:193", after := #[{ on := 9, ground := Go.Ground.data }, { on := 6, ground := Go.Ground.data }, { on := 4, ground := Go.Ground.chain }, { on := 0, ground := Go.Ground.phase }, { on := 1, ground := Go.Ground.phase }, { on := 2, ground := Go.Ground.phase }, { on := 3, ground := Go.Ground.phase }, { on := 4, ground := Go.Ground.phase }, { on := 5, ground := Go.Ground.phase }, { on := 6, ground := Go.Ground.phase }, { on := 7, ground := Go.Ground.textOnly Go.Departure.lateStores }, { on := 8, ground := Go.Ground.textOnly Go.Departure.lateStores }, { on := 9, ground := Go.Ground.phase }, { on := 10, ground := Go.Ground.phase }], guard := none }) rfl (fun K hK => ?_) AllReadyH.nil
          obtain ⟨hb5, x5, hx5, hr5⟩ := F4.out.2.2.2.1 B7 rfl
          rw [if_pos (by rfl)]
          refine op_store _ _ _ rfl _ rfl _ rfl (HSR.out _ _ _ hr5 hx5) ?_
          have f5 := F4.out.st HB6.out ((regL [(14, 601), (15, 600)]))
          obtain ⟨Y5, hY5⟩ : ∃ y, y = Y4.setRow B7 (regA ((regL [(14, 601), (15, 600)]))) := ⟨_, rfl⟩
          rw [← hY5] at f5 ⊢
          have F5 := Lib.hid f5
          clear hY5 f5 hb5 hx5 hr5 x5
          refine hK.out _ _ F5.out.fb (fun k5 => ?_)
          clear hK K
          try simp only [List.setIfInBounds_toArray, List.set_cons_zero, List.set_cons_succ]
          refine wpAnyH_ready (rs := [12]) (by kernel_rfl) (by simp) ?_
          refine AllReadyH.cons (o := { dst := none, op := Go.Op.store 30 (Go.Operand.tmp 11) (Go.Operand.tmp 49), type := 0, pos := "outright.go:193", after := #[{ on := 10, ground := Go.Ground.data }, { on := 7, ground := Go.Ground.data }, { on := 11, ground := Go.Ground.chain }, { on := 0, ground := Go.Ground.phase }, { on := 1, ground := Go.Ground.phase }, { on := 2, ground := Go.Ground.phase }, { on := 3, ground := Go.Ground.phase }, { on := 4, ground := Go.Ground.phase }, { on := 5, ground := Go.Ground.phase }, { on := 6, ground := Go.Ground.phase }, { on := 7, ground := Go.Ground.phase }, { on := 8, ground := Go.Ground.textOnly Go.Departure.lateStores }, { on := 9, ground := Go.Ground.phase }, { on := 10, ground := Go.Ground.phase }, { on := 11, ground := Go.Ground.phase }], guard := none }) rfl (fun K hK => ?_) AllReadyH.nil
          obtain ⟨hb6, x6, hx6, hr6⟩ := F5.out.2.2.2.2 B8 rfl
          rw [if_pos (by rfl)]
          refine op_store _ _ _ rfl _ rfl _ rfl (HSP.out _ _ _ hr6 hx6) ?_
          have f6 := F5.out.st2 (⟨0, 0, false, false, false, 0, 0, 0, 0, 0⟩)
          obtain ⟨Y6, hY6⟩ : ∃ y, y = Y5.setRow B8 (pswA (⟨0, 0, false, false, false, 0, 0, 0, 0, 0⟩)) := ⟨_, rfl⟩
          rw [← hY6] at f6 ⊢
          have F6 := Lib.hid f6.1
          have P6 := Lib.hid f6.2
          clear hY6 f6 hb6 hx6 hr6 x6
          refine hK.out _ _ F6.out.fb (fun k6 => ?_)
          clear hK K
          try simp only [List.setIfInBounds_toArray, List.set_cons_zero, List.set_cons_succ]
          refine wpAnyH_take (i := 13) (oi := { dst := some 12, op := Go.Op.assign (Go.Operand.tmp 50), type := 3, pos := "outright.go:193", after := #[{ on := 8, ground := Go.Ground.data }, { on := 12, ground := Go.Ground.chain }, { on := 0, ground := Go.Ground.phase }, { on := 1, ground := Go.Ground.phase }, { on := 2, ground := Go.Ground.phase }, { on := 3, ground := Go.Ground.phase }, { on := 4, ground := Go.Ground.phase }, { on := 5, ground := Go.Ground.phase }, { on := 6, ground := Go.Ground.phase }, { on := 7, ground := Go.Ground.phase }, { on := 8, ground := Go.Ground.phase }, { on := 9, ground := Go.Ground.phase }, { on := 10, ground := Go.Ground.phase }, { on := 11, ground := Go.Ground.phase }, { on := 12, ground := Go.Ground.phase }], guard := none }) (v := .int .i64 0) rfl (by kernel_rfl) (by kernel_rfl) (by kernel_rfl) (fun _ _ _ h => by cases h.1) (Or.inl ⟨by rfl, fun W hSw => by (try dsimp only at hSw); go_simp⟩) k6 ?_
          try simp only [Act.put, List.setIfInBounds_toArray, List.set_cons_zero, List.set_cons_succ]
          refine wpAnyH_done (by kernel_rfl) ?_ _
          refine id ?_
          exact ⟨rfl, B7, B8, ckb_mk rfl, F6.out.1, F6.out.2.1, F6.out.2.2.1, P6.out⟩
        · go_simp
          have f3 := F2.out.al
          obtain ⟨Y3, hY3⟩ : ∃ y, y = Y2.alloc (.cells #[.int .u32 0, .int .u32 0, .int .u32 0, .int .u32 0, .int .u32 0, .int .u32 0, .int .u32 0, .int .u32 0, .int .u32 0, .int .u32 0, .int .u32 0, .int .u32 0, .int .u32 0, .int .u32 0, .int .u32 0, .int .u32 0] 28) := ⟨_, rfl⟩
          obtain ⟨B7, hB7⟩ : ∃ b, b = Y2.heap.size := ⟨_, rfl⟩
          rw [← hY3, ← hB7] at f3 ⊢
          have F3 := Lib.hid f3
          clear hY3 hB7 f3
          refine hK.out _ _ F3.out.fb (fun k3 => ?_)
          clear hK K
          try simp only [List.setIfInBounds_toArray, List.set_cons_zero, List.set_cons_succ]
          refine wpAnyH_ready (rs := [4]) (by kernel_rfl) (by simp) ?_
          refine AllReadyH.cons (o := { dst := some 47, op := Go.Op.call { callee := Go.Callee.value (Go.Operand.func 17), args := #[Go.Operand.tmp 43, Go.Operand.tmp 44, Go.Operand.tmp 45, Go.Operand.tmp 46], argTypes := #[25, 28, 30, 37] }, type := 41, pos := "outright.go:193", after := #[{ on := 0, ground := Go.Ground.data }, { on := 1, ground := Go.Ground.data }, { on := 2, ground := Go.Ground.data }, { on := 3, ground := Go.Ground.data }, { on := 0, ground := Go.Ground.chain }], guard := none }) rfl (fun K hK => ?_) AllReadyH.nil
          go_simp
          go_at_call 17
          refine (HE.out A g h 1 Y3 F3.out.2.2.1).mono ?_
          rintro e Y4 ⟨rfl, hs, hk⟩
          have F4 := Lib.hid (F3.out.exec hs hk)
          clear hs hk
          go_wp2_with fail
          refine hK.out _ _ F4.out.fb (fun k4 => ?_)
          clear hK K
          try simp only [List.setIfInBounds_toArray, List.set_cons_zero, List.set_cons_succ]
          refine wpAnyH_take (i := 5) (oi := { dst := some 42, op := Go.Op.move (Go.Operand.tmp 47), type := 41, pos := "outright.go:193", after := #[{ on := 4, ground := Go.Ground.data }], guard := none }) (v := .tuple #[.agg #[.int .u32 0, .int .u32 0, .int .u32 0, .int .u32 0, .int .u32 0, .int .u32 0, .int .u32 0, .int .u32 0, .int .u32 0, .int .u32 0, .int .u32 0, .int .u32 0, .int .u32 0, .int .u32 0, .int .u32 601, .int .u32 600], .agg #[.int .i64 0, .int .i64 0, .bool false, .bool false, .bool false, .int .i64 0, .int .i64 0, .int .i64 0, .int .i64 0, .int .i64 0], .int .i64 0]) rfl (by kernel_rfl) (by kernel_rfl) (by kernel_rfl) (fun _ _ _ h => by cases h.1) (Or.inl ⟨by rfl, fun W hSw => by (try dsimp only at hSw); go_simp⟩) k4 ?_
          try simp only [Act.put, List.setIfInBounds_toArray, List.set_cons_zero, List.set_cons_succ]
          refine wpAnyH_take (i := 6) (oi := { dst := some 48, op := Go.Op.extract (Go.Operand.tmp 42) 0, type := 28, pos := "outright.go:193", after := #[{ on := 5, ground := Go.Ground.data }], guard := none }) (v := .agg #[.int .u32 0, .int .u32 0, .int .u32 0, .int .u32 0, .int .u32 0, .int .u32 0, .int .u32 0, .int .u32 0, .int .u32 0, .int .u32 0, .int .u32 0, .int .u32 0, .int .u32 0, .int .u32 0, .int .u32 601, .int .u32 600]) rfl (by kernel_rfl) (by kernel_rfl) (by kernel_rfl) (fun _ _ _ h => by cases h.1) (Or.inl ⟨by rfl, fun W hSw => by (try dsimp only at hSw); go_simp⟩) k4 ?_
          try simp only [Act.put, List.setIfInBounds_toArray, List.set_cons_zero, List.set_cons_succ]
          refine wpAnyH_take (i := 7) (oi := { dst := some 49, op := Go.Op.extract (Go.Operand.tmp 42) 1, type := 30, pos := "outright.go:193", after := #[{ on := 5, ground := Go.Ground.data }, { on := 11, ground := Go.Ground.gcOnly Go.Departure.lateStores }], guard := none }) (v := .agg #[.int .i64 0, .int .i64 0, .bool false, .bool false, .bool false, .int .i64 0, .int .i64 0, .int .i64 0, .int .i64 0, .int .i64 0]) rfl (by kernel_rfl) (by kernel_rfl) (by kernel_rfl) (fun _ _ _ h => by cases h.1) (Or.inl ⟨by rfl, fun W hSw => by (try dsimp only at hSw); go_simp⟩) k4 ?_
          try simp only [Act.put, List.setIfInBounds_toArray, List.set_cons_zero, List.set_cons_succ]
          refine wpAnyH_take (i := 8) (oi := { dst := some 50, op := Go.Op.extract (Go.Operand.tmp 42) 2, type := 3, pos := "outright.go:193", after := #[{ on := 5, ground := Go.Ground.data }, { on := 12, ground := Go.Ground.gcOnly Go.Departure.lateStores }], guard := none }) (v := .int .i64 0) rfl (by kernel_rfl) (by kernel_rfl) (by kernel_rfl) (fun _ _ _ h => by cases h.1) (Or.inl ⟨by rfl, fun W hSw => by (try dsimp only at hSw); go_simp⟩) k4 ?_
          try simp only [Act.put, List.setIfInBounds_toArray, List.set_cons_zero, List.set_cons_succ]
          refine wpAnyH_ready (rs := [11]) (by kernel_rfl) (by simp) ?_
          refine AllReadyH.cons (o := { dst := none, op := Go.Op.store 28 (Go.Operand.tmp 10) (Go.Operand.tmp 48), type := 0, pos := "outright.go:193", after := #[{ on := 9, ground := Go.Ground.data }, { on := 6, ground := Go.Ground.data }, { on := 4, ground := Go.Ground.chain }, { on := 0, ground := Go.Ground.phase }, { on := 1, ground := Go.Ground.phase }, { on := 2, ground := Go.Ground.phase }, { on := 3, ground := Go.Ground.phase }, { on := 4, ground := Go.Ground.phase }, { on := 5, ground := Go.Ground.phase }, { on := 6, ground := Go.Ground.phase }, { on := 7, ground := Go.Ground.textOnly Go.Departure.lateStores }, { on := 8, ground := Go.Ground.textOnly Go.Departure.lateStores }, { on := 9, ground := Go.Ground.phase }, { on := 10, ground := Go.Ground.phase }], guard := none }) rfl (fun K hK => ?_) AllReadyH.nil
          obtain ⟨hb5, x5, hx5, hr5⟩ := F4.out.2.2.2.1 B7 rfl
          rw [if_pos (by rfl)]
          refine op_store _ _ _ rfl _ rfl _ rfl (HSR.out _ _ _ hr5 hx5) ?_
          have f5 := F4.out.st HB6.out ((regL [(14, 601), (15, 600)]))
          obtain ⟨Y5, hY5⟩ : ∃ y, y = Y4.setRow B7 (regA ((regL [(14, 601), (15, 600)]))) := ⟨_, rfl⟩
          rw [← hY5] at f5 ⊢
          have F5 := Lib.hid f5
          clear hY5 f5 hb5 hx5 hr5 x5
          refine hK.out _ _ F5.out.fb (fun k5 => ?_)
          clear hK K
          try simp only [List.setIfInBounds_toArray, List.set_cons_zero, List.set_cons_succ]
          refine wpAnyH_ready (rs := [12]) (by kernel_rfl) (by simp) ?_
          refine AllReadyH.cons (o := { dst := none, op := Go.Op.store 30 (Go.Operand.tmp 11) (Go.Operand.tmp 49), type := 0, pos := "outright.go:193", after := #[{ on := 10, ground := Go.Ground.data }, { on := 7, ground := Go.Ground.data }, { on := 11, ground := Go.Ground.chain }, { on := 0, ground := Go.Ground.phase }, { on := 1, ground := Go.Ground.phase }, { on := 2, ground := Go.Ground.phase }, { on := 3, ground := Go.Ground.phase }, { on := 4, ground := Go.Ground.phase }, { on := 5, ground := Go.Ground.phase }, { on := 6, ground := Go.Ground.phase }, { on := 7, ground := Go.Ground.phase }, { on := 8, ground := Go.Ground.textOnly Go.Departure.lateStores }, { on := 9, ground := Go.Ground.phase }, { on := 10, ground := Go.Ground.phase }, { on := 11, ground := Go.Ground.phase }], guard := none }) rfl (fun K hK => ?_) AllReadyH.nil
          obtain ⟨hb6, x6, hx6, hr6⟩ := F5.out.2.2.2.2 B8 rfl
          rw [if_pos (by rfl)]
          refine op_store _ _ _ rfl _ rfl _ rfl (HSP.out _ _ _ hr6 hx6) ?_
          have f6 := F5.out.st2 (⟨0, 0, false, false, false, 0, 0, 0, 0, 0⟩)
          obtain ⟨Y6, hY6⟩ : ∃ y, y = Y5.setRow B8 (pswA (⟨0, 0, false, false, false, 0, 0, 0, 0, 0⟩)) := ⟨_, rfl⟩
          rw [← hY6] at f6 ⊢
          have F6 := Lib.hid f6.1
          have P6 := Lib.hid f6.2
          clear hY6 f6 hb6 hx6 hr6 x6
          refine hK.out _ _ F6.out.fb (fun k6 => ?_)
          clear hK K
          try simp only [List.setIfInBounds_toArray, List.set_cons_zero, List.set_cons_succ]
          refine wpAnyH_take (i := 13) (oi := { dst := some 12, op := Go.Op.assign (Go.Operand.tmp 50), type := 3, pos := "outright.go:193", after := #[{ on := 8, ground := Go.Ground.data }, { on := 12, ground := Go.Ground.chain }, { on := 0, ground := Go.Ground.phase }, { on := 1, ground := Go.Ground.phase }, { on := 2, ground := Go.Ground.phase }, { on := 3, ground := Go.Ground.phase }, { on := 4, ground := Go.Ground.phase }, { on := 5, ground := Go.Ground.phase }, { on := 6, ground := Go.Ground.phase }, { on := 7, ground := Go.Ground.phase }, { on := 8, ground := Go.Ground.phase }, { on := 9, ground := Go.Ground.phase }, { on := 10, ground := Go.Ground.phase }, { on := 11, ground := Go.Ground.phase }, { on := 12, ground := Go.Ground.phase }], guard := none }) (v := .int .i64 0) rfl (by kernel_rfl) (by kernel_rfl) (by kernel_rfl) (fun _ _ _ h => by cases h.1) (Or.inl ⟨by rfl, fun W hSw => by (try dsimp only at hSw); go_simp⟩) k6 ?_
          try simp only [Act.put, List.setIfInBounds_toArray, List.set_cons_zero, List.set_cons_succ]
          refine wpAnyH_done (by kernel_rfl) ?_ _
          refine id ?_
          exact ⟨rfl, B7, B8, ckb_mk rfl, F6.out.1, F6.out.2.1, F6.out.2.2.1, P6.out⟩
    · go_simp
      have f1 := F00.out.al
      obtain ⟨Y1, hY1⟩ : ∃ y, y = Y0.alloc (.cells #[.int .u32 0, .int .u32 0, .int .u32 0, .int .u32 0, .int .u32 0, .int .u32 0, .int .u32 0, .int .u32 0, .int .u32 0, .int .u32 0, .int .u32 0, .int .u32 0, .int .u32 0, .int .u32 0, .int .u32 0, .int .u32 0] 28) := ⟨_, rfl⟩
      obtain ⟨B7, hB7⟩ : ∃ b, b = Y0.heap.size := ⟨_, rfl⟩
      rw [← hY1, ← hB7] at f1 ⊢
      have F1 := Lib.hid f1
      clear hY1 hB7 f1
      refine hK.out _ _ F1.out.fb (fun k1 => ?_)
      clear hK K
      try simp only [List.setIfInBounds_toArray, List.set_cons_zero, List.set_cons_succ]
      refine wpAnyH_ready (rs := [0, 10]) (by kernel_rfl) (by simp) ?_
      refine AllReadyH.cons (o := { dst := some 43, op := Go.Op.call { callee := Go.Callee.value (Go.Operand.func 27), args := #[Go.Operand.const (Go.Value.int Go.IntKind.i64 210), Go.Operand.const (Go.Value.int Go.IntKind.i64 3)], argTypes := #[3, 3] }, type := 25, pos := "outright.go:193", after := #[], guard := none }) rfl (fun K hK => ?_) (AllReadyH.cons (o := { dst := some 11, op := Go.Op.alloc 30, type := 0, pos := "outright.go:193", after := #[], guard := none }) rfl (fun K hK => ?_) AllReadyH.nil)
      · go_simp
        go_at_call 27
        refine (HSS1.out Y1).mono ?_
        rintro e Y2 ⟨rfl, hb⟩
        have F2 := Lib.hid (F1.out.below hb)
        clear hb
        go_wp2_with fail
        refine hK.out _ _ F2.out.fb (fun k2 => ?_)
        clear hK K
        try simp only [List.setIfInBounds_toArray, List.set_cons_zero]
        refine wpAnyH_ready (rs := [4, 10]) (by kernel_rfl) (by simp) ?_
        refine AllReadyH.cons (o := { dst := some 47, op := Go.Op.call { callee := Go.Callee.value (Go.Operand.func 17), args := #[Go.Operand.tmp 43, Go.Operand.tmp 44, Go.Operand.tmp 45, Go.Operand.tmp 46], argTypes := #[25, 28, 30, 37] }, type := 41, pos := "outright.go:193", after := #[{ on := 0, ground := Go.Ground.data }, { on := 1, ground := Go.Ground.data }, { on := 2, ground := Go.Ground.data }, { on := 3, ground := Go.Ground.data }, { on := 0, ground := Go.Ground.chain }], guard := none }) rfl (fun K hK => ?_) (AllReadyH.cons (o := { dst := some 11, op := Go.Op.alloc 30, type := 0, pos := "outright.go:193", after := #[], guard := none }) rfl (fun K hK => ?_) AllReadyH.nil)
        · go_simp
          go_at_call 17
          refine (HE.out A g h 1 Y2 F2.out.2.2.1).mono ?_
          rintro e Y3 ⟨rfl, hs, hk⟩
          have F3 := Lib.hid (F2.out.exec hs hk)
          clear hs hk
          go_wp2_with fail
          refine hK.out _ _ F3.out.fb (fun k3 => ?_)
          clear hK K
          try simp only [List.setIfInBounds_toArray, List.set_cons_zero, List.set_cons_succ]
          refine wpAnyH_take (i := 5) (oi := { dst := some 42, op := Go.Op.move (Go.Operand.tmp 47), type := 41, pos := "outright.go:193", after := #[{ on := 4, ground := Go.Ground.data }], guard := none }) (v := .tuple #[.agg #[.int .u32 0, .int .u32 0, .int .u32 0, .int .u32 0, .int .u32 0, .int .u32 0, .int .u32 0, .int .u32 0, .int .u32 0, .int .u32 0, .int .u32 0, .int .u32 0, .int .u32 0, .int .u32 0, .int .u32 601, .int .u32 600], .agg #[.int .i64 0, .int .i64 0, .bool false, .bool false, .bool false, .int .i64 0, .int .i64 0, .int .i64 0, .int .i64 0, .int .i64 0], .int .i64 0]) rfl (by kernel_rfl) (by kernel_rfl) (by kernel_rfl) (fun _ _ _ h => by cases h.1) (Or.inl ⟨by rfl, fun W hSw => by (try dsimp only at hSw); go_simp⟩) k3 ?_
          try simp only [Act.put, List.setIfInBounds_toArray, List.set_cons_zero, List.set_cons_succ]
          refine wpAnyH_take (i := 6) (oi := { dst := some 48, op := Go.Op.extract (Go.Operand.tmp 42) 0, type := 28, pos := "outright.go:193", after := #[{ on := 5, ground := Go.Ground.data }], guard := none }) (v := .agg #[.int .u32 0, .int .u32 0, .int .u32 0, .int .u32 0, .int .u32 0, .int .u32 0, .int .u32 0, .int .u32 0, .int .u32 0, .int .u32 0, .int .u32 0, .int .u32 0, .int .u32 0, .int .u32 0, .int .u32 601, .int .u32 600]) rfl (by kernel_rfl) (by kernel_rfl) (by kernel_rfl) (fun _ _ _ h => by cases h.1) (Or.inl ⟨by rfl, fun W hSw => by (try dsimp only at hSw); go_simp⟩) k3 ?_
          try simp only [Act.put, List.setIfInBounds_toArray, List.set_cons_zero, List.set_cons_succ]
          refine wpAnyH_take (i := 7) (oi := { dst := some 49, op := Go.Op.extract (Go.Operand.tmp 42) 1, type := 30, pos := "outright.go:193", after := #[{ on := 5, ground := Go.Ground.data }, { on := 11, ground := Go.Ground.gcOnly Go.Departure.lateStores }], guard := none }) (v := .agg #[.int .i64 0, .int .i64 0, .bool false, .bool false, .bool false, .int .i64 0, .int .i64 0, .int .i64 0, .int .i64 0, .int .i64 0]) rfl (by kernel_rfl) (by kernel_rfl) (by kernel_rfl) (fun _ _ _ h => by cases h.1) (Or.inl ⟨by rfl, fun W hSw => by (try dsimp only at hSw); go_simp⟩) k3 ?_
          try simp only [Act.put, List.setIfInBounds_toArray, List.set_cons_zero, List.set_cons_succ]
          refine wpAnyH_take (i := 8) (oi := { dst := some 50, op := Go.Op.extract (Go.Operand.tmp 42) 2, type := 3, pos := "outright.go:193", after := #[{ on := 5, ground := Go.Ground.data }, { on := 12, ground := Go.Ground.gcOnly Go.Departure.lateStores }], guard := none }) (v := .int .i64 0) rfl (by kernel_rfl) (by kernel_rfl) (by kernel_rfl) (fun _ _ _ h => by cases h.1) (Or.inl ⟨by rfl, fun W hSw => by (try dsimp only at hSw); go_simp⟩) k3 ?_
          try simp only [Act.put, List.setIfInBounds_toArray, List.set_cons_zero, List.set_cons_succ]
          refine wpAnyH_ready (rs := [10]) (by kernel_rfl) (by simp) ?_
          refine AllReadyH.cons (o := { dst := some 11, op := Go.Op.alloc 30, type := 0, pos := "outright.go:193", after := #[], guard := none }) rfl (fun K hK => ?_) AllReadyH.nil
          go_simp
          have f4 := F3.out.al2
          obtain ⟨Y4, hY4⟩ : ∃ y, y = Y3.alloc (.cells #[.int .i64 0, .int .i64 0, .bool false, .bool false, .bool false, .int .i64 0, .int .i64 0, .int .i64 0, .int .i64 0, .int .i64 0] 30) := ⟨_, rfl⟩
          obtain ⟨B8, hB8⟩ : ∃ b, b = Y3.heap.size := ⟨_, rfl⟩
          rw [← hY4, ← hB8] at f4 ⊢
          have F4 := Lib.hid f4
          clear hY4 hB8 f4
          refine hK.out _ _ F4.out.fb (fun k4 => ?_)
          clear hK K
          try simp only [List.setIfInBounds_toArray, List.set_cons_zero, List.set_cons_succ]
          refine wpAnyH_ready (rs := [11]) (by kernel_rfl) (by simp) ?_
          refine AllReadyH.cons (o := { dst := none, op := Go.Op.store 28 (Go.Operand.tmp 10) (Go.Operand.tmp 48), type := 0, pos := "outright.go:193", after := #[{ on := 9, ground := Go.Ground.data }, { on := 6, ground := Go.Ground.data }, { on := 4, ground := Go.Ground.chain }, { on := 0, ground := Go.Ground.phase }, { on := 1, ground := Go.Ground.phase }, { on := 2, ground := Go.Ground.phase }, { on := 3, ground := Go.Ground.phase }, { on := 4, ground := Go.Ground.phase }, { on := 5, ground := Go.Ground.phase }, { on := 6, ground := Go.Ground.phase }, { on := 7, ground := Go.Ground.textOnly Go.Departure.lateStores }, { on := 8, ground := Go.Ground.textOnly Go.Departure.lateStores }, { on := 9, ground := Go.Ground.phase }, { on := 10, ground := Go.Ground.phase }], guard := none }) rfl (fun K hK => ?_) AllReadyH.nil
          obtain ⟨hb5, x5, hx5, hr5⟩ := F4.out.2.2.2.1 B7 rfl
          rw [if_pos (by rfl)]
          refine op_store _ _ _ rfl _ rfl _ rfl (HSR.out _ _ _ hr5 hx5) ?_
          have f5 := F4.out.st HB6.out ((regL [(14, 601), (15, 600)]))
          obtain ⟨Y5, hY5⟩ : ∃ y, y = Y4.setRow B7 (regA ((regL [(14, 601), (15, 600)]))) := ⟨_, rfl⟩
          rw [← hY5] at f5 ⊢
          have F5 := Lib.hid f5
          clear hY5 f5 hb5 hx5 hr5 x5
          refine hK.out _ _ F5.out.fb (fun k5 => ?_)
          clear hK K
          try simp only [List.setIfInBounds_toArray, List.set_cons_zero, List.set_cons_succ]
          refine wpAnyH_ready (rs := [12]) (by kernel_rfl) (by simp) ?_
          refine AllReadyH.cons (o := { dst := none, op := Go.Op.store 30 (Go.Operand.tmp 11) (Go.Operand.tmp 49), type := 0, pos := "outright.go:193", after := #[{ on := 10, ground := Go.Ground.data }, { on := 7, ground := Go.Ground.data }, { on := 11, ground := Go.Ground.chain }, { on := 0, ground := Go.Ground.phase }, { on := 1, ground := Go.Ground.phase }, { on := 2, ground := Go.Ground.phase }, { on := 3, ground := Go.Ground.phase }, { on := 4, ground := Go.Ground.phase }, { on := 5, ground := Go.Ground.phase }, { on := 6, ground := Go.Ground.phase }, { on := 7, ground := Go.Ground.phase }, { on := 8, ground := Go.Ground.textOnly Go.Departure.lateStores }, { on := 9, ground := Go.Ground.phase }, { on := 10, ground := Go.Ground.phase }, { on := 11, ground := Go.Ground.phase }], guard := none }) rfl (fun K hK => ?_) AllReadyH.nil
          obtain ⟨hb6, x6, hx6, hr6⟩ := F5.out.2.2.2.2 B8 rfl
          rw [if_pos (by rfl)]
          refine op_store _ _ _ rfl _ rfl _ rfl (HSP.out _ _ _ hr6 hx6) ?_
          have f6 := F5.out.st2 (⟨0, 0, false, false, false, 0, 0, 0, 0, 0⟩)
          obtain ⟨Y6, hY6⟩ : ∃ y, y = Y5.setRow B8 (pswA (⟨0, 0, false, false, false, 0, 0, 0, 0, 0⟩)) := ⟨_, rfl⟩
          rw [← hY6] at f6 ⊢
          have F6 := Lib.hid f6.1
          have P6 := Lib.hid f6.2
          clear hY6 f6 hb6 hx6 hr6 x6
          refine hK.out _ _ F6.out.fb (fun k6 => ?_)
          clear hK K
          try simp only [List.setIfInBounds_toArray, List.set_cons_zero, List.set_cons_succ]
          refine wpAnyH_take (i := 13) (oi := { dst := some 12, op := Go.Op.assign (Go.Operand.tmp 50), type := 3, pos := "outright.go:193", after := #[{ on := 8, ground := Go.Ground.data }, { on := 12, ground := Go.Ground.chain }, { on := 0, ground := Go.Ground.phase }, { on := 1, ground := Go.Ground.phase }, { on := 2, ground := Go.Ground.phase }, { on := 3, ground := Go.Ground.phase }, { on := 4, ground := Go.Ground.phase }, { on := 5, ground := Go.Ground.phase }, { on := 6, ground := Go.Ground.phase }, { on := 7, ground := Go.Ground.phase }, { on := 8, ground := Go.Ground.phase }, { on := 9, ground := Go.Ground.phase }, { on := 10, ground := Go.Ground.phase }, { on := 11, ground := Go.Ground.phase }, { on := 12, ground := Go.Ground.phase }], guard := none }) (v := .int .i64 0) rfl (by kernel_rfl) (by kernel_rfl) (by kernel_rfl) (fun _ _ _ h => by cases h.1) (Or.inl ⟨by rfl, fun W hSw => by (try dsimp only at hSw); go_simp⟩) k6 ?_
          try simp only [Act.put, List.setIfInBounds_toArray, List.set_cons_zero, List.set_cons_succ]
          refine wpAnyH_done (by kernel_rfl) ?_ _
          refine id ?_
          exact ⟨rfl, B7, B8, ckb_mk rfl, F6.out.1, F6.out.2.1, F6.out.2.2.1, P6.out⟩
        · go_simp
          have f3 := F2.out.al2
          obtain ⟨Y3, hY3⟩ : ∃ y, y = Y2.alloc (.cells #[.int .i64 0, .int .i64 0, .bool false, .bool false, .bool false, .int .i64 0, .int .i64 0, .int .i64 0, .int .i64 0, .int .i64 0] 30) := ⟨_, rfl⟩
          obtain ⟨B8, hB8⟩ : ∃ b, b = Y2.heap.size := ⟨_, rfl⟩
          rw [← hY3, ← hB8] at f3 ⊢
          have F3 := Lib.hid f3
          clear hY3 hB8 f3
          refine hK.out _ _ F3.out.fb (fun k3 => ?_)
          clear hK K
          try simp only [List.setIfInBounds_toArray, List.set_cons_zero, List.set_cons_succ]
          refine wpAnyH_ready (rs := [4]) (by kernel_rfl) (by simp) ?_
          refine AllReadyH.cons (o := { dst := some 47, op := Go.Op.call { callee := Go.Callee.value (Go.Operand.func 17), args := #[Go.Operand.tmp 43, Go.Operand.tmp 44, Go.Operand.tmp 45, Go.Operand.tmp 46], argTypes := #[25, 28, 30, 37] }, type := 41, pos := "outright.go:193", after := #[{ on := 0, ground := Go.Ground.data }, { on := 1, ground := Go.Ground.data }, { on := 2, ground := Go.Ground.data }, { on := 3, ground := Go.Ground.data }, { on := 0, ground := Go.Ground.chain }], guard := none }) rfl (fun K hK => ?_) AllReadyH.nil
          go_simp
          go_at_call 17
          refine (HE.out A g h 1 Y3 F3.out.2.2.1).mono ?_
          rintro e Y4 ⟨rfl, hs, hk⟩
          have F4 := Lib.hid (F3.out.exec hs hk)
          clear hs hk
          go_wp2_with fail
          refine hK.out _ _ F4.out.fb (fun k4 => ?_)
          clear hK K
          try simp only [List.setIfInBounds_toArray, List.set_cons_zero, List.set_cons_succ]
          refine wpAnyH_take (i := 5) (oi := { dst := some 42, op := Go.Op.move (Go.Operand.tmp 47), type := 41, pos := "outright.go:193", after := #[{ on := 4, ground := Go.Ground.data }], guard := none }) (v := .tuple #[.agg #[.int .u32 0, .int .u32 0, .int .u32 0, .int .u32 0, .int .u32 0, .int .u32 0, .int .u32 0, .int .u32 0, .int .u32 0, .int .u32 0, .int .u32 0, .int .u32 0, .int .u32 0, .int .u32 0, .int .u32 601, .int .u32 600], .agg #[.int .i64 0, .int .i64 0, .bool false, .bool false, .bool false, .int .i64 0, .int .i64 0, .int .i64 0, .int .i64 0, .int .i64 0], .int .i64 0]) rfl (by kernel_rfl) (by kernel_rfl) (by kernel_rfl) (fun _ _ _ h => by cases h.1) (Or.inl ⟨by rfl, fun W hSw => by (try dsimp only at hSw); go_simp⟩) k4 ?_
          try simp only [Act.put, List.setIfInBounds_toArray, List.set_cons_zero, List.set_cons_succ]
          refine wpAnyH_take (i := 6) (oi := { dst := some 48, op := Go.Op.extract (Go.Operand.tmp 42) 0, type := 28, pos := "outright.go:193", after := #[{ on := 5, ground := Go.Ground.data }], guard := none }) (v := .agg #[.int .u32 0, .int .u32 0, .int .u32 0, .int .u32 0, .int .u32 0, .int .u32 0, .int .u32 0, .int .u32 0, .int .u32 0, .int .u32 0, .int .u32 0, .int .u32 0, .int .u32 0, .int .u32 0, .int .u32 601, .int .u32 600]) rfl (by kernel_rfl) (by kernel_rfl) (by kernel_rfl) (fun _ _ _ h => by cases h.1) (Or.inl ⟨by rfl, fun W hSw => by (try dsimp only at hSw); go_simp⟩) k4 ?_
          try simp only [Act.put, List.setIfInBounds_toArray, List.set_cons_zero, List.set_cons_succ]
          refine wpAnyH_take (i := 7) (oi := { dst := some 49, op := Go.Op.extract (Go.Operand.tmp 42) 1, type := 30, pos := "outright.go:193", after := #[{ on := 5, ground := Go.Ground.data }, { on := 11, ground := Go.Ground.gcOnly Go.Departure.lateStores }], guard := none }) (v := .agg #[.int .i64 0, .int .i64 0, .bool false, .bool false, .bool false, .int .i64 0, .int .i64 0, .int .i64 0, .int .i64 0, .int .i64 0]) rfl (by kernel_rfl) (by kernel_rfl) (by kernel_rfl) (fun _ _ _ h => by cases h.1) (Or.inl ⟨by rfl, fun W hSw => by (try dsimp only at hSw); go_simp⟩) k4 ?_
          try simp only [Act.put, List.setIfInBounds_toArray, List.set_cons_zero, List.set_cons_succ]
          refine wpAnyH_take (i := 8) (oi := { dst := some 50, op := Go.Op.extract (Go.Operand.tmp 42) 2, type := 3, pos := "outright.go:193", after := #[{ on := 5, ground := Go.Ground.data }, { on := 12, ground := Go.Ground.gcOnly Go.Departure.lateStores }], guard := none }) (v := .int .i64 0) rfl (by kernel_rfl) (by kernel_rfl) (by kernel_rfl) (fun _ _ _ h => by cases h.1) (Or.inl ⟨by rfl, fun W hSw => by (try dsimp only at hSw); go_simp⟩) k4 ?_
          try simp only [Act.put, List.setIfInBounds_toArray, List.set_cons_zero, List.set_cons_succ]
          refine wpAnyH_ready (rs := [11]) (by kernel_rfl) (by simp) ?_
          refine AllReadyH.cons (o := { dst := none, op := Go.Op.store 28 (Go.Operand.tmp 10) (Go.Operand.tmp 48), type := 0, pos := "outright.go:193", after := #[{ on := 9, ground := Go.Ground.data }, { on := 6, ground := Go.Ground.data }, { on := 4, ground := Go.Ground.chain }, { on := 0, ground := Go.Ground.phase }, { on := 1, ground := Go.Ground.phase }, { on := 2, ground := Go.Ground.phase }, { on := 3, ground := Go.Ground.phase }, { on := 4, ground := Go.Ground.phase }, { on := 5, ground := Go.Ground.phase }, { on := 6, ground := Go.Ground.phase }, { on := 7, ground := Go.Ground.textOnly Go.Departure.lateStores }, { on := 8, ground := Go.Ground.textOnly Go.Departure.lateStores }, { on := 9, ground := Go.Ground.phase }, { on := 10, ground := Go.Ground.phase }], guard := none }) rfl (fun K hK => ?_) AllReadyH.nil
          obtain ⟨hb5, x5, hx5, hr5⟩ := F4.out.2.2.2.1 B7 rfl
          rw [if_pos (by rfl)]
          refine op_store _ _ _ rfl _ rfl _ rfl (HSR.out _ _ _ hr5 hx5) ?_
          have f5 := F4.out.st HB6.out ((regL [(14, 601), (15, 600)]))
          obtain ⟨Y5, hY5⟩ : ∃ y, y = Y4.setRow B7 (regA ((regL [(14, 601), (15, 600)]))) := ⟨_, rfl⟩
          rw [← hY5] at f5 ⊢
          have F5 := Lib.hid f5
          clear hY5 f5 hb5 hx5 hr5 x5
          refine hK.out _ _ F5.out.fb (fun k5 => ?_)
          clear hK K
          try simp only [List.setIfInBounds_toArray, List.set_cons_zero, List.set_cons_succ]
          refine wpAnyH_ready (rs := [12]) (by kernel_rfl) (by simp) ?_
          refine AllReadyH.cons (o := { dst := none, op := Go.Op.store 30 (Go.Operand.tmp 11) (Go.Operand.tmp 49), type := 0, pos := "outright.go:193", after := #[{ on := 10, ground := Go.Ground.data }, { on := 7, ground := Go.Ground.data }, { on := 11, ground := Go.Ground.chain }, { on := 0, ground := Go.Ground.phase }, { on := 1, ground := Go.Ground.phase }, { on := 2, ground := Go.Ground.phase }, { on := 3, ground := Go.Ground.phase }, { on := 4, ground := Go.Ground.phase }, { on := 5, ground := Go.Ground.phase }, { on := 6, ground := Go.Ground.phase }, { on := 7, ground := Go.Ground.phase }, { on := 8, ground := Go.Ground.textOnly Go.Departure.lateStores }, { on := 9, ground := Go.Ground.phase }, { on := 10, ground := Go.Ground.phase }, { on := 11, ground := Go.Ground.phase }], guard := none }) rfl (fun K hK => ?_) AllReadyH.nil
          obtain ⟨hb6, x6, hx6, hr6⟩ := F5.out.2.2.2.2 B8 rfl
          rw [if_pos (by rfl)]
          refine op_store _ _ _ rfl _ rfl _ rfl (HSP.out _ _ _ hr6 hx6) ?_
          have f6 := F5.out.st2 (⟨0, 0, false, false, false, 0, 0, 0, 0, 0⟩)
          obtain ⟨Y6, hY6⟩ : ∃ y, y = Y5.setRow B8 (pswA (⟨0, 0, false, false, false, 0, 0, 0, 0, 0⟩)) := ⟨_, rfl⟩
          rw [← hY6] at f6 ⊢
          have F6 := Lib.hid f6.1
          have P6 := Lib.hid f6.2
          clear hY6 f6 hb6 hx6 hr6 x6
          refine hK.out _ _ F6.out.fb (fun k6 => ?_)
          clear hK K
          try simp only [List.setIfInBounds_toArray, List.set_cons_zero, List.set_cons_succ]
          refine wpAnyH_take (i := 13) (oi := { dst := some 12, op := Go.Op.assign (Go.Operand.tmp 50), type := 3, pos := "outright.go:193", after := #[{ on := 8, ground := Go.Ground.data }, { on := 12, ground := Go.Ground.chain }, { on := 0, ground := Go.Ground.phase }, { on := 1, ground := Go.Ground.phase }, { on := 2, ground := Go.Ground.phase }, { on := 3, ground := Go.Ground.phase }, { on := 4, ground := Go.Ground.phase }, { on := 5, ground := Go.Ground.phase }, { on := 6, ground := Go.Ground.phase }, { on := 7, ground := Go.Ground.phase }, { on := 8, ground := Go.Ground.phase }, { on := 9, ground := Go.Ground.phase }, { on := 10, ground := Go.Ground.phase }, { on := 11, ground := Go.Ground.phase }, { on := 12, ground := Go.Ground.phase }], guard := none }) (v := .int .i64 0) rfl (by kernel_rfl) (by kernel_rfl) (by kernel_rfl) (fun _ _ _ h => by cases h.1) (Or.inl ⟨by rfl, fun W hSw => by (try dsimp only at hSw); go_simp⟩) k6 ?_
          try simp only [Act.put, List.setIfInBounds_toArray, List.set_cons_zero, List.set_cons_succ]
          refine wpAnyH_done (by kernel_rfl) ?_ _
          refine id ?_
          exact ⟨rfl, B7, B8, ckb_mk rfl, F6.out.1, F6.out.2.1, F6.out.2.2.1, P6.out⟩
      · go_simp
        have f2 := F1.out.al2
        obtain ⟨Y2, hY2⟩ : ∃ y, y = Y1.alloc (.cells #[.int .i64 0, .int .i64 0, .bool false, .bool false, .bool false, .int .i64 0, .int .i64 0, .int .i64 0, .int .i64 0, .int .i64 0] 30) := ⟨_, rfl⟩
        obtain ⟨B8, hB8⟩ : ∃ b, b = Y1.heap.size := ⟨_, rfl⟩
        rw [← hY2, ← hB8] at f2 ⊢
        have F2 := Lib.hid f2
        clear hY2 hB8 f2
        refine hK.out _ _ F2.out.fb (fun k2 => ?_)
        clear hK K
        try simp only [List.setIfInBounds_toArray, List.set_cons_zero, List.set_cons_succ]
        refine wpAnyH_ready (rs := [0]) (by kernel_rfl) (by simp) ?_
        refine AllReadyH.cons (o := { dst := some 43, op := Go.Op.call { callee := Go.Callee.value (Go.Operand.func 27), args := #[Go.Operand.const (Go.Value.int Go.IntKind.i64 210), Go.Operand.const (Go.Value.int Go.IntKind.i64 3)], argTypes := #[3, 3] }, type := 25, pos := "outright.go:193", after := #[], guard := none }) rfl (fun K hK => ?_) AllReadyH.nil
        go_simp
        go_at_call 27
        refine (HSS1.out Y2).mono ?_
        rintro e Y3 ⟨rfl, hb⟩
        have F3 := Lib.hid (F2.out.below hb)
        clear hb
        go_wp2_with fail
        refine hK.out _ _ F3.out.fb (fun k3 => ?_)
        clear hK K
        try simp only [List.setIfInBounds_toArray, List.set_cons_zero]
        refine wpAnyH_ready (rs := [4]) (by kernel_rfl) (by simp) ?_
        refine AllReadyH.cons (o := { dst := some 47, op := Go.Op.call { callee := Go.Callee.value (Go.Operand.func 17), args := #[Go.Operand.tmp 43, Go.Operand.tmp 44, Go.Operand.tmp 45, Go.Operand.tmp 46], argTypes := #[25, 28, 30, 37] }, type := 41, pos := "outright.go:193", after := #[{ on := 0, ground := Go.Ground.data }, { on := 1, ground := Go.Ground.data }, { on := 2, ground := Go.Ground.data }, { on := 3, ground := Go.Ground.data }, { on := 0, ground := Go.Ground.chain }], guard := none }) rfl (fun K hK => ?_) AllReadyH.nil
        go_simp
        go_at_call 17
        refine (HE.out A g h 1 Y3 F3.out.2.2.1).mono ?_
        rintro e Y4 ⟨rfl, hs, hk⟩
        have F4 := Lib.hid (F3.out.exec hs hk)
        clear hs hk
        go_wp2_with fail
        refine hK.out _ _ F4.out.fb (fun k4 => ?_)
        clear hK K
        try simp only [List.setIfInBounds_toArray, List.set_cons_zero, List.set_cons_succ]
        refine wpAnyH_take (i := 5) (oi := { dst := some 42, op := Go.Op.move (Go.Operand.tmp 47), type := 41, pos := "outright.go:193", after := #[{ on := 4, ground := Go.Ground.data }], guard := none }) (v := .tuple #[.agg #[.int .u32 0, .int .u32 0, .int .u32 0, .int .u32 0, .int .u32 0, .int .u32 0, .int .u32 0, .int .u32 0, .int .u32 0, .int .u32 0, .int .u32 0, .int .u32 0, .int .u32 0, .int .u32 0, .int .u32 601, .int .u32 600], .agg #[.int .i64 0, .int .i64 0, .bool false, .bool false, .bool false, .int .i64 0, .int .i64 0, .int .i64 0, .int .i64 0, .int .i64 0], .int .i64 0]) rfl (by kernel_rfl) (by kernel_rfl) (by kernel_rfl) (fun _ _ _ h => by cases h.1) (Or.inl ⟨by rfl, fun W hSw => by (try dsimp only at hSw); go_simp⟩) k4 ?_
        try simp only [Act.put, List.setIfInBounds_toArray, List.set_cons_zero, List.set_cons_succ]
        refine wpAnyH_take (i := 6) (oi := { dst := some 48, op := Go.Op.extract (Go.Operand.tmp 42) 0, type := 28, pos := "outright.go:193", after := #[{ on := 5, ground := Go.Ground.data }], guard := none }) (v := .agg #[.int .u32 0, .int .u32 0, .int .u32 0, .int .u32 0, .int .u32 0, .int .u32 0, .int .u32 0, .int .u32 0, .int .u32 0, .int .u32 0, .int .u32 0, .int .u32 0, .int .u32 0, .int .u32 0, .int .u32 601, .int .u32 600]) rfl (by kernel_rfl) (by kernel_rfl) (by kernel_rfl) (fun _ _ _ h => by cases h.1) (Or.inl ⟨by rfl, fun W hSw => by (try dsimp only at hSw); go_simp⟩) k4 ?_
        try simp only [Act.put, List.setIfInBounds_toArray, List.set_cons_zero, List.set_cons_succ]
        refine wpAnyH_take (i := 7) (oi := { dst := some 49, op := Go.Op.extract (Go.Operand.tmp 42) 1, type := 30, pos := "outright.go:193", after := #[{ on := 5, ground := Go.Ground.data }, { on := 11, ground := Go.Ground.gcOnly Go.Departure.lateStores }], guard := none }) (v := .agg #[.int .i64 0, .int .i64 0, .bool false, .bool false, .bool false, .int .i64 0, .int .i64 0, .int .i64 0, .int .i64 0, .int .i64 0]) rfl (by kernel_rfl) (by kernel_rfl) (by kernel_rfl) (fun _ _ _ h => by cases h.1) (Or.inl ⟨by rfl, fun W hSw => by (try dsimp only at hSw); go_simp⟩) k4 ?_
        try simp only [Act.put, List.setIfInBounds_toArray, List.set_cons_zero, List.set_cons_succ]
        refine wpAnyH_take (i := 8) (oi := { dst := some 50, op := Go.Op.extract (Go.Operand.tmp 42) 2, type := 3, pos := "outright.go:193", after := #[{ on := 5, ground := Go.Ground.data }, { on := 12, ground := Go.Ground.gcOnly Go.Departure.lateStores }], guard := none }) (v := .int .i64 0) rfl (by kernel_rfl) (by kernel_rfl) (by kernel_rfl) (fun _ _ _ h => by cases h.1) (Or.inl ⟨by rfl, fun W hSw => by (try dsimp only at hSw); go_simp⟩) k4 ?_
        try simp only [Act.put, List.setIfInBounds_toArray, List.set_cons_zero, List.set_cons_succ]
        refine wpAnyH_ready (rs := [11]) (by kernel_rfl) (by simp) ?_
        refine AllReadyH.cons (o := { dst := none, op := Go.Op.store 28 (Go.Operand.tmp 10) (Go.Operand.tmp 48), type := 0, pos := "outright.go:193", after := #[{ on := 9, ground := Go.Ground.data }, { on := 6, ground := Go.Ground.data }, { on := 4, ground := Go.Ground.chain }, { on := 0, ground := Go.Ground.phase }, { on := 1, ground := Go.Ground.phase }, { on := 2, ground := Go.Ground.phase }, { on := 3, ground := Go.Ground.phase }, { on := 4, ground := Go.Ground.phase }, { on := 5, ground := Go.Ground.phase }, { on := 6, ground := Go.Ground.phase }, { on := 7, ground := Go.Ground.textOnly Go.Departure.lateStores }, { on := 8, ground := Go.Ground.textOnly Go.Departure.lateStores }, { on := 9, ground := Go.Ground.phase }, { on := 10, ground := Go.Ground.phase }], guard := none }) rfl (fun K hK => ?_) AllReadyH.nil
        obtain ⟨hb5, x5, hx5, hr5⟩ := F4.out.2.2.2.1 B7 rfl
        rw [if_pos (by rfl)]
        refine op_store _ _ _ rfl _ rfl _ rfl (HSR.out _ _ _ hr5 hx5) ?_
        have f5 := F4.out.st HB6.out ((regL [(14, 601), (15, 600)]))
        obtain ⟨Y5, hY5⟩ : ∃ y, y = Y4.setRow B7 (regA ((regL [(14, 601), (15, 600)]))) := ⟨_, rfl⟩
        rw [← hY5] at f5 ⊢
        have F5 := Lib.hid f5
        clear hY5 f5 hb5 hx5 hr5 x5
        refine hK.out _ _ F5.out.fb (fun k5 => ?_)
        clear hK K
        try simp only [List.setIfInBounds_toArray, List.set_cons_zero, List.set_cons_succ]
        refine wpAnyH_ready (rs := [12]) (by kernel_rfl) (by simp) ?_
        refine AllReadyH.cons (o := { dst := none, op := Go.Op.store 30 (Go.Operand.tmp 11) (Go.Operand.tmp 49), type := 0, pos := "outright.go:193", after := #[{ on := 10, ground := Go.Ground.data }, { on := 7, ground := Go.Ground.data }, { on := 11, ground := Go.Ground.chain }, { on := 0, ground := Go.Ground.phase }, { on := 1, ground := Go.Ground.phase }, { on := 2, ground := Go.Ground.phase }, { on := 3, ground := Go.Ground.phase }, { on := 4, ground := Go.Ground.phase }, { on := 5, ground := Go.Ground.phase }, { on := 6, ground := Go.Ground.phase }, { on := 7, ground := Go.Ground.phase }, { on := 8, ground := Go.Ground.textOnly Go.Departure.lateStores }, { on := 9, ground := Go.Ground.phase }, { on := 10, ground := Go.Ground.phase }, { on := 11, ground := Go.Ground.phase }], guard := none }) rfl (fun K hK => ?_) AllReadyH.nil
        obtain ⟨hb6, x6, hx6, hr6⟩ := F5.out.2.2.2.2 B8 rfl
        rw [if_pos (by rfl)]
        refine op_store _ _ _ rfl _ rfl _ rfl (HSP.out _ _ _ hr6 hx6) ?_
        have f6 := F5.out.st2 (⟨0, 0, false, false, false, 0, 0, 0, 0, 0⟩)
        obtain ⟨Y6, hY6⟩ : ∃ y, y = Y5.setRow B8 (pswA (⟨0, 0, false, false, false, 0, 0, 0, 0, 0⟩)) := ⟨_, rfl⟩
        rw [← hY6] at f6 ⊢
        have F6 := Lib.hid f6.1
        have P6 := Lib.hid f6.2
        clear hY6 f6 hb6 hx6 hr6 x6
        refine hK.out _ _ F6.out.fb (fun k6 => ?_)
        clear hK K
        try simp only [List.setIfInBounds_toArray, List.set_cons_zero, List.set_cons_succ]
        refine wpAnyH_take (i := 13) (oi := { dst := some 12, op := Go.Op.assign (Go.Operand.tmp 50), type := 3, pos := "outright.go:193", after := #[{ on := 8, ground := Go.Ground.data }, { on := 12, ground := Go.Ground.chain }, { on := 0, ground := Go.Ground.phase }, { on := 1, ground := Go.Ground.phase }, { on := 2, ground := Go.Ground.phase }, { on := 3, ground := Go.Ground.phase }, { on := 4, ground := Go.Ground.phase }, { on := 5, ground := Go.Ground.phase }, { on := 6, ground := Go.Ground.phase }, { on := 7, ground := Go.Ground.phase }, { on := 8, ground := Go.Ground.phase }, { on := 9, ground := Go.Ground.phase }, { on := 10, ground := Go.Ground.phase }, { on := 11, ground := Go.Ground.phase }, { on := 12, ground := Go.Ground.phase }], guard := none }) (v := .int .i64 0) rfl (by kernel_rfl) (by kernel_rfl) (by kernel_rfl) (fun _ _ _ h => by cases h.1) (Or.inl ⟨by rfl, fun W hSw => by (try dsimp only at hSw); go_simp⟩) k6 ?_
        try simp only [Act.put, List.setIfInBounds_toArray, List.set_cons_zero, List.set_cons_succ]
        refine wpAnyH_done (by kernel_rfl) ?_ _
        refine id ?_
        exact ⟨rfl, B7, B8, ckb_mk rfl, F6.out.1, F6.out.2.1, F6.out.2.2.1, P6.out⟩
    · go_simp
      have f1 := F00.out.al2
      obtain ⟨Y1, hY1⟩ : ∃ y, y = Y0.alloc (.cells #[.int .i64 0, .int .i64 0, .bool false, .bool false, .bool false, .int .i64 0, .int .i64 0, .int .i64 0, .int .i64 0, .int .i64 0] 30) := ⟨_, rfl⟩
      obtain ⟨B8, hB8⟩ : ∃ b, b = Y0.heap.size := ⟨_, rfl⟩
      rw [← hY1, ← hB8] at f1 ⊢
      have F1 := Lib.hid f1
      clear hY1 hB8 f1
      refine hK.out _ _ F1.out.fb (fun k1 => ?_)
      clear hK K
      try simp only [List.setIfInBounds_toArray, List.set_cons_zero, List.set_cons_succ]
      refine wpAnyH_ready (rs := [0, 9]) (by kernel_rfl) (by simp) ?_
      refine AllReadyH.cons (o := { dst := some 43, op := Go.Op.call { callee := Go.Callee.value (Go.Operand.func 27), args := #[Go.Operand.const (Go.Value.int Go.IntKind.i64 210), Go.Operand.const (Go.Value.int Go.IntKind.i64 3)], argTypes := #[3, 3] }, type := 25, pos := "outright.go:193", after := #[], guard := none }) rfl (fun K hK => ?_) (AllReadyH.cons (o := { dst := some 10, op := Go.Op.alloc 28, type := 0, pos := "outright.go:193", after := #[], guard := none }) rfl (fun K hK => ?_) AllReadyH.nil)
      · go_simp
        go_at_call 27
        refine (HSS1.out Y1).mono ?_
        rintro e Y2 ⟨rfl, hb⟩
        have F2 := Lib.hid (F1.out.below hb)
        clear hb
        go_wp2_with fail
        refine hK.out _ _ F2.out.fb (fun k2 => ?_)
        clear hK K
        try simp only [List.setIfInBounds_toArray, List.set_cons_zero]
        refine wpAnyH_ready (rs := [4, 9]) (by kernel_rfl) (by simp) ?_
        refine AllReadyH.cons (o := { dst := some 47, op := Go.Op.call { callee := Go.Callee.value (Go.Operand.func 17), args := #[Go.Operand.tmp 43, Go.Operand.tmp 44, Go.Operand.tmp 45, Go.Operand.tmp 46], argTypes := #[25, 28, 30, 37] }, type := 41, pos := "outright.go:193", after := #[{ on := 0, ground := Go.Ground.data }, { on := 1, ground := Go.Ground.data }, { on := 2, ground := Go.Ground.data }, { on := 3, ground := Go.Ground.data }, { on := 0, ground := Go.Ground.chain }], guard := none }) rfl (fun K hK => ?_) (AllReadyH.cons (o := { dst := some 10, op := Go.Op.alloc 28, type := 0, pos := "outright.go:193", after := #[], guard := none }) rfl (fun K hK => ?_) AllReadyH.nil)
        · go_simp
          go_at_call 17
          refine (HE.out A g h 1 Y2 F2.out.2.2.1).mono ?_
          rintro e Y3 ⟨rfl, hs, hk⟩
          have F3 := Lib.hid (F2.out.exec hs hk)
          clear hs hk
          go_wp2_with fail
          refine hK.out _ _ F3.out.fb (fun k3 => ?_)
          clear hK K
          try simp only [List.setIfInBounds_toArray, List.set_cons_zero, List.set_cons_succ]
          refine wpAnyH_take (i := 5) (oi := { dst := some 42, op := Go.Op.move (Go.Operand.tmp 47), type := 41, pos := "outright.go:193", after := #[{ on := 4, ground := Go.Ground.data }], guard := none }) (v := .tuple #[.agg #[.int .u32 0, .int .u32 0, .int .u32 0, .int .u32 0, .int .u32 0, .int .u32 0, .int .u32 0, .int .u32 0, .int .u32 0, .int .u32 0, .int .u32 0, .int .u32 0, .int .u32 0, .int .u32 0, .int .u32 601, .int .u32 600], .agg #[.int .i64 0, .int .i64 0, .bool false, .bool false, .bool false, .int .i64 0, .int .i64 0, .int .i64 0, .int .i64 0, .int .i64 0], .int .i64 0]) rfl (by kernel_rfl) (by kernel_rfl) (by kernel_rfl) (fun _ _ _ h => by cases h.1) (Or.inl ⟨by rfl, fun W hSw => by (try dsimp only at hSw); go_simp⟩) k3 ?_
          try simp only [Act.put, List.setIfInBounds_toArray, List.set_cons_zero, List.set_cons_succ]
          refine wpAnyH_take (i := 6) (oi := { dst := some 48, op := Go.Op.extract (Go.Operand.tmp 42) 0, type := 28, pos := "outright.go:193", after := #[{ on := 5, ground := Go.Ground.data }], guard := none }) (v := .agg #[.int .u32 0, .int .u32 0, .int .u32 0, .int .u32 0, .int .u32 0, .int .u32 0, .int .u32 0, .int .u32 0, .int .u32 0, .int .u32 0, .int .u32 0, .int .u32 0, .int .u32 0, .int .u32 0, .int .u32 601, .int .u32 600]) rfl (by kernel_rfl) (by kernel_rfl) (by kernel_rfl) (fun _ _ _ h => by cases h.1) (Or.inl ⟨by rfl, fun W hSw => by (try dsimp only at hSw); go_simp⟩) k3 ?_
          try simp only [Act.put, List.setIfInBounds_toArray, List.set_cons_zero, List.set_cons_succ]
          refine wpAnyH_take (i := 7) (oi := { dst := some 49, op := Go.Op.extract (Go.Operand.tmp 42) 1, type := 30, pos := "outright.go:193", after := #[{ on := 5, ground := Go.Ground.data }, { on := 11, ground := Go.Ground.gcOnly Go.Departure.lateStores }], guard := none }) (v := .agg #[.int .i64 0, .int .i64 0, .bool false, .bool false, .bool false, .int .i64 0, .int .i64 0, .int .i64 0, .int .i64 0, .int .i64 0]) rfl (by kernel_rfl) (by kernel_rfl) (by kernel_rfl) (fun _ _ _ h => by cases h.1) (Or.inl ⟨by rfl, fun W hSw => by (try dsimp only at hSw); go_simp⟩) k3 ?_
          try simp only [Act.put, List.setIfInBounds_toArray, List.set_cons_zero, List.set_cons_succ]
          refine wpAnyH_take (i := 8) (oi := { dst := some 50, op := Go.Op.extract (Go.Operand.tmp 42) 2, type := 3, pos := "outright.go:193", after := #[{ on := 5, ground := Go.Ground.data }, { on := 12, ground := Go.Ground.gcOnly Go.Departure.lateStores }], guard := none }) (v := .int .i64 0) rfl (by kernel_rfl) (by kernel_rfl) (by kernel_rfl) (fun _ _ _ h => by cases h.1) (Or.inl ⟨by rfl, fun W hSw => by (try dsimp only at hSw); go_simp⟩) k3 ?_
          try simp only [Act.put, List.setIfInBounds_toArray, List.set_cons_zero, List.set_cons_succ]
          refine wpAnyH_ready (rs := [9]) (by kernel_rfl) (by simp) ?_
          refine AllReadyH.cons (o := { dst := some 10, op := Go.Op.alloc 28, type := 0, pos := "outright.go:193", after := #[], guard := none }) rfl (fun K hK => ?_) AllReadyH.nil
          go_simp
          have f4 := F3.out.al
          obtain ⟨Y4, hY4⟩ : ∃ y, y = Y3.alloc (.cells #[.int .u32 0, .int .u32 0, .int .u32 0, .int .u32 0, .int .u32 0, .int .u32 0, .int .u32 0, .int .u32 0, .int .u32 0, .int .u32 0, .int .u32 0, .int .u32 0, .int .u32 0, .int .u32 0, .int .u32 0, .int .u32 0] 28) := ⟨_, rfl⟩
          obtain ⟨B7, hB7⟩ : ∃ b, b = Y3.heap.size := ⟨_, rfl⟩
          rw [← hY4, ← hB7] at f4 ⊢
          have F4 := Lib.hid f4
          clear hY4 hB7 f4
          refine hK.out _ _ F4.out.fb (fun k4 => ?_)
          clear hK K
          try simp only [List.setIfInBounds_toArray, List.set_cons_zero, List.set_cons_succ]
          refine wpAnyH_ready (rs := [11]) (by kernel_rfl) (by simp) ?_
          refine AllReadyH.cons (o := { dst := none, op := Go.Op.store 28 (Go.Operand.tmp 10) (Go.Operand.tmp 48), type := 0, pos := "outright.go:193", after := #[{ on := 9, ground := Go.Ground.data }, { on := 6, ground := Go.Ground.data }, { on := 4, ground := Go.Ground.chain }, { on := 0, ground := Go.Ground.phase }, { on := 1, ground := Go.Ground.phase }, { on := 2, ground := Go.Ground.phase }, { on := 3, ground := Go.Ground.phase }, { on := 4, ground := Go.Ground.phase }, { on := 5, ground := Go.Ground.phase }, { on := 6, ground := Go.Ground.phase }, { on := 7, ground := Go.Ground.textOnly Go.Departure.lateStores }, { on := 8, ground := Go.Ground.textOnly Go.Departure.lateStores }, { on := 9, ground := Go.Ground.phase }, { on := 10, ground := Go.Ground.phase }], guard := none }) rfl (fun K hK => ?_) AllReadyH.nil
          obtain ⟨hb5, x5, hx5, hr5⟩ := F4.out.2.2.2.1 B7 rfl
          rw [if_pos (by rfl)]
          refine op_store _ _ _ rfl _ rfl _ rfl (HSR.out _ _ _ hr5 hx5) ?_
          have f5 := F4.out.st HB6.out ((regL [(14, 601), (15, 600)]))
          obtain ⟨Y5, hY5⟩ : ∃ y, y = Y4.setRow B7 (regA ((regL [(14, 601), (15, 600)]))) := ⟨_, rfl⟩
          rw [← hY5] at f5 ⊢
          have F5 := Lib.hid f5
          clear hY5 f5 hb5 hx5 hr5 x5
          refine hK.out _ _ F5.out.fb (fun k5 => ?_)
          clear hK K
          try simp only [List.setIfInBounds_toArray, List.set_cons_zero, List.set_cons_succ]
          refine wpAnyH_ready (rs := [12]) (by kernel_rfl) (by simp) ?_
          refine AllReadyH.cons (o := { dst := none, op := Go.Op.store 30 (Go.Operand.tmp 11) (Go.Operand.tmp 49), type := 0, pos := "outright.go:193", after := #[{ on := 10, ground := Go.Ground.data }, { on := 7, ground := Go.Ground.data }, { on := 11, ground := Go.Ground.chain }, { on := 0, ground := Go.Ground.phase }, { on := 1, ground := Go.Ground.phase }, { on := 2, ground := Go.Ground.phase }, { on := 3, ground := Go.Ground.phase }, { on := 4, ground := Go.Ground.phase }, { on := 5, ground := Go.Ground.phase }, { on := 6, ground := Go.Ground.phase }, { on := 7, ground := Go.Ground.phase }, { on := 8, ground := Go.Ground.textOnly Go.Departure.lateStores }, { on := 9, ground := Go.Ground.phase }, { on := 10, ground := Go.Ground.phase }, { on := 11, ground := Go.Ground.phase }], guard := none }) rfl (fun K hK => ?_) AllReadyH.nil
          obtain ⟨hb6, x6, hx6, hr6⟩ := F5.out.2.2.2.2 B8 rfl
          rw [if_pos (by rfl)]
          refine op_store _ _ _ rfl _ rfl _ rfl (HSP.out _ _ _ hr6 hx6) ?_
          have f6 := F5.out.st2 (⟨0, 0, false, false, false, 0, 0, 0, 0, 0⟩)
          obtain ⟨Y6, hY6⟩ : ∃ y, y = Y5.setRow B8 (pswA (⟨0, 0, false, false, false, 0, 0, 0, 0, 0⟩)) := ⟨_, rfl⟩
          rw [← hY6] at f6 ⊢
          have F6 := Lib.hid f6.1
          have P6 := Lib.hid f6.2
          clear hY6 f6 hb6 hx6 hr6 x6
          refine hK.out _ _ F6.out.fb (fun k6 => ?_)
          clear hK K
          try simp only [List.setIfInBounds_toArray, List.set_cons_zero, List.set_cons_succ]
          refine wpAnyH_take (i := 13) (oi := { dst := some 12, op := Go.Op.assign (Go.Operand.tmp 50), type := 3, pos := "outright.go:193", after := #[{ on := 8, ground := Go.Ground.data }, { on := 12, ground := Go.Ground.chain }, { on := 0, ground := Go.Ground.phase }, { on := 1, ground := Go.Ground.phase }, { on := 2, ground := Go.Ground.phase }, { on := 3, ground := Go.Ground.phase }, { on := 4, ground := Go.Ground.phase }, { on := 5, ground := Go.Ground.phase }, { on := 6, ground := Go.Ground.phase }, { on := 7, ground := Go.Ground.phase }, { on := 8, ground := Go.Ground.phase }, { on := 9, ground := Go.Ground.phase }, { on := 10, ground := Go.Ground.phase }, { on := 11, ground := Go.Ground.phase }, { on := 12, ground := Go.Ground.phase }], guard := none }) (v := .int .i64 0) rfl (by kernel_rfl) (by kernel_rfl) (by kernel_rfl) (fun _ _ _ h => by cases h.1) (Or.inl ⟨by rfl, fun W hSw => by (try dsimp only at hSw); go_simp⟩) k6 ?_
          try simp only [Act.put, List.setIfInBounds_toArray, List.set_cons_zero, List.set_cons_succ]
          refine wpAnyH_done (by kernel_rfl) ?_ _
          refine id ?_
          exact ⟨rfl, B7, B8, ckb_mk rfl, F6.out.1, F6.out.2.1, F6.out.2.2.1, P6.out⟩
        · go_simp
          have f3 := F2.out.al
          obtain ⟨Y3, hY3⟩ : ∃ y, y = Y2.alloc (.cells #[.int .u32 0, .int .u32 0, .int .u32 0, .int .u32 0, .int .u32 0, .int .u32 0, .int .u32 0, .int .u32 0, .int .u32 0, .int .u32 0, .int .u32 0, .int .u32 0, .int .u32 0, .int .u32 0, .int .u32 0, .int .u32 0] 28) := ⟨_, rfl⟩
          obtain ⟨B7, hB7⟩ : ∃ b, b = Y2.heap.size := ⟨_, rfl⟩
          rw [← hY3, ← hB7] at f3 ⊢
          have F3 := Lib.hid f3
          clear hY3 hB7 f3
          refine hK.out _ _ F3.out.fb (fun k3 => ?_)
          clear hK K
          try simp only [List.setIfInBounds_toArray, List.set_cons_zero, List.set_cons_succ]
          refine wpAnyH_ready (rs := [4]) (by kernel_rfl) (by simp) ?_
          refine AllReadyH.cons (o := { dst := some 47, op := Go.Op.call { callee := Go.Callee.value (Go.Operand.func 17), args := #[Go.Operand.tmp 43, Go.Operand.tmp 44, Go.Operand.tmp 45, Go.Operand.tmp 46], argTypes := #[25, 28, 30, 37] }, type := 41, pos := "outright.go:193", after := #[{ on := 0, ground := Go.Ground.data }, { on := 1, ground := Go.Ground.data }, { on := 2, ground := Go.Ground.data }, { on := 3, ground := Go.Ground.data }, { on := 0, ground := Go.Ground.chain }], guard := none }) rfl (fun K hK => ?_) AllReadyH.nil
          go_simp
          go_at_call 17
          refine (HE.out A g h 1 Y3 F3.out.2.2.1).mono ?_
          rintro e Y4 ⟨rfl, hs, hk⟩
          have F4 := Lib.hid (F3.out.exec hs hk)
          clear hs hk
          go_wp2_with fail
          refine hK.out _ _ F4.out.fb (fun k4 => ?_)
          clear hK K
          try simp only [List.setIfInBounds_toArray, List.set_cons_zero, List.set_cons_succ]
          refine wpAnyH_take (i := 5) (oi := { dst := some 42, op := Go.Op.move (Go.Operand.tmp 47), type := 41, pos := "outright.go:193", after := #[{ on := 4, ground := Go.Ground.data }], guard := none }) (v := .tuple #[.agg #[.int .u32 0, .int .u32 0, .int .u32 0, .int .u32 0, .int .u32 0, .int .u32 0, .int .u32 0, .int .u32 0, .int .u32 0, .int .u32 0, .int .u32 0, .int .u32 0, .int .u32 0, .int .u32 0, .int .u32 601, .int .u32 600], .agg #[.int .i64 0, .int .i64 0, .bool false, .bool false, .bool false, .int .i64 0, .int .i64 0, .int .i64 0, .int .i64 0, .int .i64 0], .int .i64 0]) rfl (by kernel_rfl) (by kernel_rfl) (by kernel_rfl) (fun _ _ _ h => by cases h.1) (Or.inl ⟨by rfl, fun W hSw => by (try dsimp only at hSw); go_simp⟩) k4 ?_
          try simp only [Act.put, List.setIfInBounds_toArray, List.set_cons_zero, List.set_cons_succ]
          refine wpAnyH_take (i := 6) (oi := { dst := some 48, op := Go.Op.extract (Go.Operand.tmp 42) 0, type := 28, pos := "outright.go:193", after := #[{ on := 5, ground := Go.Ground.data }], guard := none }) (v := .agg #[.int .u32 0, .int .u32 0, .int .u32 0, .int .u32 0, .int .u32 0, .int .u32 0, .int .u32 0, .int .u32 0, .int .u32 0, .int .u32 0, .int .u32 0, .int .u32 0, .int .u32 0, .int .u32 0, .int .u32 601, .int .u32 600]) rfl (by kernel_rfl) (by kernel_rfl) (by kernel_rfl) (fun _ _ _ h => by cases h.1) (Or.inl ⟨by rfl, fun W hSw => by (try dsimp only at hSw); go_simp⟩) k4 ?_
          try simp only [Act.put, List.setIfInBounds_toArray, List.set_cons_zero, List.set_cons_succ]
          refine wpAnyH_take (i := 7) (oi := { dst := some 49, op := Go.Op.extract (Go.Operand.tmp 42) 1, type := 30, pos := "outright.go:193", after := #[{ on := 5, ground := Go.Ground.data }, { on := 11, ground := Go.Ground.gcOnly Go.Departure.lateStores }], guard := none }) (v := .agg #[.int .i64 0, .int .i64 0, .bool false, .bool false, .bool false, .int .i64 0, .int .i64 0, .int .i64 0, .int .i64 0, .int .i64 0]) rfl (by kernel_rfl) (by kernel_rfl) (by kernel_rfl) (fun _ _ _ h => by cases h.1) (Or.inl ⟨by rfl, fun W hSw => by (try dsimp only at hSw); go_simp⟩) k4 ?_
          try simp only [Act.put, List.setIfInBounds_toArray, List.set_cons_zero, List.set_cons_succ]
          refine wpAnyH_take (i := 8) (oi := { dst := some 50, op := Go.Op.extract (Go.Operand.tmp 42) 2, type := 3, pos := "outright.go:193", after := #[{ on := 5, ground := Go.Ground.data }, { on := 12, ground := Go.Ground.gcOnly Go.Departure.lateStores }], guard := none }) (v := .int .i64 0) rfl (by kernel_rfl) (by kernel_rfl) (by kernel_rfl) (fun _ _ _ h => by cases h.1) (Or.inl ⟨by rfl, fun W hSw => by (try dsimp only at hSw); go_simp⟩) k4 ?_
          try simp only [Act.put, List.setIfInBounds_toArray, List.set_cons_zero, List.set_cons_succ]
          refine wpAnyH_ready (rs := [11]) (by kernel_rfl) (by simp) ?_
          refine AllReadyH.cons (o := { dst := none, op := Go.Op.store 28 (Go.Operand.tmp 10) (Go.Operand.tmp 48), type := 0, pos := "outright.go:193", after := #[{ on := 9, ground := Go.Ground.data }, { on := 6, ground := Go.Ground.data }, { on := 4, ground := Go.Ground.chain }, { on := 0, ground := Go.Ground.phase }, { on := 1, ground := Go.Ground.phase }, { on := 2, ground := Go.Ground.phase }, { on := 3, ground := Go.Ground.phase }, { on := 4, ground := Go.Ground.phase }, { on := 5, ground := Go.Ground.phase }, { on := 6, ground := Go.Ground.phase }, { on := 7, ground := Go.Ground.textOnly Go.Departure.lateStores }, { on := 8, ground := Go.Ground.textOnly Go.Departure.lateStores }, { on := 9, ground := Go.Ground.phase }, { on := 10, ground := Go.Ground.phase }], guard := none }) rfl (fun K hK => ?_) AllReadyH.nil
          obtain ⟨hb5, x5, hx5, hr5⟩ := F4.out.2.2.2.1 B7 rfl
          rw [if_pos (by rfl)]
          refine op_store _ _ _ rfl _ rfl _ rfl (HSR.out _ _ _ hr5 hx5) ?_
          have f5 := F4.out.st HB6.out ((regL [(14, 601), (15, 600)]))
          obtain ⟨Y5, hY5⟩ : ∃ y, y = Y4.setRow B7 (regA ((regL [(14, 601), (15, 600)]))) := ⟨_, rfl⟩
          rw [← hY5] at f5 ⊢
          have F5 := Lib.hid f5
          clear hY5 f5 hb5 hx5 hr5 x5
          refine hK.out _ _ F5.out.fb (fun k5 => ?_)
          clear hK K
          try simp only [List.setIfInBounds_toArray, List.set_cons_zero, List.set_cons_succ]
          refine wpAnyH_ready (rs := [12]) (by kernel_rfl) (by simp) ?_
          refine AllReadyH.cons (o := { dst := none, op := Go.Op.store 30 (Go.Operand.tmp 11) (Go.Operand.tmp 49), type := 0, pos := "outright.go:193", after := #[{ on := 10, ground := Go.Ground.data }, { on := 7, ground := Go.Ground.data }, { on := 11, ground := Go.Ground.chain }, { on := 0, ground := Go.Ground.phase }, { on := 1, ground := Go.Ground.phase }, { on := 2, ground := Go.Ground.phase }, { on := 3, ground := Go.Ground.phase }, { on := 4, ground := Go.Ground.phase }, { on := 5, ground := Go.Ground.phase }, { on := 6, ground := Go.Ground.phase }, { on := 7, ground := Go.Ground.phase }, { on := 8, ground := Go.Ground.textOnly Go.Departure.lateStores }, { on := 9, ground := Go.Ground.phase }, { on := 10, ground := Go.Ground.phase }, { on := 11, ground := Go.Ground.phase }], guard := none }) rfl (fun K hK => ?_) AllReadyH.nil
          obtain ⟨hb6, x6, hx6, hr6⟩ := F5.out.2.2.2.2 B8 rfl
          rw [if_pos (by rfl)]
          refine op_store _ _ _ rfl _ rfl _ rfl (HSP.out _ _ _ hr6 hx6) ?_
          have f6 := F5.out.st2 (⟨0, 0, false, false, false, 0, 0, 0, 0, 0⟩)
          obtain ⟨Y6, hY6⟩ : ∃ y, y = Y5.setRow B8 (pswA (⟨0, 0, false, false, false, 0, 0, 0, 0, 0⟩)) := ⟨_, rfl⟩
          rw [← hY6] at f6 ⊢
          have F6 := Lib.hid f6.1
          have P6 := Lib.hid f6.2
          clear hY6 f6 hb6 hx6 hr6 x6
          refine hK.out _ _ F6.out.fb (fun k6 => ?_)
          clear hK K
          try simp only [List.setIfInBounds_toArray, List.set_cons_zero, List.set_cons_succ]
          refine wpAnyH_take (i := 13) (oi := { dst := some 12, op := Go.Op.assign (Go.Operand.tmp 50), type := 3, pos := "outright.go:193", after := #[{ on := 8, ground := Go.Ground.data }, { on := 12, ground := Go.Ground.chain }, { on := 0, ground := Go.Ground.phase }, { on := 1, ground := Go.Ground.phase }, { on := 2, ground := Go.Ground.phase }, { on := 3, ground := Go.Ground.phase }, { on := 4, ground := Go.Ground.phase }, { on := 5, ground := Go.Ground.phase }, { on := 6, ground := Go.Ground.phase }, { on := 7, ground := Go.Ground.phase }, { on := 8, ground := Go.Ground.phase }, { on := 9, ground := Go.Ground.phase }, { on := 10, ground := Go.Ground.phase }, { on := 11, ground := Go.Ground.phase }, { on := 12, ground := Go.Ground.phase }], guard := none }) (v := .int .i64 0) rfl (by kernel_rfl) (by kernel_rfl) (by kernel_rfl) (fun _ _ _ h => by cases h.1) (Or.inl ⟨by rfl, fun W hSw => by (try dsimp only at hSw); go_simp⟩) k6 ?_
          try simp only [Act.put, List.setIfInBounds_toArray, List.set_cons_zero, List.set_cons_succ]
          refine wpAnyH_done (by kernel_rfl) ?_ _
          refine id ?_
          exact ⟨rfl, B7, B8, ckb_mk rfl, F6.out.1, F6.out.2.1, F6.out.2.2.1, P6.out⟩
      · go_simp
        have f2 := F1.out.al
        obtain ⟨Y2, hY2⟩ : ∃ y, y = Y1.alloc (.cells #[.int .u32 0, .int .u32 0, .int .u32 0, .int .u32 0, .int .u32 0, .int .u32 0, .int .u32 0, .int .u32 0, .int .u32 0, .int .u32 0, .int .u32 0, .int .u32 0, .int .u32 0, .int .u32 0, .int .u32 0, .int .u32 0] 28) := ⟨_, rfl⟩
        obtain ⟨B7, hB7⟩ : ∃ b, b = Y1.heap.size := ⟨_, rfl⟩
        rw [← hY2, ← hB7] at f2 ⊢
        have F2 := Lib.hid f2
        clear hY2 hB7 f2
        refine hK.out _ _ F2.out.fb (fun k2 => ?_)
        clear hK K
        try simp only [List.setIfInBounds_toArray, List.set_cons_zero, List.set_cons_succ]
        refine wpAnyH_ready (rs := [0]) (by kernel_rfl) (by simp) ?_
        refine AllReadyH.cons (o := { dst := some 43, op := Go.Op.call { callee := Go.Callee.value (Go.Operand.func 27), args := #[Go.Operand.const (Go.Value.int Go.IntKind.i64 210), Go.Operand.const (Go.Value.int Go.IntKind.i64 3)], argTypes := #[3, 3] }, type := 25, pos := "outright.go:193", after := #[], guard := none }) rfl (fun K hK => ?_) AllReadyH.nil
        go_simp
        go_at_call 27
        refine (HSS1.out Y2).mono ?_
        rintro e Y3 ⟨rfl, hb⟩
        have F3 := Lib.hid (F2.out.below hb)
        clear hb
        go_wp2_with fail
        refine hK.out _ _ F3.out.fb (fun k3 => ?_)
        clear hK K
        try simp only [List.setIfInBounds_toArray, List.set_cons_zero]
        refine wpAnyH_ready (rs := [4]) (by kernel_rfl) (by simp) ?_
        refine AllReadyH.cons (o := { dst := some 47, op := Go.Op.call { callee := Go.Callee.value (Go.Operand.func 17), args := #[Go.Operand.tmp 43, Go.Operand.tmp 44, Go.Operand.tmp 45, Go.Operand.tmp 46], argTypes := #[25, 28, 30, 37] }, type := 41, pos := "outright.go:193", after := #[{ on := 0, ground := Go.Ground.data }, { on := 1, ground := Go.Ground.data }, { on := 2, ground := Go.Ground.data }, { on := 3, ground := Go.Ground.data }, { on := 0, ground := Go.Ground.chain }], guard := none }) rfl (fun K hK => ?_) AllReadyH.nil
        go_simp
        go_at_call 17
        refine (HE.out A g h 1 Y3 F3.out.2.2.1).mono ?_
        rintro e Y4 ⟨rfl, hs, hk⟩
        have F4 := Lib.hid (F3.out.exec hs hk)
        clear hs hk
        go_wp2_with fail
        refine hK.out _ _ F4.out.fb (fun k4 => ?_)
        clear hK K
        try simp only [List.setIfInBounds_toArray, List.set_cons_zero, List.set_cons_succ]
        refine wpAnyH_take (i := 5) (oi := { dst := some 42, op := Go.Op.move (Go.Operand.tmp 47), type := 41, pos := "outright.go:193", after := #[{ on := 4, ground := Go.Ground.data }], guard := none }) (v := .tuple #[.agg #[.int .u32 0, .int .u32 0, .int .u32 0, .int .u32 0, .int .u32 0, .int .u32 0, .int .u32 0, .int .u32 0, .int .u32 0, .int .u32 0, .int .u32 0, .int .u32 0, .int .u32 0, .int .u32 0, .int .u32 601, .int .u32 600], .agg #[.int .i64 0, .int .i64 0, .bool false, .bool false, .bool false, .int .i64 0, .int .i64 0, .int .i64 0, .int .i64 0, .int .i64 0], .int .i64 0]) rfl (by kernel_rfl) (by kernel_rfl) (by kernel_rfl) (fun _ _ _ h => by cases h.1) (Or.inl ⟨by rfl, fun W hSw => by (try dsimp only at hSw); go_simp⟩) k4 ?_
        try simp only [Act.put, List.setIfInBounds_toArray, List.set_cons_zero, List.set_cons_succ]
        refine wpAnyH_take (i := 6) (oi := { dst := some 48, op := Go.Op.extract (Go.Operand.tmp 42) 0, type := 28, pos := "outright.go:193", after := #[{ on := 5, ground := Go.Ground.data }], guard := none }) (v := .agg #[.int .u32 0, .int .u32 0, .int .u32 0, .int .u32 0, .int .u32 0, .int .u32 0, .int .u32 0, .int .u32 0, .int .u32 0, .int .u32 0, .int .u32 0, .int .u32 0, .int .u32 0, .int .u32 0, .int .u32 601, .int .u32 600]) rfl (by kernel_rfl) (by kernel_rfl) (by kernel_rfl) (fun _ _ _ h => by cases h.1) (Or.inl ⟨by rfl, fun W hSw => by (try dsimp only at hSw); go_simp⟩) k4 ?_
        try simp only [Act.put, List.setIfInBounds_toArray, List.set_cons_zero, List.set_cons_succ]
        refine wpAnyH_take (i := 7) (oi := { dst := some 49, op := Go.Op.extract (Go.Operand.tmp 42) 1, type := 30, pos := "outright.go:193", after := #[{ on := 5, ground := Go.Ground.data }, { on := 11, ground := Go.Ground.gcOnly Go.Departure.lateStores }], guard := none }) (v := .agg #[.int .i64 0, .int .i64 0, .bool false, .bool false, .bool false, .int .i64 0, .int .i64 0, .int .i64 0, .int .i64 0, .int .i64 0]) rfl (by kernel_rfl) (by kernel_rfl) (by kernel_rfl) (fun _ _ _ h => by cases h.1) (Or.inl ⟨by rfl, fun W hSw => by (try dsimp only at hSw); go_simp⟩) k4 ?_
        try simp only [Act.put, List.setIfInBounds_toArray, List.set_cons_zero, List.set_cons_succ]
        refine wpAnyH_take (i := 8) (oi := { dst := some 50, op := Go.Op.extract (Go.Operand.tmp 42) 2, type := 3, pos := "outright.go:193", after := #[{ on := 5, ground := Go.Ground.data }, { on := 12, ground := Go.Ground.gcOnly Go.Departure.lateStores }], guard := none }) (v := .int .i64 0) rfl (by kernel_rfl) (by kernel_rfl) (by kernel_rfl) (fun _ _ _ h => by cases h.1) (Or.inl ⟨by rfl, fun W hSw => by (try dsimp only at hSw); go_simp⟩) k4 ?_
        try simp only [Act.put, List.setIfInBounds_toArray, List.set_cons_zero, List.set_cons_succ]
        refine wpAnyH_ready (rs := [11]) (by kernel_rfl) (by simp) ?_
        refine AllReadyH.cons (o := { dst := none, op := Go.Op.store 28 (Go.Operand.tmp 10) (Go.Operand.tmp 48), type := 0, pos := "outright.go:193", after := #[{ on := 9, ground := Go.Ground.data }, { on := 6, ground := Go.Ground.data }, { on := 4, ground := Go.Ground.chain }, { on := 0, ground := Go.Ground.phase }, { on := 1, ground := Go.Ground.phase }, { on := 2, ground := Go.Ground.phase }, { on := 3, ground := Go.Ground.phase }, { on := 4, ground := Go.Ground.phase }, { on := 5, ground := Go.Ground.phase }, { on := 6, ground := Go.Ground.phase }, { on := 7, ground := Go.Ground.textOnly Go.Departure.lateStores }, { on := 8, ground := Go.Ground.textOnly Go.Departure.lateStores }, { on := 9, ground := Go.Ground.phase }, { on := 10, ground := Go.Ground.phase }], guard := none }) rfl (fun K hK => ?_) AllReadyH.nil
        obtain ⟨hb5, x5, hx5, hr5⟩ := F4.out.2.2.2.1 B7 rfl
        rw [if_pos (by rfl)]
        refine op_store _ _ _ rfl _ rfl _ rfl (HSR.out _ _ _ hr5 hx5) ?_
        have f5 := F4.out.st HB6.out ((regL [(14, 601), (15, 600)]))
        obtain ⟨Y5, hY5⟩ : ∃ y, y = Y4.setRow B7 (regA ((regL [(14, 601), (15, 600)]))) := ⟨_, rfl⟩
        rw [← hY5] at f5 ⊢
        have F5 := Lib.hid f5
        clear hY5 f5 hb5 hx5 hr5 x5
        refine hK.out _ _ F5.out.fb (fun k5 => ?_)
        clear hK K
        try simp only [List.setIfInBounds_toArray, List.set_cons_zero, List.set_cons_succ]
        refine wpAnyH_ready (rs := [12]) (by kernel_rfl) (by simp) ?_
        refine AllReadyH.cons (o := { dst := none, op := Go.Op.store 30 (Go.Operand.tmp 11) (Go.Operand.tmp 49), type := 0, pos := "outright.go:193", after := #[{ on := 10, ground := Go.Ground.data }, { on := 7, ground := Go.Ground.data }, { on := 11, ground := Go.Ground.chain }, { on := 0, ground := Go.Ground.phase }, { on := 1, ground := Go.Ground.phase }, { on := 2, ground := Go.Ground.phase }, { on := 3, ground := Go.Ground.phase }, { on := 4, ground := Go.Ground.phase }, { on := 5, ground := Go.Ground.phase }, { on := 6, ground := Go.Ground.phase }, { on := 7, ground := Go.Ground.phase }, { on := 8, ground := Go.Ground.textOnly Go.Departure.lateStores }, { on := 9, ground := Go.Ground.phase }, { on := 10, ground := Go.Ground.phase }, { on := 11, ground := Go.Ground.phase }], guard := none }) rfl (fun K hK => ?_) AllReadyH.nil
        obtain ⟨hb6, x6, hx6, hr6⟩ := F5.out.2.2.2.2 B8 rfl
        rw [if_pos (by rfl)]
        refine op_store _ _ _ rfl _ rfl _ rfl (HSP.out _ _ _ hr6 hx6) ?_
        have f6 := F5.out.st2 (⟨0, 0, false, false, false, 0, 0, 0, 0, 0⟩)
        obtain ⟨Y6, hY6⟩ : ∃ y, y = Y5.setRow B8 (pswA (⟨0, 0, false, false, false, 0, 0, 0, 0, 0⟩)) := ⟨_, rfl⟩
        rw [← hY6] at f6 ⊢
        have F6 := Lib.hid f6.1
        have P6 := Lib.hid f6.2
        clear hY6 f6 hb6 hx6 hr6 x6
        refine hK.out _ _ F6.out.fb (fun k6 => ?_)
        clear hK K
        try simp only [List.setIfInBounds_toArray, List.set_cons_zero, List.set_cons_succ]
        refine wpAnyH_take (i := 13) (oi := { dst := some 12, op := Go.Op.assign (Go.Operand.tmp 50), type := 3, pos := "outright.go:193", after := #[{ on := 8, ground := Go.Ground.data }, { on := 12, ground := Go.Ground.chain }, { on := 0, ground := Go.Ground.phase }, { on := 1, ground := Go.Ground.phase }, { on := 2, ground := Go.Ground.phase }, { on := 3, ground := Go.Ground.phase }, { on := 4, ground := Go.Ground.phase }, { on := 5, ground := Go.Ground.phase }, { on := 6, ground := Go.Ground.phase }, { on := 7, ground := Go.Ground.phase }, { on := 8, ground := Go.Ground.phase }, { on := 9, ground := Go.Ground.phase }, { on := 10, ground := Go.Ground.phase }, { on := 11, ground := Go.Ground.phase }, { on := 12, ground := Go.Ground.phase }], guard := none }) (v := .int .i64 0) rfl (by kernel_rfl) (by kernel_rfl) (by kernel_rfl) (fun _ _ _ h => by cases h.1) (Or.inl ⟨by rfl, fun W hSw => by (try dsimp only at hSw); go_simp⟩) k6 ?_
        try simp only [Act.put, List.setIfInBounds_toArray, List.set_cons_zero, List.set_cons_succ]
        refine wpAnyH_done (by kernel_rfl) ?_ _
        refine id ?_
        exact ⟨rfl, B7, B8, ckb_mk rfl, F6.out.1, F6.out.2.1, F6.out.2.2.1, P6.out⟩
  rintro e a y6 ⟨rfl, B7, B8, ⟨u, rfl⟩, hkp, hr, hst, -⟩
  have HZz := Lib.hid (HZ7.out.kp hkp (by simpa using Row.ne HZ7.out.row HS7.out.2.1 (by decide)))
  have H4z := Lib.hid (H47.out.kp hkp (by simpa using Row.ne H47.out.row HS7.out.2.1 (by decide)))
  have H5z := Lib.hid (H57.out.kp hkp (by simpa using Row.ne H57.out.row HS7.out.2.1 (by decide)))
  have H8z := Lib.hid (H87.out.kp hkp (by simpa using Row.ne H87.out.row HS7.out.2.1 (by decide)))
  have HSz := Lib.hid hst
  have HBz := Lib.hid (HB7k.out.trans hkp)
  clear hkp hr hst HE HSR HSP HSS1 HB6 HZG HS7 HB7k HZ7 H47 H57 H87
  have cH57 := H5z.out.cell 7
  simp only [List.getElem?_toArray, List.getElem?_cons_succ, List.getElem?_cons_zero] at cH57
  have tH5 := H5z.out.lt
  have cH87 := H8z.out.cell 7
  simp only [List.getElem?_toArray, List.getElem?_cons_succ, List.getElem?_cons_zero] at cH87
  have tH8 := H8z.out.lt
  go_wp2_with fail
  refine (kb_byts A g h _ HSz.out).mono ?_
  rintro e y7 ⟨v7, rfl, ho, hb⟩
  have HV7 := Lib.hid ho.svb
  have HZy := Lib.hid (HZz.out.below hb)
  have H4y := Lib.hid (H4z.out.below hb)
  have H5y := Lib.hid (H5z.out.below hb)
  have H8y := Lib.hid (H8z.out.below hb)
  have HSy := Lib.hid (HSz.out.below hb)
  have HBy := Lib.hid (HBz.out.trans (Kp.bel hb))
  clear ho hb cH57 cH87 tH5 tH8 HSz HBz HZz H4z H5z H8z
  go_wp2_with fail
  obtain ⟨S8, hS8⟩ : ∃ b, b = y7.heap.size := ⟨_, rfl⟩
  obtain ⟨g8a, hg8a⟩ : ∃ y, y = y7.alloc (.cells #[.int .u8 1, .int .u8 1, .int .u8 1, .int .u8 1] 5) := ⟨_, rfl⟩
  have sg8a : g8a.heap.size = S8 + 1 := by rw [hg8a]; simp [hS8]
  have bg8a : Below y7.heap.size y7 g8a := by rw [hg8a]; exact below_new _ _
  have rg8a : Bx g8a (S8) 5 #[.int .u8 1, .int .u8 1, .int .u8 1, .int .u8 1] := by rw [hg8a, hS8]; exact Bx.new y7 _ _
  have HZ8 := Lib.hid (HZy.out.below bg8a)
  clear HZy
  have H48 := Lib.hid (H4y.out.below bg8a)
  clear H4y
  have H58 := Lib.hid (H5y.out.below bg8a)
  clear H5y
  have H88 := Lib.hid (H8y.out.below bg8a)
  clear H8y
  have HS8 := Lib.hid (HSy.out.below bg8a)
  have HB8k := Lib.hid (HBy.out.trans (Kp.bel bg8a))
  clear HSy HBy
  rw [← hg8a, ← hS8]
  have HSV : Hid (SvB g8a (.slice (some ⟨S8, 0, none⟩) 4 4) [1, 1, 1, 1]) := Lib.hid (by rw [hg8a, hS8]; exact svb_new _ [1, 1, 1, 1] (by decide))
  have HV8 := Lib.hid (HV7.out.below bg8a)
  clear hg8a sg8a bg8a rg8a hS8
  refine (same_svb HV8.out HSV.out).mono ?_
  rintro e y8 ⟨rfl, hb⟩
  have HZx := Lib.hid (HZ8.out.below hb)
  have H4x := Lib.hid (H48.out.below hb)
  have H5x := Lib.hid (H58.out.below hb)
  have H8x := Lib.hid (H88.out.below hb)
  have HSx := Lib.hid (HS8.out.below hb)
  have HBx := Lib.hid (HB8k.out.trans (Kp.bel hb))
  clear hb HSV HV8 HV7 HS8 HB8k HZ8 H48 H58 H88
  go_wp2_with fail
  obtain ⟨S9, hS9⟩ : ∃ b, b = y8.heap.size := ⟨_, rfl⟩
  obtain ⟨g9a, hg9a⟩ : ∃ y, y = y8.alloc (.cells #[.int .u8 1, .int .u8 2, .int .u8 3] 5) := ⟨_, rfl⟩
  have sg9a : g9a.heap.size = S9 + 1 := by rw [hg9a]; simp [hS9]
  have bg9a : Below y8.heap.size y8 g9a := by rw [hg9a]; exact below_new _ _
  have rg9a : Bx g9a (S9) 5 #[.int .u8 1, .int .u8 2, .int .u8 3] := by rw [hg9a, hS9]; exact Bx.new y8 _ _
  have HZ9 := Lib.hid (HZx.out.below bg9a)
  clear HZx
  have H49 := Lib.hid (H4x.out.below bg9a)
  clear H4x
  have H59 := Lib.hid (H5x.out.below bg9a)
  clear H5x
  have H89 := Lib.hid (H8x.out.below bg9a)
  clear H8x
  have HS9 := Lib.hid (HSx.out.below bg9a)
  have HB9k := Lib.hid (HBx.out.trans (Kp.bel bg9a))
  clear HSx HBx
  rw [← hg9a, ← hS9]
  have HSV : Hid (SvB g9a (.slice (some ⟨S9, 0, none⟩) 3 3) [1, 2, 3]) := Lib.hid (by rw [hg9a, hS9]; exact svb_new _ [1, 2, 3] (by decide))
  clear hg9a sg9a bg9a rg9a hS9
  refine (put_lit A g h 700 _ [1, 2, 3] kb4 kb5 g9a HS9.out HSV.out (by decide) (by kernel_rfl)).mono ?_
  rintro e x10c ⟨rfl, hs, hk⟩
  have HZ10 := Lib.hid (HZ9.out.kp hk (by simpa using Row.ne HZ9.out.row HS9.out.2.1 (by decide)))
  have H410 := Lib.hid (H49.out.kp hk (by simpa using Row.ne H49.out.row HS9.out.2.1 (by decide)))
  have H510 := Lib.hid (H59.out.kp hk (by simpa using Row.ne H59.out.row HS9.out.2.1 (by decide)))
  have H810 := Lib.hid (H89.out.kp hk (by simpa using Row.ne H89.out.row HS9.out.2.1 (by decide)))
  clear HZ9
  clear H49
  clear H59
  clear H89
  have HS10 := Lib.hid hs
  have HB10k := Lib.hid (HB9k.out.trans hk)
  clear hs hk HS9 HB9k
  clear HSV
  go_wp2_with fail
  obtain ⟨S11, hS11⟩ : ∃ b, b = x10c.heap.size := ⟨_, rfl⟩
  obtain ⟨g11a, hg11a⟩ : ∃ y, y = x10c.alloc (.cells #[.int .u8 0, .int .u8 0, .int .u8 5, .int .u8 0] 5) := ⟨_, rfl⟩
  have sg11a : g11a.heap.size = S11 + 1 := by rw [hg11a]; simp [hS11]
  have bg11a : Below x10c.heap.size x10c g11a := by rw [hg11a]; exact below_new _ _
  have rg11a : Bx g11a (S11) 5 #[.int .u8 0, .int .u8 0, .int .u8 5, .int .u8 0] := by rw [hg11a, hS11]; exact Bx.new x10c _ _
  have HZ11 := Lib.hid (HZ10.out.below bg11a)
  clear HZ10
  have H411 := Lib.hid (H410.out.below bg11a)
  clear H410
  have H511 := Lib.hid (H510.out.below bg11a)
  clear H510
  have H811 := Lib.hid (H810.out.below bg11a)
  clear H810
  have HS11 := Lib.hid (HS10.out.below bg11a)
  have HB11k := Lib.hid (HB10k.out.trans (Kp.bel bg11a))
  clear HS10 HB10k
  rw [← hg11a, ← hS11]
  have HSV : Hid (SvB g11a (.slice (some ⟨S11, 0, none⟩) 4 4) [0, 0, 5, 0]) := Lib.hid (by rw [hg11a, hS11]; exact svb_new _ [0, 0, 5, 0] (by decide))
  clear hg11a sg11a bg11a rg11a hS11
  refine (put_lit A g h 1000 _ [0, 0, 5, 0] kb5 kb6 g11a HS11.out HSV.out (by decide) (by kernel_rfl)).mono ?_
  rintro e x12c ⟨rfl, hs, hk⟩
  have HZ12 := Lib.hid (HZ11.out.kp hk (by simpa using Row.ne HZ11.out.row HS11.out.2.1 (by decide)))
  have H412 := Lib.hid (H411.out.kp hk (by simpa using Row.ne H411.out.row HS11.out.2.1 (by decide)))
  have H512 := Lib.hid (H511.out.kp hk (by simpa using Row.ne H511.out.row HS11.out.2.1 (by decide)))
  have H812 := Lib.hid (H811.out.kp hk (by simpa using Row.ne H811.out.row HS11.out.2.1 (by decide)))
  clear HZ11
  clear H411
  clear H511
  clear H811
  have HS12 := Lib.hid hs
  have HB12k := Lib.hid (HB11k.out.trans hk)
  clear hs hk HS11 HB11k
  clear HSV
  go_wp2_with fail
  have HSR := Lib.hid (fun (W : World) B x (h : Bx W B 28 x) (hx : x.size = 16) => (show (storeVar 28 ⟨B, 0, none⟩ (.agg #[.int .u32 0, .int .u32 2868904637, .int .u32 3452816645, .int .u32 0, .int .u32 0, .int .u32 0, .int .u32 0, .int .u32 0, .int .u32 0, .int .u32 0, .int .u32 0, .int .u32 0, .int .u32 0, .int .u32 0, .int .u32 700, .int .u32 1000])).run Tryz.prog W = .ok () (W.setRow B (regA (regL [(1, 2868904637), (2, 3452816645), (14, 700), (15, 1000)]))) from store_regs h hx (regL [(1, 2868904637), (2, 3452816645), (14, 700), (15, 1000)])))
  have HSP := Lib.hid (fun (W : World) B x (h : Bx W B 30 x) (hx : x.size = 10) => (show (storeVar 30 ⟨B, 0, none⟩ (.agg #[.int .i64 0, .int .i64 0, .bool false, .bool false, .bool false, .int .i64 0, .int .i64 0, .int .i64 1, .int .i64 0, .int .i64 0])).run Tryz.prog W = .ok () (W.setRow B (pswA ⟨0, 0, false, false, false, 0, 0, 1, 0, 0⟩)) from store_psw h hx ⟨0, 0, false, false, false, 0, 0, 1, 0, 0⟩))
  have HZN : Hid (S1 ≠ g ∧ S1 ≠ S4 + 1) := Lib.hid ⟨Row.ne HZ12.out.row HS12.out.2.1 (by decide), HZ5.out.1⟩
  have T0 := Lib.hid (HS12.out.below (bel_drew x12c))
  have R0 := Lib.hid (H512.out.below (bel_drew x12c))
  refine Code.wp_mono (Q := fun e a W => e = .normal ∧ ∃ B13 : Nat, (∃ u : Nat → Value, a = { tmps := #[.pointer (some ⟨A, 0, none⟩), u 1, .bool false, .pointer (some ⟨S1, 0, none⟩), u 4, .pointer (some ⟨S4 + 1, 0, none⟩), u 6, u 7, u 8, u 9, u 10, u 11, .int .i64 0, .pointer (some ⟨B13, 0, none⟩), u 14, u 15, u 16, u 17, u 18, u 19, u 20, u 21, u 22, u 23, u 24, u 25, u 26, u 27, u 28, u 29, u 30, u 31, u 32, u 33, u 34, u 35, u 36, u 37, u 38, u 39, u 40, u 41, u 42, u 43, u 44, u 45, u 46, u 47, u 48, u 49, u 50, u 51, u 52, u 53, u 54, u 55, u 56, u 57, u 58, u 59, u 60, u 61, u 62, u 63, u 64, u 65, u 66, u 67, u 68, u 69, u 70, u 71, u 72, u 73, u 74, u 75, u 76, u 77, u 78, u 79, u 80, u 81, u 82, u 83, u 84, u 85, u 86, u 87, u 88, u 89, u 90, u 91, u 92, u 93, u 94, u 95, u 96, u 97, u 98, u 99, u 100, u 101, u 102, u 103, u 104, u 105, u 106, u 107, u 108, u 109, u 110, u 111, u 112, u 113, u 114, u 115, u 116, u 117, u 118, u 119, u 120, u 121, u 122, u 123, u 124, u 125, u 126, u 127, u 128, u 129, u 130, u 131, u 132, u 133, u 134, u 135, u 136, u 137, u 138, u 139, u 140, u 141, u 142, u 143, u 144, u 145], defers := [] }) ∧ Kp x12c W [g, S4 + 1] ∧ Sto W A g h 2048 1 kb6 (List.replicate 1 0) ∧ Bx W (S4 + 1) 30 #[.int .i64 0, .int .i64 0, .bool false, .bool false, .bool false, .int .i64 0, .int .i64 0, .int .i64 1, .int .i64 0, .int .i64 0] ∧ Bx W B13 28 #[.int .u32 0, .int .u32 2868904637, .int .u32 3452816645, .int .u32 0, .int .u32 0, .int .u32 0, .int .u32 0, .int .u32 0, .int .u32 0, .int .u32 0, .int .u32 0, .int .u32 0, .int .u32 0, .int .u32 0, .int .u32 700, .int .u32 1000] ∧ x12c.heap.size ≤ B13) ?_ ?_
  rotate_left
  · refine wp_region_held_drew (S := fun W => Kp x12c W [g, S4 + 1]) (by kernel_rfl) (kp_drew x12c _) (fun k0 => ?_)
    have t0 := T0.out
    have r0 := R0.out
    obtain ⟨Y0, hY0⟩ : ∃ y, y = x12c.drew := ⟨_, rfl⟩
    rw [← hY0] at t0 r0 k0 ⊢
    have T00 := Lib.hid t0
    have R00 := Lib.hid r0
    clear t0 r0 T0 R0 hY0
    show wpAnyH _ _ _ _ _ 13 #[false, false, false, false, false, false, false, false, false, false, false, false, false] _ _
    refine wpAnyH_take (i := 1) (oi := { dst := some 78, op := Go.Op.build 28 #[(1, Go.Operand.const (Go.Value.int Go.IntKind.u32 2868903936)), (2, Go.Operand.const (Go.Value.int Go.IntKind.u32 3452816845)), (14, Go.Operand.const (Go.Value.int Go.IntKind.u32 700)), (15, Go.Operand.const (Go.Value.int Go.IntKind.u32 1000))], type := 28, pos := "outright.go:199", after := #[], guard := none }) (v := .agg #[.int .u32 0, .int .u32 2868903936, .int .u32 3452816845, .int .u32 0, .int .u32 0, .int .u32 0, .int .u32 0, .int .u32 0, .int .u32 0, .int .u32 0, .int .u32 0, .int .u32 0, .int .u32 0, .int .u32 0, .int .u32 700, .int .u32 1000]) rfl (by kernel_rfl) (by kernel_rfl) (by kernel_rfl) (fun _ _ _ h => by cases h.1) (Or.inl ⟨by rfl, fun W hSw => by (try dsimp only at hSw); go_simp⟩) k0 ?_
    try simp only [Act.put, List.setIfInBounds_toArray, List.set_cons_zero, List.set_cons_succ]
    refine wpAnyH_take (i := 2) (oi := { dst := some 79, op := Go.Op.load 30 (Go.Operand.tmp 3), type := 30, pos := "outright.go:199", after := #[], guard := none }) (v := .agg #[.int .i64 0, .int .i64 0, .bool false, .bool false, .bool false, .int .i64 0, .int .i64 0, .int .i64 0, .int .i64 0, .int .i64 0]) rfl (by kernel_rfl) (by kernel_rfl) (by kernel_rfl) (fun _ _ _ h => by cases h.1) (Or.inl ⟨by rfl, fun W hSw => exec_load _ _ rfl _ rfl (run_loadVar_row (P := Tryz.prog) W S1 _ 30 _ _ _ (HZ12.out.kp hSw (by simpa using HZN.out)) Tryz.underlying30 rfl (by kernel_rfl))⟩) k0 ?_
    try simp only [Act.put, List.setIfInBounds_toArray, List.set_cons_zero, List.set_cons_succ]
    refine wpAnyH_take (i := 3) (oi := { dst := some 80, op := Go.Op.move (Go.Operand.tmp 0), type := 37, pos := "outright.go:199", after := #[], guard := none }) (v := .pointer (some ⟨A, 0, none⟩)) rfl (by kernel_rfl) (by kernel_rfl) (by kernel_rfl) (fun _ _ _ h => by cases h.1) (Or.inl ⟨by rfl, fun W hSw => by (try dsimp only at hSw); go_simp⟩) k0 ?_
    try simp only [Act.put, List.setIfInBounds_toArray, List.set_cons_zero, List.set_cons_succ]
    refine wpAnyH_ready (rs := [0, 9]) (by kernel_rfl) (by simp) ?_
    refine AllReadyH.cons (o := { dst := some 77, op := Go.Op.call { callee := Go.Callee.value (Go.Operand.func 27), args := #[Go.Operand.const (Go.Value.int Go.IntKind.i64 221), Go.Operand.const (Go.Value.int Go.IntKind.i64 3)], argTypes := #[3, 3] }, type := 25, pos := "outright.go:199", after := #[], guard := none }) rfl (fun K hK => ?_) (AllReadyH.cons (o := { dst := some 13, op := Go.Op.alloc 28, type := 0, pos := "outright.go:199", after := #[], guard := none }) rfl (fun K hK => ?_) AllReadyH.nil)
    · go_simp
      go_at_call 27
      refine (HSS2.out Y0).mono ?_
      rintro e Y1 ⟨rfl, hb⟩
      have T1 := Lib.hid (T00.out.below hb)
      have R1 := Lib.hid (R00.out.below hb)
      have KK1 : Hid (Kp x12c Y1 [g, S4 + 1]) := Lib.hid (k0.trans (Kp.bel hb))
      clear hb
      go_wp2_with fail
      refine hK.out _ _ KK1.out (fun k1 => ?_)
      clear hK K
      try simp only [List.setIfInBounds_toArray, List.set_cons_zero]
      refine wpAnyH_ready (rs := [4, 9]) (by kernel_rfl) (by simp) ?_
      refine AllReadyH.cons (o := { dst := some 81, op := Go.Op.call { callee := Go.Callee.value (Go.Operand.func 17), args := #[Go.Operand.tmp 77, Go.Operand.tmp 78, Go.Operand.tmp 79, Go.Operand.tmp 80], argTypes := #[25, 28, 30, 37] }, type := 41, pos := "outright.go:199", after := #[{ on := 0, ground := Go.Ground.data }, { on := 1, ground := Go.Ground.data }, { on := 2, ground := Go.Ground.data }, { on := 3, ground := Go.Ground.data }, { on := 0, ground := Go.Ground.chain }], guard := none }) rfl (fun K hK => ?_) (AllReadyH.cons (o := { dst := some 13, op := Go.Op.alloc 28, type := 0, pos := "outright.go:199", after := #[], guard := none }) rfl (fun K hK => ?_) AllReadyH.nil)
      · go_simp
        go_at_call 17
        refine (kn_b4 A g h 1 Y1 T1.out).mono ?_
        rintro e Y2 ⟨rfl, hs, hk⟩
        have T2 := Lib.hid hs
        have R2 := Lib.hid (R1.out.kp hk (by simpa using Row.ne R1.out.row T1.out.2.1 (by decide)))
        have KK2 : Hid (Kp x12c Y2 [g, S4 + 1]) := Lib.hid (k1.trans (Kp.more hk))
        clear hs hk
        go_wp2_with fail
        refine hK.out _ _ KK2.out (fun k2 => ?_)
        clear hK K
        try simp only [List.setIfInBounds_toArray, List.set_cons_zero, List.set_cons_succ]
        refine wpAnyH_take (i := 5) (oi := { dst := some 76, op := Go.Op.move (Go.Operand.tmp 81), type := 41, pos := "outright.go:199", after := #[{ on := 4, ground := Go.Ground.data }], guard := none }) (v := .tuple #[.agg #[.int .u32 0, .int .u32 2868904637, .int .u32 3452816645, .int .u32 0, .int .u32 0, .int .u32 0, .int .u32 0, .int .u32 0, .int .u32 0, .int .u32 0, .int .u32 0, .int .u32 0, .int .u32 0, .int .u32 0, .int .u32 700, .int .u32 1000], .agg #[.int .i64 0, .int .i64 0, .bool false, .bool false, .bool false, .int .i64 0, .int .i64 0, .int .i64 1, .int .i64 0, .int .i64 0], .int .i64 0]) rfl (by kernel_rfl) (by kernel_rfl) (by kernel_rfl) (fun _ _ _ h => by cases h.1) (Or.inl ⟨by rfl, fun W hSw => by (try dsimp only at hSw); go_simp⟩) k2 ?_
        try simp only [Act.put, List.setIfInBounds_toArray, List.set_cons_zero, List.set_cons_succ]
        refine wpAnyH_take (i := 6) (oi := { dst := some 82, op := Go.Op.extract (Go.Operand.tmp 76) 0, type := 28, pos := "outright.go:199", after := #[{ on := 5, ground := Go.Ground.data }], guard := none }) (v := .agg #[.int .u32 0, .int .u32 2868904637, .int .u32 3452816645, .int .u32 0, .int .u32 0, .int .u32 0, .int .u32 0, .int .u32 0, .int .u32 0, .int .u32 0, .int .u32 0, .int .u32 0, .int .u32 0, .int .u32 0, .int .u32 700, .int .u32 1000]) rfl (by kernel_rfl) (by kernel_rfl) (by kernel_rfl) (fun _ _ _ h => by cases h.1) (Or.inl ⟨by rfl, fun W hSw => by (try dsimp only at hSw); go_simp⟩) k2 ?_
        try simp only [Act.put, List.setIfInBounds_toArray, List.set_cons_zero, List.set_cons_succ]
        refine wpAnyH_take (i := 7) (oi := { dst := some 83, op := Go.Op.extract (Go.Operand.tmp 76) 1, type := 30, pos := "outright.go:199", after := #[{ on := 5, ground := Go.Ground.data }, { on := 10, ground := Go.Ground.gcOnly Go.Departure.lateStores }], guard := none }) (v := .agg #[.int .i64 0, .int .i64 0, .bool false, .bool false, .bool false, .int .i64 0, .int .i64 0, .int .i64 1, .int .i64 0, .int .i64 0]) rfl (by kernel_rfl) (by kernel_rfl) (by kernel_rfl) (fun _ _ _ h => by cases h.1) (Or.inl ⟨by rfl, fun W hSw => by (try dsimp only at hSw); go_simp⟩) k2 ?_
        try simp only [Act.put, List.setIfInBounds_toArray, List.set_cons_zero, List.set_cons_succ]
        refine wpAnyH_take (i := 8) (oi := { dst := some 84, op := Go.Op.extract (Go.Operand.tmp 76) 2, type := 3, pos := "outright.go:199", after := #[{ on := 5, ground := Go.Ground.data }, { on := 11, ground := Go.Ground.gcOnly Go.Departure.lateStores }], guard := none }) (v := .int .i64 0) rfl (by kernel_rfl) (by kernel_rfl) (by kernel_rfl) (fun _ _ _ h => by cases h.1) (Or.inl ⟨by rfl, fun W hSw => by (try dsimp only at hSw); go_simp⟩) k2 ?_
        try simp only [Act.put, List.setIfInBounds_toArray, List.set_cons_zero, List.set_cons_succ]
        refine wpAnyH_ready (rs := [9]) (by kernel_rfl) (by simp) ?_
        refine AllReadyH.cons (o := { dst := some 13, op := Go.Op.alloc 28, type := 0, pos := "outright.go:199", after := #[], guard := none }) rfl (fun K hK => ?_) AllReadyH.nil
        go_simp
        obtain ⟨Y3, hY3⟩ : ∃ y, y = Y2.alloc (.cells #[.int .u32 0, .int .u32 0, .int .u32 0, .int .u32 0, .int .u32 0, .int .u32 0, .int .u32 0, .int .u32 0, .int .u32 0, .int .u32 0, .int .u32 0, .int .u32 0, .int .u32 0, .int .u32 0, .int .u32 0, .int .u32 0] 28) := ⟨_, rfl⟩
        obtain ⟨B13, hB13⟩ : ∃ b, b = Y2.heap.size := ⟨_, rfl⟩
        have hb : Below Y2.heap.size Y2 Y3 := by rw [hY3]; exact below_new _ _
        have G3 : Hid (Bx Y3 B13 28 #[.int .u32 0, .int .u32 0, .int .u32 0, .int .u32 0, .int .u32 0, .int .u32 0, .int .u32 0, .int .u32 0, .int .u32 0, .int .u32 0, .int .u32 0, .int .u32 0, .int .u32 0, .int .u32 0, .int .u32 0, .int .u32 0]) := Lib.hid (by rw [hY3, hB13]; exact Bx.new Y2 _ _)
        have HW13 : Hid (x12c.heap.size ≤ B13) := Lib.hid (by rw [hB13]; exact k2.size)
        rw [← hY3, ← hB13]
        have T3 := Lib.hid (T2.out.below hb)
        have R3 := Lib.hid (R2.out.below hb)
        have KK3 : Hid (Kp x12c Y3 [g, S4 + 1]) := Lib.hid (k2.trans (Kp.bel hb))
        clear hb hY3 hB13
        refine hK.out _ _ KK3.out (fun k3 => ?_)
        clear hK K
        try simp only [List.setIfInBounds_toArray, List.set_cons_zero, List.set_cons_succ]
        refine wpAnyH_ready (rs := [10]) (by kernel_rfl) (by simp) ?_
        refine AllReadyH.cons (o := { dst := none, op := Go.Op.store 28 (Go.Operand.tmp 13) (Go.Operand.tmp 82), type := 0, pos := "outright.go:199", after := #[{ on := 9, ground := Go.Ground.data }, { on := 6, ground := Go.Ground.data }, { on := 4, ground := Go.Ground.chain }, { on := 0, ground := Go.Ground.phase }, { on := 1, ground := Go.Ground.phase }, { on := 2, ground := Go.Ground.phase }, { on := 3, ground := Go.Ground.phase }, { on := 4, ground := Go.Ground.phase }, { on := 5, ground := Go.Ground.phase }, { on := 6, ground := Go.Ground.phase }, { on := 7, ground := Go.Ground.textOnly Go.Departure.lateStores }, { on := 8, ground := Go.Ground.textOnly Go.Departure.lateStores }, { on := 9, ground := Go.Ground.phase }], guard := none }) rfl (fun K hK => ?_) AllReadyH.nil
        rw [if_pos (by rfl)]
        refine op_store _ _ _ rfl _ rfl _ rfl (HSR.out _ _ _ G3.out rfl) ?_
        obtain ⟨Y4, hY4⟩ : ∃ y, y = Y3.setRow B13 (regA (regL [(1, 2868904637), (2, 3452816645), (14, 700), (15, 1000)])) := ⟨_, rfl⟩
        rw [← hY4]
        have T4 := Lib.hid (show Sto Y4 _ _ _ _ _ _ _ by rw [hY4]; exact sto_st T3.out G3.out (by decide) (by decide) (by decide))
        have R4 := Lib.hid (show Bx Y4 _ _ _ by rw [hY4]; exact bx_row2 R3.out (Row.ne R3.out.row G3.out.row (by decide)) _)
        have G4 : Hid (Bx Y4 B13 28 #[.int .u32 0, .int .u32 2868904637, .int .u32 3452816645, .int .u32 0, .int .u32 0, .int .u32 0, .int .u32 0, .int .u32 0, .int .u32 0, .int .u32 0, .int .u32 0, .int .u32 0, .int .u32 0, .int .u32 0, .int .u32 700, .int .u32 1000]) := Lib.hid (by rw [hY4]; exact bx_row3 G3.out _)
        have KK4 : Hid (Kp x12c Y4 [g, S4 + 1]) := Lib.hid (by rw [hY4]; exact kp_row k3 HW13.out _)
        clear hY4
        refine hK.out _ _ KK4.out (fun k4 => ?_)
        clear hK K
        try simp only [List.setIfInBounds_toArray, List.set_cons_zero, List.set_cons_succ]
        refine wpAnyH_ready (rs := [11]) (by kernel_rfl) (by simp) ?_
        refine AllReadyH.cons (o := { dst := none, op := Go.Op.store 30 (Go.Operand.tmp 5) (Go.Operand.tmp 83), type := 0, pos := "outright.go:199", after := #[{ on := 7, ground := Go.Ground.data }, { on := 10, ground := Go.Ground.chain }, { on := 0, ground := Go.Ground.phase }, { on := 1, ground := Go.Ground.phase }, { on := 2, ground := Go.Ground.phase }, { on := 3, ground := Go.Ground.phase }, { on := 4, ground := Go.Ground.phase }, { on := 5, ground := Go.Ground.phase }, { on := 6, ground := Go.Ground.phase }, { on := 7, ground := Go.Ground.phase }, { on := 8, ground := Go.Ground.textOnly Go.Departure.lateStores }, { on := 9, ground := Go.Ground.phase }, { on := 10, ground := Go.Ground.phase }], guard := none }) rfl (fun K hK => ?_) AllReadyH.nil
        rw [if_pos (by rfl)]
        refine op_store _ _ _ rfl _ rfl _ rfl (HSP.out _ _ _ R4.out rfl) ?_
        obtain ⟨Y5, hY5⟩ : ∃ y, y = Y4.setRow (S4 + 1) (pswA ⟨0, 0, false, false, false, 0, 0, 1, 0, 0⟩) := ⟨_, rfl⟩
        rw [← hY5]
        have T5 := Lib.hid (show Sto Y5 _ _ _ _ _ _ _ by rw [hY5]; exact sto_st T4.out R4.out (by decide) (by decide) (by decide))
        have G5 := Lib.hid (show Bx Y5 _ _ _ by rw [hY5]; exact bx_row2 G4.out (Row.ne G4.out.row R4.out.row (by decide)) _)
        have R5 : Hid (Bx Y5 (S4 + 1) 30 #[.int .i64 0, .int .i64 0, .bool false, .bool false, .bool false, .int .i64 0, .int .i64 0, .int .i64 1, .int .i64 0, .int .i64 0]) := Lib.hid (by rw [hY5]; exact bx_row3 R4.out _)
        have KK5 : Hid (Kp x12c Y5 [g, S4 + 1]) := Lib.hid (by rw [hY5]; exact kp_rowIn k4 (by simp) _)
        clear hY5
        refine hK.out _ _ KK5.out (fun k5 => ?_)
        clear hK K
        try simp only [List.setIfInBounds_toArray, List.set_cons_zero, List.set_cons_succ]
        refine wpAnyH_take (i := 12) (oi := { dst := some 12, op := Go.Op.assign (Go.Operand.tmp 84), type := 3, pos := "outright.go:199", after := #[{ on := 8, ground := Go.Ground.data }, { on := 11, ground := Go.Ground.chain }, { on := 0, ground := Go.Ground.phase }, { on := 1, ground := Go.Ground.phase }, { on := 2, ground := Go.Ground.phase }, { on := 3, ground := Go.Ground.phase }, { on := 4, ground := Go.Ground.phase }, { on := 5, ground := Go.Ground.phase }, { on := 6, ground := Go.Ground.phase }, { on := 7, ground := Go.Ground.phase }, { on := 8, ground := Go.Ground.phase }, { on := 9, ground := Go.Ground.phase }, { on := 10, ground := Go.Ground.phase }, { on := 11, ground := Go.Ground.phase }], guard := none }) (v := .int .i64 0) rfl (by kernel_rfl) (by kernel_rfl) (by kernel_rfl) (fun _ _ _ h => by cases h.1) (Or.inl ⟨by rfl, fun W hSw => by (try dsimp only at hSw); go_simp⟩) k5 ?_
        try simp only [Act.put, List.setIfInBounds_toArray, List.set_cons_zero, List.set_cons_succ]
        refine wpAnyH_done (by kernel_rfl) ?_ _
        refine id ?_
        exact ⟨rfl, B13, ckb_mk rfl, k5, T5.out, R5.out, G5.out, HW13.out⟩
      · go_simp
        obtain ⟨Y2, hY2⟩ : ∃ y, y = Y1.alloc (.cells #[.int .u32 0, .int .u32 0, .int .u32 0, .int .u32 0, .int .u32 0, .int .u32 0, .int .u32 0, .int .u32 0, .int .u32 0, .int .u32 0, .int .u32 0, .int .u32 0, .int .u32 0, .int .u32 0, .int .u32 0, .int .u32 0] 28) := ⟨_, rfl⟩
        obtain ⟨B13, hB13⟩ : ∃ b, b = Y1.heap.size := ⟨_, rfl⟩
        have hb : Below Y1.heap.size Y1 Y2 := by rw [hY2]; exact below_new _ _
        have G2 : Hid (Bx Y2 B13 28 #[.int .u32 0, .int .u32 0, .int .u32 0, .int .u32 0, .int .u32 0, .int .u32 0, .int .u32 0, .int .u32 0, .int .u32 0, .int .u32 0, .int .u32 0, .int .u32 0, .int .u32 0, .int .u32 0, .int .u32 0, .int .u32 0]) := Lib.hid (by rw [hY2, hB13]; exact Bx.new Y1 _ _)
        have HW13 : Hid (x12c.heap.size ≤ B13) := Lib.hid (by rw [hB13]; exact k1.size)
        rw [← hY2, ← hB13]
        have T2 := Lib.hid (T1.out.below hb)
        have R2 := Lib.hid (R1.out.below hb)
        have KK2 : Hid (Kp x12c Y2 [g, S4 + 1]) := Lib.hid (k1.trans (Kp.bel hb))
        clear hb hY2 hB13
        refine hK.out _ _ KK2.out (fun k2 => ?_)
        clear hK K
        try simp only [List.setIfInBounds_toArray, List.set_cons_zero, List.set_cons_succ]
        refine wpAnyH_ready (rs := [4]) (by kernel_rfl) (by simp) ?_
        refine AllReadyH.cons (o := { dst := some 81, op := Go.Op.call { callee := Go.Callee.value (Go.Operand.func 17), args := #[Go.Operand.tmp 77, Go.Operand.tmp 78, Go.Operand.tmp 79, Go.Operand.tmp 80], argTypes := #[25, 28, 30, 37] }, type := 41, pos := "outright.go:199", after := #[{ on := 0, ground := Go.Ground.data }, { on := 1, ground := Go.Ground.data }, { on := 2, ground := Go.Ground.data }, { on := 3, ground := Go.Ground.data }, { on := 0, ground := Go.Ground.chain }], guard := none }) rfl (fun K hK => ?_) AllReadyH.nil
        go_simp
        go_at_call 17
        refine (kn_b4 A g h 1 Y2 T2.out).mono ?_
        rintro e Y3 ⟨rfl, hs, hk⟩
        have T3 := Lib.hid hs
        have R3 := Lib.hid (R2.out.kp hk (by simpa using Row.ne R2.out.row T2.out.2.1 (by decide)))
        have G3 := Lib.hid (G2.out.kp hk (by simpa using Row.ne G2.out.row T2.out.2.1 (by decide)))
        have KK3 : Hid (Kp x12c Y3 [g, S4 + 1]) := Lib.hid (k2.trans (Kp.more hk))
        clear hs hk
        go_wp2_with fail
        refine hK.out _ _ KK3.out (fun k3 => ?_)
        clear hK K
        try simp only [List.setIfInBounds_toArray, List.set_cons_zero, List.set_cons_succ]
        refine wpAnyH_take (i := 5) (oi := { dst := some 76, op := Go.Op.move (Go.Operand.tmp 81), type := 41, pos := "outright.go:199", after := #[{ on := 4, ground := Go.Ground.data }], guard := none }) (v := .tuple #[.agg #[.int .u32 0, .int .u32 2868904637, .int .u32 3452816645, .int .u32 0, .int .u32 0, .int .u32 0, .int .u32 0, .int .u32 0, .int .u32 0, .int .u32 0, .int .u32 0, .int .u32 0, .int .u32 0, .int .u32 0, .int .u32 700, .int .u32 1000], .agg #[.int .i64 0, .int .i64 0, .bool false, .bool false, .bool false, .int .i64 0, .int .i64 0, .int .i64 1, .int .i64 0, .int .i64 0], .int .i64 0]) rfl (by kernel_rfl) (by kernel_rfl) (by kernel_rfl) (fun _ _ _ h => by cases h.1) (Or.inl ⟨by rfl, fun W hSw => by (try dsimp only at hSw); go_simp⟩) k3 ?_
        try simp only [Act.put, List.setIfInBounds_toArray, List.set_cons_zero, List.set_cons_succ]
        refine wpAnyH_take (i := 6) (oi := { dst := some 82, op := Go.Op.extract (Go.Operand.tmp 76) 0, type := 28, pos := "outright.go:199", after := #[{ on := 5, ground := Go.Ground.data }], guard := none }) (v := .agg #[.int .u32 0, .int .u32 2868904637, .int .u32 3452816645, .int .u32 0, .int .u32 0, .int .u32 0, .int .u32 0, .int .u32 0, .int .u32 0, .int .u32 0, .int .u32 0, .int .u32 0, .int .u32 0, .int .u32 0, .int .u32 700, .int .u32 1000]) rfl (by kernel_rfl) (by kernel_rfl) (by kernel_rfl) (fun _ _ _ h => by cases h.1) (Or.inl ⟨by rfl, fun W hSw => by (try dsimp only at hSw); go_simp⟩) k3 ?_
        try simp only [Act.put, List.setIfInBounds_toArray, List.set_cons_zero, List.set_cons_succ]
        refine wpAnyH_take (i := 7) (oi := { dst := some 83, op := Go.Op.extract (Go.Operand.tmp 76) 1, type := 30, pos := "outright.go:199", after := #[{ on := 5, ground := Go.Ground.data }, { on := 10, ground := Go.Ground.gcOnly Go.Departure.lateStores }], guard := none }) (v := .agg #[.int .i64 0, .int .i64 0, .bool false, .bool false, .bool false, .int .i64 0, .int .i64 0, .int .i64 1, .int .i64 0, .int .i64 0]) rfl (by kernel_rfl) (by kernel_rfl) (by kernel_rfl) (fun _ _ _ h => by cases h.1) (Or.inl ⟨by rfl, fun W hSw => by (try dsimp only at hSw); go_simp⟩) k3 ?_
        try simp only [Act.put, List.setIfInBounds_toArray, List.set_cons_zero, List.set_cons_succ]
        refine wpAnyH_take (i := 8) (oi := { dst := some 84, op := Go.Op.extract (Go.Operand.tmp 76) 2, type := 3, pos := "outright.go:199", after := #[{ on := 5, ground := Go.Ground.data }, { on := 11, ground := Go.Ground.gcOnly Go.Departure.lateStores }], guard := none }) (v := .int .i64 0) rfl (by kernel_rfl) (by kernel_rfl) (by kernel_rfl) (fun _ _ _ h => by cases h.1) (Or.inl ⟨by rfl, fun W hSw => by (try dsimp only at hSw); go_simp⟩) k3 ?_
        try simp only [Act.put, List.setIfInBounds_toArray, List.set_cons_zero, List.set_cons_succ]
        refine wpAnyH_ready (rs := [10]) (by kernel_rfl) (by simp) ?_
        refine AllReadyH.cons (o := { dst := none, op := Go.Op.store 28 (Go.Operand.tmp 13) (Go.Operand.tmp 82), type := 0, pos := "outright.go:199", after := #[{ on := 9, ground := Go.Ground.data }, { on := 6, ground := Go.Ground.data }, { on := 4, ground := Go.Ground.chain }, { on := 0, ground := Go.Ground.phase }, { on := 1, ground := Go.Ground.phase }, { on := 2, ground := Go.Ground.phase }, { on := 3, ground := Go.Ground.phase }, { on := 4, ground := Go.Ground.phase }, { on := 5, ground := Go.Ground.phase }, { on := 6, ground := Go.Ground.phase }, { on := 7, ground := Go.Ground.textOnly Go.Departure.lateStores }, { on := 8, ground := Go.Ground.textOnly Go.Departure.lateStores }, { on := 9, ground := Go.Ground.phase }], guard := none }) rfl (fun K hK => ?_) AllReadyH.nil
        rw [if_pos (by rfl)]
        refine op_store _ _ _ rfl _ rfl _ rfl (HSR.out _ _ _ G3.out rfl) ?_
        obtain ⟨Y4, hY4⟩ : ∃ y, y = Y3.setRow B13 (regA (regL [(1, 2868904637), (2, 3452816645), (14, 700), (15, 1000)])) := ⟨_, rfl⟩
        rw [← hY4]
        have T4 := Lib.hid (show Sto Y4 _ _ _ _ _ _ _ by rw [hY4]; exact sto_st T3.out G3.out (by decide) (by decide) (by decide))
        have R4 := Lib.hid (show Bx Y4 _ _ _ by rw [hY4]; exact bx_row2 R3.out (Row.ne R3.out.row G3.out.row (by decide)) _)
        have G4 : Hid (Bx Y4 B13 28 #[.int .u32 0, .int .u32 2868904637, .int .u32 3452816645, .int .u32 0, .int .u32 0, .int .u32 0, .int .u32 0, .int .u32 0, .int .u32 0, .int .u32 0, .int .u32 0, .int .u32 0, .int .u32 0, .int .u32 0, .int .u32 700, .int .u32 1000]) := Lib.hid (by rw [hY4]; exact bx_row3 G3.out _)
        have KK4 : Hid (Kp x12c Y4 [g, S4 + 1]) := Lib.hid (by rw [hY4]; exact kp_row k3 HW13.out _)
        clear hY4
        refine hK.out _ _ KK4.out (fun k4 => ?_)
        clear hK K
        try simp only [List.setIfInBounds_toArray, List.set_cons_zero, List.set_cons_succ]
        refine wpAnyH_ready (rs := [11]) (by kernel_rfl) (by simp) ?_
        refine AllReadyH.cons (o := { dst := none, op := Go.Op.store 30 (Go.Operand.tmp 5) (Go.Operand.tmp 83), type := 0, pos := "outright.go:199", after := #[{ on := 7, ground := Go.Ground.data }, { on := 10, ground := Go.Ground.chain }, { on := 0, ground := Go.Ground.phase }, { on := 1, ground := Go.Ground.phase }, { on := 2, ground := Go.Ground.phase }, { on := 3, ground := Go.Ground.phase }, { on := 4, ground := Go.Ground.phase }, { on := 5, ground := Go.Ground.phase }, { on := 6, ground := Go.Ground.phase }, { on := 7, ground := Go.Ground.phase }, { on := 8, ground := Go.Ground.textOnly Go.Departure.lateStores }, { on := 9, ground := Go.Ground.phase }, { on := 10, ground := Go.Ground.phase }], guard := none }) rfl (fun K hK => ?_) AllReadyH.nil
        rw [if_pos (by rfl)]
        refine op_store _ _ _ rfl _ rfl _ rfl (HSP.out _ _ _ R4.out rfl) ?_
        obtain ⟨Y5, hY5⟩ : ∃ y, y = Y4.setRow (S4 + 1) (pswA ⟨0, 0, false, false, false, 0, 0, 1, 0, 0⟩) := ⟨_, rfl⟩
        rw [← hY5]
        have T5 := Lib.hid (show Sto Y5 _ _ _ _ _ _ _ by rw [hY5]; exact sto_st T4.out R4.out (by decide) (by decide) (by decide))
        have G5 := Lib.hid (show Bx Y5 _ _ _ by rw [hY5]; exact bx_row2 G4.out (Row.ne G4.out.row R4.out.row (by decide)) _)
        have R5 : Hid (Bx Y5 (S4 + 1) 30 #[.int .i64 0, .int .i64 0, .bool false, .bool false, .bool false, .int .i64 0, .int .i64 0, .int .i64 1, .int .i64 0, .int .i64 0]) := Lib.hid (by rw [hY5]; exact bx_row3 R4.out _)
        have KK5 : Hid (Kp x12c Y5 [g, S4 + 1]) := Lib.hid (by rw [hY5]; exact kp_rowIn k4 (by simp) _)
        clear hY5
        refine hK.out _ _ KK5.out (fun k5 => ?_)
        clear hK K
        try simp only [List.setIfInBounds_toArray, List.set_cons_zero, List.set_cons_succ]
        refine wpAnyH_take (i := 12) (oi := { dst := some 12, op := Go.Op.assign (Go.Operand.tmp 84), type := 3, pos := "outright.go:199", after := #[{ on := 8, ground := Go.Ground.data }, { on := 11, ground := Go.Ground.chain }, { on := 0, ground := Go.Ground.phase }, { on := 1, ground := Go.Ground.phase }, { on := 2, ground := Go.Ground.phase }, { on := 3, ground := Go.Ground.phase }, { on := 4, ground := Go.Ground.phase }, { on := 5, ground := Go.Ground.phase }, { on := 6, ground := Go.Ground.phase }, { on := 7, ground := Go.Ground.phase }, { on := 8, ground := Go.Ground.phase }, { on := 9, ground := Go.Ground.phase }, { on := 10, ground := Go.Ground.phase }, { on := 11, ground := Go.Ground.phase }], guard := none }) (v := .int .i64 0) rfl (by kernel_rfl) (by kernel_rfl) (by kernel_rfl) (fun _ _ _ h => by cases h.1) (Or.inl ⟨by rfl, fun W hSw => by (try dsimp only at hSw); go_simp⟩) k5 ?_
        try simp only [Act.put, List.setIfInBounds_toArray, List.set_cons_zero, List.set_cons_succ]
        refine wpAnyH_done (by kernel_rfl) ?_ _
        refine id ?_
        exact ⟨rfl, B13, ckb_mk rfl, k5, T5.out, R5.out, G5.out, HW13.out⟩
    · go_simp
      obtain ⟨Y1, hY1⟩ : ∃ y, y = Y0.alloc (.cells #[.int .u32 0, .int .u32 0, .int .u32 0, .int .u32 0, .int .u32 0, .int .u32 0, .int .u32 0, .int .u32 0, .int .u32 0, .int .u32 0, .int .u32 0, .int .u32 0, .int .u32 0, .int .u32 0, .int .u32 0, .int .u32 0] 28) := ⟨_, rfl⟩
      obtain ⟨B13, hB13⟩ : ∃ b, b = Y0.heap.size := ⟨_, rfl⟩
      have hb : Below Y0.heap.size Y0 Y1 := by rw [hY1]; exact below_new _ _
      have G1 : Hid (Bx Y1 B13 28 #[.int .u32 0, .int .u32 0, .int .u32 0, .int .u32 0, .int .u32 0, .int .u32 0, .int .u32 0, .int .u32 0, .int .u32 0, .int .u32 0, .int .u32 0, .int .u32 0, .int .u32 0, .int .u32 0, .int .u32 0, .int .u32 0]) := Lib.hid (by rw [hY1, hB13]; exact Bx.new Y0 _ _)
      have HW13 : Hid (x12c.heap.size ≤ B13) := Lib.hid (by rw [hB13]; exact k0.size)
      rw [← hY1, ← hB13]
      have T1 := Lib.hid (T00.out.below hb)
      have R1 := Lib.hid (R00.out.below hb)
      have KK1 : Hid (Kp x12c Y1 [g, S4 + 1]) := Lib.hid (k0.trans (Kp.bel hb))
      clear hb hY1 hB13
      refine hK.out _ _ KK1.out (fun k1 => ?_)
      clear hK K
      try simp only [List.setIfInBounds_toArray, List.set_cons_zero, List.set_cons_succ]
      refine wpAnyH_ready (rs := [0]) (by kernel_rfl) (by simp) ?_
      refine AllReadyH.cons (o := { dst := some 77, op := Go.Op.call { callee := Go.Callee.value (Go.Operand.func 27), args := #[Go.Operand.const (Go.Value.int Go.IntKind.i64 221), Go.Operand.const (Go.Value.int Go.IntKind.i64 3)], argTypes := #[3, 3] }, type := 25, pos := "outright.go:199", after := #[], guard := none }) rfl (fun K hK => ?_) AllReadyH.nil
      go_simp
      go_at_call 27
      refine (HSS2.out Y1).mono ?_
      rintro e Y2 ⟨rfl, hb⟩
      have T2 := Lib.hid (T1.out.below hb)
      have R2 := Lib.hid (R1.out.below hb)
      have G2 := Lib.hid (G1.out.below hb)
      have KK2 : Hid (Kp x12c Y2 [g, S4 + 1]) := Lib.hid (k1.trans (Kp.bel hb))
      clear hb
      go_wp2_with fail
      refine hK.out _ _ KK2.out (fun k2 => ?_)
      clear hK K
      try simp only [List.setIfInBounds_toArray, List.set_cons_zero]
      refine wpAnyH_ready (rs := [4]) (by kernel_rfl) (by simp) ?_
      refine AllReadyH.cons (o := { dst := some 81, op := Go.Op.call { callee := Go.Callee.value (Go.Operand.func 17), args := #[Go.Operand.tmp 77, Go.Operand.tmp 78, Go.Operand.tmp 79, Go.Operand.tmp 80], argTypes := #[25, 28, 30, 37] }, type := 41, pos := "outright.go:199", after := #[{ on := 0, ground := Go.Ground.data }, { on := 1, ground := Go.Ground.data }, { on := 2, ground := Go.Ground.data }, { on := 3, ground := Go.Ground.data }, { on := 0, ground := Go.Ground.chain }], guard := none }) rfl (fun K hK => ?_) AllReadyH.nil
      go_simp
      go_at_call 17
      refine (kn_b4 A g h 1 Y2 T2.out).mono ?_
      rintro e Y3 ⟨rfl, hs, hk⟩
      have T3 := Lib.hid hs
      have R3 := Lib.hid (R2.out.kp hk (by simpa using Row.ne R2.out.row T2.out.2.1 (by decide)))
      have G3 := Lib.hid (G2.out.kp hk (by simpa using Row.ne G2.out.row T2.out.2.1 (by decide)))
      have KK3 : Hid (Kp x12c Y3 [g, S4 + 1]) := Lib.hid (k2.trans (Kp.more hk))
      clear hs hk
      go_wp2_with fail
      refine hK.out _ _ KK3.out (fun k3 => ?_)
      clear hK K
      try simp only [List.setIfInBounds_toArray, List.set_cons_zero, List.set_cons_succ]
      refine wpAnyH_take (i := 5) (oi := { dst := some 76, op := Go.Op.move (Go.Operand.tmp 81), type := 41, pos := "outright.go:199", after := #[{ on := 4, ground := Go.Ground.data }], guard := none }) (v := .tuple #[.agg #[.int .u32 0, .int .u32 2868904637, .int .u32 3452816645, .int .u32 0, .int .u32 0, .int .u32 0, .int .u32 0, .int .u32 0, .int .u32 0, .int .u32 0, .int .u32 0, .int .u32 0, .int .u32 0, .int .u32 0, .int .u32 700, .int .u32 1000], .agg #[.int .i64 0, .int .i64 0, .bool false, .bool false, .bool false, .int .i64 0, .int .i64 0, .int .i64 1, .int .i64 0, .int .i64 0], .int .i64 0]) rfl (by kernel_rfl) (by kernel_rfl) (by kernel_rfl) (fun _ _ _ h => by cases h.1) (Or.inl ⟨by rfl, fun W hSw => by (try dsimp only at hSw); go_simp⟩) k3 ?_
      try simp only [Act.put, List.setIfInBounds_toArray, List.set_cons_zero, List.set_cons_succ]
      refine wpAnyH_take (i := 6) (oi := { dst := some 82, op := Go.Op.extract (Go.Operand.tmp 76) 0, type := 28, pos := "outright.go:199", after := #[{ on := 5, ground := Go.Ground.data }], guard := none }) (v := .agg #[.int .u32 0, .int .u32 2868904637, .int .u32 3452816645, .int .u32 0, .int .u32 0, .int .u32 0, .int .u32 0, .int .u32 0, .int .u32 0, .int .u32 0, .int .u32 0, .int .u32 0, .int .u32 0, .int .u32 0, .int .u32 700, .int .u32 1000]) rfl (by kernel_rfl) (by kernel_rfl) (by kernel_rfl) (fun _ _ _ h => by cases h.1) (Or.inl ⟨by rfl, fun W hSw => by (try dsimp only at hSw); go_simp⟩) k3 ?_
      try simp only [Act.put, List.setIfInBounds_toArray, List.set_cons_zero, List.set_cons_succ]
      refine wpAnyH_take (i := 7) (oi := { dst := some 83, op := Go.Op.extract (Go.Operand.tmp 76) 1, type := 30, pos := "outright.go:199", after := #[{ on := 5, ground := Go.Ground.data }, { on := 10, ground := Go.Ground.gcOnly Go.Departure.lateStores }], guard := none }) (v := .agg #[.int .i64 0, .int .i64 0, .bool false, .bool false, .bool false, .int .i64 0, .int .i64 0, .int .i64 1, .int .i64 0, .int .i64 0]) rfl (by kernel_rfl) (by kernel_rfl) (by kernel_rfl) (fun _ _ _ h => by cases h.1) (Or.inl ⟨by rfl, fun W hSw => by (try dsimp only at hSw); go_simp⟩) k3 ?_
      try simp only [Act.put, List.setIfInBounds_toArray, List.set_cons_zero, List.set_cons_succ]
      refine wpAnyH_take (i := 8) (oi := { dst := some 84, op := Go.Op.extract (Go.Operand.tmp 76) 2, type := 3, pos := "outright.go:199", after := #[{ on := 5, ground := Go.Ground.data }, { on := 11, ground := Go.Ground.gcOnly Go.Departure.lateStores }], guard := none }) (v := .int .i64 0) rfl (by kernel_rfl) (by kernel_rfl) (by kernel_rfl) (fun _ _ _ h => by cases h.1) (Or.inl ⟨by rfl, fun W hSw => by (try dsimp only at hSw); go_simp⟩) k3 ?_
      try simp only [Act.put, List.setIfInBounds_toArray, List.set_cons_zero, List.set_cons_succ]
      refine wpAnyH_ready (rs := [10]) (by kernel_rfl) (by simp) ?_
      refine AllReadyH.cons (o := { dst := none, op := Go.Op.store 28 (Go.Operand.tmp 13) (Go.Operand.tmp 82), type := 0, pos := "outright.go:199", after := #[{ on := 9, ground := Go.Ground.data }, { on := 6, ground := Go.Ground.data }, { on := 4, ground := Go.Ground.chain }, { on := 0, ground := Go.Ground.phase }, { on := 1, ground := Go.Ground.phase }, { on := 2, ground := Go.Ground.phase }, { on := 3, ground := Go.Ground.phase }, { on := 4, ground := Go.Ground.phase }, { on := 5, ground := Go.Ground.phase }, { on := 6, ground := Go.Ground.phase }, { on := 7, ground := Go.Ground.textOnly Go.Departure.lateStores }, { on := 8, ground := Go.Ground.textOnly Go.Departure.lateStores }, { on := 9, ground := Go.Ground.phase }], guard := none }) rfl (fun K hK => ?_) AllReadyH.nil
      rw [if_pos (by rfl)]
      refine op_store _ _ _ rfl _ rfl _ rfl (HSR.out _ _ _ G3.out rfl) ?_
      obtain ⟨Y4, hY4⟩ : ∃ y, y = Y3.setRow B13 (regA (regL [(1, 2868904637), (2, 3452816645), (14, 700), (15, 1000)])) := ⟨_, rfl⟩
      rw [← hY4]
      have T4 := Lib.hid (show Sto Y4 _ _ _ _ _ _ _ by rw [hY4]; exact sto_st T3.out G3.out (by decide) (by decide) (by decide))
      have R4 := Lib.hid (show Bx Y4 _ _ _ by rw [hY4]; exact bx_row2 R3.out (Row.ne R3.out.row G3.out.row (by decide)) _)
      have G4 : Hid (Bx Y4 B13 28 #[.int .u32 0, .int .u32 2868904637, .int .u32 3452816645, .int .u32 0, .int .u32 0, .int .u32 0, .int .u32 0, .int .u32 0, .int .u32 0, .int .u32 0, .int .u32 0, .int .u32 0, .int .u32 0, .int .u32 0, .int .u32 700, .int .u32 1000]) := Lib.hid (by rw [hY4]; exact bx_row3 G3.out _)
      have KK4 : Hid (Kp x12c Y4 [g, S4 + 1]) := Lib.hid (by rw [hY4]; exact kp_row k3 HW13.out _)
      clear hY4
      refine hK.out _ _ KK4.out (fun k4 => ?_)
      clear hK K
      try simp only [List.setIfInBounds_toArray, List.set_cons_zero, List.set_cons_succ]
      refine wpAnyH_ready (rs := [11]) (by kernel_rfl) (by simp) ?_
      refine AllReadyH.cons (o := { dst := none, op := Go.Op.store 30 (Go.Operand.tmp 5) (Go.Operand.tmp 83), type := 0, pos := "outright.go:199", after := #[{ on := 7, ground := Go.Ground.data }, { on := 10, ground := Go.Ground.chain }, { on := 0, ground := Go.Ground.phase }, { on := 1, ground := Go.Ground.phase }, { on := 2, ground := Go.Ground.phase }, { on := 3, ground := Go.Ground.phase }, { on := 4, ground := Go.Ground.phase }, { on := 5, ground := Go.Ground.phase }, { on := 6, ground := Go.Ground.phase }, { on := 7, ground := Go.Ground.phase }, { on := 8, ground := Go.Ground.textOnly Go.Departure.lateStores }, { on := 9, ground := Go.Ground.phase }, { on := 10, ground := Go.Ground.phase }], guard := none }) rfl (fun K hK => ?_) AllReadyH.nil
      rw [if_pos (by rfl)]
      refine op_store _ _ _ rfl _ rfl _ rfl (HSP.out _ _ _ R4.out rfl) ?_
      obtain ⟨Y5, hY5⟩ : ∃ y, y = Y4.setRow (S4 + 1) (pswA ⟨0, 0, false, false, false, 0, 0, 1, 0, 0⟩) := ⟨_, rfl⟩
      rw [← hY5]
      have T5 := Lib.hid (show Sto Y5 _ _ _ _ _ _ _ by rw [hY5]; exact sto_st T4.out R4.out (by decide) (by decide) (by decide))
      have G5 := Lib.hid (show Bx Y5 _ _ _ by rw [hY5]; exact bx_row2 G4.out (Row.ne G4.out.row R4.out.row (by decide)) _)
      have R5 : Hid (Bx Y5 (S4 + 1) 30 #[.int .i64 0, .int .i64 0, .bool false, .bool false, .bool false, .int .i64 0, .int .i64 0, .int .i64 1, .int .i64 0, .int .i64 0]) := Lib.hid (by rw [hY5]; exact bx_row3 R4.out _)
      have KK5 : Hid (Kp x12c Y5 [g, S4 + 1]) := Lib.hid (by rw [hY5]; exact kp_rowIn k4 (by simp) _)
      clear hY5
      refine hK.out _ _ KK5.out (fun k5 => ?_)
      clear hK K
      try simp only [List.setIfInBounds_toArray, List.set_cons_zero, List.set_cons_succ]
      refine wpAnyH_take (i := 12) (oi := { dst := some 12, op := Go.Op.assign (Go.Operand.tmp 84), type := 3, pos := "outright.go:199", after := #[{ on := 8, ground := Go.Ground.data }, { on := 11, ground := Go.Ground.chain }, { on := 0, ground := Go.Ground.phase }, { on := 1, ground := Go.Ground.phase }, { on := 2, ground := Go.Ground.phase }, { on := 3, ground := Go.Ground.phase }, { on := 4, ground := Go.Ground.phase }, { on := 5, ground := Go.Ground.phase }, { on := 6, ground := Go.Ground.phase }, { on := 7, ground := Go.Ground.phase }, { on := 8, ground := Go.Ground.phase }, { on := 9, ground := Go.Ground.phase }, { on := 10, ground := Go.Ground.phase }, { on := 11, ground := Go.Ground.phase }], guard := none }) (v := .int .i64 0) rfl (by kernel_rfl) (by kernel_rfl) (by kernel_rfl) (fun _ _ _ h => by cases h.1) (Or.inl ⟨by rfl, fun W hSw => by (try dsimp only at hSw); go_simp⟩) k5 ?_
      try simp only [Act.put, List.setIfInBounds_toArray, List.set_cons_zero, List.set_cons_succ]
      refine wpAnyH_done (by kernel_rfl) ?_ _
      refine id ?_
      exact ⟨rfl, B13, ckb_mk rfl, k5, T5.out, R5.out, G5.out, HW13.out⟩
  rintro e a y9 ⟨rfl, B13, ⟨u, rfl⟩, hkp, hst, hr5, hr13, hw13⟩
  have HB9 := Lib.hid (kp_drop HB12k.out hkp HZ5.out.2)
  have HZ9 := Lib.hid (HZ12.out.kp hkp (by simpa using HZN.out))
  have HS9 := Lib.hid hst
  have H59 := Lib.hid hr5
  have H139 := Lib.hid hr13
  have H13W : Hid (w.heap.size ≤ B13) := Lib.hid (by have := HB12k.out.size; omega)
  clear hkp hst hr5 hr13 hw13 T0 R0 HSR HSP HZN HSS2 HS12 HB12k HZ12 H412 H512 H812
  have cH131 := H139.out.cell 1
  have cH132 := H139.out.cell 2
  simp only [List.getElem?_toArray, List.getElem?_cons_succ, List.getElem?_cons_zero] at cH131 cH132
  have tH13 := H139.out.lt
  have cH57 := H59.out.cell 7
  simp only [List.getElem?_toArray, List.getElem?_cons_succ, List.getElem?_cons_zero] at cH57
  have tH5 := H59.out.lt
  have LZ := Lib.hid (fun X (hX : Below y9.heap.size y9 X) => run_loadVar_row (P := Tryz.prog) X S1 _ 30 _ _ _ (HZ9.out.below hX) Tryz.underlying30 rfl (by kernel_rfl))
  go_wp2_with (refine wpList_valW (by rfl) (exec_load 30 _ rfl ⟨S1, 0, none⟩ rfl (LZ.out _ (Below.refl _ _))) ?_)
  clear LZ
  refine (kn_b5 A g h 1 y9 HS9.out).mono ?_
  rintro e x13c ⟨rfl, hs, hk⟩
  have HZ13 := Lib.hid (HZ9.out.kp hk (by simpa using Row.ne HZ9.out.row HS9.out.2.1 (by decide)))
  have H513 := Lib.hid (H59.out.kp hk (by simpa using Row.ne H59.out.row HS9.out.2.1 (by decide)))
  have H1313 := Lib.hid (H139.out.kp hk (by simpa using Row.ne H139.out.row HS9.out.2.1 (by decide)))
  clear HZ9
  clear H59
  clear H139
  have HS13 := Lib.hid hs
  have HB13k := Lib.hid (HB9.out.trans hk)
  clear hs hk HS9 HB9
  have HL1 : Hid ((storeVar 28 ⟨B13, 0, none⟩ (.agg #[.int .u32 0, .int .u32 0, .int .u32 2, .int .u32 0, .int .u32 1, .int .u32 2, .int .u32 0, .int .u32 0, .int .u32 0, .int .u32 0, .int .u32 0, .int .u32 0, .int .u32 0, .int .u32 0, .int .u32 0, .int .u32 0])).run Tryz.prog x13c = .ok () (x13c.setRow B13 (regA (regL [(2, 2), (4, 1), (5, 2)])))) := Lib.hid (store_regs H1313.out rfl (regL [(2, 2), (4, 1), (5, 2)]))
  have r51 : Bx (x13c.setRow B13 (regA (regL [(2, 2), (4, 1), (5, 2)]))) (S4 + 1) 30 #[.int .i64 0, .int .i64 0, .bool false, .bool false, .bool false, .int .i64 0, .int .i64 0, .int .i64 1, .int .i64 0, .int .i64 0] := bx_row2 H513.out (Row.ne H513.out.row H1313.out.row (by decide)) _
  have HL2 : Hid ((storeVar 30 ⟨S4 + 1, 0, none⟩ (.agg #[.int .i64 0, .int .i64 0, .bool false, .bool false, .bool false, .int .i64 0, .int .i64 0, .int .i64 0, .int .i64 0, .int .i64 64])).run Tryz.prog (x13c.setRow B13 (regA (regL [(2, 2), (4, 1), (5, 2)]))) = .ok () ((x13c.setRow B13 (regA (regL [(2, 2), (4, 1), (5, 2)]))).setRow (S4 + 1) (pswA ⟨0, 0, false, false, false, 0, 0, 0, 0, 64⟩))) := Lib.hid (store_psw r51 rfl ⟨0, 0, false, false, false, 0, 0, 0, 0, 64⟩)
  have rz : Bx ((x13c.setRow B13 (regA (regL [(2, 2), (4, 1), (5, 2)]))).setRow (S4 + 1) (pswA ⟨0, 0, false, false, false, 0, 0, 0, 0, 64⟩)) S1 30 #[.int .i64 0, .int .i64 0, .bool false, .bool false, .bool false, .int .i64 0, .int .i64 0, .int .i64 0, .int .i64 0, .int .i64 0] := bx_row2 (bx_row2 HZ13.out (Row.ne HZ13.out.row H1313.out.row (by decide)) _) HZ5.out.1 _
  have HL3 := Lib.hid (run_loadVar_row (P := Tryz.prog) ((x13c.setRow B13 (regA (regL [(2, 2), (4, 1), (5, 2)]))).setRow (S4 + 1) (pswA ⟨0, 0, false, false, false, 0, 0, 0, 0, 64⟩)) S1 _ 30 _ _ _ rz Tryz.underlying30 rfl (by kernel_rfl))
  have r13 : Bx ((x13c.setRow B13 (regA (regL [(2, 2), (4, 1), (5, 2)]))).setRow (S4 + 1) (pswA ⟨0, 0, false, false, false, 0, 0, 0, 0, 64⟩)) B13 28 #[.int .u32 0, .int .u32 0, .int .u32 2, .int .u32 0, .int .u32 1, .int .u32 2, .int .u32 0, .int .u32 0, .int .u32 0, .int .u32 0, .int .u32 0, .int .u32 0, .int .u32 0, .int .u32 0, .int .u32 0, .int .u32 0] := bx_row2 (show Bx (x13c.setRow B13 (regA (regL [(2, 2), (4, 1), (5, 2)]))) B13 28 #[.int .u32 0, .int .u32 0, .int .u32 2, .int .u32 0, .int .u32 1, .int .u32 2, .int .u32 0, .int .u32 0, .int .u32 0, .int .u32 0, .int .u32 0, .int .u32 0, .int .u32 0, .int .u32 0, .int .u32 0, .int .u32 0] from bx_row3 H1313.out _) (Row.ne H1313.out.row H513.out.row (by decide)) _
  have r52 : Bx ((x13c.setRow B13 (regA (regL [(2, 2), (4, 1), (5, 2)]))).setRow (S4 + 1) (pswA ⟨0, 0, false, false, false, 0, 0, 0, 0, 64⟩)) (S4 + 1) 30 #[.int .i64 0, .int .i64 0, .bool false, .bool false, .bool false, .int .i64 0, .int .i64 0, .int .i64 0, .int .i64 0, .int .i64 64] := bx_row3 r51 _
  have s2 : Sto ((x13c.setRow B13 (regA (regL [(2, 2), (4, 1), (5, 2)]))).setRow (S4 + 1) (pswA ⟨0, 0, false, false, false, 0, 0, 0, 0, 64⟩)) A g h 2048 1 kb6 (List.replicate 1 0) := sto_st (sto_st HS13.out H1313.out (by decide) (by decide) (by decide)) r51 (by decide) (by decide) (by decide)
  have k2 : Kp w ((x13c.setRow B13 (regA (regL [(2, 2), (4, 1), (5, 2)]))).setRow (S4 + 1) (pswA ⟨0, 0, false, false, false, 0, 0, 0, 0, 64⟩)) [g] := kp_row (kp_row HB13k.out H13W.out _) HZ5.out.2 _
  have HQ := Lib.hid (And.intro rz (And.intro r13 (And.intro r52 (And.intro s2 k2))))
  clear r51 rz r13 r52 s2 k2
  go_wp2_with (first | (refine wpList_skp rfl (exec_stk 28 _ _ rfl ⟨B13, 0, none⟩ rfl _ rfl HL1.out) ?_) | (refine wpList_skp rfl (exec_stk 30 _ _ rfl ⟨S4 + 1, 0, none⟩ rfl _ rfl HL2.out) ?_) | (refine wpList_valW (by rfl) (exec_load 30 _ rfl ⟨S1, 0, none⟩ rfl HL3.out) ?_))
  obtain ⟨zz, hzz⟩ : ∃ y, y = (x13c.setRow B13 (regA (regL [(2, 2), (4, 1), (5, 2)]))).setRow (S4 + 1) (pswA ⟨0, 0, false, false, false, 0, 0, 0, 0, 64⟩) := ⟨_, rfl⟩
  have HZq := Lib.hid (show Bx zz _ _ _ by rw [hzz]; exact HQ.out.1)
  have H13q := Lib.hid (show Bx zz _ _ _ by rw [hzz]; exact HQ.out.2.1)
  have H5q := Lib.hid (show Bx zz _ _ _ by rw [hzz]; exact HQ.out.2.2.1)
  have HSq := Lib.hid (show Sto zz _ _ _ _ _ _ _ by rw [hzz]; exact HQ.out.2.2.2.1)
  have HBq := Lib.hid (show Kp w zz [g] by rw [hzz]; exact HQ.out.2.2.2.2)
  rw [← hzz]
  clear hzz HQ HL1 HL2 HL3 HS13 HB13k HZ13 H513 H1313
  refine (kn_b6 A g h 1 zz HSq.out).mono ?_
  rintro e x14c ⟨rfl, hs, hk⟩
  have HZ14 := Lib.hid (HZq.out.kp hk (by simpa using Row.ne HZq.out.row HSq.out.2.1 (by decide)))
  have H514 := Lib.hid (H5q.out.kp hk (by simpa using Row.ne H5q.out.row HSq.out.2.1 (by decide)))
  have H1314 := Lib.hid (H13q.out.kp hk (by simpa using Row.ne H13q.out.row HSq.out.2.1 (by decide)))
  clear HZq
  clear H5q
  clear H13q
  have HS14 := Lib.hid hs
  have HB14k := Lib.hid (HBq.out.trans hk)
  clear hs hk HSq HBq
  have dH132 := H1314.out.cell 2
  simp only [List.getElem?_toArray, List.getElem?_cons_succ, List.getElem?_cons_zero] at dH132
  have vH13 := H1314.out.lt
  have cH59 := H514.out.cell 9
  simp only [List.getElem?_toArray, List.getElem?_cons_succ, List.getElem?_cons_zero] at cH59
  have vH5 := H514.out.lt
  generalize S4 + 1 = b5 at cH59 vH5 ⊢
  go_wp2
  go_ret
  exact ⟨rfl, HB14k.out.trans (Kp.bel (bel0 (below_new _ _) (below_new _ _)))⟩

end M
end Go.Proofs.YtfopjnfphlkcgaaGreat

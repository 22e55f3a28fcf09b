/- Decode of the given answers: what it refuses. -/
import Derived.Test.YtaodghaicmjadaaDoorIsOpen
import Derived.Test.YtaodghaicmjadaaDoorIsROf
import Derived.Test.YtaodghaicmjadaaDoorIsDecP
namespace Go.Proofs.YtaodghaicmjadaaDoor
open Go.RowKit Go.Shelf
set_option linter.unusedVariables false
namespace E

set_option maxRecDepth 100000 in
set_option maxHeartbeats 1000000 in
theorem rdec_nil (p : Option Addr) (c : Nat) (w : World) : Calls Tryd.prog 21 #[.slice p 0 c] w (New w (.tuple #[Ins.zero.val, .bool false])) := by
  have R0 := Bx.new w 28 Ins.zero.cs
  have HB := Lib.hid (below_new w (.cells Ins.zero.cs 28))
  have HR := Lib.hid R0
  obtain ⟨r0, r1, r2, r3, r4, r5, r6, r7, r8, r9, r10, r11, f0, f1, f2, f3, f4, f5, f6, f7, f8, f9, f10, f11⟩ := bx_zero R0
  unfold Ins.zero Ins.cs at r0 f0 r1 f1 r2 f2 r3 f3 r4 f4 r5 f5 r6 f6 r7 f7 r8 f8 r9 f9 r10 f10 r11 f11
  dsimp only at r0 f0 r1 f1 r2 f2 r3 f3 r4 f4 r5 f5 r6 f6 r7 f7 r8 f8 r9 f9 r10 f10 r11 f11
  clear R0
  go_enter Tryd.func21, Tryd.ntmps21
  go_wp2
  exact bodyPost_ret (results_ct rfl rfl rfl (load_ins HR.out)) rfl ⟨rfl, HB.out⟩
set_option maxRecDepth 100000 in
set_option maxHeartbeats 1000000 in
theorem rdec_no (Bk off n c x F : Nat) (b : Bool) (nn : Nat) (w : World) (hn : 0 < n) (cb : w.cell? ⟨Bk, off, none⟩ = some (.int .u8 (x : Int))) (hx : x < 256) (ho : b = false ∨ n < nn)
    (HF : ∀ W, Calls Tryd.prog 11 #[.int .i64 (x : Int)] W (New W (.tuple #[.int .i64 (F : Int), .bool b]))) (HL : ∀ W, Calls Tryd.prog 13 #[.int .i64 (x : Int)] W fun e w' => e = .returned (.int .i64 (nn : Int)) ∧ W = w') :
    Calls Tryd.prog 21 #[.slice (some ⟨Bk, off, none⟩) n c] w (New w (.tuple #[Ins.zero.val, .bool false])) := by
  replace HF := Lib.hid HF
  replace HL := Lib.hid HL
  have ex : IntKind.i64.wrap (x : Int) = (x : Int) := by rw [IntKind.wrap_i64]; omega
  have hcb := cb
  have R0 := Bx.new w 28 Ins.zero.cs
  have HB := Lib.hid (below_new w (.cells Ins.zero.cs 28))
  obtain ⟨w1, hw1⟩ : ∃ w1, w1 = w.alloc (.cells Ins.zero.cs 28) := ⟨_, rfl⟩
  rw [← hw1] at R0 HB
  have HR := Lib.hid R0
  unfold Ins.zero Ins.cs at hw1
  have e1 := hw1.symm
  clear hw1 R0
  obtain ⟨R, eR⟩ : ∃ R, w.heap.size = R := ⟨_, rfl⟩
  rw [eR] at HR
  have HLE := Lib.hid (show w.heap.size ≤ R from by omega)

  have c1 : w1.cell? ⟨Bk, off, none⟩ = some (.int .u8 (x : Int)) := by rw [← e1]; exact Lib.cell?_alloc_some _ hcb
  have HC1 := Lib.hid c1
  clear hcb cb
  have hn' : (0 : Int) < (n : Int) := by omega
  go_enter Tryd.func21, Tryd.ntmps21
  go_wp2_with fail
  refine (HF.out _).mono ?_
  rintro e w2 ⟨rfl, hb⟩
  have c2 : w2.cell? ⟨Bk, off, none⟩ = some (.int .u8 (x : Int)) := (hb.cell (World.block_lt_of_cell? w1 _ HC1.out)).trans HC1.out
  have R2 := HR.out.below hb
  have HB2 := Lib.hid (bel0 HB.out hb)
  obtain ⟨r0, r1, r2, r3, r4, r5, r6, r7, r8, r9, r10, r11, f0, f1, f2, f3, f4, f5, f6, f7, f8, f9, f10, f11⟩ := bx_zero R2
  have HR2 := Lib.hid R2
  clear hb R2 c1 HB HR HC1 e1
  cases b with
  | false =>
    clear HL ho
    go_wp2
    exact bodyPost_ret (results_ct rfl rfl rfl (load_ins (put12_at HR2.out Ins.zero))) rfl ⟨rfl, put12_below HB2.out HLE.out Ins.zero⟩
  | true =>
    have hlt : (n : Int) < (nn : Int) := by
      have := ho.resolve_left (by decide)
      omega
    clear ho
    go_wp2_with fail
    refine (HL.out _).mono ?_
    rintro e w3 ⟨rfl, rfl⟩
    go_wp2
    exact bodyPost_ret (results_ct rfl rfl rfl (load_ins (put12_at HR2.out Ins.zero))) rfl ⟨rfl, put12_below HB2.out HLE.out Ins.zero⟩
end E
end Go.Proofs.YtaodghaicmjadaaDoor

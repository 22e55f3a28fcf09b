/- Decode of the given answers: what it reads. -/
import Derived.Test.YtaodghaicmjadaaDoorIsRDec
namespace Go.Proofs.YtaodghaicmjadaaDoor
open Go.RowKit Go.Shelf
set_option linter.unusedVariables false
namespace E

theorem cells12 {w : World} {g : Nat} {t : TypeId} {v0 v1 v2 v3 v4 v5 v6 v7 v8 v9 v10 v11 : Value} (h : Bx w g t #[v0, v1, v2, v3, v4, v5, v6, v7, v8, v9, v10, v11]) : w.cell? ⟨g, 0, none⟩ = some v0 ∧ w.cell? ⟨g, 1, none⟩ = some v1 ∧ w.cell? ⟨g, 2, none⟩ = some v2 ∧ w.cell? ⟨g, 3, none⟩ = some v3 ∧ w.cell? ⟨g, 4, none⟩ = some v4 ∧ w.cell? ⟨g, 5, none⟩ = some v5 ∧ w.cell? ⟨g, 6, none⟩ = some v6 ∧ w.cell? ⟨g, 7, none⟩ = some v7 ∧ w.cell? ⟨g, 8, none⟩ = some v8 ∧ w.cell? ⟨g, 9, none⟩ = some v9 ∧ w.cell? ⟨g, 10, none⟩ = some v10 ∧ w.cell? ⟨g, 11, none⟩ = some v11 :=
  ⟨h.cell 0, h.cell 1, h.cell 2, h.cell 3, h.cell 4, h.cell 5, h.cell 6, h.cell 7, h.cell 8, h.cell 9, h.cell 10, h.cell 11⟩
set_option maxRecDepth 100000 in
set_option maxHeartbeats 1000000 in
theorem rdec_A (Bk off n c x y z t u v F nn : Nat) (w : World) (hx : x < 256) (hy : y < 256) (hz : z < 256) (ht : t < 256) (hu : u < 256) (hv : v < 256) (hn : 2 ≤ n)
    (cb : w.cell? ⟨Bk, off, none⟩ = some (.int .u8 (x : Int))) (cy : w.cell? ⟨Bk, off + 1, none⟩ = some (.int .u8 (y : Int)))
    (HF : ∀ W, Calls Tryd.prog 11 #[.int .i64 (x : Int)] W (New W (.tuple #[.int .i64 (F : Int), .bool true]))) (HL : ∀ W, Calls Tryd.prog 13 #[.int .i64 (x : Int)] W fun e w' => e = .returned (.int .i64 (nn : Int)) ∧ W = w')
    (HO : ∀ (Q : Ins) (W : World), Q.fo = (F : Int) → Calls Tryd.prog 38 #[Q.val] W (New W (ownT F Q).val)) (h4 : n < 4) (h5 : F ≠ 5) (hnn : nn ≤ n) :
    Calls Tryd.prog 21 #[.slice (some ⟨Bk, off, none⟩) n c] w (New w (.tuple #[(ownT F (allQ x F y (y / 16) 0 0 0 0)).val, .bool true])) := by
  obtain ⟨P, hP⟩ : ∃ P, P = ownT F (allQ x F y (y / 16) 0 0 0 0) := ⟨_, rfl⟩
  rw [← hP]
  have HOL : Hid (∀ W, Calls Tryd.prog 38 #[.agg #[.int .i64 (x : Int), .int .i64 (F : Int), .int .i64 ((y : Int) / 16), .int .i64 ((y : Int) % 16), .int .i64 ((y : Int) % 16), .int .i64 0, .int .i64 0, .int .i64 0, .int .i64 0, .int .i64 ((y : Int) / 16), .int .i64 ((y : Int) % 16), .int .i64 (y : Int)]] W (New W (.agg #[.int .i64 P.op, .int .i64 P.fo, .int .i64 P.r1, .int .i64 P.r2, .int .i64 P.x2, .int .i64 P.b1, .int .i64 P.d1, .int .i64 P.b2, .int .i64 P.d2, .int .i64 P.l1, .int .i64 P.l2, .int .i64 P.i2]))) := Lib.hid (fun W => by
    have h := HO (allQ x F y (y / 16) 0 0 0 0) W rfl
    rw [← hP] at h
    exact h)
  clear HO hP
  obtain ⟨V, hV⟩ : ∃ V, V = P.val := ⟨_, rfl⟩
  rw [← hV]
  have HPV := Lib.hid hV
  clear hV
  have hnlt : ¬ ((n : Int) < (nn : Int)) := by omega
  have hn6 : ((nn : Int) == 6) = false := by rw [beq_eq_false_iff_ne]; omega
  have hF5 : ((F : Int) == 5) = false := by rw [beq_eq_false_iff_ne]; omega
  have hn4 : ¬ ((4 : Int) ≤ (n : Int)) := by omega
  replace HF := Lib.hid HF
  replace HL := Lib.hid HL
  have R0 := Bx.new w 28 Ins.zero.cs
  have HB := Lib.hid (below_new w (.cells Ins.zero.cs 28))
  obtain ⟨w1, hw1⟩ : ∃ w1, w1 = w.alloc (.cells Ins.zero.cs 28) := ⟨_, rfl⟩
  rw [← hw1] at R0 HB
  have HR := Lib.hid R0
  unfold Ins.zero Ins.cs at hw1
  have e1 := hw1.symm
  clear hw1 R0
  obtain ⟨R, eR⟩ : ∃ R, w.heap.size = R := ⟨_, rfl⟩
  rw [eR] at HR
  have HLE := Lib.hid (show w.heap.size ≤ R from by omega)
  have Hcb := Lib.hid (show w1.cell? ⟨Bk, off, none⟩ = some (.int .u8 (x : Int)) from by rw [← e1]; exact Lib.cell?_alloc_some _ cb)
  have Hcy := Lib.hid (show w1.cell? ⟨Bk, off + 1, none⟩ = some (.int .u8 (y : Int)) from by rw [← e1]; exact Lib.cell?_alloc_some _ cy)
  have c1 := Hcb.out
  clear cb cy
  have hn0 : (0 : Int) < (n : Int) := by omega
  have hn1 : (1 : Int) < (n : Int) := by omega
  have ex : IntKind.i64.wrap (x : Int) = (x : Int) := by rw [IntKind.wrap_i64]; omega
  have ey : IntKind.i64.wrap (y : Int) = (y : Int) := by rw [IntKind.wrap_i64]; omega
  go_enter Tryd.func21, Tryd.ntmps21
  go_wp2_with fail
  refine (HF.out _).mono ?_
  rintro e w2 ⟨rfl, hb⟩
  have dcb : w2.cell? ⟨Bk, off, none⟩ = some (.int .u8 (x : Int)) := (hb.cell (World.block_lt_of_cell? w1 _ Hcb.out)).trans Hcb.out
  have dcy : w2.cell? ⟨Bk, off + 1, none⟩ = some (.int .u8 (y : Int)) := (hb.cell (World.block_lt_of_cell? w1 _ Hcy.out)).trans Hcy.out
  have HB2 := Lib.hid (bel0 HB.out hb)
  have HR2 := Lib.hid (HR.out.below hb)
  clear hb c1 HB HR Hcb Hcy e1
  go_wp2_with fail
  refine (HL.out _).mono ?_
  rintro e w3 ⟨rfl, rfl⟩
  obtain ⟨B, eB⟩ : ∃ B, w2.heap.size = B := ⟨_, rfl⟩
  obtain ⟨w3, e4⟩ : ∃ w3, w2.alloc (.cells #[.int .i64 (x : Int), .int .i64 (F : Int), .int .i64 ((y : Int) / 16), .int .i64 ((y : Int) % 16), .int .i64 ((y : Int) % 16), .int .i64 0, .int .i64 0, .int .i64 0, .int .i64 0, .int .i64 ((y : Int) / 16), .int .i64 ((y : Int) % 16), .int .i64 (y : Int)] 28) = w3 := ⟨_, rfl⟩
  have B3 : Bx w3 B 28 #[.int .i64 (x : Int), .int .i64 (F : Int), .int .i64 ((y : Int) / 16), .int .i64 ((y : Int) % 16), .int .i64 ((y : Int) % 16), .int .i64 0, .int .i64 0, .int .i64 0, .int .i64 0, .int .i64 ((y : Int) / 16), .int .i64 ((y : Int) % 16), .int .i64 (y : Int)] := by rw [← e4, ← eB]; exact Bx.new w2 28 _
  have HR3 := Lib.hid (show Bx w3 R 28 Ins.zero.cs from by rw [← e4]; exact HR2.out.below (below_new w2 _))
  have HB3 := Lib.hid (show Below w.heap.size w w3 from by rw [← e4]; exact bel0 HB2.out (below_new w2 _))
  have HB3X := Lib.hid B3
  have HBR := Lib.hid (show B ≠ R ∧ w.heap.size ≤ B from ⟨by have := HR2.out.lt; omega, by have := HB2.out.size; omega⟩)
  have gcb : w3.cell? ⟨Bk, off, none⟩ = some (.int .u8 (x : Int)) := by rw [← e4]; exact Lib.cell?_alloc_some _ dcb
  have gcy : w3.cell? ⟨Bk, off + 1, none⟩ = some (.int .u8 (y : Int)) := by rw [← e4]; exact Lib.cell?_alloc_some _ dcy
  obtain ⟨q0, q1, q2, q3, q4, q5, q6, q7, q8, q9, q10, q11⟩ := cells12 B3
  clear B3
  go_wp2_with fail
  refine (HL.out _).mono ?_
  rintro e w4 ⟨rfl, rfl⟩
  go_wp2_with fail
  refine (HOL.out _).mono ?_
  rintro e w5 ⟨rfl, hb5⟩
  have HR5 := Lib.hid (HR3.out.below hb5)
  have HB5 := Lib.hid (bel0 HB3.out hb5)
  obtain ⟨r0, r1, r2, r3, r4, r5, r6, r7, r8, r9, r10, r11, f0, f1, f2, f3, f4, f5, f6, f7, f8, f9, f10, f11⟩ := bx_zero HR5.out
  clear hb5
  go_wp2
  exact bodyPost_ret (results_ct rfl rfl rfl (load_ins (put12_at HR5.out P))) rfl ⟨by rw [HPV.out]; rfl, put12_below HB5.out HLE.out P⟩
end E
end Go.Proofs.YtaodghaicmjadaaDoor

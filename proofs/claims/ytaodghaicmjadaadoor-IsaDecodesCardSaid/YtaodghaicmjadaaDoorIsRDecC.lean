/- Decode of the given answers: six bytes. -/
import Derived.Test.YtaodghaicmjadaaDoorIsRDecA
namespace Go.Proofs.YtaodghaicmjadaaDoor
open Go.RowKit Go.Shelf
set_option linter.unusedVariables false
namespace E

theorem cell_farC {w : World} {Bk B j k : Nat} (h : Bk ≠ B) (u : Value) : (w.setCell ⟨B, k, none⟩ u).cell? ⟨Bk, j, none⟩ = w.cell? ⟨Bk, j, none⟩ := World.cell?_of_block (w := w) (heap_setCell_other w ⟨B, k, none⟩ Bk u h)
set_option maxRecDepth 100000 in
set_option maxHeartbeats 2000000 in
theorem rdec_C (Bk off n c x y z t u v F nn : Nat) (w : World) (hx : x < 256) (hy : y < 256) (hz : z < 256) (ht : t < 256) (hu : u < 256) (hv : v < 256) (hn : 2 ≤ n)
    (cb : w.cell? ⟨Bk, off, none⟩ = some (.int .u8 (x : Int))) (cy : w.cell? ⟨Bk, off + 1, none⟩ = some (.int .u8 (y : Int))) (cz : w.cell? ⟨Bk, off + 2, none⟩ = some (.int .u8 (z : Int))) (ct : w.cell? ⟨Bk, off + 3, none⟩ = some (.int .u8 (t : Int))) (cu : w.cell? ⟨Bk, off + 4, none⟩ = some (.int .u8 (u : Int))) (cv : w.cell? ⟨Bk, off + 5, none⟩ = some (.int .u8 (v : Int)))
    (HF : ∀ W, Calls Tryd.prog 11 #[.int .i64 (x : Int)] W (New W (.tuple #[.int .i64 (F : Int), .bool true]))) (HL : ∀ W, Calls Tryd.prog 13 #[.int .i64 (x : Int)] W fun e w' => e = .returned (.int .i64 (nn : Int)) ∧ W = w')
    (HO : ∀ (Q : Ins) (W : World), Q.fo = (F : Int) → Calls Tryd.prog 38 #[Q.val] W (New W (ownT F Q).val)) (h4 : 4 ≤ n) (h5 : F ≠ 5) (h6 : nn = 6) (hnn : nn ≤ n) :
    Calls Tryd.prog 21 #[.slice (some ⟨Bk, off, none⟩) n c] w (New w (.tuple #[(ownT F (allQ x F y (y / 16) (z / 16) (z % 16 * 256 + t) (u / 16) (u % 16 * 256 + v))).val, .bool true])) := by
  obtain ⟨P, hP⟩ : ∃ P, P = ownT F (allQ x F y (y / 16) (z / 16) (z % 16 * 256 + t) (u / 16) (u % 16 * 256 + v)) := ⟨_, rfl⟩
  rw [← hP]
  have HOL : Hid (∀ W, Calls Tryd.prog 38 #[.agg #[.int .i64 (x : Int), .int .i64 (F : Int), .int .i64 ((y : Int) / 16), .int .i64 ((y : Int) % 16), .int .i64 ((y : Int) % 16), .int .i64 ((z : Int) / 16), .int .i64 ((z : Int) % 16 * 256 + (t : Int)), .int .i64 ((u : Int) / 16), .int .i64 ((u : Int) % 16 * 256 + (v : Int)), .int .i64 ((y : Int) / 16), .int .i64 ((y : Int) % 16), .int .i64 (y : Int)]] W (New W (.agg #[.int .i64 P.op, .int .i64 P.fo, .int .i64 P.r1, .int .i64 P.r2, .int .i64 P.x2, .int .i64 P.b1, .int .i64 P.d1, .int .i64 P.b2, .int .i64 P.d2, .int .i64 P.l1, .int .i64 P.l2, .int .i64 P.i2]))) := Lib.hid (fun W => by
    have h := HO (allQ x F y (y / 16) (z / 16) (z % 16 * 256 + t) (u / 16) (u % 16 * 256 + v)) W rfl
    rw [← hP] at h
    exact h)
  clear HO hP
  obtain ⟨V, hV⟩ : ∃ V, V = P.val := ⟨_, rfl⟩
  rw [← hV]
  have HPV := Lib.hid hV
  clear hV
  have hnlt : ¬ ((n : Int) < (nn : Int)) := by omega
  have hn6 : ((nn : Int) == 6) = true := by rw [beq_iff_eq]; omega
  have hF5 : ((F : Int) == 5) = false := by rw [beq_eq_false_iff_ne]; omega
  have hn4 : (4 : Int) ≤ (n : Int) := by omega
  have hn2 : (2 : Int) < (n : Int) := by omega
  have hn3 : (3 : Int) < (n : Int) := by omega
  have ez : IntKind.i64.wrap (z : Int) = (z : Int) := by rw [IntKind.wrap_i64]; omega
  have et : IntKind.i64.wrap (t : Int) = (t : Int) := by rw [IntKind.wrap_i64]; omega
  have hn4' : (4 : Int) < (n : Int) := by omega
  have hn5 : (5 : Int) < (n : Int) := by omega
  have eu : IntKind.i64.wrap (u : Int) = (u : Int) := by rw [IntKind.wrap_i64]; omega
  have ev : IntKind.i64.wrap (v : Int) = (v : Int) := by rw [IntKind.wrap_i64]; omega
  replace HF := Lib.hid HF
  replace HL := Lib.hid HL
  have R0 := Bx.new w 28 Ins.zero.cs
  have HB := Lib.hid (below_new w (.cells Ins.zero.cs 28))
  obtain ⟨w1, hw1⟩ : ∃ w1, w1 = w.alloc (.cells Ins.zero.cs 28) := ⟨_, rfl⟩
  rw [← hw1] at R0 HB
  have HR := Lib.hid R0
  unfold Ins.zero Ins.cs at hw1
  have e1 := hw1.symm
  clear hw1 R0
  obtain ⟨R, eR⟩ : ∃ R, w.heap.size = R := ⟨_, rfl⟩
  rw [eR] at HR
  have HLE := Lib.hid (show w.heap.size ≤ R from by omega)
  have Hcb := Lib.hid (show w1.cell? ⟨Bk, off, none⟩ = some (.int .u8 (x : Int)) from by rw [← e1]; exact Lib.cell?_alloc_some _ cb)
  have Hcy := Lib.hid (show w1.cell? ⟨Bk, off + 1, none⟩ = some (.int .u8 (y : Int)) from by rw [← e1]; exact Lib.cell?_alloc_some _ cy)
  have Hcz := Lib.hid (show w1.cell? ⟨Bk, off + 2, none⟩ = some (.int .u8 (z : Int)) from by rw [← e1]; exact Lib.cell?_alloc_some _ cz)
  have Hct := Lib.hid (show w1.cell? ⟨Bk, off + 3, none⟩ = some (.int .u8 (t : Int)) from by rw [← e1]; exact Lib.cell?_alloc_some _ ct)
  have Hcu := Lib.hid (show w1.cell? ⟨Bk, off + 4, none⟩ = some (.int .u8 (u : Int)) from by rw [← e1]; exact Lib.cell?_alloc_some _ cu)
  have Hcv := Lib.hid (show w1.cell? ⟨Bk, off + 5, none⟩ = some (.int .u8 (v : Int)) from by rw [← e1]; exact Lib.cell?_alloc_some _ cv)
  have c1 := Hcb.out
  clear cb cy cz ct cu cv
  have hn0 : (0 : Int) < (n : Int) := by omega
  have hn1 : (1 : Int) < (n : Int) := by omega
  have ex : IntKind.i64.wrap (x : Int) = (x : Int) := by rw [IntKind.wrap_i64]; omega
  have ey : IntKind.i64.wrap (y : Int) = (y : Int) := by rw [IntKind.wrap_i64]; omega
  go_enter Tryd.func21, Tryd.ntmps21
  go_wp2_with fail
  refine (HF.out _).mono ?_
  rintro e w2 ⟨rfl, hb⟩
  have dcb : w2.cell? ⟨Bk, off, none⟩ = some (.int .u8 (x : Int)) := (hb.cell (World.block_lt_of_cell? w1 _ Hcb.out)).trans Hcb.out
  have dcy : w2.cell? ⟨Bk, off + 1, none⟩ = some (.int .u8 (y : Int)) := (hb.cell (World.block_lt_of_cell? w1 _ Hcy.out)).trans Hcy.out
  have dcz : w2.cell? ⟨Bk, off + 2, none⟩ = some (.int .u8 (z : Int)) := (hb.cell (World.block_lt_of_cell? w1 _ Hcz.out)).trans Hcz.out
  have dct : w2.cell? ⟨Bk, off + 3, none⟩ = some (.int .u8 (t : Int)) := (hb.cell (World.block_lt_of_cell? w1 _ Hct.out)).trans Hct.out
  have dcu : w2.cell? ⟨Bk, off + 4, none⟩ = some (.int .u8 (u : Int)) := (hb.cell (World.block_lt_of_cell? w1 _ Hcu.out)).trans Hcu.out
  have dcv : w2.cell? ⟨Bk, off + 5, none⟩ = some (.int .u8 (v : Int)) := (hb.cell (World.block_lt_of_cell? w1 _ Hcv.out)).trans Hcv.out
  have HB2 := Lib.hid (bel0 HB.out hb)
  have HR2 := Lib.hid (HR.out.below hb)
  clear hb c1 HB HR Hcb Hcy Hcz Hct Hcu Hcv e1
  go_wp2_with fail
  refine (HL.out _).mono ?_
  rintro e w3 ⟨rfl, rfl⟩
  obtain ⟨B, eB⟩ : ∃ B, w2.heap.size = B := ⟨_, rfl⟩
  obtain ⟨w3, e4⟩ : ∃ w3, w2.alloc (.cells #[.int .i64 (x : Int), .int .i64 (F : Int), .int .i64 ((y : Int) / 16), .int .i64 ((y : Int) % 16), .int .i64 ((y : Int) % 16), .int .i64 0, .int .i64 0, .int .i64 0, .int .i64 0, .int .i64 ((y : Int) / 16), .int .i64 ((y : Int) % 16), .int .i64 (y : Int)] 28) = w3 := ⟨_, rfl⟩
  have B3 : Bx w3 B 28 #[.int .i64 (x : Int), .int .i64 (F : Int), .int .i64 ((y : Int) / 16), .int .i64 ((y : Int) % 16), .int .i64 ((y : Int) % 16), .int .i64 0, .int .i64 0, .int .i64 0, .int .i64 0, .int .i64 ((y : Int) / 16), .int .i64 ((y : Int) % 16), .int .i64 (y : Int)] := by rw [← e4, ← eB]; exact Bx.new w2 28 _
  have HR3 := Lib.hid (show Bx w3 R 28 Ins.zero.cs from by rw [← e4]; exact HR2.out.below (below_new w2 _))
  have HB3 := Lib.hid (show Below w.heap.size w w3 from by rw [← e4]; exact bel0 HB2.out (below_new w2 _))
  have HB3X := Lib.hid B3
  have HBR := Lib.hid (show B ≠ R ∧ w.heap.size ≤ B from ⟨by have := HR2.out.lt; omega, by have := HB2.out.size; omega⟩)
  have gcb : w3.cell? ⟨Bk, off, none⟩ = some (.int .u8 (x : Int)) := by rw [← e4]; exact Lib.cell?_alloc_some _ dcb
  have gcy : w3.cell? ⟨Bk, off + 1, none⟩ = some (.int .u8 (y : Int)) := by rw [← e4]; exact Lib.cell?_alloc_some _ dcy
  have gcz : w3.cell? ⟨Bk, off + 2, none⟩ = some (.int .u8 (z : Int)) := by rw [← e4]; exact Lib.cell?_alloc_some _ dcz
  have gct : w3.cell? ⟨Bk, off + 3, none⟩ = some (.int .u8 (t : Int)) := by rw [← e4]; exact Lib.cell?_alloc_some _ dct
  have gcu : w3.cell? ⟨Bk, off + 4, none⟩ = some (.int .u8 (u : Int)) := by rw [← e4]; exact Lib.cell?_alloc_some _ dcu
  have gcv : w3.cell? ⟨Bk, off + 5, none⟩ = some (.int .u8 (v : Int)) := by rw [← e4]; exact Lib.cell?_alloc_some _ dcv
  have HBK := Lib.hid (show Bk ≠ B from by have := World.block_lt_of_cell? w2 _ dcb; dsimp only at this; omega)
  have g3x := gcb
  have g3y := gcy
  have g3z := gcz
  have g3t := gct
  have g3u := gcu
  have g3v := gcv
  have HG := Lib.hid (And.intro g3x (And.intro g3z (And.intro g3t (And.intro g3u g3v))))
  obtain ⟨q0, q1, q2, q3, q4, q5, q6, q7, q8, q9, q10, q11⟩ := cells12 B3
  have fr3 : ∀ i, w3.frozen? ⟨B, i, none⟩ = false := fun i => HB3X.out.frozen i
  have f5 := fr3 5
  have f6 := fr3 6
  clear B3 fr3
  clear gcb gcy gcz gct gcu gcv
  go_wp2_with fail
  refine only_wp ?_
  refine wp_region_held_drew (S := fun Y => Y.cell? ⟨Bk, off + 2, none⟩ = some (.int .u8 (z : Int)) ∧ Y.cell? ⟨Bk, off + 3, none⟩ = some (.int .u8 (t : Int))) (by kernel_rfl) ⟨g3z, g3t⟩ (fun k0 => ?_)
  show wpAnyH _ _ _ _ _ 20 #[false, false, false, false, false, false, false, false, false, false, false, false, false, false, false, false, false, false, false, false] _ _
  refine wpAnyH_take (i := 0) (oi := { dst := some 61, op := Go.Op.move (Go.Operand.tmp 0), type := 29, pos := "ref.go:224", after := #[], guard := none }) (v := .slice (some ⟨Bk, off, none⟩) n c) rfl (by kernel_rfl) (by kernel_rfl) (by kernel_rfl) (fun _ _ _ h => h) (Or.inl ⟨by rfl, fun W hSw => by clear hSw; go_simp⟩) k0 ?_
  try simp only [Act.put, List.setIfInBounds_toArray, List.set_cons_zero, List.set_cons_succ]
  refine wpAnyH_take (i := 1) (oi := { dst := some 62, op := Go.Op.indexAddr 29 (Go.Operand.tmp 61) (Go.Operand.const (Go.Value.int Go.IntKind.i64 2)), type := 0, pos := "ref.go:224", after := #[{ on := 0, ground := Go.Ground.data }], guard := none }) (v := .pointer (some ⟨Bk, off + 2, none⟩)) rfl (by kernel_rfl) (by kernel_rfl) (by kernel_rfl) (fun _ _ _ h => h) (Or.inl ⟨by rfl, fun W hSw => by clear hSw; go_simp⟩) k0 ?_
  try simp only [Act.put, List.setIfInBounds_toArray, List.set_cons_zero, List.set_cons_succ]
  refine wpAnyH_take (i := 2) (oi := { dst := some 63, op := Go.Op.load 5 (Go.Operand.tmp 62), type := 5, pos := "ref.go:224", after := #[{ on := 1, ground := Go.Ground.data }], guard := none }) (v := .int .u8 (z : Int)) rfl (by kernel_rfl) (by kernel_rfl) (by kernel_rfl) (fun _ _ _ h => h) (Or.inl ⟨by rfl, fun W hSw => by obtain ⟨s1, s2⟩ := hSw; go_simp⟩) k0 ?_
  try simp only [Act.put, List.setIfInBounds_toArray, List.set_cons_zero, List.set_cons_succ]
  refine wpAnyH_take (i := 3) (oi := { dst := some 64, op := Go.Op.convert 5 3 (Go.Operand.tmp 63), type := 3, pos := "ref.go:224", after := #[{ on := 2, ground := Go.Ground.data }], guard := none }) (v := .int .i64 (z : Int)) rfl (by kernel_rfl) (by kernel_rfl) (by kernel_rfl) (fun _ _ _ h => h) (Or.inl ⟨by rfl, fun W hSw => by clear hSw; go_simp⟩) k0 ?_
  try simp only [Act.put, List.setIfInBounds_toArray, List.set_cons_zero, List.set_cons_succ]
  refine wpAnyH_take (i := 4) (oi := { dst := some 65, op := Go.Op.binOp Go.BinOp.quo 3 (Go.Operand.tmp 64) (Go.Operand.const (Go.Value.int Go.IntKind.i64 16)) 3, type := 3, pos := "ref.go:224", after := #[{ on := 3, ground := Go.Ground.data }], guard := none }) (v := .int .i64 ((z : Int) / 16)) rfl (by kernel_rfl) (by kernel_rfl) (by kernel_rfl) (fun _ _ _ h => h) (Or.inl ⟨by rfl, fun W hSw => by clear hSw; go_simp; first | (rw [IntKind.wrap_i64]; omega) | exact Int.tmod_eq_emod_of_nonneg (by omega)⟩) k0 ?_
  try simp only [Act.put, List.setIfInBounds_toArray, List.set_cons_zero, List.set_cons_succ]
  refine wpAnyH_take (i := 5) (oi := { dst := some 66, op := Go.Op.move (Go.Operand.tmp 0), type := 29, pos := "ref.go:224", after := #[{ on := 17, ground := Go.Ground.gcOnly Go.Departure.lateStores }], guard := none }) (v := .slice (some ⟨Bk, off, none⟩) n c) rfl (by kernel_rfl) (by kernel_rfl) (by kernel_rfl) (fun _ _ _ h => h) (Or.inl ⟨by rfl, fun W hSw => by clear hSw; go_simp⟩) k0 ?_
  try simp only [Act.put, List.setIfInBounds_toArray, List.set_cons_zero, List.set_cons_succ]
  refine wpAnyH_take (i := 6) (oi := { dst := some 67, op := Go.Op.indexAddr 29 (Go.Operand.tmp 66) (Go.Operand.const (Go.Value.int Go.IntKind.i64 2)), type := 0, pos := "ref.go:224", after := #[{ on := 5, ground := Go.Ground.data }, { on := 17, ground := Go.Ground.gcOnly Go.Departure.lateStores }], guard := none }) (v := .pointer (some ⟨Bk, off + 2, none⟩)) rfl (by kernel_rfl) (by kernel_rfl) (by kernel_rfl) (fun _ _ _ h => h) (Or.inl ⟨by rfl, fun W hSw => by clear hSw; go_simp⟩) k0 ?_
  try simp only [Act.put, List.setIfInBounds_toArray, List.set_cons_zero, List.set_cons_succ]
  refine wpAnyH_take (i := 7) (oi := { dst := some 68, op := Go.Op.load 5 (Go.Operand.tmp 67), type := 5, pos := "ref.go:224", after := #[{ on := 6, ground := Go.Ground.data }, { on := 17, ground := Go.Ground.gcOnly Go.Departure.lateStores }], guard := none }) (v := .int .u8 (z : Int)) rfl (by kernel_rfl) (by kernel_rfl) (by kernel_rfl) (fun _ _ _ h => h) (Or.inl ⟨by rfl, fun W hSw => by obtain ⟨s1, s2⟩ := hSw; go_simp⟩) k0 ?_
  try simp only [Act.put, List.setIfInBounds_toArray, List.set_cons_zero, List.set_cons_succ]
  refine wpAnyH_take (i := 8) (oi := { dst := some 69, op := Go.Op.convert 5 3 (Go.Operand.tmp 68), type := 3, pos := "ref.go:224", after := #[{ on := 7, ground := Go.Ground.data }, { on := 17, ground := Go.Ground.gcOnly Go.Departure.lateStores }], guard := none }) (v := .int .i64 (z : Int)) rfl (by kernel_rfl) (by kernel_rfl) (by kernel_rfl) (fun _ _ _ h => h) (Or.inl ⟨by rfl, fun W hSw => by clear hSw; go_simp⟩) k0 ?_
  try simp only [Act.put, List.setIfInBounds_toArray, List.set_cons_zero, List.set_cons_succ]
  refine wpAnyH_take (i := 9) (oi := { dst := some 70, op := Go.Op.binOp Go.BinOp.rem 3 (Go.Operand.tmp 69) (Go.Operand.const (Go.Value.int Go.IntKind.i64 16)) 3, type := 3, pos := "ref.go:224", after := #[{ on := 8, ground := Go.Ground.data }, { on := 17, ground := Go.Ground.gcOnly Go.Departure.lateStores }], guard := none }) (v := .int .i64 ((z : Int) % 16)) rfl (by kernel_rfl) (by kernel_rfl) (by kernel_rfl) (fun _ _ _ h => h) (Or.inl ⟨by rfl, fun W hSw => by clear hSw; go_simp; first | (rw [IntKind.wrap_i64]; omega) | exact Int.tmod_eq_emod_of_nonneg (by omega)⟩) k0 ?_
  try simp only [Act.put, List.setIfInBounds_toArray, List.set_cons_zero, List.set_cons_succ]
  refine wpAnyH_take (i := 10) (oi := { dst := some 71, op := Go.Op.binOp Go.BinOp.mul 3 (Go.Operand.tmp 70) (Go.Operand.const (Go.Value.int Go.IntKind.i64 256)) 3, type := 3, pos := "ref.go:224", after := #[{ on := 9, ground := Go.Ground.data }, { on := 17, ground := Go.Ground.gcOnly Go.Departure.lateStores }], guard := none }) (v := .int .i64 ((z : Int) % 16 * 256)) rfl (by kernel_rfl) (by kernel_rfl) (by kernel_rfl) (fun _ _ _ h => h) (Or.inl ⟨by rfl, fun W hSw => by clear hSw; go_simp; first | (rw [IntKind.wrap_i64]; omega) | exact Int.tmod_eq_emod_of_nonneg (by omega)⟩) k0 ?_
  try simp only [Act.put, List.setIfInBounds_toArray, List.set_cons_zero, List.set_cons_succ]
  refine wpAnyH_take (i := 11) (oi := { dst := some 72, op := Go.Op.move (Go.Operand.tmp 0), type := 29, pos := "ref.go:224", after := #[{ on := 17, ground := Go.Ground.gcOnly Go.Departure.lateStores }], guard := none }) (v := .slice (some ⟨Bk, off, none⟩) n c) rfl (by kernel_rfl) (by kernel_rfl) (by kernel_rfl) (fun _ _ _ h => h) (Or.inl ⟨by rfl, fun W hSw => by clear hSw; go_simp⟩) k0 ?_
  try simp only [Act.put, List.setIfInBounds_toArray, List.set_cons_zero, List.set_cons_succ]
  refine wpAnyH_take (i := 12) (oi := { dst := some 73, op := Go.Op.indexAddr 29 (Go.Operand.tmp 72) (Go.Operand.const (Go.Value.int Go.IntKind.i64 3)), type := 0, pos := "ref.go:224", after := #[{ on := 11, ground := Go.Ground.data }, { on := 17, ground := Go.Ground.gcOnly Go.Departure.lateStores }], guard := none }) (v := .pointer (some ⟨Bk, off + 3, none⟩)) rfl (by kernel_rfl) (by kernel_rfl) (by kernel_rfl) (fun _ _ _ h => h) (Or.inl ⟨by rfl, fun W hSw => by clear hSw; go_simp⟩) k0 ?_
  try simp only [Act.put, List.setIfInBounds_toArray, List.set_cons_zero, List.set_cons_succ]
  refine wpAnyH_take (i := 13) (oi := { dst := some 74, op := Go.Op.load 5 (Go.Operand.tmp 73), type := 5, pos := "ref.go:224", after := #[{ on := 12, ground := Go.Ground.data }, { on := 17, ground := Go.Ground.gcOnly Go.Departure.lateStores }], guard := none }) (v := .int .u8 (t : Int)) rfl (by kernel_rfl) (by kernel_rfl) (by kernel_rfl) (fun _ _ _ h => h) (Or.inl ⟨by rfl, fun W hSw => by obtain ⟨s1, s2⟩ := hSw; go_simp⟩) k0 ?_
  try simp only [Act.put, List.setIfInBounds_toArray, List.set_cons_zero, List.set_cons_succ]
  refine wpAnyH_take (i := 14) (oi := { dst := some 75, op := Go.Op.convert 5 3 (Go.Operand.tmp 74), type := 3, pos := "ref.go:224", after := #[{ on := 13, ground := Go.Ground.data }, { on := 17, ground := Go.Ground.gcOnly Go.Departure.lateStores }], guard := none }) (v := .int .i64 (t : Int)) rfl (by kernel_rfl) (by kernel_rfl) (by kernel_rfl) (fun _ _ _ h => h) (Or.inl ⟨by rfl, fun W hSw => by clear hSw; go_simp⟩) k0 ?_
  try simp only [Act.put, List.setIfInBounds_toArray, List.set_cons_zero, List.set_cons_succ]
  refine wpAnyH_take (i := 15) (oi := { dst := some 76, op := Go.Op.binOp Go.BinOp.add 3 (Go.Operand.tmp 71) (Go.Operand.tmp 75) 3, type := 3, pos := "ref.go:224", after := #[{ on := 10, ground := Go.Ground.data }, { on := 14, ground := Go.Ground.data }, { on := 17, ground := Go.Ground.gcOnly Go.Departure.lateStores }], guard := none }) (v := .int .i64 ((z : Int) % 16 * 256 + (t : Int))) rfl (by kernel_rfl) (by kernel_rfl) (by kernel_rfl) (fun _ _ _ h => h) (Or.inl ⟨by rfl, fun W hSw => by clear hSw; go_simp; first | (rw [IntKind.wrap_i64]; omega) | exact Int.tmod_eq_emod_of_nonneg (by omega)⟩) k0 ?_
  try simp only [Act.put, List.setIfInBounds_toArray, List.set_cons_zero, List.set_cons_succ]
  refine wpAnyH_take (i := 16) (oi := { dst := some 77, op := Go.Op.fieldAddr 28 (Go.Operand.tmp 7) 5, type := 0, pos := "ref.go:224", after := #[{ on := 0, ground := Go.Ground.phase }, { on := 1, ground := Go.Ground.phase }, { on := 2, ground := Go.Ground.phase }, { on := 3, ground := Go.Ground.phase }, { on := 4, ground := Go.Ground.phase }, { on := 5, ground := Go.Ground.textOnly Go.Departure.lateStores }, { on := 6, ground := Go.Ground.textOnly Go.Departure.lateStores }, { on := 7, ground := Go.Ground.textOnly Go.Departure.lateStores }, { on := 8, ground := Go.Ground.textOnly Go.Departure.lateStores }, { on := 9, ground := Go.Ground.textOnly Go.Departure.lateStores }, { on := 10, ground := Go.Ground.textOnly Go.Departure.lateStores }, { on := 11, ground := Go.Ground.textOnly Go.Departure.lateStores }, { on := 12, ground := Go.Ground.textOnly Go.Departure.lateStores }, { on := 13, ground := Go.Ground.textOnly Go.Departure.lateStores }, { on := 14, ground := Go.Ground.textOnly Go.Departure.lateStores }, { on := 15, ground := Go.Ground.textOnly Go.Departure.lateStores }], guard := none }) (v := .pointer (some ⟨B, 5, none⟩)) rfl (by kernel_rfl) (by kernel_rfl) (by kernel_rfl) (fun _ _ _ h => h) (Or.inl ⟨by rfl, fun W hSw => by clear hSw; go_simp⟩) k0 ?_
  try simp only [Act.put, List.setIfInBounds_toArray, List.set_cons_zero, List.set_cons_succ]
  refine wpAnyH_ready (rs := [17]) (by kernel_rfl) (by simp) ?_
  refine AllReadyH.cons (o := { dst := none, op := Go.Op.store 3 (Go.Operand.tmp 77) (Go.Operand.tmp 65), type := 0, pos := "ref.go:224", after := #[{ on := 16, ground := Go.Ground.data }, { on := 4, ground := Go.Ground.data }, { on := 0, ground := Go.Ground.phase }, { on := 1, ground := Go.Ground.phase }, { on := 2, ground := Go.Ground.phase }, { on := 3, ground := Go.Ground.phase }, { on := 4, ground := Go.Ground.phase }, { on := 5, ground := Go.Ground.textOnly Go.Departure.lateStores }, { on := 6, ground := Go.Ground.textOnly Go.Departure.lateStores }, { on := 7, ground := Go.Ground.textOnly Go.Departure.lateStores }, { on := 8, ground := Go.Ground.textOnly Go.Departure.lateStores }, { on := 9, ground := Go.Ground.textOnly Go.Departure.lateStores }, { on := 10, ground := Go.Ground.textOnly Go.Departure.lateStores }, { on := 11, ground := Go.Ground.textOnly Go.Departure.lateStores }, { on := 12, ground := Go.Ground.textOnly Go.Departure.lateStores }, { on := 13, ground := Go.Ground.textOnly Go.Departure.lateStores }, { on := 14, ground := Go.Ground.textOnly Go.Departure.lateStores }, { on := 15, ground := Go.Ground.textOnly Go.Departure.lateStores }], guard := none }) rfl (fun K hK => ?_) AllReadyH.nil
  go_simp
  refine hK.out _ (w3.drew.setCell ⟨B, 5, none⟩ (.int .i64 ((z : Int) / 16))) ⟨(cell_farC (HBK.out) _).trans k0.1, (cell_farC (HBK.out) _).trans k0.2⟩ (fun k1 => ?_)
  clear hK K
  try simp only [List.setIfInBounds_toArray, List.set_cons_zero, List.set_cons_succ]
  refine wpAnyH_take (i := 18) (oi := { dst := some 78, op := Go.Op.fieldAddr 28 (Go.Operand.tmp 7) 6, type := 0, pos := "ref.go:224", after := #[{ on := 0, ground := Go.Ground.phase }, { on := 1, ground := Go.Ground.phase }, { on := 2, ground := Go.Ground.phase }, { on := 3, ground := Go.Ground.phase }, { on := 4, ground := Go.Ground.phase }, { on := 5, ground := Go.Ground.phase }, { on := 6, ground := Go.Ground.phase }, { on := 7, ground := Go.Ground.phase }, { on := 8, ground := Go.Ground.phase }, { on := 9, ground := Go.Ground.phase }, { on := 10, ground := Go.Ground.phase }, { on := 11, ground := Go.Ground.phase }, { on := 12, ground := Go.Ground.phase }, { on := 13, ground := Go.Ground.phase }, { on := 14, ground := Go.Ground.phase }, { on := 15, ground := Go.Ground.phase }, { on := 16, ground := Go.Ground.phase }, { on := 17, ground := Go.Ground.phase }], guard := none }) (v := .pointer (some ⟨B, 6, none⟩)) rfl (by kernel_rfl) (by kernel_rfl) (by kernel_rfl) (fun _ _ _ h => h) (Or.inl ⟨by rfl, fun W hSw => by clear hSw; go_simp⟩) k1 ?_
  try simp only [Act.put, List.setIfInBounds_toArray, List.set_cons_zero, List.set_cons_succ]
  refine wpAnyH_ready (rs := [19]) (by kernel_rfl) (by simp) ?_
  refine AllReadyH.cons (o := { dst := none, op := Go.Op.store 3 (Go.Operand.tmp 78) (Go.Operand.tmp 76), type := 0, pos := "ref.go:224", after := #[{ on := 18, ground := Go.Ground.data }, { on := 15, ground := Go.Ground.data }, { on := 17, ground := Go.Ground.chain }, { on := 0, ground := Go.Ground.phase }, { on := 1, ground := Go.Ground.phase }, { on := 2, ground := Go.Ground.phase }, { on := 3, ground := Go.Ground.phase }, { on := 4, ground := Go.Ground.phase }, { on := 5, ground := Go.Ground.phase }, { on := 6, ground := Go.Ground.phase }, { on := 7, ground := Go.Ground.phase }, { on := 8, ground := Go.Ground.phase }, { on := 9, ground := Go.Ground.phase }, { on := 10, ground := Go.Ground.phase }, { on := 11, ground := Go.Ground.phase }, { on := 12, ground := Go.Ground.phase }, { on := 13, ground := Go.Ground.phase }, { on := 14, ground := Go.Ground.phase }, { on := 15, ground := Go.Ground.phase }, { on := 16, ground := Go.Ground.phase }, { on := 17, ground := Go.Ground.phase }], guard := none }) rfl (fun K hK => ?_) AllReadyH.nil
  go_simp
  refine hK.out _ ((w3.drew.setCell ⟨B, 5, none⟩ (.int .i64 ((z : Int) / 16))).setCell ⟨B, 6, none⟩ (.int .i64 ((z : Int) % 16 * 256 + (t : Int)))) ⟨(cell_farC (HBK.out) _).trans k1.1, (cell_farC (HBK.out) _).trans k1.2⟩ (fun k2 => ?_)
  clear hK K
  try simp only [List.setIfInBounds_toArray, List.set_cons_zero, List.set_cons_succ]
  refine wpAnyH_done (by kernel_rfl) ?_ _
  refine onlyN_normal ?_
  clear q0 q1 q2 q3 q4 q5 q6 q7 q8 q9 q10 q11 f5 f6
  obtain ⟨w4, hw4⟩ : ∃ w4, w4 = ((w3.drew.setCell ⟨B, 5, none⟩ (.int .i64 ((z : Int) / 16))).setCell ⟨B, 6, none⟩ (.int .i64 ((z : Int) % 16 * 256 + (t : Int)))) := ⟨_, rfl⟩
  rw [← hw4]
  have B4 : Bx w4 B 28 #[.int .i64 (x : Int), .int .i64 (F : Int), .int .i64 ((y : Int) / 16), .int .i64 ((y : Int) % 16), .int .i64 ((y : Int) % 16), .int .i64 ((z : Int) / 16), .int .i64 ((z : Int) % 16 * 256 + (t : Int)), .int .i64 0, .int .i64 0, .int .i64 ((y : Int) / 16), .int .i64 ((y : Int) % 16), .int .i64 (y : Int)] := by
    rw [hw4]
    have h := (((HB3X.out.below (Below.refl _ _).drew).set 5 (.int .i64 ((z : Int) / 16))).set 6 (.int .i64 ((z : Int) % 16 * 256 + (t : Int))))
    simp only [List.setIfInBounds_toArray, List.set_cons_zero, List.set_cons_succ] at h
    exact h
  have HB4X := Lib.hid B4
  have HR4 := Lib.hid (show Bx w4 R 28 Ins.zero.cs from by rw [hw4]; exact (((HR3.out.below (Below.refl _ _).drew).far (p := ⟨B, 5, none⟩) HBR.out.1 (.int .i64 ((z : Int) / 16))).far (p := ⟨B, 6, none⟩) HBR.out.1 (.int .i64 ((z : Int) % 16 * 256 + (t : Int)))))
  have HB4 := Lib.hid (show Below w.heap.size w w4 from by rw [hw4]; exact ((HB3.out.drew.setCell (p := ⟨B, 5, none⟩) HBR.out.2 (.int .i64 ((z : Int) / 16))).setCell (p := ⟨B, 6, none⟩) HBR.out.2 (.int .i64 ((z : Int) % 16 * 256 + (t : Int)))))
  have g4x : w4.cell? ⟨Bk, off, none⟩ = some (.int .u8 (x : Int)) := by rw [hw4]; exact (cell_farC HBK.out _).trans ((cell_farC HBK.out _).trans (g3x))
  have g4u : w4.cell? ⟨Bk, off + 4, none⟩ = some (.int .u8 (u : Int)) := by rw [hw4]; exact (cell_farC HBK.out _).trans ((cell_farC HBK.out _).trans (g3u))
  have g4v : w4.cell? ⟨Bk, off + 5, none⟩ = some (.int .u8 (v : Int)) := by rw [hw4]; exact (cell_farC HBK.out _).trans ((cell_farC HBK.out _).trans (g3v))
  obtain ⟨q0, q1, q2, q3, q4, q5, q6, q7, q8, q9, q10, q11⟩ := cells12 B4
  have fr4 : ∀ i, w4.frozen? ⟨B, i, none⟩ = false := fun i => HB4X.out.frozen i
  have f7 := fr4 7
  have f8 := fr4 8
  have hBk1 : ¬ (Bk = B) := HBK.out
  have hBk2 : ¬ (B = Bk) := fun e => HBK.out e.symm
  clear fr4 B4 hw4
  go_wp2_with fail
  clear q0 q1 q2 q3 q4 q5 q6 q7 q8 q9 q10 q11 f7 f8
  obtain ⟨w5, hw5⟩ : ∃ w5, w5 = ((w4.setCell ⟨B, 7, none⟩ (.int .i64 ((z : Int) / 16))).setCell ⟨B, 8, none⟩ (.int .i64 ((z : Int) % 16 * 256 + (t : Int)))) := ⟨_, rfl⟩
  rw [← hw5]
  have B5 : Bx w5 B 28 #[.int .i64 (x : Int), .int .i64 (F : Int), .int .i64 ((y : Int) / 16), .int .i64 ((y : Int) % 16), .int .i64 ((y : Int) % 16), .int .i64 ((z : Int) / 16), .int .i64 ((z : Int) % 16 * 256 + (t : Int)), .int .i64 ((z : Int) / 16), .int .i64 ((z : Int) % 16 * 256 + (t : Int)), .int .i64 ((y : Int) / 16), .int .i64 ((y : Int) % 16), .int .i64 (y : Int)] := by
    rw [hw5]
    have h := (((HB4X.out).set 7 (.int .i64 ((z : Int) / 16))).set 8 (.int .i64 ((z : Int) % 16 * 256 + (t : Int))))
    simp only [List.setIfInBounds_toArray, List.set_cons_zero, List.set_cons_succ] at h
    exact h
  have HB5X := Lib.hid B5
  have HR5 := Lib.hid (show Bx w5 R 28 Ins.zero.cs from by rw [hw5]; exact (((HR4.out).far (p := ⟨B, 7, none⟩) HBR.out.1 (.int .i64 ((z : Int) / 16))).far (p := ⟨B, 8, none⟩) HBR.out.1 (.int .i64 ((z : Int) % 16 * 256 + (t : Int)))))
  have HB5 := Lib.hid (show Below w.heap.size w w5 from by rw [hw5]; exact ((HB4.out.setCell (p := ⟨B, 7, none⟩) HBR.out.2 (.int .i64 ((z : Int) / 16))).setCell (p := ⟨B, 8, none⟩) HBR.out.2 (.int .i64 ((z : Int) % 16 * 256 + (t : Int)))))
  have g5x : w5.cell? ⟨Bk, off, none⟩ = some (.int .u8 (x : Int)) := by rw [hw5]; exact (cell_farC HBK.out _).trans ((cell_farC HBK.out _).trans (g4x))
  have g5u : w5.cell? ⟨Bk, off + 4, none⟩ = some (.int .u8 (u : Int)) := by rw [hw5]; exact (cell_farC HBK.out _).trans ((cell_farC HBK.out _).trans (g4u))
  have g5v : w5.cell? ⟨Bk, off + 5, none⟩ = some (.int .u8 (v : Int)) := by rw [hw5]; exact (cell_farC HBK.out _).trans ((cell_farC HBK.out _).trans (g4v))
  obtain ⟨q0, q1, q2, q3, q4, q5, q6, q7, q8, q9, q10, q11⟩ := cells12 B5
  have fr5 : ∀ i, w5.frozen? ⟨B, i, none⟩ = false := fun i => HB5X.out.frozen i
  refine (HL.out _).mono ?_
  rintro e w8 ⟨rfl, rfl⟩
  have f7 := fr5 7
  have f8 := fr5 8
  clear fr5 B5 hw5
  go_wp2_with fail
  refine only_wp ?_
  refine wp_region_held_drew (S := fun Y => Y.cell? ⟨Bk, off + 4, none⟩ = some (.int .u8 (u : Int)) ∧ Y.cell? ⟨Bk, off + 5, none⟩ = some (.int .u8 (v : Int))) (by kernel_rfl) ⟨g5u, g5v⟩ (fun j0 => ?_)
  show wpAnyH _ _ _ _ _ 20 #[false, false, false, false, false, false, false, false, false, false, false, false, false, false, false, false, false, false, false, false] _ _
  refine wpAnyH_take (i := 0) (oi := { dst := some 91, op := Go.Op.move (Go.Operand.tmp 0), type := 29, pos := "ref.go:228", after := #[], guard := none }) (v := .slice (some ⟨Bk, off, none⟩) n c) rfl (by kernel_rfl) (by kernel_rfl) (by kernel_rfl) (fun _ _ _ h => h) (Or.inl ⟨by rfl, fun W hSw => by clear hSw; go_simp⟩) j0 ?_
  try simp only [Act.put, List.setIfInBounds_toArray, List.set_cons_zero, List.set_cons_succ]
  refine wpAnyH_take (i := 1) (oi := { dst := some 92, op := Go.Op.indexAddr 29 (Go.Operand.tmp 91) (Go.Operand.const (Go.Value.int Go.IntKind.i64 4)), type := 0, pos := "ref.go:228", after := #[{ on := 0, ground := Go.Ground.data }], guard := none }) (v := .pointer (some ⟨Bk, off + 4, none⟩)) rfl (by kernel_rfl) (by kernel_rfl) (by kernel_rfl) (fun _ _ _ h => h) (Or.inl ⟨by rfl, fun W hSw => by clear hSw; go_simp⟩) j0 ?_
  try simp only [Act.put, List.setIfInBounds_toArray, List.set_cons_zero, List.set_cons_succ]
  refine wpAnyH_take (i := 2) (oi := { dst := some 93, op := Go.Op.load 5 (Go.Operand.tmp 92), type := 5, pos := "ref.go:228", after := #[{ on := 1, ground := Go.Ground.data }], guard := none }) (v := .int .u8 (u : Int)) rfl (by kernel_rfl) (by kernel_rfl) (by kernel_rfl) (fun _ _ _ h => h) (Or.inl ⟨by rfl, fun W hSw => by obtain ⟨s1, s2⟩ := hSw; go_simp⟩) j0 ?_
  try simp only [Act.put, List.setIfInBounds_toArray, List.set_cons_zero, List.set_cons_succ]
  refine wpAnyH_take (i := 3) (oi := { dst := some 94, op := Go.Op.convert 5 3 (Go.Operand.tmp 93), type := 3, pos := "ref.go:228", after := #[{ on := 2, ground := Go.Ground.data }], guard := none }) (v := .int .i64 (u : Int)) rfl (by kernel_rfl) (by kernel_rfl) (by kernel_rfl) (fun _ _ _ h => h) (Or.inl ⟨by rfl, fun W hSw => by clear hSw; go_simp⟩) j0 ?_
  try simp only [Act.put, List.setIfInBounds_toArray, List.set_cons_zero, List.set_cons_succ]
  refine wpAnyH_take (i := 4) (oi := { dst := some 95, op := Go.Op.binOp Go.BinOp.quo 3 (Go.Operand.tmp 94) (Go.Operand.const (Go.Value.int Go.IntKind.i64 16)) 3, type := 3, pos := "ref.go:228", after := #[{ on := 3, ground := Go.Ground.data }], guard := none }) (v := .int .i64 ((u : Int) / 16)) rfl (by kernel_rfl) (by kernel_rfl) (by kernel_rfl) (fun _ _ _ h => h) (Or.inl ⟨by rfl, fun W hSw => by clear hSw; go_simp; first | (rw [IntKind.wrap_i64]; omega) | exact Int.tmod_eq_emod_of_nonneg (by omega)⟩) j0 ?_
  try simp only [Act.put, List.setIfInBounds_toArray, List.set_cons_zero, List.set_cons_succ]
  refine wpAnyH_take (i := 5) (oi := { dst := some 96, op := Go.Op.move (Go.Operand.tmp 0), type := 29, pos := "ref.go:228", after := #[{ on := 17, ground := Go.Ground.gcOnly Go.Departure.lateStores }], guard := none }) (v := .slice (some ⟨Bk, off, none⟩) n c) rfl (by kernel_rfl) (by kernel_rfl) (by kernel_rfl) (fun _ _ _ h => h) (Or.inl ⟨by rfl, fun W hSw => by clear hSw; go_simp⟩) j0 ?_
  try simp only [Act.put, List.setIfInBounds_toArray, List.set_cons_zero, List.set_cons_succ]
  refine wpAnyH_take (i := 6) (oi := { dst := some 97, op := Go.Op.indexAddr 29 (Go.Operand.tmp 96) (Go.Operand.const (Go.Value.int Go.IntKind.i64 4)), type := 0, pos := "ref.go:228", after := #[{ on := 5, ground := Go.Ground.data }, { on := 17, ground := Go.Ground.gcOnly Go.Departure.lateStores }], guard := none }) (v := .pointer (some ⟨Bk, off + 4, none⟩)) rfl (by kernel_rfl) (by kernel_rfl) (by kernel_rfl) (fun _ _ _ h => h) (Or.inl ⟨by rfl, fun W hSw => by clear hSw; go_simp⟩) j0 ?_
  try simp only [Act.put, List.setIfInBounds_toArray, List.set_cons_zero, List.set_cons_succ]
  refine wpAnyH_take (i := 7) (oi := { dst := some 98, op := Go.Op.load 5 (Go.Operand.tmp 97), type := 5, pos := "ref.go:228", after := #[{ on := 6, ground := Go.Ground.data }, { on := 17, ground := Go.Ground.gcOnly Go.Departure.lateStores }], guard := none }) (v := .int .u8 (u : Int)) rfl (by kernel_rfl) (by kernel_rfl) (by kernel_rfl) (fun _ _ _ h => h) (Or.inl ⟨by rfl, fun W hSw => by obtain ⟨s1, s2⟩ := hSw; go_simp⟩) j0 ?_
  try simp only [Act.put, List.setIfInBounds_toArray, List.set_cons_zero, List.set_cons_succ]
  refine wpAnyH_take (i := 8) (oi := { dst := some 99, op := Go.Op.convert 5 3 (Go.Operand.tmp 98), type := 3, pos := "ref.go:228", after := #[{ on := 7, ground := Go.Ground.data }, { on := 17, ground := Go.Ground.gcOnly Go.Departure.lateStores }], guard := none }) (v := .int .i64 (u : Int)) rfl (by kernel_rfl) (by kernel_rfl) (by kernel_rfl) (fun _ _ _ h => h) (Or.inl ⟨by rfl, fun W hSw => by clear hSw; go_simp⟩) j0 ?_
  try simp only [Act.put, List.setIfInBounds_toArray, List.set_cons_zero, List.set_cons_succ]
  refine wpAnyH_take (i := 9) (oi := { dst := some 100, op := Go.Op.binOp Go.BinOp.rem 3 (Go.Operand.tmp 99) (Go.Operand.const (Go.Value.int Go.IntKind.i64 16)) 3, type := 3, pos := "ref.go:228", after := #[{ on := 8, ground := Go.Ground.data }, { on := 17, ground := Go.Ground.gcOnly Go.Departure.lateStores }], guard := none }) (v := .int .i64 ((u : Int) % 16)) rfl (by kernel_rfl) (by kernel_rfl) (by kernel_rfl) (fun _ _ _ h => h) (Or.inl ⟨by rfl, fun W hSw => by clear hSw; go_simp; first | (rw [IntKind.wrap_i64]; omega) | exact Int.tmod_eq_emod_of_nonneg (by omega)⟩) j0 ?_
  try simp only [Act.put, List.setIfInBounds_toArray, List.set_cons_zero, List.set_cons_succ]
  refine wpAnyH_take (i := 10) (oi := { dst := some 101, op := Go.Op.binOp Go.BinOp.mul 3 (Go.Operand.tmp 100) (Go.Operand.const (Go.Value.int Go.IntKind.i64 256)) 3, type := 3, pos := "ref.go:228", after := #[{ on := 9, ground := Go.Ground.data }, { on := 17, ground := Go.Ground.gcOnly Go.Departure.lateStores }], guard := none }) (v := .int .i64 ((u : Int) % 16 * 256)) rfl (by kernel_rfl) (by kernel_rfl) (by kernel_rfl) (fun _ _ _ h => h) (Or.inl ⟨by rfl, fun W hSw => by clear hSw; go_simp; first | (rw [IntKind.wrap_i64]; omega) | exact Int.tmod_eq_emod_of_nonneg (by omega)⟩) j0 ?_
  try simp only [Act.put, List.setIfInBounds_toArray, List.set_cons_zero, List.set_cons_succ]
  refine wpAnyH_take (i := 11) (oi := { dst := some 102, op := Go.Op.move (Go.Operand.tmp 0), type := 29, pos := "ref.go:228", after := #[{ on := 17, ground := Go.Ground.gcOnly Go.Departure.lateStores }], guard := none }) (v := .slice (some ⟨Bk, off, none⟩) n c) rfl (by kernel_rfl) (by kernel_rfl) (by kernel_rfl) (fun _ _ _ h => h) (Or.inl ⟨by rfl, fun W hSw => by clear hSw; go_simp⟩) j0 ?_
  try simp only [Act.put, List.setIfInBounds_toArray, List.set_cons_zero, List.set_cons_succ]
  refine wpAnyH_take (i := 12) (oi := { dst := some 103, op := Go.Op.indexAddr 29 (Go.Operand.tmp 102) (Go.Operand.const (Go.Value.int Go.IntKind.i64 5)), type := 0, pos := "ref.go:228", after := #[{ on := 11, ground := Go.Ground.data }, { on := 17, ground := Go.Ground.gcOnly Go.Departure.lateStores }], guard := none }) (v := .pointer (some ⟨Bk, off + 5, none⟩)) rfl (by kernel_rfl) (by kernel_rfl) (by kernel_rfl) (fun _ _ _ h => h) (Or.inl ⟨by rfl, fun W hSw => by clear hSw; go_simp⟩) j0 ?_
  try simp only [Act.put, List.setIfInBounds_toArray, List.set_cons_zero, List.set_cons_succ]
  refine wpAnyH_take (i := 13) (oi := { dst := some 104, op := Go.Op.load 5 (Go.Operand.tmp 103), type := 5, pos := "ref.go:228", after := #[{ on := 12, ground := Go.Ground.data }, { on := 17, ground := Go.Ground.gcOnly Go.Departure.lateStores }], guard := none }) (v := .int .u8 (v : Int)) rfl (by kernel_rfl) (by kernel_rfl) (by kernel_rfl) (fun _ _ _ h => h) (Or.inl ⟨by rfl, fun W hSw => by obtain ⟨s1, s2⟩ := hSw; go_simp⟩) j0 ?_
  try simp only [Act.put, List.setIfInBounds_toArray, List.set_cons_zero, List.set_cons_succ]
  refine wpAnyH_take (i := 14) (oi := { dst := some 105, op := Go.Op.convert 5 3 (Go.Operand.tmp 104), type := 3, pos := "ref.go:228", after := #[{ on := 13, ground := Go.Ground.data }, { on := 17, ground := Go.Ground.gcOnly Go.Departure.lateStores }], guard := none }) (v := .int .i64 (v : Int)) rfl (by kernel_rfl) (by kernel_rfl) (by kernel_rfl) (fun _ _ _ h => h) (Or.inl ⟨by rfl, fun W hSw => by clear hSw; go_simp⟩) j0 ?_
  try simp only [Act.put, List.setIfInBounds_toArray, List.set_cons_zero, List.set_cons_succ]
  refine wpAnyH_take (i := 15) (oi := { dst := some 106, op := Go.Op.binOp Go.BinOp.add 3 (Go.Operand.tmp 101) (Go.Operand.tmp 105) 3, type := 3, pos := "ref.go:228", after := #[{ on := 10, ground := Go.Ground.data }, { on := 14, ground := Go.Ground.data }, { on := 17, ground := Go.Ground.gcOnly Go.Departure.lateStores }], guard := none }) (v := .int .i64 ((u : Int) % 16 * 256 + (v : Int))) rfl (by kernel_rfl) (by kernel_rfl) (by kernel_rfl) (fun _ _ _ h => h) (Or.inl ⟨by rfl, fun W hSw => by clear hSw; go_simp; first | (rw [IntKind.wrap_i64]; omega) | exact Int.tmod_eq_emod_of_nonneg (by omega)⟩) j0 ?_
  try simp only [Act.put, List.setIfInBounds_toArray, List.set_cons_zero, List.set_cons_succ]
  refine wpAnyH_take (i := 16) (oi := { dst := some 107, op := Go.Op.fieldAddr 28 (Go.Operand.tmp 7) 7, type := 0, pos := "ref.go:228", after := #[{ on := 0, ground := Go.Ground.phase }, { on := 1, ground := Go.Ground.phase }, { on := 2, ground := Go.Ground.phase }, { on := 3, ground := Go.Ground.phase }, { on := 4, ground := Go.Ground.phase }, { on := 5, ground := Go.Ground.textOnly Go.Departure.lateStores }, { on := 6, ground := Go.Ground.textOnly Go.Departure.lateStores }, { on := 7, ground := Go.Ground.textOnly Go.Departure.lateStores }, { on := 8, ground := Go.Ground.textOnly Go.Departure.lateStores }, { on := 9, ground := Go.Ground.textOnly Go.Departure.lateStores }, { on := 10, ground := Go.Ground.textOnly Go.Departure.lateStores }, { on := 11, ground := Go.Ground.textOnly Go.Departure.lateStores }, { on := 12, ground := Go.Ground.textOnly Go.Departure.lateStores }, { on := 13, ground := Go.Ground.textOnly Go.Departure.lateStores }, { on := 14, ground := Go.Ground.textOnly Go.Departure.lateStores }, { on := 15, ground := Go.Ground.textOnly Go.Departure.lateStores }], guard := none }) (v := .pointer (some ⟨B, 7, none⟩)) rfl (by kernel_rfl) (by kernel_rfl) (by kernel_rfl) (fun _ _ _ h => h) (Or.inl ⟨by rfl, fun W hSw => by clear hSw; go_simp⟩) j0 ?_
  try simp only [Act.put, List.setIfInBounds_toArray, List.set_cons_zero, List.set_cons_succ]
  refine wpAnyH_ready (rs := [17]) (by kernel_rfl) (by simp) ?_
  refine AllReadyH.cons (o := { dst := none, op := Go.Op.store 3 (Go.Operand.tmp 107) (Go.Operand.tmp 95), type := 0, pos := "ref.go:228", after := #[{ on := 16, ground := Go.Ground.data }, { on := 4, ground := Go.Ground.data }, { on := 0, ground := Go.Ground.phase }, { on := 1, ground := Go.Ground.phase }, { on := 2, ground := Go.Ground.phase }, { on := 3, ground := Go.Ground.phase }, { on := 4, ground := Go.Ground.phase }, { on := 5, ground := Go.Ground.textOnly Go.Departure.lateStores }, { on := 6, ground := Go.Ground.textOnly Go.Departure.lateStores }, { on := 7, ground := Go.Ground.textOnly Go.Departure.lateStores }, { on := 8, ground := Go.Ground.textOnly Go.Departure.lateStores }, { on := 9, ground := Go.Ground.textOnly Go.Departure.lateStores }, { on := 10, ground := Go.Ground.textOnly Go.Departure.lateStores }, { on := 11, ground := Go.Ground.textOnly Go.Departure.lateStores }, { on := 12, ground := Go.Ground.textOnly Go.Departure.lateStores }, { on := 13, ground := Go.Ground.textOnly Go.Departure.lateStores }, { on := 14, ground := Go.Ground.textOnly Go.Departure.lateStores }, { on := 15, ground := Go.Ground.textOnly Go.Departure.lateStores }], guard := none }) rfl (fun K hK => ?_) AllReadyH.nil
  go_simp
  refine hK.out _ (w5.drew.setCell ⟨B, 7, none⟩ (.int .i64 ((u : Int) / 16))) ⟨(cell_farC (HBK.out) _).trans j0.1, (cell_farC (HBK.out) _).trans j0.2⟩ (fun j1 => ?_)
  clear hK K
  try simp only [List.setIfInBounds_toArray, List.set_cons_zero, List.set_cons_succ]
  refine wpAnyH_take (i := 18) (oi := { dst := some 108, op := Go.Op.fieldAddr 28 (Go.Operand.tmp 7) 8, type := 0, pos := "ref.go:228", after := #[{ on := 0, ground := Go.Ground.phase }, { on := 1, ground := Go.Ground.phase }, { on := 2, ground := Go.Ground.phase }, { on := 3, ground := Go.Ground.phase }, { on := 4, ground := Go.Ground.phase }, { on := 5, ground := Go.Ground.phase }, { on := 6, ground := Go.Ground.phase }, { on := 7, ground := Go.Ground.phase }, { on := 8, ground := Go.Ground.phase }, { on := 9, ground := Go.Ground.phase }, { on := 10, ground := Go.Ground.phase }, { on := 11, ground := Go.Ground.phase }, { on := 12, ground := Go.Ground.phase }, { on := 13, ground := Go.Ground.phase }, { on := 14, ground := Go.Ground.phase }, { on := 15, ground := Go.Ground.phase }, { on := 16, ground := Go.Ground.phase }, { on := 17, ground := Go.Ground.phase }], guard := none }) (v := .pointer (some ⟨B, 8, none⟩)) rfl (by kernel_rfl) (by kernel_rfl) (by kernel_rfl) (fun _ _ _ h => h) (Or.inl ⟨by rfl, fun W hSw => by clear hSw; go_simp⟩) j1 ?_
  try simp only [Act.put, List.setIfInBounds_toArray, List.set_cons_zero, List.set_cons_succ]
  refine wpAnyH_ready (rs := [19]) (by kernel_rfl) (by simp) ?_
  refine AllReadyH.cons (o := { dst := none, op := Go.Op.store 3 (Go.Operand.tmp 108) (Go.Operand.tmp 106), type := 0, pos := "ref.go:228", after := #[{ on := 18, ground := Go.Ground.data }, { on := 15, ground := Go.Ground.data }, { on := 17, ground := Go.Ground.chain }, { on := 0, ground := Go.Ground.phase }, { on := 1, ground := Go.Ground.phase }, { on := 2, ground := Go.Ground.phase }, { on := 3, ground := Go.Ground.phase }, { on := 4, ground := Go.Ground.phase }, { on := 5, ground := Go.Ground.phase }, { on := 6, ground := Go.Ground.phase }, { on := 7, ground := Go.Ground.phase }, { on := 8, ground := Go.Ground.phase }, { on := 9, ground := Go.Ground.phase }, { on := 10, ground := Go.Ground.phase }, { on := 11, ground := Go.Ground.phase }, { on := 12, ground := Go.Ground.phase }, { on := 13, ground := Go.Ground.phase }, { on := 14, ground := Go.Ground.phase }, { on := 15, ground := Go.Ground.phase }, { on := 16, ground := Go.Ground.phase }, { on := 17, ground := Go.Ground.phase }], guard := none }) rfl (fun K hK => ?_) AllReadyH.nil
  go_simp
  refine hK.out _ ((w5.drew.setCell ⟨B, 7, none⟩ (.int .i64 ((u : Int) / 16))).setCell ⟨B, 8, none⟩ (.int .i64 ((u : Int) % 16 * 256 + (v : Int)))) ⟨(cell_farC (HBK.out) _).trans j1.1, (cell_farC (HBK.out) _).trans j1.2⟩ (fun j2 => ?_)
  clear hK K
  try simp only [List.setIfInBounds_toArray, List.set_cons_zero, List.set_cons_succ]
  refine wpAnyH_done (by kernel_rfl) ?_ _
  refine onlyN_normal ?_
  clear q0 q1 q2 q3 q4 q5 q6 q7 q8 q9 q10 q11 f7 f8
  obtain ⟨w6, hw6⟩ : ∃ w6, w6 = ((w5.drew.setCell ⟨B, 7, none⟩ (.int .i64 ((u : Int) / 16))).setCell ⟨B, 8, none⟩ (.int .i64 ((u : Int) % 16 * 256 + (v : Int)))) := ⟨_, rfl⟩
  rw [← hw6]
  have B6 : Bx w6 B 28 #[.int .i64 (x : Int), .int .i64 (F : Int), .int .i64 ((y : Int) / 16), .int .i64 ((y : Int) % 16), .int .i64 ((y : Int) % 16), .int .i64 ((z : Int) / 16), .int .i64 ((z : Int) % 16 * 256 + (t : Int)), .int .i64 ((u : Int) / 16), .int .i64 ((u : Int) % 16 * 256 + (v : Int)), .int .i64 ((y : Int) / 16), .int .i64 ((y : Int) % 16), .int .i64 (y : Int)] := by
    rw [hw6]
    have h := (((HB5X.out.below (Below.refl _ _).drew).set 7 (.int .i64 ((u : Int) / 16))).set 8 (.int .i64 ((u : Int) % 16 * 256 + (v : Int))))
    simp only [List.setIfInBounds_toArray, List.set_cons_zero, List.set_cons_succ] at h
    exact h
  have HB6X := Lib.hid B6
  have HR6 := Lib.hid (show Bx w6 R 28 Ins.zero.cs from by rw [hw6]; exact (((HR5.out.below (Below.refl _ _).drew).far (p := ⟨B, 7, none⟩) HBR.out.1 (.int .i64 ((u : Int) / 16))).far (p := ⟨B, 8, none⟩) HBR.out.1 (.int .i64 ((u : Int) % 16 * 256 + (v : Int)))))
  have HB6 := Lib.hid (show Below w.heap.size w w6 from by rw [hw6]; exact ((HB5.out.drew.setCell (p := ⟨B, 7, none⟩) HBR.out.2 (.int .i64 ((u : Int) / 16))).setCell (p := ⟨B, 8, none⟩) HBR.out.2 (.int .i64 ((u : Int) % 16 * 256 + (v : Int)))))
  obtain ⟨q0, q1, q2, q3, q4, q5, q6, q7, q8, q9, q10, q11⟩ := cells12 B6
  have fr6 : ∀ i, w6.frozen? ⟨B, i, none⟩ = false := fun i => HB6X.out.frozen i
  clear fr6 B6 hw6
  go_wp2_with fail
  refine (HOL.out _).mono ?_
  rintro e w9 ⟨rfl, hb9⟩
  have HR9 := Lib.hid (HR6.out.below hb9)
  have HB9 := Lib.hid (bel0 HB6.out hb9)
  obtain ⟨r0, r1, r2, r3, r4, r5, r6, r7, r8, r9, r10, r11, f0, f1, f2, f3, f4, f5, f6, f7, f8, f9, f10, f11⟩ := bx_zero HR9.out
  clear hb9
  go_wp2
  exact bodyPost_ret (results_ct rfl rfl rfl (load_ins (put12_at HR9.out P))) rfl ⟨by rw [HPV.out]; rfl, put12_below HB9.out HLE.out P⟩
end E
end Go.Proofs.YtaodghaicmjadaaDoor

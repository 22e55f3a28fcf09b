/- The contracts of the program's sums and differences of numbers. -/
import Derived.Test.YtlpekknhaaddcaaDoorDcNum
namespace Go.Proofs.YtlpekknhaaddcaaDoor
open Go.RowKit Go.Shelf
set_option linter.unusedVariables false
namespace E

/-- The sum of two numbers, by sign and magnitude. -/
def sumS (na : Bool) (x : Nat) (nb : Bool) (y : Nat) : Bool × Nat := if na = nb then (na, x + y) else if x < y then (nb, y - x) else (na, x - y)
/-- Two blocks of three cells are kept. -/
def Ap6 (D E : Nat) (p a b q c d : Value) (W : World) : Prop := W.cell? ⟨D, 0, none⟩ = some p ∧ W.cell? ⟨D, 1, none⟩ = some a ∧ W.cell? ⟨D, 2, none⟩ = some b ∧ W.cell? ⟨E, 0, none⟩ = some q ∧ W.cell? ⟨E, 1, none⟩ = some c ∧ W.cell? ⟨E, 2, none⟩ = some d
theorem Ap6.of {W : World} {D E : Nat} {t u : TypeId} {p a b q c d : Value} (h : Bx W D t #[p, a, b]) (k : Bx W E u #[q, c, d]) : Ap6 D E p a b q c d W := ⟨h.three.1.1, h.three.1.2.1, h.three.1.2.2, k.three.1.1, k.three.1.2.1, k.three.1.2.2⟩
theorem Ap6.st {W : World} {D E F : Nat} {p a b q c d x y z : Value} (h : Ap6 D E p a b q c d W) (h1 : D ≠ F) (h2 : E ≠ F) : Ap6 D E p a b q c d (((W.setCell ⟨F, 0, none⟩ x).setCell ⟨F, 1, none⟩ y).setCell ⟨F, 2, none⟩ z) := by
  have hD : ∀ (V : World) (i j : Nat) (v : Value), (V.setCell ⟨F, i, none⟩ v).cell? ⟨D, j, none⟩ = V.cell? ⟨D, j, none⟩ := fun V i j v => World.cell?_setCell_other V _ _ v (fun e => h1 (by injection e with h _; exact h.symm))
  have hE : ∀ (V : World) (i j : Nat) (v : Value), (V.setCell ⟨F, i, none⟩ v).cell? ⟨E, j, none⟩ = V.cell? ⟨E, j, none⟩ := fun V i j v => World.cell?_setCell_other V _ _ v (fun e => h2 (by injection e with h _; exact h.symm))
  unfold Ap6 at *
  simp only [hD, hE]
  exact h
theorem Bx.all3 {w : World} {g : Nat} {t : TypeId} {a b c : Value} (h : Bx w g t #[a, b, c]) (x y z : Value) : Bx (((w.setCell ⟨g, 0, none⟩ x).setCell ⟨g, 1, none⟩ y).setCell ⟨g, 2, none⟩ z) g t #[x, y, z] := ((h.set 0 x).set 1 y).set 2 z
theorem Bx.far3 {w : World} {g F : Nat} {t : TypeId} {cs : Array Value} (h : Bx w g t cs) (hne : F ≠ g) (x y z : Value) : Bx (((w.setCell ⟨F, 0, none⟩ x).setCell ⟨F, 1, none⟩ y).setCell ⟨F, 2, none⟩ z) g t cs := ((h.far hne x).far hne y).far hne z
theorem below_set3 {w W : World} (h : Below w.heap.size w W) {F : Nat} (hF : w.heap.size ≤ F) (x y z : Value) : Below w.heap.size w (((W.setCell ⟨F, 0, none⟩ x).setCell ⟨F, 1, none⟩ y).setCell ⟨F, 2, none⟩ z) :=
  ((h.setCell (p := ⟨F, 0, none⟩) hF x).setCell (p := ⟨F, 1, none⟩) hF y).setCell (p := ⟨F, 2, none⟩) hF z
theorem Ap6.next {W W' : World} {D E : Nat} {p a b q c d : Value} (h : Ap6 D E p a b q c d W) (hb : Below W.heap.size W W') : Ap6 D E p a b q c d W' := ⟨keepC h.1 hb, keepC h.2.1 hb, keepC h.2.2.1 hb, keepC h.2.2.2.1 hb, keepC h.2.2.2.2.1 hb, keepC h.2.2.2.2.2 hb⟩
set_option maxRecDepth 100000 in
set_option maxHeartbeats 2000000 in
theorem add_same (na : Bool) (x y a b c d : Nat) (w : World) (hp : Pw x a b) (hq : Pw y c d) (h : x + y < 340282366920938463463374607431768211456) :
    Calls Tryd.prog 37 #[.agg #[.bool na, .int .u64 (a : Int), .int .u64 (b : Int)], .agg #[.bool na, .int .u64 (c : Int), .int .u64 (d : Int)]] w (NvPost w (sumS na x na y).1 (sumS na x na y).2) := by
  have hv : sumS na x na y = (na, x + y) := by unfold sumS; rw [if_pos rfl]
  have HV := Lib.hid hv
  have HC := Lib.hid (fun W => pplus_cells x y a b c d W hp hq h)
  clear hv hp hq h
  obtain ⟨W0, hW0⟩ : ∃ W0, W0 = ((w.alloc (.cells #[.bool na, .int .u64 (a : Int), .int .u64 (b : Int)] 45)).alloc (.cells #[.bool na, .int .u64 (c : Int), .int .u64 (d : Int)] 45)).alloc (.cells #[.bool false, .int .u64 0, .int .u64 0] 45) := ⟨_, rfl⟩
  have hb0 : Below w.heap.size w W0 := by rw [hW0]; exact below3 _ _ _ _
  have hD : Bx W0 w.heap.size 45 #[.bool na, .int .u64 (a : Int), .int .u64 (b : Int)] := by
    rw [hW0]
    exact ((Bx.new w _ _).below (below_new _ _)).below (below_new _ _)
  have hE : Bx W0 (w.heap.size + 1) 45 #[.bool na, .int .u64 (c : Int), .int .u64 (d : Int)] := by
    rw [hW0]
    exact (second_new w _ _ _ _ rfl).below (below_new _ _)
  have hF : Bx W0 (w.heap.size + 1 + 1) 45 #[.bool false, .int .u64 0, .int .u64 0] := by
    rw [hW0]
    exact third_new w _ _ _ _ _ rfl
  have HB0 := Lib.hid hb0
  have HD := Lib.hid hD
  have HE := Lib.hid hE
  have HF := Lib.hid hF
  obtain ⟨⟨d1, d2, d3⟩, _⟩ := hD.three
  obtain ⟨⟨e1, e2, e3⟩, _⟩ := hE.three
  clear hb0 hD hE hF
  have H0 : Hid (Ap6 w.heap.size (w.heap.size + 1) (.bool na) (.int .u64 (a : Int)) (.int .u64 (b : Int)) (.bool na) (.int .u64 (c : Int)) (.int .u64 (d : Int)) W0.drew) := Lib.hid ((Ap6.of HD.out HE.out).next (Below.refl _ _).drew)
  have HBd : Hid (Below w.heap.size w W0.drew) := Lib.hid HB0.out.drew
  have HFd := Lib.hid (HF.out.below ((Below.refl W0.heap.size W0).drew))
  have hsz : W0.drew.heap.size = W0.heap.size := rfl
  go_enter Tryd.func37, Tryd.ntmps37
  go_wp2_with fail
  rw [← hW0]
  clear hW0
  go_wp2_with fail
  go_region_held3 (fun W => W.cell? ⟨w.heap.size, 0, none⟩ = some (.bool na) ∧ W.cell? ⟨w.heap.size, 1, none⟩ = some (.int .u64 (a : Int)) ∧ W.cell? ⟨w.heap.size, 2, none⟩ = some (.int .u64 (b : Int)) ∧ W.cell? ⟨w.heap.size + 1, 0, none⟩ = some (.bool na) ∧ W.cell? ⟨w.heap.size + 1, 1, none⟩ = some (.int .u64 (c : Int)) ∧ W.cell? ⟨w.heap.size + 1, 2, none⟩ = some (.int .u64 (d : Int)))
    (first | assumption | exact H0.out | exact Ap6.st (by assumption) (by omega) (by omega))
    (first
      | (go_at_call 62; refine (HC.out _).mono ?_; rintro e w5 ⟨a1, b1, hq, rfl, hb5⟩; have hs5 := Ap6.next H0.out hb5; have HB5 := Lib.hid (bel0 HBd.out hb5); have HF5 := Lib.hid (HFd.out.below hb5); have HQ5 := Lib.hid hq; obtain ⟨⟨r1, r2, r3⟩, q1, q2, q3⟩ := HF5.out.three; clear hb5 hq))
  all_goals go_wp2
  all_goals refine bodyPost_ret (v := .agg #[.bool na, .int .u64 (a1 : Int), .int .u64 (b1 : Int)]) ?_ rfl ⟨a1, b1, by rw [HV.out]; exact HQ5.out, by rw [HV.out], below_set3 HB5.out (by omega) _ _ _⟩
  all_goals rw [results_cell1 rfl]
  all_goals go_simp
set_option maxRecDepth 100000 in
set_option maxHeartbeats 4000000 in
theorem add_less (na nb : Bool) (hne : na ≠ nb) (x y a b c d : Nat) (w : World) (hp : Pw x a b) (hq : Pw y c d) (h : x + y < 340282366920938463463374607431768211456) (hlt : x < y) :
    Calls Tryd.prog 37 #[.agg #[.bool na, .int .u64 (a : Int), .int .u64 (b : Int)], .agg #[.bool nb, .int .u64 (c : Int), .int .u64 (d : Int)]] w (NvPost w (sumS na x nb y).1 (sumS na x nb y).2) := by
  have hv : sumS na x nb y = (nb, y - x) := by unfold sumS; rw [if_neg hne, if_pos hlt]
  have HV := Lib.hid hv
  have HC := Lib.hid (fun W => pminus_cells y x c d a b W hq hp (by omega) (by omega))
  have HCM := Lib.hid (fun W => pcompare_cells x y a b c d W hp hq (by omega) (by omega))
  have hdl : decide (x < y) = true := by simp; omega
  have HDL := Lib.hid hdl
  have hnb : (na == nb) = false := by simpa using hne
  clear hv hp hq h hdl hne hlt
  obtain ⟨W0, hW0⟩ : ∃ W0, W0 = ((w.alloc (.cells #[.bool na, .int .u64 (a : Int), .int .u64 (b : Int)] 45)).alloc (.cells #[.bool nb, .int .u64 (c : Int), .int .u64 (d : Int)] 45)).alloc (.cells #[.bool false, .int .u64 0, .int .u64 0] 45) := ⟨_, rfl⟩
  have hb0 : Below w.heap.size w W0 := by rw [hW0]; exact below3 _ _ _ _
  have hD : Bx W0 w.heap.size 45 #[.bool na, .int .u64 (a : Int), .int .u64 (b : Int)] := by
    rw [hW0]
    exact ((Bx.new w _ _).below (below_new _ _)).below (below_new _ _)
  have hE : Bx W0 (w.heap.size + 1) 45 #[.bool nb, .int .u64 (c : Int), .int .u64 (d : Int)] := by
    rw [hW0]
    exact (second_new w _ _ _ _ rfl).below (below_new _ _)
  have hF : Bx W0 (w.heap.size + 1 + 1) 45 #[.bool false, .int .u64 0, .int .u64 0] := by
    rw [hW0]
    exact third_new w _ _ _ _ _ rfl
  have HB0 := Lib.hid hb0
  have HD := Lib.hid hD
  have HE := Lib.hid hE
  have HF := Lib.hid hF
  obtain ⟨⟨d1, d2, d3⟩, _⟩ := hD.three
  obtain ⟨⟨e1, e2, e3⟩, _⟩ := hE.three
  clear hb0 hD hE hF
  go_enter Tryd.func37, Tryd.ntmps37
  go_wp2_with fail
  rw [← hW0]
  clear hW0
  go_wp2_with fail
  refine (HCM.out _).mono ?_
  rintro e w1 ⟨c0, rfl, hc0, hb⟩
  rw [HDL.out] at hc0
  have HB1 := Lib.hid (bel0 HB0.out hb)
  have HD1 := Lib.hid (HD.out.below hb)
  have HE1 := Lib.hid (HE.out.below hb)
  have HF1 := Lib.hid (HF.out.below hb)
  clear hb d1 d2 d3 e1 e2 e3 HB0 HD HE HF HCM
  obtain ⟨⟨d1, d2, d3⟩, p1, p2, p3⟩ := HD1.out.three
  obtain ⟨⟨e1, e2, e3⟩, t1, t2, t3⟩ := HE1.out.three
  go_wp2_with fail
  obtain ⟨W2, hW2⟩ : ∃ W2, W2 = (((((w1.setCell ⟨w.heap.size, 0, none⟩ (.bool nb)).setCell ⟨w.heap.size, 1, none⟩ (.int .u64 (c : Int))).setCell ⟨w.heap.size, 2, none⟩ (.int .u64 (d : Int))).setCell ⟨w.heap.size + 1, 0, none⟩ (.bool na)).setCell ⟨w.heap.size + 1, 1, none⟩ (.int .u64 (a : Int))).setCell ⟨w.heap.size + 1, 2, none⟩ (.int .u64 (b : Int)) := ⟨_, rfl⟩
  rw [← hW2]
  have HB2 : Hid (Below w.heap.size w W2.drew) := Lib.hid (by rw [hW2]; exact (below_set3 (below_set3 HB1.out (Nat.le_refl _) _ _ _) (Nat.le_succ _) _ _ _).drew)
  have hD2 : Bx W2 w.heap.size 45 #[.bool nb, .int .u64 (c : Int), .int .u64 (d : Int)] := by rw [hW2]; exact (HD1.out.all3 _ _ _).far3 (by omega) _ _ _
  have hE2 : Bx W2 (w.heap.size + 1) 45 #[.bool na, .int .u64 (a : Int), .int .u64 (b : Int)] := by rw [hW2]; exact (HE1.out.far3 (by omega) _ _ _).all3 _ _ _
  have hF2 : Bx W2 (w.heap.size + 1 + 1) 45 #[.bool false, .int .u64 0, .int .u64 0] := by rw [hW2]; exact (HF1.out.far3 (by omega) _ _ _).far3 (by omega) _ _ _
  have H0 : Hid (Ap6 w.heap.size (w.heap.size + 1) (.bool nb) (.int .u64 (c : Int)) (.int .u64 (d : Int)) (.bool na) (.int .u64 (a : Int)) (.int .u64 (b : Int)) W2.drew) := Lib.hid ((Ap6.of hD2 hE2).next (Below.refl _ _).drew)
  have HFd := Lib.hid (hF2.below ((Below.refl W2.heap.size W2).drew))
  clear hD2 hE2 hF2 hW2 d1 d2 d3 e1 e2 e3 p1 p2 p3 t1 t2 t3
  go_region_held3 (fun W => W.cell? ⟨w.heap.size, 0, none⟩ = some (.bool nb) ∧ W.cell? ⟨w.heap.size, 1, none⟩ = some (.int .u64 (c : Int)) ∧ W.cell? ⟨w.heap.size, 2, none⟩ = some (.int .u64 (d : Int)) ∧ W.cell? ⟨w.heap.size + 1, 0, none⟩ = some (.bool na) ∧ W.cell? ⟨w.heap.size + 1, 1, none⟩ = some (.int .u64 (a : Int)) ∧ W.cell? ⟨w.heap.size + 1, 2, none⟩ = some (.int .u64 (b : Int)))
    (first | assumption | exact H0.out | exact Ap6.st (by assumption) (by omega) (by omega))
    (first
      | (go_at_call 64; refine (HC.out _).mono ?_; rintro e w5 ⟨a1, b1, hq, rfl, hb5⟩; have hs5 := Ap6.next H0.out hb5; have HB5 := Lib.hid (bel0 HB2.out hb5); have HF5 := Lib.hid (HFd.out.below hb5); have HQ5 := Lib.hid hq; obtain ⟨⟨r1, r2, r3⟩, q1, q2, q3⟩ := HF5.out.three; clear hb5 hq))
  all_goals go_wp2
  all_goals refine bodyPost_ret (v := .agg #[.bool nb, .int .u64 (a1 : Int), .int .u64 (b1 : Int)]) ?_ rfl ⟨a1, b1, by rw [HV.out]; exact HQ5.out, by rw [HV.out], below_set3 HB5.out (by omega) _ _ _⟩
  all_goals rw [results_cell1 rfl]
  all_goals go_simp
set_option maxRecDepth 100000 in
set_option maxHeartbeats 4000000 in
theorem add_more (na nb : Bool) (hne : na ≠ nb) (x y a b c d : Nat) (w : World) (hp : Pw x a b) (hq : Pw y c d) (h : x + y < 340282366920938463463374607431768211456) (hlt : ¬ x < y) :
    Calls Tryd.prog 37 #[.agg #[.bool na, .int .u64 (a : Int), .int .u64 (b : Int)], .agg #[.bool nb, .int .u64 (c : Int), .int .u64 (d : Int)]] w (NvPost w (sumS na x nb y).1 (sumS na x nb y).2) := by
  have hv : sumS na x nb y = (na, x - y) := by unfold sumS; rw [if_neg hne, if_neg hlt]
  have HV := Lib.hid hv
  have HC := Lib.hid (fun W => pminus_cells x y a b c d W hp hq (by omega) (by omega))
  have HCM := Lib.hid (fun W => pcompare_cells x y a b c d W hp hq (by omega) (by omega))
  have hdl : decide (x < y) = false := by simp; omega
  have HDL := Lib.hid hdl
  have hnb : (na == nb) = false := by simpa using hne
  clear hv hp hq h hdl hne hlt
  obtain ⟨W0, hW0⟩ : ∃ W0, W0 = ((w.alloc (.cells #[.bool na, .int .u64 (a : Int), .int .u64 (b : Int)] 45)).alloc (.cells #[.bool nb, .int .u64 (c : Int), .int .u64 (d : Int)] 45)).alloc (.cells #[.bool false, .int .u64 0, .int .u64 0] 45) := ⟨_, rfl⟩
  have hb0 : Below w.heap.size w W0 := by rw [hW0]; exact below3 _ _ _ _
  have hD : Bx W0 w.heap.size 45 #[.bool na, .int .u64 (a : Int), .int .u64 (b : Int)] := by
    rw [hW0]
    exact ((Bx.new w _ _).below (below_new _ _)).below (below_new _ _)
  have hE : Bx W0 (w.heap.size + 1) 45 #[.bool nb, .int .u64 (c : Int), .int .u64 (d : Int)] := by
    rw [hW0]
    exact (second_new w _ _ _ _ rfl).below (below_new _ _)
  have hF : Bx W0 (w.heap.size + 1 + 1) 45 #[.bool false, .int .u64 0, .int .u64 0] := by
    rw [hW0]
    exact third_new w _ _ _ _ _ rfl
  have HB0 := Lib.hid hb0
  have HD := Lib.hid hD
  have HE := Lib.hid hE
  have HF := Lib.hid hF
  obtain ⟨⟨d1, d2, d3⟩, _⟩ := hD.three
  obtain ⟨⟨e1, e2, e3⟩, _⟩ := hE.three
  clear hb0 hD hE hF
  go_enter Tryd.func37, Tryd.ntmps37
  go_wp2_with fail
  rw [← hW0]
  clear hW0
  go_wp2_with fail
  refine (HCM.out _).mono ?_
  rintro e w1 ⟨c0, rfl, hc0, hb⟩
  rw [HDL.out] at hc0
  have HB1 := Lib.hid (bel0 HB0.out hb)
  have HD1 := Lib.hid (HD.out.below hb)
  have HE1 := Lib.hid (HE.out.below hb)
  have HF1 := Lib.hid (HF.out.below hb)
  clear hb d1 d2 d3 e1 e2 e3 HB0 HD HE HF HCM
  obtain ⟨⟨d1, d2, d3⟩, p1, p2, p3⟩ := HD1.out.three
  obtain ⟨⟨e1, e2, e3⟩, t1, t2, t3⟩ := HE1.out.three
  have H0 : Hid (Ap6 w.heap.size (w.heap.size + 1) (.bool na) (.int .u64 (a : Int)) (.int .u64 (b : Int)) (.bool nb) (.int .u64 (c : Int)) (.int .u64 (d : Int)) w1.drew) := Lib.hid ((Ap6.of HD1.out HE1.out).next (Below.refl _ _).drew)
  have HB2 : Hid (Below w.heap.size w w1.drew) := Lib.hid HB1.out.drew
  have HFd := Lib.hid (HF1.out.below ((Below.refl w1.heap.size w1).drew))
  go_wp2_with fail
  go_region_held3 (fun W => W.cell? ⟨w.heap.size, 0, none⟩ = some (.bool na) ∧ W.cell? ⟨w.heap.size, 1, none⟩ = some (.int .u64 (a : Int)) ∧ W.cell? ⟨w.heap.size, 2, none⟩ = some (.int .u64 (b : Int)) ∧ W.cell? ⟨w.heap.size + 1, 0, none⟩ = some (.bool nb) ∧ W.cell? ⟨w.heap.size + 1, 1, none⟩ = some (.int .u64 (c : Int)) ∧ W.cell? ⟨w.heap.size + 1, 2, none⟩ = some (.int .u64 (d : Int)))
    (first | assumption | exact H0.out | exact Ap6.st (by assumption) (by omega) (by omega))
    (first
      | (go_at_call 64; refine (HC.out _).mono ?_; rintro e w5 ⟨a1, b1, hq, rfl, hb5⟩; have hs5 := Ap6.next H0.out hb5; have HB5 := Lib.hid (bel0 HB2.out hb5); have HF5 := Lib.hid (HFd.out.below hb5); have HQ5 := Lib.hid hq; obtain ⟨⟨r1, r2, r3⟩, q1, q2, q3⟩ := HF5.out.three; clear hb5 hq))
  all_goals go_wp2
  all_goals refine bodyPost_ret (v := .agg #[.bool na, .int .u64 (a1 : Int), .int .u64 (b1 : Int)]) ?_ rfl ⟨a1, b1, by rw [HV.out]; exact HQ5.out, by rw [HV.out], below_set3 HB5.out (by omega) _ _ _⟩
  all_goals rw [results_cell1 rfl]
  all_goals go_simp
/-- The sum of two numbers. -/
theorem add_any (na nb : Bool) (x y a b c d : Nat) (w : World) (hp : Pw x a b) (hq : Pw y c d) (h : x + y < 340282366920938463463374607431768211456) :
    Calls Tryd.prog 37 #[.agg #[.bool na, .int .u64 (a : Int), .int .u64 (b : Int)], .agg #[.bool nb, .int .u64 (c : Int), .int .u64 (d : Int)]] w (NvPost w (sumS na x nb y).1 (sumS na x nb y).2) := by
  by_cases hne : na = nb
  · subst hne
    exact add_same na x y a b c d w hp hq h
  · by_cases hlt : x < y
    · exact add_less na nb hne x y a b c d w hp hq h hlt
    · exact add_more na nb hne x y a b c d w hp hq h hlt

end E
end Go.Proofs.YtlpekknhaaddcaaDoor

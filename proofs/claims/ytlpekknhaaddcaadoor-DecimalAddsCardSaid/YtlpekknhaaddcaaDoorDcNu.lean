/- Numbers of the document's own answers: Sum, Code, size, result. -/
import Derived.Test.YtlpekknhaaddcaaDoorDcMinus
import Derived.Test.YtlpekknhaaddcaaDoorDcOut
import Derived.Laws.ResultCell
namespace Go.Proofs.YtlpekknhaaddcaaDoor
open Go.RowKit
set_option linter.unusedVariables false
namespace E

/-- A number is returned. -/
def NumP (w : World) (neg : Bool) (n : Nat) (e : Ending) (w' : World) : Prop := ∃ p c, e = .returned (.agg #[.bool neg, .slice p (dgs n).length c]) ∧ SlI w' p c (dgs n) ∧ Below w.heap.size w w'
theorem numB {b : Bool} {q : Option Addr} {n d : Nat} (k : Nat) (z : Int) : (#[.bool b, .slice q n d] : Array Value)[k]? ≠ some (Value.int .i64 z) := by
  match k with
  | 0 => simp
  | 1 => simp
  | k + 2 => simp
theorem RdI.far {w : World} {p : Option Addr} {l : List (Fin 16)} (h : RdI w p l) {F : Nat} {t : TypeId} {cs : Array Value} (hF : Bx w F t cs) (hi : ∀ (k : Nat) (z : Int), cs[k]? ≠ some (Value.int .i64 z)) {a : Addr} (ha : a.block = F) (u : Value) : RdI (w.setCell a u) p l := by
  rcases h with h | ⟨B, off, hp, hc⟩
  · exact .inl h
  · refine .inr ⟨B, off, hp, fun j hj => ?_⟩
    have h1 := hc j hj
    have hne : B ≠ F := by
      rintro rfl
      rw [hF.cell] at h1
      exact hi _ _ h1
    have h2 := heap_setCell_other w a B u (by rw [ha]; exact hne)
    unfold World.cell? at h1 ⊢
    rw [h2]
    exact h1
theorem SlI.far {w : World} {p : Option Addr} {c : Nat} {l : List (Fin 16)} (h : SlI w p c l) {F : Nat} {t : TypeId} {cs : Array Value} (hF : Bx w F t cs) (hi : ∀ (k : Nat) (z : Int), cs[k]? ≠ some (Value.int .i64 z)) {a : Addr} (ha : a.block = F) (u : Value) : SlI (w.setCell a u) p c l := ⟨h.1.far hF hi ha u, h.2⟩
theorem SlI.far2 {w : World} {p : Option Addr} {c : Nat} {l : List (Fin 16)} (h : SlI w p c l) {F : Nat} {t : TypeId} {b0 : Bool} {q : Option Addr} {n d : Nat} (hF : Bx w F t #[.bool b0, .slice q n d]) (x : Bool) (v : Value) : SlI ((w.setCell ⟨F, 0, none⟩ (.bool x)).setCell ⟨F, 1, none⟩ v) p c l :=
  (h.far hF numB rfl _).far (show Bx _ F t #[.bool x, .slice q n d] from hF.set 0 (.bool x)) numB rfl _
def Aq4 (D E : Nat) (p a q c : Value) (W : World) : Prop := W.cell? ⟨D, 0, none⟩ = some p ∧ W.cell? ⟨D, 1, none⟩ = some a ∧ W.cell? ⟨E, 0, none⟩ = some q ∧ W.cell? ⟨E, 1, none⟩ = some c
theorem Aq4.of {W : World} {D E : Nat} {t u : TypeId} {p a q c : Value} (h : Bx W D t #[p, a]) (k : Bx W E u #[q, c]) : Aq4 D E p a q c W := ⟨h.two.1.1, h.two.1.2, k.two.1.1, k.two.1.2⟩
theorem Aq4.next {W W' : World} {D E : Nat} {p a q c : Value} (h : Aq4 D E p a q c W) (hb : Below W.heap.size W W') : Aq4 D E p a q c W' := ⟨keepC h.1 hb, keepC h.2.1 hb, keepC h.2.2.1 hb, keepC h.2.2.2 hb⟩
theorem cell_far {w : World} {g j : Nat} {a : Addr} (ha : a.block ≠ g) (u : Value) {v : Option Value} (h : w.cell? ⟨g, j, none⟩ = v) : (w.setCell a u).cell? ⟨g, j, none⟩ = v := by
  have h2 := heap_setCell_other w a g u (fun e => ha e.symm)
  unfold World.cell? at h ⊢
  rw [h2]
  exact h
theorem Aq4.st {W : World} {D E F : Nat} {p a q c x y : Value} (h : Aq4 D E p a q c W) (h1 : D ≠ F) (h2 : E ≠ F) : Aq4 D E p a q c ((W.setCell ⟨F, 0, none⟩ x).setCell ⟨F, 1, none⟩ y) :=
  ⟨cell_far (fun e => h1 e.symm) _ (cell_far (fun e => h1 e.symm) _ h.1), cell_far (fun e => h1 e.symm) _ (cell_far (fun e => h1 e.symm) _ h.2.1), cell_far (fun e => h2 e.symm) _ (cell_far (fun e => h2 e.symm) _ h.2.2.1), cell_far (fun e => h2 e.symm) _ (cell_far (fun e => h2 e.symm) _ h.2.2.2)⟩
theorem below_set2 {w W : World} (h : Below w.heap.size w W) {F : Nat} (hF : w.heap.size ≤ F) (x y : Value) : Below w.heap.size w ((W.setCell ⟨F, 0, none⟩ x).setCell ⟨F, 1, none⟩ y) :=
  (h.setCell (p := ⟨F, 0, none⟩) hF x).setCell (p := ⟨F, 1, none⟩) hF y
theorem dgs_len500 {n : Nat} (h : n < 10 ^ 500) : (dgs n).length ≤ 500 := (dgs_len_le n 500).2 h
set_option maxRecDepth 100000 in
set_option maxHeartbeats 4000000 in
theorem sum_same0 (na : Bool) (p q : Option Addr) (c d x y : Nat) (w : World) (hx : (dgs x).length ≤ 500) (hy : (dgs y).length ≤ 500) (ra : SlI w p c (dgs x)) (rb : SlI w q d (dgs y)) :
    Calls Tryd.prog 40 #[.agg #[.bool na, .slice p (dgs x).length c], .agg #[.bool na, .slice q (dgs y).length d]] w (NumP w na (x + y)) := by
  have HC0 := fun W (h : Below w.heap.size w W) => plus_any p q c d (dgs x) (dgs y) W hx hy (dgs_ok9 x) (dgs_ok9 y) (ra.1.below h) (rb.1.below h)
  rw [val_dgs, val_dgs] at HC0
  have HC := Lib.hid HC0
  unfold RnPost at HC
  clear HC0 ra rb hx hy
  generalize (dgs x).length = lx at *
  generalize (dgs y).length = ly at *
  obtain ⟨W0, hW0⟩ : ∃ W0, W0 = ((w.alloc (.cells #[.bool na, .slice p lx c] 52)).alloc (.cells #[.bool na, .slice q ly d] 52)).alloc (.cells #[.bool false, .slice none 0 0] 52) := ⟨_, rfl⟩
  have hb0 : Below w.heap.size w W0 := by rw [hW0]; exact below3 _ _ _ _
  have hD : Bx W0 w.heap.size 52 #[.bool na, .slice p lx c] := by
    rw [hW0]
    exact ((Bx.new w _ _).below (below_new _ _)).below (below_new _ _)
  have hE : Bx W0 (w.heap.size + 1) 52 #[.bool na, .slice q ly d] := by
    rw [hW0]
    exact (second_new w _ _ _ _ rfl).below (below_new _ _)
  have hF : Bx W0 (w.heap.size + 1 + 1) 52 #[.bool false, .slice none 0 0] := by
    rw [hW0]
    exact third_new w _ _ _ _ _ rfl
  have HB0 := Lib.hid hb0
  have HD := Lib.hid hD
  have HE := Lib.hid hE
  have HF := Lib.hid hF
  obtain ⟨⟨d1, d2⟩, _⟩ := hD.two
  obtain ⟨⟨e1, e2⟩, _⟩ := hE.two
  clear hb0 hD hE hF
  have H0 : Hid (Aq4 w.heap.size (w.heap.size + 1) (.bool na) (.slice p lx c) (.bool na) (.slice q ly d) W0.drew) := Lib.hid ((Aq4.of HD.out HE.out).next (Below.refl _ _).drew)
  have HBd : Hid (Below w.heap.size w W0.drew) := Lib.hid HB0.out.drew
  have HFd := Lib.hid (HF.out.below ((Below.refl W0.heap.size W0).drew))
  have hsz : W0.drew.heap.size = W0.heap.size := rfl
  go_enter Tryd.func40, Tryd.ntmps40
  go_wp2_with fail
  rw [← hW0]
  clear hW0
  go_wp2_with fail
  go_region_held3 (fun W => W.cell? ⟨w.heap.size, 0, none⟩ = some (.bool na) ∧ W.cell? ⟨w.heap.size, 1, none⟩ = some (.slice p lx c) ∧ W.cell? ⟨w.heap.size + 1, 0, none⟩ = some (.bool na) ∧ W.cell? ⟨w.heap.size + 1, 1, none⟩ = some (.slice q ly d))
    (first | assumption | exact H0.out | exact Aq4.st (by assumption) (by omega) (by omega))
    (first
      | (go_at_call 59; refine (HC.out _ HBd.out).mono ?_; rintro e w5 ⟨p5, c5, rfl, hs0, hb5⟩; have hs5 := Aq4.next H0.out hb5; have HB5 := Lib.hid (bel0 HBd.out hb5); have HF5 := Lib.hid (HFd.out.below hb5); have HS5 := Lib.hid hs0; obtain ⟨⟨r1, r2⟩, q1, q2⟩ := HF5.out.two; clear hb5 hs0))
  all_goals go_wp2
  all_goals refine bodyPost_ret (v := .agg #[.bool na, .slice p5 (dgs (x + y)).length c5]) ?_ rfl ⟨p5, c5, rfl, HS5.out.far2 HF5.out _ _, below_set2 HB5.out (by omega) _ _⟩
  all_goals rw [results_cell1 rfl]
  all_goals go_simp
set_option maxRecDepth 100000 in
set_option maxHeartbeats 4000000 in
theorem sum_less0 (na nb : Bool) (hne : na ≠ nb) (p q : Option Addr) (c d x y : Nat) (hlt : x < y) (w : World) (hx : (dgs x).length ≤ 500) (hy : (dgs y).length ≤ 500) (ra : SlI w p c (dgs x)) (rb : SlI w q d (dgs y)) :
    Calls Tryd.prog 40 #[.agg #[.bool na, .slice p (dgs x).length c], .agg #[.bool nb, .slice q (dgs y).length d]] w (NumP w nb (y - x)) := by
  have HC0 := fun W (h : Below w.heap.size w W) => minus_any q p d c (dgs y) (dgs x) W hy hx (dgs_ok9 y) (dgs_ok9 x) (by rw [val_dgs, val_dgs]; omega) (rb.1.below h) (ra.1.below h)
  rw [val_dgs, val_dgs] at HC0
  have HL0 := fun W (h : Below w.heap.size w W) => rless_any p q c d (dgs x) (dgs y) W (by omega) (by omega) (dgs_ok9 x) (dgs_ok9 y) (ra.1.below h) (rb.1.below h)
  rw [val_dgs, val_dgs, decide_eq_true (by omega)] at HL0
  have HL := Lib.hid HL0
  have hnb : (na == nb) = false := by simpa using hne
  clear HL0 hne hlt
  have HC := Lib.hid HC0
  unfold RnPost at HC
  clear HC0 ra rb hx hy
  generalize (dgs x).length = lx at *
  generalize (dgs y).length = ly at *
  obtain ⟨W0, hW0⟩ : ∃ W0, W0 = ((w.alloc (.cells #[.bool na, .slice p lx c] 52)).alloc (.cells #[.bool nb, .slice q ly d] 52)).alloc (.cells #[.bool false, .slice none 0 0] 52) := ⟨_, rfl⟩
  have hb0 : Below w.heap.size w W0 := by rw [hW0]; exact below3 _ _ _ _
  have hD : Bx W0 w.heap.size 52 #[.bool na, .slice p lx c] := by
    rw [hW0]
    exact ((Bx.new w _ _).below (below_new _ _)).below (below_new _ _)
  have hE : Bx W0 (w.heap.size + 1) 52 #[.bool nb, .slice q ly d] := by
    rw [hW0]
    exact (second_new w _ _ _ _ rfl).below (below_new _ _)
  have hF : Bx W0 (w.heap.size + 1 + 1) 52 #[.bool false, .slice none 0 0] := by
    rw [hW0]
    exact third_new w _ _ _ _ _ rfl
  have HB0 := Lib.hid hb0
  have HD := Lib.hid hD
  have HE := Lib.hid hE
  have HF := Lib.hid hF
  obtain ⟨⟨d1, d2⟩, _⟩ := hD.two
  obtain ⟨⟨e1, e2⟩, _⟩ := hE.two
  clear hb0 hD hE hF
  have H0 : Hid (Aq4 w.heap.size (w.heap.size + 1) (.bool na) (.slice p lx c) (.bool nb) (.slice q ly d) W0.drew) := Lib.hid ((Aq4.of HD.out HE.out).next (Below.refl _ _).drew)
  have HBd : Hid (Below w.heap.size w W0.drew) := Lib.hid HB0.out.drew
  have HFd := Lib.hid (HF.out.below ((Below.refl W0.heap.size W0).drew))
  have hsz : W0.drew.heap.size = W0.heap.size := rfl
  go_enter Tryd.func40, Tryd.ntmps40
  go_wp2_with fail
  rw [← hW0]
  clear hW0
  go_wp2_with fail
  refine (HL.out W0 HB0.out).mono ?_
  rintro e w1 ⟨rfl, rfl⟩
  go_wp2_with fail
  go_region_held3 (fun W => W.cell? ⟨w.heap.size, 0, none⟩ = some (.bool na) ∧ W.cell? ⟨w.heap.size, 1, none⟩ = some (.slice p lx c) ∧ W.cell? ⟨w.heap.size + 1, 0, none⟩ = some (.bool nb) ∧ W.cell? ⟨w.heap.size + 1, 1, none⟩ = some (.slice q ly d))
    (first | assumption | exact H0.out | exact Aq4.st (by assumption) (by omega) (by omega))
    (first
      | (go_at_call 66; refine (HC.out _ HBd.out).mono ?_; rintro e w5 ⟨p5, c5, rfl, hs0, hb5⟩; have hs5 := Aq4.next H0.out hb5; have HB5 := Lib.hid (bel0 HBd.out hb5); have HF5 := Lib.hid (HFd.out.below hb5); have HS5 := Lib.hid hs0; obtain ⟨⟨r1, r2⟩, q1, q2⟩ := HF5.out.two; clear hb5 hs0))
  all_goals go_wp2
  all_goals refine bodyPost_ret (v := .agg #[.bool nb, .slice p5 (dgs (y - x)).length c5]) ?_ rfl ⟨p5, c5, rfl, HS5.out.far2 HF5.out _ _, below_set2 HB5.out (by omega) _ _⟩
  all_goals rw [results_cell1 rfl]
  all_goals go_simp
set_option maxRecDepth 100000 in
set_option maxHeartbeats 4000000 in
theorem sum_more0 (na nb : Bool) (hne : na ≠ nb) (p q : Option Addr) (c d x y : Nat) (hlt : ¬ x < y) (w : World) (hx : (dgs x).length ≤ 500) (hy : (dgs y).length ≤ 500) (ra : SlI w p c (dgs x)) (rb : SlI w q d (dgs y)) :
    Calls Tryd.prog 40 #[.agg #[.bool na, .slice p (dgs x).length c], .agg #[.bool nb, .slice q (dgs y).length d]] w (NumP w na (x - y)) := by
  have HC0 := fun W (h : Below w.heap.size w W) => minus_any p q c d (dgs x) (dgs y) W hx hy (dgs_ok9 x) (dgs_ok9 y) (by rw [val_dgs, val_dgs]; omega) (ra.1.below h) (rb.1.below h)
  rw [val_dgs, val_dgs] at HC0
  have HL0 := fun W (h : Below w.heap.size w W) => rless_any p q c d (dgs x) (dgs y) W (by omega) (by omega) (dgs_ok9 x) (dgs_ok9 y) (ra.1.below h) (rb.1.below h)
  rw [val_dgs, val_dgs, decide_eq_false (by omega)] at HL0
  have HL := Lib.hid HL0
  have hnb : (na == nb) = false := by simpa using hne
  clear HL0 hne hlt
  have HC := Lib.hid HC0
  unfold RnPost at HC
  clear HC0 ra rb hx hy
  generalize (dgs x).length = lx at *
  generalize (dgs y).length = ly at *
  obtain ⟨W0, hW0⟩ : ∃ W0, W0 = ((w.alloc (.cells #[.bool na, .slice p lx c] 52)).alloc (.cells #[.bool nb, .slice q ly d] 52)).alloc (.cells #[.bool false, .slice none 0 0] 52) := ⟨_, rfl⟩
  have hb0 : Below w.heap.size w W0 := by rw [hW0]; exact below3 _ _ _ _
  have hD : Bx W0 w.heap.size 52 #[.bool na, .slice p lx c] := by
    rw [hW0]
    exact ((Bx.new w _ _).below (below_new _ _)).below (below_new _ _)
  have hE : Bx W0 (w.heap.size + 1) 52 #[.bool nb, .slice q ly d] := by
    rw [hW0]
    exact (second_new w _ _ _ _ rfl).below (below_new _ _)
  have hF : Bx W0 (w.heap.size + 1 + 1) 52 #[.bool false, .slice none 0 0] := by
    rw [hW0]
    exact third_new w _ _ _ _ _ rfl
  have HB0 := Lib.hid hb0
  have HD := Lib.hid hD
  have HE := Lib.hid hE
  have HF := Lib.hid hF
  obtain ⟨⟨d1, d2⟩, _⟩ := hD.two
  obtain ⟨⟨e1, e2⟩, _⟩ := hE.two
  clear hb0 hD hE hF
  have H0 : Hid (Aq4 w.heap.size (w.heap.size + 1) (.bool na) (.slice p lx c) (.bool nb) (.slice q ly d) W0.drew) := Lib.hid ((Aq4.of HD.out HE.out).next (Below.refl _ _).drew)
  have HBd : Hid (Below w.heap.size w W0.drew) := Lib.hid HB0.out.drew
  have HFd := Lib.hid (HF.out.below ((Below.refl W0.heap.size W0).drew))
  have hsz : W0.drew.heap.size = W0.heap.size := rfl
  go_enter Tryd.func40, Tryd.ntmps40
  go_wp2_with fail
  rw [← hW0]
  clear hW0
  go_wp2_with fail
  refine (HL.out W0 HB0.out).mono ?_
  rintro e w1 ⟨rfl, rfl⟩
  go_wp2_with fail
  go_region_held3 (fun W => W.cell? ⟨w.heap.size, 0, none⟩ = some (.bool na) ∧ W.cell? ⟨w.heap.size, 1, none⟩ = some (.slice p lx c) ∧ W.cell? ⟨w.heap.size + 1, 0, none⟩ = some (.bool nb) ∧ W.cell? ⟨w.heap.size + 1, 1, none⟩ = some (.slice q ly d))
    (first | assumption | exact H0.out | exact Aq4.st (by assumption) (by omega) (by omega))
    (first
      | (go_at_call 66; refine (HC.out _ HBd.out).mono ?_; rintro e w5 ⟨p5, c5, rfl, hs0, hb5⟩; have hs5 := Aq4.next H0.out hb5; have HB5 := Lib.hid (bel0 HBd.out hb5); have HF5 := Lib.hid (HFd.out.below hb5); have HS5 := Lib.hid hs0; obtain ⟨⟨r1, r2⟩, q1, q2⟩ := HF5.out.two; clear hb5 hs0))
  all_goals go_wp2
  all_goals refine bodyPost_ret (v := .agg #[.bool na, .slice p5 (dgs (x - y)).length c5]) ?_ rfl ⟨p5, c5, rfl, HS5.out.far2 HF5.out _ _, below_set2 HB5.out (by omega) _ _⟩
  all_goals rw [results_cell1 rfl]
  all_goals go_simp
theorem rsum_any (na nb : Bool) (p q : Option Addr) (c d x y : Nat) (w : World) (hx : (dgs x).length ≤ 500) (hy : (dgs y).length ≤ 500) (ra : SlI w p c (dgs x)) (rb : SlI w q d (dgs y)) :
    Calls Tryd.prog 40 #[.agg #[.bool na, .slice p (dgs x).length c], .agg #[.bool nb, .slice q (dgs y).length d]] w (NumP w (sumS na x nb y).1 (sumS na x nb y).2) := by
  unfold sumS
  by_cases h : na = nb
  · subst h
    rw [if_pos rfl]
    exact sum_same0 na p q c d x y w hx hy ra rb
  · rw [if_neg h]
    by_cases hlt : x < y
    · rw [if_pos hlt]
      exact sum_less0 na nb h p q c d x y hlt w hx hy ra rb
    · rw [if_neg hlt]
      exact sum_more0 na nb h p q c d x y hlt w hx hy ra rb
theorem size4_any (n : Int) (w : World) : Calls Tryd.prog 44 #[.int .i64 n] w fun e w' => e = .returned (.bool (decide (1 ≤ n ∧ n ≤ 16))) ∧ w = w' := by
  by_cases h1 : 1 ≤ n
  · by_cases h2 : n ≤ 16
    · go_enter Tryd.func44, Tryd.ntmps44
      go_wp2
      go_ret
      exact ⟨by simp [h1, h2], rfl⟩
    · go_enter Tryd.func44, Tryd.ntmps44
      go_wp2
      go_ret
      exact ⟨by simp [h2], rfl⟩
  · go_enter Tryd.func44, Tryd.ntmps44
    go_wp2
    go_ret
    exact ⟨by rw [decide_eq_false (by omega)]; simp, rfl⟩
theorem len_zero (n : Nat) : (dgs n).length = 0 ↔ n = 0 := by rw [List.length_eq_zero_iff, dgs_nil]
set_option maxRecDepth 100000 in
theorem code_any (neg : Bool) (p : Option Addr) (c n : Nat) (w : World) :
    Calls Tryd.prog 47 #[.agg #[.bool neg, .slice p (dgs n).length c]] w (New w (.int .i64 (condN neg n : Int))) := by
  have HB := Lib.hid (below_new w (.cells #[.bool neg, .slice p (dgs n).length c] 52))
  obtain ⟨⟨d1, d2⟩, _⟩ := (Bx.new w 52 #[.bool neg, .slice p (dgs n).length c]).two
  by_cases h : n = 0
  · have hv : condN neg n = 0 := by unfold condN; rw [if_pos h]
    rw [(len_zero n).2 h] at HB d1 d2 ⊢
    have HV := Lib.hid hv
    clear hv h
    go_enter Tryd.func47, Tryd.ntmps47
    go_wp2
    go_ret
    exact ⟨by rw [HV.out]; rfl, HB.out⟩
  · have hl : (dgs n).length ≠ 0 := fun e => h ((len_zero n).1 e)
    have hv : condN neg n = if neg then 1 else 2 := by unfold condN; rw [if_neg h]
    have HV := Lib.hid hv
    clear hv h
    generalize (dgs n).length = ln at *
    cases neg
    · go_enter Tryd.func47, Tryd.ntmps47
      go_wp2
      go_ret
      exact ⟨by rw [HV.out]; rfl, HB.out⟩
    · go_enter Tryd.func47, Tryd.ntmps47
      go_wp2
      go_ret
      exact ⟨by rw [HV.out]; rfl, HB.out⟩

end E
end Go.Proofs.YtlpekknhaaddcaaDoor

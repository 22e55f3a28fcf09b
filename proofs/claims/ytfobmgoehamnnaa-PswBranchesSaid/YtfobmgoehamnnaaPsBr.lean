/- Branch, Admits, Advance of the program. -/
import Derived.Test.YtfobmgoehamnnaaPsVal
import Derived.Laws.ResultCell
namespace Go.Proofs.Ytfobmgoehamnnaa
open Go.RowKit
set_option linter.unusedVariables false
namespace E

/-- Whether a branch is taken. -/
def brB (m c : Int) : Bool := inB m 15 && (inB c 3 && (m / 2 ^ (3 - c.toNat) % 2 == 1))
theorem fin_of' {n : Nat} {z : Int} (h0 : 0 ≤ z) (h1 : z < n) : ∃ i : Fin n, z = (i.val : Int) := ⟨⟨z.toNat, by omega⟩, by simp; omega⟩
theorem br_bits (m : Fin 16) : (bits .and .i64 (m.val : Int) 8 != 0) = brB (m.val : Int) 0 ∧ (bits .and .i64 (m.val : Int) 4 != 0) = brB (m.val : Int) 1 ∧ (bits .and .i64 (m.val : Int) 2 != 0) = brB (m.val : Int) 2 ∧ (bits .and .i64 (m.val : Int) 1 != 0) = brB (m.val : Int) 3 := by
  revert m
  decide +kernel
theorem br_bits' {m : Int} (h0 : 0 ≤ m) (h1 : m ≤ 15) : (bits .and .i64 m 8 != 0) = brB m 0 ∧ (bits .and .i64 m 4 != 0) = brB m 1 ∧ (bits .and .i64 m 2 != 0) = brB m 2 ∧ (bits .and .i64 m 1 != 0) = brB m 3 := by
  obtain ⟨i, rfl⟩ := fin_of' (n := 16) h0 (by omega)
  exact br_bits i
theorem br_no {m c : Int} (h : m < 0 ∨ 15 < m ∨ c < 0 ∨ 3 < c) : brB m c = false := by
  simp only [brB, inB, Bool.and_eq_false_iff, decide_eq_false_iff_not]
  omega
theorem branch_any (m c : Int) (w : World) : Calls Try.prog 20 #[.int .i64 m, .int .i64 c] w (New w (.bool (brB m c))) := by
  rcases (by omega : m < 0 ∨ (¬ (m < 0) ∧ 15 < m) ∨ (¬ (m < 0) ∧ ¬ (15 < m) ∧ c < 0) ∨ (¬ (m < 0) ∧ ¬ (15 < m) ∧ ¬ (c < 0) ∧ 3 < c) ∨ (0 ≤ m ∧ m ≤ 15 ∧ (c = 0 ∨ c = 1 ∨ c = 2 ∨ c = 3))) with h | ⟨h0, h⟩ | ⟨h0, h1, h⟩ | ⟨h0, h1, h2, h⟩ | ⟨h0, h1, h⟩
  · rw [br_no (.inl h)]
    go_enter Try.func20, Try.ntmps20
    go_wp2
    go_ret
    exact ⟨rfl, Below.refl _ _⟩
  · rw [br_no (.inr (.inl h))]
    go_enter Try.func20, Try.ntmps20
    go_wp2
    go_ret
    exact ⟨rfl, Below.refl _ _⟩
  · rw [br_no (.inr (.inr (.inl h)))]
    go_enter Try.func20, Try.ntmps20
    go_wp2
    go_ret
    exact ⟨rfl, Below.refl _ _⟩
  · rw [br_no (.inr (.inr (.inr h)))]
    go_enter Try.func20, Try.ntmps20
    go_wp2
    go_ret
    exact ⟨rfl, Below.refl _ _⟩
  · obtain ⟨b0, b1, b2, b3⟩ := br_bits' h0 h1
    have hn : ¬ (m < 0) := by omega
    have hn2 : ¬ (15 < m) := by omega
    rcases h with rfl | rfl | rfl | rfl
    · rw [← b0]
      clear b0 b1 b2 b3
      go_enter Try.func20, Try.ntmps20
      go_wp2
      go_ret
      exact ⟨rfl, Below.refl _ _⟩
    · rw [← b1]
      clear b0 b1 b2 b3
      go_enter Try.func20, Try.ntmps20
      go_wp2
      go_ret
      exact ⟨rfl, Below.refl _ _⟩
    · rw [← b2]
      clear b0 b1 b2 b3
      go_enter Try.func20, Try.ntmps20
      go_wp2
      go_ret
      exact ⟨rfl, Below.refl _ _⟩
    · rw [← b3]
      clear b0 b1 b2 b3
      go_enter Try.func20, Try.ntmps20
      go_wp2
      go_ret
      exact ⟨rfl, Below.refl _ _⟩

/-! ### Admits -/

def prB (g c : Int) : Bool := bif c == 8 then (g / 8 == 1) else bif c == 10 then (g / 4 % 2 == 1) else decide (1 ≤ c) && decide (c ≤ 11)
def chB (m n : Int) : Bool := inB n 6 && (m / 2 ^ (7 - n.toNat) % 2 == 1)
def adC (Q : Psw) (cl co ch : Int) : Bool := bif cl == 1 then (Q.m % 2 == 1) else bif cl == 2 then true else bif cl == 3 then prB Q.pg co else bif cl == 4 then Q.ma else bif cl == 5 then chB Q.m ch else false
/-- Whether an interruption is admitted. -/
def adB (Q : Psw) (cl co ch : Int) : Bool := okB Q && adC Q cl co ch
theorem pr_bits {g : Int} (h0 : 0 ≤ g) (h1 : g ≤ 15) : (bits .and .i64 g 8 != 0) = (g / 8 == 1) ∧ (bits .and .i64 g 4 != 0) = (g / 4 % 2 == 1) := by
  obtain ⟨i, rfl⟩ := fin_of' (n := 16) h0 (by omega)
  revert i
  decide +kernel
theorem ch_bits {m : Int} (h0 : 0 ≤ m) (h1 : m ≤ 255) : ((bits .and .i64 m 128 != 0) = chB m 0 ∧ (bits .and .i64 m 64 != 0) = chB m 1 ∧ (bits .and .i64 m 32 != 0) = chB m 2 ∧ (bits .and .i64 m 16 != 0) = chB m 3) ∧ ((bits .and .i64 m 8 != 0) = chB m 4 ∧ (bits .and .i64 m 4 != 0) = chB m 5 ∧ (bits .and .i64 m 2 != 0) = chB m 6) ∧ (bits .and .i64 m 1 != 0) = (m % 2 == 1) := by
  obtain ⟨i, rfl⟩ := fin_of' (n := 256) h0 (by omega)
  revert i
  decide +kernel
theorem prog_any (g c : Int) (w : World) (h0 : 0 ≤ g) (h1 : g ≤ 15) : Calls Try.prog 31 #[.int .i64 g, .int .i64 c] w (New w (.bool (prB g c))) := by
  obtain ⟨b8, b4⟩ := pr_bits h0 h1
  clear h0 h1
  rcases (by omega : c = 8 ∨ c = 10 ∨ (¬ c = 8 ∧ ¬ c = 10 ∧ 1 ≤ c) ∨ (¬ c = 8 ∧ ¬ c = 10 ∧ ¬ (1 ≤ c))) with rfl | rfl | ⟨i0, i1, i2⟩ | ⟨i0, i1, i2⟩
  · have e : prB g 8 = (bits .and .i64 g 8 != 0) := b8.symm
    rw [e]
    clear e b8 b4
    go_enter Try.func31, Try.ntmps31
    go_wp2
    go_ret
    exact ⟨rfl, Below.refl _ _⟩
  · have e : prB g 10 = (bits .and .i64 g 4 != 0) := b4.symm
    rw [e]
    clear e b8 b4
    go_enter Try.func31, Try.ntmps31
    go_wp2
    go_ret
    exact ⟨rfl, Below.refl _ _⟩
  · have e : prB g c = decide (c ≤ 11) := by
      unfold prB
      rw [show (c == 8) = false from beq_false_of_ne i0, show (c == 10) = false from beq_false_of_ne i1]
      simp [i2]
    rw [e]
    clear e b8 b4
    go_enter Try.func31, Try.ntmps31
    go_wp2
    go_ret
    exact ⟨rfl, Below.refl _ _⟩
  · have e : prB g c = false := by
      unfold prB
      rw [show (c == 8) = false from beq_false_of_ne i0, show (c == 10) = false from beq_false_of_ne i1]
      simp [i2]
    rw [e]
    clear e b8 b4
    go_enter Try.func31, Try.ntmps31
    go_wp2
    go_ret
    exact ⟨rfl, Below.refl _ _⟩
theorem chan_any (m n : Int) (w : World) (h0 : 0 ≤ m) (h1 : m ≤ 255) : Calls Try.prog 32 #[.int .i64 m, .int .i64 n] w (New w (.bool (chB m n))) := by
  obtain ⟨⟨b0, b1, b2, b3⟩, ⟨b4, b5, b6⟩, -⟩ := ch_bits h0 h1
  clear h0 h1
  rcases (by omega : ¬ (0 ≤ n) ∨ (0 ≤ n ∧ ¬ (n ≤ 6)) ∨ n = 0 ∨ n = 1 ∨ n = 2 ∨ n = 3 ∨ n = 4 ∨ n = 5 ∨ n = 6) with i | ⟨i, j⟩ | rfl | rfl | rfl | rfl | rfl | rfl | rfl
  · have e : chB m n = false := by simp [chB, inB, i]
    rw [e]
    clear e b0 b1 b2 b3 b4 b5 b6
    go_enter Try.func32, Try.ntmps32
    go_wp2
    go_ret
    exact ⟨rfl, Below.refl _ _⟩
  · have e : chB m n = false := by simp [chB, inB, j]
    rw [e]
    clear e b0 b1 b2 b3 b4 b5 b6
    go_enter Try.func32, Try.ntmps32
    go_wp2
    go_ret
    exact ⟨rfl, Below.refl _ _⟩
  · rw [← b0]
    clear b0 b1 b2 b3 b4 b5 b6
    go_enter Try.func32, Try.ntmps32
    go_wp2
    go_ret
    exact ⟨rfl, Below.refl _ _⟩
  · rw [← b1]
    clear b0 b1 b2 b3 b4 b5 b6
    go_enter Try.func32, Try.ntmps32
    go_wp2
    go_ret
    exact ⟨rfl, Below.refl _ _⟩
  · rw [← b2]
    clear b0 b1 b2 b3 b4 b5 b6
    go_enter Try.func32, Try.ntmps32
    go_wp2
    go_ret
    exact ⟨rfl, Below.refl _ _⟩
  · rw [← b3]
    clear b0 b1 b2 b3 b4 b5 b6
    go_enter Try.func32, Try.ntmps32
    go_wp2
    go_ret
    exact ⟨rfl, Below.refl _ _⟩
  · rw [← b4]
    clear b0 b1 b2 b3 b4 b5 b6
    go_enter Try.func32, Try.ntmps32
    go_wp2
    go_ret
    exact ⟨rfl, Below.refl _ _⟩
  · rw [← b5]
    clear b0 b1 b2 b3 b4 b5 b6
    go_enter Try.func32, Try.ntmps32
    go_wp2
    go_ret
    exact ⟨rfl, Below.refl _ _⟩
  · rw [← b6]
    clear b0 b1 b2 b3 b4 b5 b6
    go_enter Try.func32, Try.ntmps32
    go_wp2
    go_ret
    exact ⟨rfl, Below.refl _ _⟩

/-! ### Advance -/

def lenB (n : Int) : Bool := n == 2 || n == 4 || n == 6
def adv (Q : Psw) (n : Int) : Psw := bif okB Q && lenB n then { Q with ad := (Q.ad + n) % 16777216, il := n / 2 } else Q
theorem len_any (n : Int) (w : World) : Calls Try.prog 33 #[.int .i64 n] w (New w (.bool (lenB n))) := by
  rcases (by omega : n = 2 ∨ n = 4 ∨ n = 6 ∨ (¬ n = 2 ∧ ¬ n = 4 ∧ ¬ n = 6)) with rfl | rfl | rfl | ⟨i, j, k⟩
  · go_enter Try.func33, Try.ntmps33
    go_wp2
    go_ret
    exact ⟨rfl, Below.refl _ _⟩
  · go_enter Try.func33, Try.ntmps33
    go_wp2
    go_ret
    exact ⟨rfl, Below.refl _ _⟩
  · go_enter Try.func33, Try.ntmps33
    go_wp2
    go_ret
    exact ⟨rfl, Below.refl _ _⟩
  · go_enter Try.func33, Try.ntmps33
    go_wp2
    go_ret
    exact ⟨by simp [lenB], Below.refl _ _⟩
/-- The cells of a word's block. -/
def Cells (W : World) (n : Nat) (Q : Psw) : Prop := W.cell? ⟨n, 0, none⟩ = some (.int .i64 Q.m) ∧ W.cell? ⟨n, 1, none⟩ = some (.int .i64 Q.k) ∧ W.cell? ⟨n, 2, none⟩ = some (.bool Q.ma) ∧ W.cell? ⟨n, 3, none⟩ = some (.bool Q.wa) ∧ W.cell? ⟨n, 4, none⟩ = some (.bool Q.pr) ∧ W.cell? ⟨n, 5, none⟩ = some (.int .i64 Q.co) ∧ W.cell? ⟨n, 6, none⟩ = some (.int .i64 Q.il) ∧ W.cell? ⟨n, 7, none⟩ = some (.int .i64 Q.cc) ∧ W.cell? ⟨n, 8, none⟩ = some (.int .i64 Q.pg) ∧ W.cell? ⟨n, 9, none⟩ = some (.int .i64 Q.ad)
theorem cells_of {w : World} {n : Nat} {t : TypeId} {Q : Psw} (h : Bx w n t #[.int .i64 Q.m, .int .i64 Q.k, .bool Q.ma, .bool Q.wa, .bool Q.pr, .int .i64 Q.co, .int .i64 Q.il, .int .i64 Q.cc, .int .i64 Q.pg, .int .i64 Q.ad]) : Cells w n Q := ⟨h.cell 0, h.cell 1, h.cell 2, h.cell 3, h.cell 4, h.cell 5, h.cell 6, h.cell 7, h.cell 8, h.cell 9⟩
set_option maxRecDepth 100000 in
theorem adm_no (Q : Psw) (cl co ch : Int) (w : World) (h : okB Q = false) : Calls Try.prog 22 #[.agg #[.int .i64 Q.m, .int .i64 Q.k, .bool Q.ma, .bool Q.wa, .bool Q.pr, .int .i64 Q.co, .int .i64 Q.il, .int .i64 Q.cc, .int .i64 Q.pg, .int .i64 Q.ad], .int .i64 cl, .int .i64 co, .int .i64 ch] w (New w (.bool false)) := by
  have HV := Lib.hid (fun W => (by have h1 := valid_any Q W; rw [h] at h1; exact h1 : Calls Try.prog 14 #[.agg #[.int .i64 Q.m, .int .i64 Q.k, .bool Q.ma, .bool Q.wa, .bool Q.pr, .int .i64 Q.co, .int .i64 Q.il, .int .i64 Q.cc, .int .i64 Q.pg, .int .i64 Q.ad]] W (New W (.bool false))))
  clear h
  go_enter Try.func22, Try.ntmps22
  go_wp2_with fail
  refine (HV.out _).mono ?_
  rintro e w1 ⟨rfl, hb⟩
  have HX := Lib.hid hb
  clear hb HV
  go_wp2
  go_ret
  exact ⟨rfl, bel0 (below_new _ _) HX.out⟩
set_option maxRecDepth 100000 in
theorem adm_yes (Q : Psw) (cl co ch : Int) (w : World) (h : okB Q = true) : Calls Try.prog 22 #[.agg #[.int .i64 Q.m, .int .i64 Q.k, .bool Q.ma, .bool Q.wa, .bool Q.pr, .int .i64 Q.co, .int .i64 Q.il, .int .i64 Q.cc, .int .i64 Q.pg, .int .i64 Q.ad], .int .i64 cl, .int .i64 co, .int .i64 ch] w (New w (.bool (adC Q cl co ch))) := by
  have HV := Lib.hid (fun W => (by have h1 := valid_any Q W; rw [h] at h1; exact h1 : Calls Try.prog 14 #[.agg #[.int .i64 Q.m, .int .i64 Q.k, .bool Q.ma, .bool Q.wa, .bool Q.pr, .int .i64 Q.co, .int .i64 Q.il, .int .i64 Q.cc, .int .i64 Q.pg, .int .i64 Q.ad]] W (New W (.bool true))))
  have hok : okP Q := of_decide_eq_true h
  obtain ⟨⟨m0, m1⟩, -, -, -, -, ⟨p0, p1⟩, -⟩ := hok
  have HP := Lib.hid (fun c W => prog_any Q.pg c W p0 p1)
  have HC := Lib.hid (fun c W => chan_any Q.m c W m0 m1)
  obtain ⟨-, -, hm1⟩ := ch_bits m0 m1
  clear h m0 m1 p0 p1
  have HA : Hid (∀ c : Int, c = 1 ∨ c = 2 ∨ c = 3 ∨ c = 4 ∨ c = 5 ∨ (¬ c = 1 ∧ ¬ c = 2 ∧ ¬ c = 3 ∧ ¬ c = 4 ∧ ¬ c = 5)) := Lib.hid (fun c : Int => by omega)
  have HB := Lib.hid (Bx.new w 23 #[.int .i64 Q.m, .int .i64 Q.k, .bool Q.ma, .bool Q.wa, .bool Q.pr, .int .i64 Q.co, .int .i64 Q.il, .int .i64 Q.cc, .int .i64 Q.pg, .int .i64 Q.ad])
  rcases HA.out cl with rfl | rfl | rfl | rfl | rfl | ⟨i1, i2, i3, i4, i5⟩
  · have e : adC Q 1 co ch = (bits .and .i64 Q.m 1 != 0) := hm1.symm
    rw [e]
    clear e hm1 HA HP HC
    go_enter Try.func22, Try.ntmps22
    go_wp2_with fail
    refine (HV.out _).mono ?_
    rintro e w1 ⟨rfl, hb⟩
    have HX := Lib.hid hb
    obtain ⟨c0, -⟩ := cells_of (HB.out.below hb)
    clear hb HV HB
    go_wp2
    go_ret
    exact ⟨rfl, bel0 (below_new _ _) HX.out⟩
  · clear hm1 HA HP HC
    go_enter Try.func22, Try.ntmps22
    go_wp2_with fail
    refine (HV.out _).mono ?_
    rintro e w1 ⟨rfl, hb⟩
    have HX := Lib.hid hb
    clear hb HV HB
    go_wp2
    go_ret
    exact ⟨rfl, bel0 (below_new _ _) HX.out⟩
  · clear hm1 HA HC
    go_enter Try.func22, Try.ntmps22
    go_wp2_with fail
    refine (HV.out _).mono ?_
    rintro e w1 ⟨rfl, hb⟩
    have HX := Lib.hid hb
    obtain ⟨-, -, -, -, -, -, -, -, c8, -⟩ := cells_of (HB.out.below hb)
    clear hb HV HB
    go_wp2_with fail
    refine (HP.out _ _).mono ?_
    rintro e w2 ⟨rfl, hb⟩
    have HY := Lib.hid (bel0 (bel0 (below_new _ _) HX.out) hb)
    clear hb c8
    go_wp2
    go_ret
    exact ⟨rfl, HY.out⟩
  · clear hm1 HA HP HC
    go_enter Try.func22, Try.ntmps22
    go_wp2_with fail
    refine (HV.out _).mono ?_
    rintro e w1 ⟨rfl, hb⟩
    have HX := Lib.hid hb
    obtain ⟨-, -, c2, -⟩ := cells_of (HB.out.below hb)
    clear hb HV HB
    go_wp2
    go_ret
    exact ⟨rfl, bel0 (below_new _ _) HX.out⟩
  · clear hm1 HA HP
    go_enter Try.func22, Try.ntmps22
    go_wp2_with fail
    refine (HV.out _).mono ?_
    rintro e w1 ⟨rfl, hb⟩
    have HX := Lib.hid hb
    obtain ⟨c0, -⟩ := cells_of (HB.out.below hb)
    clear hb HV HB
    go_wp2_with fail
    refine (HC.out _ _).mono ?_
    rintro e w2 ⟨rfl, hb⟩
    have HY := Lib.hid (bel0 (bel0 (below_new _ _) HX.out) hb)
    clear hb c0
    go_wp2
    go_ret
    exact ⟨rfl, HY.out⟩
  · have e : adC Q cl co ch = false := by
      unfold adC
      rw [show (cl == 1) = false from beq_false_of_ne i1, show (cl == 2) = false from beq_false_of_ne i2, show (cl == 3) = false from beq_false_of_ne i3, show (cl == 4) = false from beq_false_of_ne i4, show (cl == 5) = false from beq_false_of_ne i5]
      rfl
    rw [e]
    clear e hm1 HA HP HC
    go_enter Try.func22, Try.ntmps22
    go_wp2_with fail
    refine (HV.out _).mono ?_
    rintro e w1 ⟨rfl, hb⟩
    have HX := Lib.hid hb
    clear hb HV HB
    go_wp2
    go_ret
    exact ⟨rfl, bel0 (below_new _ _) HX.out⟩
theorem adm_any (Q : Psw) (cl co ch : Int) (w : World) : Calls Try.prog 22 #[.agg #[.int .i64 Q.m, .int .i64 Q.k, .bool Q.ma, .bool Q.wa, .bool Q.pr, .int .i64 Q.co, .int .i64 Q.il, .int .i64 Q.cc, .int .i64 Q.pg, .int .i64 Q.ad], .int .i64 cl, .int .i64 co, .int .i64 ch] w (New w (.bool (adB Q cl co ch))) := by
  cases h : okB Q with
  | false =>
    rw [show adB Q cl co ch = false by unfold adB; rw [h]; rfl]
    exact adm_no Q cl co ch w h
  | true =>
    rw [show adB Q cl co ch = adC Q cl co ch by unfold adB; rw [h]; rfl]
    exact adm_yes Q cl co ch w h

end E
end Go.Proofs.Ytfobmgoehamnnaa

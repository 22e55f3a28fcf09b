/- The walk of the statement PswMasks: it answers true, and below its own memory nothing turns. -/
import Derived.Test.YtfobmgoehamnnaaPsAsk
namespace Go.Proofs.Ytfobmgoehamnnaa.pswMasks
open Go.RowKit E
set_option linter.unusedVariables false

theorem more_bit (a b k : Nat) (h : a / 2 ^ k % 2 = 1) : (a ||| b) / 2 ^ k % 2 = 1 := by
  have h1 : a.testBit k = true := by rw [Nat.testBit_eq_decide_div_mod_eq]; simpa using h
  have h2 : (a ||| b).testBit k = true := by rw [Nat.testBit_or, h1]; rfl
  rw [Nat.testBit_eq_decide_div_mod_eq] at h2
  simpa using h2
theorem or_up {a x : Int} {i : Nat} (h0 : 0 ≤ a) (h1 : a < 2 ^ i) (h2 : 0 ≤ x) (h3 : x < 2 ^ i) (hi : i ≤ 8) : 0 ≤ bits .or .i64 a x ∧ bits .or .i64 a x < 2 ^ i ∧ ∀ k : Nat, a / 2 ^ k % 2 = 1 → bits .or .i64 a x / 2 ^ k % 2 = 1 := by
  obtain ⟨A, rfl⟩ := Int.eq_ofNat_of_zero_le h0
  obtain ⟨X, rfl⟩ := Int.eq_ofNat_of_zero_le h2
  have hp : 2 ^ i ≤ 2 ^ 8 := Nat.pow_le_pow_right (by decide) hi
  have hA : A < 2 ^ i := by exact_mod_cast h1
  have hX : X < 2 ^ i := by exact_mod_cast h3
  have hl : A ||| X < 2 ^ i := Nat.or_lt_two_pow hA hX
  rw [or_nat A X (by omega) (by omega)]
  refine ⟨by omega, by exact_mod_cast hl, fun k hk => ?_⟩
  have hk' : A / 2 ^ k % 2 = 1 := by exact_mod_cast hk
  exact_mod_cast more_bit A X k hk'
/-- More bits withdraw nothing. -/
theorem more (Q : Psw) (x y : Int) (u : Bool) (cl cx ch : Int) (hx0 : 0 ≤ x) (hx1 : x < 256) (hy0 : 0 ≤ y) (hy1 : y < 16) (h : adB Q cl cx ch = true) :
    adB { Q with m := bits .or .i64 Q.m x, pg := bits .or .i64 Q.pg y, ma := Q.ma || u } cl cx ch = true := by
  unfold adB at h ⊢
  rw [Bool.and_eq_true] at h ⊢
  obtain ⟨hq, hc⟩ := h
  have hok : okP Q := of_decide_eq_true hq
  obtain ⟨hm, hk, hco, hil, hcc, hpg, had⟩ := hok
  obtain ⟨m0, m1, mb⟩ := or_up (i := 8) hm.1 (by omega) hx0 (by omega) (by decide)
  obtain ⟨p0, p1, pb⟩ := or_up (i := 4) hpg.1 (by omega) hy0 (by omega) (by decide)
  refine ⟨decide_eq_true ⟨⟨m0, by show bits .or .i64 Q.m x ≤ 255; omega⟩, hk, hco, hil, hcc, ⟨p0, by show bits .or .i64 Q.pg y ≤ 15; omega⟩, had⟩, ?_⟩
  rcases (by omega : cl = 1 ∨ cl = 2 ∨ cl = 3 ∨ cl = 4 ∨ cl = 5 ∨ (¬ cl = 1 ∧ ¬ cl = 2 ∧ ¬ cl = 3 ∧ ¬ cl = 4 ∧ ¬ cl = 5)) with rfl | rfl | rfl | rfl | rfl | ⟨i1, i2, i3, i4, i5⟩
  · have h1 : Q.m % 2 = 1 := by have h2 : (Q.m % 2 == 1) = true := hc; simpa using h2
    have h3 := mb 0 (by simpa using h1)
    show (bits .or .i64 Q.m x % 2 == 1) = true
    simpa using h3
  · rfl
  · have hc : prB Q.pg cx = true := hc
    show prB (bits .or .i64 Q.pg y) cx = true
    unfold prB at hc ⊢
    by_cases h8 : cx = 8
    · subst h8
      have h1 : (Q.pg / 8 == 1) = true := hc
      have h2 : Q.pg / 2 ^ 3 % 2 = 1 := by have : Q.pg / 8 = 1 := by simpa using h1
                                           omega
      have h3 := pb 3 h2
      show (bits .or .i64 Q.pg y / 8 == 1) = true
      have h4 : bits .or .i64 Q.pg y / 8 = 1 := by omega
      rw [h4]; rfl
    · rw [show (cx == 8) = false from beq_false_of_ne h8] at hc ⊢
      by_cases h10 : cx = 10
      · subst h10
        have h1 : (Q.pg / 4 % 2 == 1) = true := hc
        have h2 : Q.pg / 2 ^ 2 % 2 = 1 := by have : Q.pg / 4 % 2 = 1 := by simpa using h1
                                             omega
        have h3 := pb 2 h2
        show (bits .or .i64 Q.pg y / 4 % 2 == 1) = true
        have h4 : bits .or .i64 Q.pg y / 4 % 2 = 1 := by omega
        rw [h4]; rfl
      · rw [show (cx == 10) = false from beq_false_of_ne h10] at hc ⊢
        exact hc
  · have hc : Q.ma = true := hc
    show (Q.ma || u) = true
    rw [hc]; rfl
  · have hc : chB Q.m ch = true := hc
    show chB (bits .or .i64 Q.m x) ch = true
    unfold chB at hc ⊢
    rw [Bool.and_eq_true] at hc ⊢
    refine ⟨hc.1, ?_⟩
    have h1 : Q.m / 2 ^ (7 - ch.toNat) % 2 = 1 := by have h2 := hc.2; simpa using h2
    have h3 := mb _ h1
    simpa using h3
  · unfold adC at hc
    rw [show (cl == 1) = false from beq_false_of_ne i1, show (cl == 2) = false from beq_false_of_ne i2, show (cl == 3) = false from beq_false_of_ne i3, show (cl == 4) = false from beq_false_of_ne i4, show (cl == 5) = false from beq_false_of_ne i5] at hc
    cases hc
set_option maxRecDepth 100000 in
set_option maxHeartbeats 1000000 in
theorem invalid (m k : Int) (ma wa pr : Bool) (co il cc pg ad : Int) (mo cl cx ch : Int) (w : World) (hq : okB ⟨m, k, ma, wa, pr, co, il, cc, pg, ad⟩ = false) : Calls Try.prog 9 #[.agg #[.int .i64 m, .int .i64 k, .bool ma, .bool wa, .bool pr, .int .i64 co, .int .i64 il, .int .i64 cc, .int .i64 pg, .int .i64 ad], .int .i64 mo, .agg #[.int .i64 cl, .int .i64 cx, .int .i64 ch]] w (New w (.bool true)) := by
  have HV := Lib.hid (fun W => (by have h1 := valid_any ⟨m, k, ma, wa, pr, co, il, cc, pg, ad⟩ W; rw [hq] at h1; exact h1 : Calls Try.prog 14 #[.agg #[.int .i64 m, .int .i64 k, .bool ma, .bool wa, .bool pr, .int .i64 co, .int .i64 il, .int .i64 cc, .int .i64 pg, .int .i64 ad]] W (New W (.bool false))))
  have HB := Lib.hid (ask_start w ⟨m, k, ma, wa, pr, co, il, cc, pg, ad⟩ cl cx ch)
  have HW := Lib.hid (below2 w (.cells #[.int .i64 m, .int .i64 k, .bool ma, .bool wa, .bool pr, .int .i64 co, .int .i64 il, .int .i64 cc, .int .i64 pg, .int .i64 ad] 23) (.cells #[.int .i64 cl, .int .i64 cx, .int .i64 ch] 35))
  have HA := Lib.hid (fun W => (by have h1 := adm_any ⟨m, k, ma, wa, pr, co, il, cc, pg, ad⟩ cl cx ch W; rw [show adB ⟨m, k, ma, wa, pr, co, il, cc, pg, ad⟩ cl cx ch = false by unfold adB; rw [hq]; rfl] at h1; exact h1 : Calls Try.prog 22 #[.agg #[.int .i64 m, .int .i64 k, .bool ma, .bool wa, .bool pr, .int .i64 co, .int .i64 il, .int .i64 cc, .int .i64 pg, .int .i64 ad], .int .i64 cl, .int .i64 cx, .int .i64 ch] W (New W (.bool false))))
  clear hq
  go_enter Try.func9, Try.ntmps9
  go_wp2_with fail
  refine (HV.out _).mono ?_
  rintro e w1 ⟨rfl, hb⟩
  have HW1 := Lib.hid (bel0 HW.out hb)
  obtain ⟨c0, c1, c2, c3, c4, c5, c6, c7, c8, c9⟩ := cells_of (Q := ⟨m, k, ma, wa, pr, co, il, cc, pg, ad⟩) (HB.out.1.below hb)
  obtain ⟨a0, a1, a2⟩ := (ca_of (Q := ⟨m, k, ma, wa, pr, co, il, cc, pg, ad⟩) HB.out.1 HB.out.2 hb).1.2
  clear hb HV HB HW
  go_wp2_with fail
  refine (HA.out _).mono ?_
  rintro e w2 ⟨rfl, hb⟩
  have HW2 := Lib.hid (bel0 HW1.out hb)
  clear hb HA HW1 c0 c1 c2 c3 c4 c5 c6 c7 c8 c9 a0 a1 a2
  go_wp2_with fail
  refine (works_any _).mono ?_
  rintro e w3 ⟨rfl, hb⟩
  have HW3 := Lib.hid (bel0 HW2.out hb)
  clear hb HW2
  go_wp2
  go_ret
  exact ⟨rfl, HW3.out⟩
set_option maxRecDepth 100000 in
set_option maxHeartbeats 1000000 in
theorem way_t_0 (m k : Int) (wa pr : Bool) (co il cc pg ad : Int) (mo cl cx ch : Int) (w : World) (x y M G : Int) (hq : okB ⟨m, k, true, wa, pr, co, il, cc, pg, ad⟩ = true) (e1 : bits .and .i64 mo 255 = x) (e2 : bits .and .i64 (mo / 256) 15 = y) (e4 : bits .or .i64 m x = M) (e5 : bits .or .i64 pg y = G)
    (ha : adB ⟨m, k, true, wa, pr, co, il, cc, pg, ad⟩ cl cx ch = false) : Calls Try.prog 9 #[.agg #[.int .i64 m, .int .i64 k, .bool true, .bool wa, .bool pr, .int .i64 co, .int .i64 il, .int .i64 cc, .int .i64 pg, .int .i64 ad], .int .i64 mo, .agg #[.int .i64 cl, .int .i64 cx, .int .i64 ch]] w (New w (.bool true)) := by
  have HV := Lib.hid (fun W => (by have h1 := valid_any ⟨m, k, true, wa, pr, co, il, cc, pg, ad⟩ W; rw [hq] at h1; exact h1 : Calls Try.prog 14 #[.agg #[.int .i64 m, .int .i64 k, .bool true, .bool wa, .bool pr, .int .i64 co, .int .i64 il, .int .i64 cc, .int .i64 pg, .int .i64 ad]] W (New W (.bool true))))
  have HB := Lib.hid (ask_start w ⟨m, k, true, wa, pr, co, il, cc, pg, ad⟩ cl cx ch)
  have HW := Lib.hid (below2 w (.cells #[.int .i64 m, .int .i64 k, .bool true, .bool wa, .bool pr, .int .i64 co, .int .i64 il, .int .i64 cc, .int .i64 pg, .int .i64 ad] 23) (.cells #[.int .i64 cl, .int .i64 cx, .int .i64 ch] 35))
  have HA := Lib.hid (fun W => (by have h1 := adm_any ⟨m, k, true, wa, pr, co, il, cc, pg, ad⟩ cl cx ch W; rw [ha] at h1; exact h1 : Calls Try.prog 22 #[.agg #[.int .i64 m, .int .i64 k, .bool true, .bool wa, .bool pr, .int .i64 co, .int .i64 il, .int .i64 cc, .int .i64 pg, .int .i64 ad], .int .i64 cl, .int .i64 cx, .int .i64 ch] W (New W (.bool false))))
  clear hq ha
  go_enter Try.func9, Try.ntmps9
  go_wp2_with fail
  refine (HV.out _).mono ?_
  rintro e w1 ⟨rfl, hb⟩
  have HW1 := Lib.hid (bel0 HW.out hb)
  have HB1 := Lib.hid (HB.out.1.below hb)
  have HB2 := Lib.hid (HB.out.2.below hb)
  obtain ⟨c0, c1, c2, c3, c4, c5, c6, c7, c8, c9⟩ := cells_of (Q := ⟨m, k, true, wa, pr, co, il, cc, pg, ad⟩) HB1.out
  obtain ⟨a0, a1, a2⟩ := (ca_of (Q := ⟨m, k, true, wa, pr, co, il, cc, pg, ad⟩) HB.out.1 HB.out.2 hb).1.2
  have hal := fun o a => World.cell?_alloc_some w1 a o
  clear hb HV HB HW
  go_wp2_with fail
  refine (HA.out _).mono ?_
  rintro e w2 ⟨rfl, hb⟩
  have hn := below_new w1 (.cells #[.int .i64 M, .int .i64 k, .bool true, .bool wa, .bool pr, .int .i64 co, .int .i64 il, .int .i64 cc, .int .i64 G, .int .i64 ad] 23)
  have HN := Lib.hid (Bx.new w1 23 #[.int .i64 M, .int .i64 k, .bool true, .bool wa, .bool pr, .int .i64 co, .int .i64 il, .int .i64 cc, .int .i64 G, .int .i64 ad])
  have HW2 := Lib.hid (bel0 HW1.out (bel0 hn hb))
  clear hn hb HA HW1 HB1 HB2 HN hal c0 c1 c2 c3 c4 c5 c6 c7 c8 c9 a0 a1 a2 e1 e2 e4 e5
  go_wp2_with fail
  refine (works_any _).mono ?_
  rintro e w4 ⟨rfl, hb⟩
  have HW4 := Lib.hid (bel0 HW2.out hb)
  clear hb HW2
  go_wp2
  go_ret
  exact ⟨rfl, HW4.out⟩
set_option maxRecDepth 100000 in
set_option maxHeartbeats 1000000 in
theorem way_t_1 (m k : Int) (wa pr : Bool) (co il cc pg ad : Int) (mo cl cx ch : Int) (w : World) (x y M G : Int) (hq : okB ⟨m, k, true, wa, pr, co, il, cc, pg, ad⟩ = true) (e1 : bits .and .i64 mo 255 = x) (e2 : bits .and .i64 (mo / 256) 15 = y) (e4 : bits .or .i64 m x = M) (e5 : bits .or .i64 pg y = G)
    (ha : adB ⟨m, k, true, wa, pr, co, il, cc, pg, ad⟩ cl cx ch = true) (hr : adB ⟨M, k, true, wa, pr, co, il, cc, G, ad⟩ cl cx ch = true) : Calls Try.prog 9 #[.agg #[.int .i64 m, .int .i64 k, .bool true, .bool wa, .bool pr, .int .i64 co, .int .i64 il, .int .i64 cc, .int .i64 pg, .int .i64 ad], .int .i64 mo, .agg #[.int .i64 cl, .int .i64 cx, .int .i64 ch]] w (New w (.bool true)) := by
  have HV := Lib.hid (fun W => (by have h1 := valid_any ⟨m, k, true, wa, pr, co, il, cc, pg, ad⟩ W; rw [hq] at h1; exact h1 : Calls Try.prog 14 #[.agg #[.int .i64 m, .int .i64 k, .bool true, .bool wa, .bool pr, .int .i64 co, .int .i64 il, .int .i64 cc, .int .i64 pg, .int .i64 ad]] W (New W (.bool true))))
  have HB := Lib.hid (ask_start w ⟨m, k, true, wa, pr, co, il, cc, pg, ad⟩ cl cx ch)
  have HW := Lib.hid (below2 w (.cells #[.int .i64 m, .int .i64 k, .bool true, .bool wa, .bool pr, .int .i64 co, .int .i64 il, .int .i64 cc, .int .i64 pg, .int .i64 ad] 23) (.cells #[.int .i64 cl, .int .i64 cx, .int .i64 ch] 35))
  have HA := Lib.hid (fun W => (by have h1 := adm_any ⟨m, k, true, wa, pr, co, il, cc, pg, ad⟩ cl cx ch W; rw [ha] at h1; exact h1 : Calls Try.prog 22 #[.agg #[.int .i64 m, .int .i64 k, .bool true, .bool wa, .bool pr, .int .i64 co, .int .i64 il, .int .i64 cc, .int .i64 pg, .int .i64 ad], .int .i64 cl, .int .i64 cx, .int .i64 ch] W (New W (.bool true))))
  have HR := Lib.hid (fun W => (by have h1 := adm_any ⟨M, k, true, wa, pr, co, il, cc, G, ad⟩ cl cx ch W; rw [hr] at h1; exact h1 : Calls Try.prog 22 #[.agg #[.int .i64 M, .int .i64 k, .bool true, .bool wa, .bool pr, .int .i64 co, .int .i64 il, .int .i64 cc, .int .i64 G, .int .i64 ad], .int .i64 cl, .int .i64 cx, .int .i64 ch] W (New W (.bool true))))
  clear hr
  clear hq ha
  go_enter Try.func9, Try.ntmps9
  go_wp2_with fail
  refine (HV.out _).mono ?_
  rintro e w1 ⟨rfl, hb⟩
  have HW1 := Lib.hid (bel0 HW.out hb)
  have HB1 := Lib.hid (HB.out.1.below hb)
  have HB2 := Lib.hid (HB.out.2.below hb)
  obtain ⟨c0, c1, c2, c3, c4, c5, c6, c7, c8, c9⟩ := cells_of (Q := ⟨m, k, true, wa, pr, co, il, cc, pg, ad⟩) HB1.out
  obtain ⟨a0, a1, a2⟩ := (ca_of (Q := ⟨m, k, true, wa, pr, co, il, cc, pg, ad⟩) HB.out.1 HB.out.2 hb).1.2
  have hal := fun o a => World.cell?_alloc_some w1 a o
  clear hb HV HB HW
  go_wp2_with fail
  refine (HA.out _).mono ?_
  rintro e w2 ⟨rfl, hb⟩
  have hn := below_new w1 (.cells #[.int .i64 M, .int .i64 k, .bool true, .bool wa, .bool pr, .int .i64 co, .int .i64 il, .int .i64 cc, .int .i64 G, .int .i64 ad] 23)
  have HN := Lib.hid (Bx.new w1 23 #[.int .i64 M, .int .i64 k, .bool true, .bool wa, .bool pr, .int .i64 co, .int .i64 il, .int .i64 cc, .int .i64 G, .int .i64 ad])
  have HW2 := Lib.hid (bel0 HW1.out (bel0 hn hb))
  obtain ⟨d0, d1, d2, d3, d4, d5, d6, d7, d8, d9⟩ := cells_of (Q := ⟨M, k, true, wa, pr, co, il, cc, G, ad⟩) (HN.out.below hb)
  have f0 := (HB2.out.below (bel0 hn hb)).cell 0
  have f1 := (HB2.out.below (bel0 hn hb)).cell 1
  have f2 := (HB2.out.below (bel0 hn hb)).cell 2
  clear hn hb HA HW1 HB1 HB2 HN hal c0 c1 c2 c3 c4 c5 c6 c7 c8 c9 a0 a1 a2 e1 e2 e4 e5
  go_wp2_with fail
  refine (HR.out _).mono ?_
  rintro e w3 ⟨rfl, hb⟩
  have HW3 := Lib.hid (bel0 HW2.out hb)
  clear hb HR HW2 d0 d1 d2 d3 d4 d5 d6 d7 d8 d9 f0 f1 f2
  go_wp2_with fail
  refine (works_any _).mono ?_
  rintro e w4 ⟨rfl, hb⟩
  have HW4 := Lib.hid (bel0 HW3.out hb)
  clear hb HW3
  go_wp2
  go_ret
  exact ⟨rfl, HW4.out⟩
set_option maxRecDepth 100000 in
set_option maxHeartbeats 1000000 in
theorem way_f0_0 (m k : Int) (wa pr : Bool) (co il cc pg ad : Int) (mo cl cx ch : Int) (w : World) (x y M G : Int) (hq : okB ⟨m, k, false, wa, pr, co, il, cc, pg, ad⟩ = true) (e1 : bits .and .i64 mo 255 = x) (e2 : bits .and .i64 (mo / 256) 15 = y) (e3 : bits .and .i64 (mo / 4096) 1 = 0) (e4 : bits .or .i64 m x = M) (e5 : bits .or .i64 pg y = G)
    (ha : adB ⟨m, k, false, wa, pr, co, il, cc, pg, ad⟩ cl cx ch = false) : Calls Try.prog 9 #[.agg #[.int .i64 m, .int .i64 k, .bool false, .bool wa, .bool pr, .int .i64 co, .int .i64 il, .int .i64 cc, .int .i64 pg, .int .i64 ad], .int .i64 mo, .agg #[.int .i64 cl, .int .i64 cx, .int .i64 ch]] w (New w (.bool true)) := by
  have HV := Lib.hid (fun W => (by have h1 := valid_any ⟨m, k, false, wa, pr, co, il, cc, pg, ad⟩ W; rw [hq] at h1; exact h1 : Calls Try.prog 14 #[.agg #[.int .i64 m, .int .i64 k, .bool false, .bool wa, .bool pr, .int .i64 co, .int .i64 il, .int .i64 cc, .int .i64 pg, .int .i64 ad]] W (New W (.bool true))))
  have HB := Lib.hid (ask_start w ⟨m, k, false, wa, pr, co, il, cc, pg, ad⟩ cl cx ch)
  have HW := Lib.hid (below2 w (.cells #[.int .i64 m, .int .i64 k, .bool false, .bool wa, .bool pr, .int .i64 co, .int .i64 il, .int .i64 cc, .int .i64 pg, .int .i64 ad] 23) (.cells #[.int .i64 cl, .int .i64 cx, .int .i64 ch] 35))
  have HA := Lib.hid (fun W => (by have h1 := adm_any ⟨m, k, false, wa, pr, co, il, cc, pg, ad⟩ cl cx ch W; rw [ha] at h1; exact h1 : Calls Try.prog 22 #[.agg #[.int .i64 m, .int .i64 k, .bool false, .bool wa, .bool pr, .int .i64 co, .int .i64 il, .int .i64 cc, .int .i64 pg, .int .i64 ad], .int .i64 cl, .int .i64 cx, .int .i64 ch] W (New W (.bool false))))
  clear hq ha
  go_enter Try.func9, Try.ntmps9
  go_wp2_with fail
  refine (HV.out _).mono ?_
  rintro e w1 ⟨rfl, hb⟩
  have HW1 := Lib.hid (bel0 HW.out hb)
  have HB1 := Lib.hid (HB.out.1.below hb)
  have HB2 := Lib.hid (HB.out.2.below hb)
  obtain ⟨c0, c1, c2, c3, c4, c5, c6, c7, c8, c9⟩ := cells_of (Q := ⟨m, k, false, wa, pr, co, il, cc, pg, ad⟩) HB1.out
  obtain ⟨a0, a1, a2⟩ := (ca_of (Q := ⟨m, k, false, wa, pr, co, il, cc, pg, ad⟩) HB.out.1 HB.out.2 hb).1.2
  have hal := fun o a => World.cell?_alloc_some w1 a o
  clear hb HV HB HW
  go_wp2_with fail
  refine (HA.out _).mono ?_
  rintro e w2 ⟨rfl, hb⟩
  have hn := below_new w1 (.cells #[.int .i64 M, .int .i64 k, .bool false, .bool wa, .bool pr, .int .i64 co, .int .i64 il, .int .i64 cc, .int .i64 G, .int .i64 ad] 23)
  have HN := Lib.hid (Bx.new w1 23 #[.int .i64 M, .int .i64 k, .bool false, .bool wa, .bool pr, .int .i64 co, .int .i64 il, .int .i64 cc, .int .i64 G, .int .i64 ad])
  have HW2 := Lib.hid (bel0 HW1.out (bel0 hn hb))
  clear hn hb HA HW1 HB1 HB2 HN hal c0 c1 c2 c3 c4 c5 c6 c7 c8 c9 a0 a1 a2 e1 e2 e4 e5 e3
  go_wp2_with fail
  refine (works_any _).mono ?_
  rintro e w4 ⟨rfl, hb⟩
  have HW4 := Lib.hid (bel0 HW2.out hb)
  clear hb HW2
  go_wp2
  go_ret
  exact ⟨rfl, HW4.out⟩
set_option maxRecDepth 100000 in
set_option maxHeartbeats 1000000 in
theorem way_f0_1 (m k : Int) (wa pr : Bool) (co il cc pg ad : Int) (mo cl cx ch : Int) (w : World) (x y M G : Int) (hq : okB ⟨m, k, false, wa, pr, co, il, cc, pg, ad⟩ = true) (e1 : bits .and .i64 mo 255 = x) (e2 : bits .and .i64 (mo / 256) 15 = y) (e3 : bits .and .i64 (mo / 4096) 1 = 0) (e4 : bits .or .i64 m x = M) (e5 : bits .or .i64 pg y = G)
    (ha : adB ⟨m, k, false, wa, pr, co, il, cc, pg, ad⟩ cl cx ch = true) (hr : adB ⟨M, k, false, wa, pr, co, il, cc, G, ad⟩ cl cx ch = true) : Calls Try.prog 9 #[.agg #[.int .i64 m, .int .i64 k, .bool false, .bool wa, .bool pr, .int .i64 co, .int .i64 il, .int .i64 cc, .int .i64 pg, .int .i64 ad], .int .i64 mo, .agg #[.int .i64 cl, .int .i64 cx, .int .i64 ch]] w (New w (.bool true)) := by
  have HV := Lib.hid (fun W => (by have h1 := valid_any ⟨m, k, false, wa, pr, co, il, cc, pg, ad⟩ W; rw [hq] at h1; exact h1 : Calls Try.prog 14 #[.agg #[.int .i64 m, .int .i64 k, .bool false, .bool wa, .bool pr, .int .i64 co, .int .i64 il, .int .i64 cc, .int .i64 pg, .int .i64 ad]] W (New W (.bool true))))
  have HB := Lib.hid (ask_start w ⟨m, k, false, wa, pr, co, il, cc, pg, ad⟩ cl cx ch)
  have HW := Lib.hid (below2 w (.cells #[.int .i64 m, .int .i64 k, .bool false, .bool wa, .bool pr, .int .i64 co, .int .i64 il, .int .i64 cc, .int .i64 pg, .int .i64 ad] 23) (.cells #[.int .i64 cl, .int .i64 cx, .int .i64 ch] 35))
  have HA := Lib.hid (fun W => (by have h1 := adm_any ⟨m, k, false, wa, pr, co, il, cc, pg, ad⟩ cl cx ch W; rw [ha] at h1; exact h1 : Calls Try.prog 22 #[.agg #[.int .i64 m, .int .i64 k, .bool false, .bool wa, .bool pr, .int .i64 co, .int .i64 il, .int .i64 cc, .int .i64 pg, .int .i64 ad], .int .i64 cl, .int .i64 cx, .int .i64 ch] W (New W (.bool true))))
  have HR := Lib.hid (fun W => (by have h1 := adm_any ⟨M, k, false, wa, pr, co, il, cc, G, ad⟩ cl cx ch W; rw [hr] at h1; exact h1 : Calls Try.prog 22 #[.agg #[.int .i64 M, .int .i64 k, .bool false, .bool wa, .bool pr, .int .i64 co, .int .i64 il, .int .i64 cc, .int .i64 G, .int .i64 ad], .int .i64 cl, .int .i64 cx, .int .i64 ch] W (New W (.bool true))))
  clear hr
  clear hq ha
  go_enter Try.func9, Try.ntmps9
  go_wp2_with fail
  refine (HV.out _).mono ?_
  rintro e w1 ⟨rfl, hb⟩
  have HW1 := Lib.hid (bel0 HW.out hb)
  have HB1 := Lib.hid (HB.out.1.below hb)
  have HB2 := Lib.hid (HB.out.2.below hb)
  obtain ⟨c0, c1, c2, c3, c4, c5, c6, c7, c8, c9⟩ := cells_of (Q := ⟨m, k, false, wa, pr, co, il, cc, pg, ad⟩) HB1.out
  obtain ⟨a0, a1, a2⟩ := (ca_of (Q := ⟨m, k, false, wa, pr, co, il, cc, pg, ad⟩) HB.out.1 HB.out.2 hb).1.2
  have hal := fun o a => World.cell?_alloc_some w1 a o
  clear hb HV HB HW
  go_wp2_with fail
  refine (HA.out _).mono ?_
  rintro e w2 ⟨rfl, hb⟩
  have hn := below_new w1 (.cells #[.int .i64 M, .int .i64 k, .bool false, .bool wa, .bool pr, .int .i64 co, .int .i64 il, .int .i64 cc, .int .i64 G, .int .i64 ad] 23)
  have HN := Lib.hid (Bx.new w1 23 #[.int .i64 M, .int .i64 k, .bool false, .bool wa, .bool pr, .int .i64 co, .int .i64 il, .int .i64 cc, .int .i64 G, .int .i64 ad])
  have HW2 := Lib.hid (bel0 HW1.out (bel0 hn hb))
  obtain ⟨d0, d1, d2, d3, d4, d5, d6, d7, d8, d9⟩ := cells_of (Q := ⟨M, k, false, wa, pr, co, il, cc, G, ad⟩) (HN.out.below hb)
  have f0 := (HB2.out.below (bel0 hn hb)).cell 0
  have f1 := (HB2.out.below (bel0 hn hb)).cell 1
  have f2 := (HB2.out.below (bel0 hn hb)).cell 2
  clear hn hb HA HW1 HB1 HB2 HN hal c0 c1 c2 c3 c4 c5 c6 c7 c8 c9 a0 a1 a2 e1 e2 e4 e5 e3
  go_wp2_with fail
  refine (HR.out _).mono ?_
  rintro e w3 ⟨rfl, hb⟩
  have HW3 := Lib.hid (bel0 HW2.out hb)
  clear hb HR HW2 d0 d1 d2 d3 d4 d5 d6 d7 d8 d9 f0 f1 f2
  go_wp2_with fail
  refine (works_any _).mono ?_
  rintro e w4 ⟨rfl, hb⟩
  have HW4 := Lib.hid (bel0 HW3.out hb)
  clear hb HW3
  go_wp2
  go_ret
  exact ⟨rfl, HW4.out⟩
set_option maxRecDepth 100000 in
set_option maxHeartbeats 1000000 in
theorem way_f1_0 (m k : Int) (wa pr : Bool) (co il cc pg ad : Int) (mo cl cx ch : Int) (w : World) (x y M G : Int) (hq : okB ⟨m, k, false, wa, pr, co, il, cc, pg, ad⟩ = true) (e1 : bits .and .i64 mo 255 = x) (e2 : bits .and .i64 (mo / 256) 15 = y) (e3 : bits .and .i64 (mo / 4096) 1 = 1) (e4 : bits .or .i64 m x = M) (e5 : bits .or .i64 pg y = G)
    (ha : adB ⟨m, k, false, wa, pr, co, il, cc, pg, ad⟩ cl cx ch = false) : Calls Try.prog 9 #[.agg #[.int .i64 m, .int .i64 k, .bool false, .bool wa, .bool pr, .int .i64 co, .int .i64 il, .int .i64 cc, .int .i64 pg, .int .i64 ad], .int .i64 mo, .agg #[.int .i64 cl, .int .i64 cx, .int .i64 ch]] w (New w (.bool true)) := by
  have HV := Lib.hid (fun W => (by have h1 := valid_any ⟨m, k, false, wa, pr, co, il, cc, pg, ad⟩ W; rw [hq] at h1; exact h1 : Calls Try.prog 14 #[.agg #[.int .i64 m, .int .i64 k, .bool false, .bool wa, .bool pr, .int .i64 co, .int .i64 il, .int .i64 cc, .int .i64 pg, .int .i64 ad]] W (New W (.bool true))))
  have HB := Lib.hid (ask_start w ⟨m, k, false, wa, pr, co, il, cc, pg, ad⟩ cl cx ch)
  have HW := Lib.hid (below2 w (.cells #[.int .i64 m, .int .i64 k, .bool false, .bool wa, .bool pr, .int .i64 co, .int .i64 il, .int .i64 cc, .int .i64 pg, .int .i64 ad] 23) (.cells #[.int .i64 cl, .int .i64 cx, .int .i64 ch] 35))
  have HA := Lib.hid (fun W => (by have h1 := adm_any ⟨m, k, false, wa, pr, co, il, cc, pg, ad⟩ cl cx ch W; rw [ha] at h1; exact h1 : Calls Try.prog 22 #[.agg #[.int .i64 m, .int .i64 k, .bool false, .bool wa, .bool pr, .int .i64 co, .int .i64 il, .int .i64 cc, .int .i64 pg, .int .i64 ad], .int .i64 cl, .int .i64 cx, .int .i64 ch] W (New W (.bool false))))
  clear hq ha
  go_enter Try.func9, Try.ntmps9
  go_wp2_with fail
  refine (HV.out _).mono ?_
  rintro e w1 ⟨rfl, hb⟩
  have HW1 := Lib.hid (bel0 HW.out hb)
  have HB1 := Lib.hid (HB.out.1.below hb)
  have HB2 := Lib.hid (HB.out.2.below hb)
  obtain ⟨c0, c1, c2, c3, c4, c5, c6, c7, c8, c9⟩ := cells_of (Q := ⟨m, k, false, wa, pr, co, il, cc, pg, ad⟩) HB1.out
  obtain ⟨a0, a1, a2⟩ := (ca_of (Q := ⟨m, k, false, wa, pr, co, il, cc, pg, ad⟩) HB.out.1 HB.out.2 hb).1.2
  have hal := fun o a => World.cell?_alloc_some w1 a o
  clear hb HV HB HW
  go_wp2_with fail
  refine (HA.out _).mono ?_
  rintro e w2 ⟨rfl, hb⟩
  have hn := below_new w1 (.cells #[.int .i64 M, .int .i64 k, .bool true, .bool wa, .bool pr, .int .i64 co, .int .i64 il, .int .i64 cc, .int .i64 G, .int .i64 ad] 23)
  have HN := Lib.hid (Bx.new w1 23 #[.int .i64 M, .int .i64 k, .bool true, .bool wa, .bool pr, .int .i64 co, .int .i64 il, .int .i64 cc, .int .i64 G, .int .i64 ad])
  have HW2 := Lib.hid (bel0 HW1.out (bel0 hn hb))
  clear hn hb HA HW1 HB1 HB2 HN hal c0 c1 c2 c3 c4 c5 c6 c7 c8 c9 a0 a1 a2 e1 e2 e4 e5 e3
  go_wp2_with fail
  refine (works_any _).mono ?_
  rintro e w4 ⟨rfl, hb⟩
  have HW4 := Lib.hid (bel0 HW2.out hb)
  clear hb HW2
  go_wp2
  go_ret
  exact ⟨rfl, HW4.out⟩
set_option maxRecDepth 100000 in
set_option maxHeartbeats 1000000 in
theorem way_f1_1 (m k : Int) (wa pr : Bool) (co il cc pg ad : Int) (mo cl cx ch : Int) (w : World) (x y M G : Int) (hq : okB ⟨m, k, false, wa, pr, co, il, cc, pg, ad⟩ = true) (e1 : bits .and .i64 mo 255 = x) (e2 : bits .and .i64 (mo / 256) 15 = y) (e3 : bits .and .i64 (mo / 4096) 1 = 1) (e4 : bits .or .i64 m x = M) (e5 : bits .or .i64 pg y = G)
    (ha : adB ⟨m, k, false, wa, pr, co, il, cc, pg, ad⟩ cl cx ch = true) (hr : adB ⟨M, k, true, wa, pr, co, il, cc, G, ad⟩ cl cx ch = true) : Calls Try.prog 9 #[.agg #[.int .i64 m, .int .i64 k, .bool false, .bool wa, .bool pr, .int .i64 co, .int .i64 il, .int .i64 cc, .int .i64 pg, .int .i64 ad], .int .i64 mo, .agg #[.int .i64 cl, .int .i64 cx, .int .i64 ch]] w (New w (.bool true)) := by
  have HV := Lib.hid (fun W => (by have h1 := valid_any ⟨m, k, false, wa, pr, co, il, cc, pg, ad⟩ W; rw [hq] at h1; exact h1 : Calls Try.prog 14 #[.agg #[.int .i64 m, .int .i64 k, .bool false, .bool wa, .bool pr, .int .i64 co, .int .i64 il, .int .i64 cc, .int .i64 pg, .int .i64 ad]] W (New W (.bool true))))
  have HB := Lib.hid (ask_start w ⟨m, k, false, wa, pr, co, il, cc, pg, ad⟩ cl cx ch)
  have HW := Lib.hid (below2 w (.cells #[.int .i64 m, .int .i64 k, .bool false, .bool wa, .bool pr, .int .i64 co, .int .i64 il, .int .i64 cc, .int .i64 pg, .int .i64 ad] 23) (.cells #[.int .i64 cl, .int .i64 cx, .int .i64 ch] 35))
  have HA := Lib.hid (fun W => (by have h1 := adm_any ⟨m, k, false, wa, pr, co, il, cc, pg, ad⟩ cl cx ch W; rw [ha] at h1; exact h1 : Calls Try.prog 22 #[.agg #[.int .i64 m, .int .i64 k, .bool false, .bool wa, .bool pr, .int .i64 co, .int .i64 il, .int .i64 cc, .int .i64 pg, .int .i64 ad], .int .i64 cl, .int .i64 cx, .int .i64 ch] W (New W (.bool true))))
  have HR := Lib.hid (fun W => (by have h1 := adm_any ⟨M, k, true, wa, pr, co, il, cc, G, ad⟩ cl cx ch W; rw [hr] at h1; exact h1 : Calls Try.prog 22 #[.agg #[.int .i64 M, .int .i64 k, .bool true, .bool wa, .bool pr, .int .i64 co, .int .i64 il, .int .i64 cc, .int .i64 G, .int .i64 ad], .int .i64 cl, .int .i64 cx, .int .i64 ch] W (New W (.bool true))))
  clear hr
  clear hq ha
  go_enter Try.func9, Try.ntmps9
  go_wp2_with fail
  refine (HV.out _).mono ?_
  rintro e w1 ⟨rfl, hb⟩
  have HW1 := Lib.hid (bel0 HW.out hb)
  have HB1 := Lib.hid (HB.out.1.below hb)
  have HB2 := Lib.hid (HB.out.2.below hb)
  obtain ⟨c0, c1, c2, c3, c4, c5, c6, c7, c8, c9⟩ := cells_of (Q := ⟨m, k, false, wa, pr, co, il, cc, pg, ad⟩) HB1.out
  obtain ⟨a0, a1, a2⟩ := (ca_of (Q := ⟨m, k, false, wa, pr, co, il, cc, pg, ad⟩) HB.out.1 HB.out.2 hb).1.2
  have hal := fun o a => World.cell?_alloc_some w1 a o
  clear hb HV HB HW
  go_wp2_with fail
  refine (HA.out _).mono ?_
  rintro e w2 ⟨rfl, hb⟩
  have hn := below_new w1 (.cells #[.int .i64 M, .int .i64 k, .bool true, .bool wa, .bool pr, .int .i64 co, .int .i64 il, .int .i64 cc, .int .i64 G, .int .i64 ad] 23)
  have HN := Lib.hid (Bx.new w1 23 #[.int .i64 M, .int .i64 k, .bool true, .bool wa, .bool pr, .int .i64 co, .int .i64 il, .int .i64 cc, .int .i64 G, .int .i64 ad])
  have HW2 := Lib.hid (bel0 HW1.out (bel0 hn hb))
  obtain ⟨d0, d1, d2, d3, d4, d5, d6, d7, d8, d9⟩ := cells_of (Q := ⟨M, k, true, wa, pr, co, il, cc, G, ad⟩) (HN.out.below hb)
  have f0 := (HB2.out.below (bel0 hn hb)).cell 0
  have f1 := (HB2.out.below (bel0 hn hb)).cell 1
  have f2 := (HB2.out.below (bel0 hn hb)).cell 2
  clear hn hb HA HW1 HB1 HB2 HN hal c0 c1 c2 c3 c4 c5 c6 c7 c8 c9 a0 a1 a2 e1 e2 e4 e5 e3
  go_wp2_with fail
  refine (HR.out _).mono ?_
  rintro e w3 ⟨rfl, hb⟩
  have HW3 := Lib.hid (bel0 HW2.out hb)
  clear hb HR HW2 d0 d1 d2 d3 d4 d5 d6 d7 d8 d9 f0 f1 f2
  go_wp2_with fail
  refine (works_any _).mono ?_
  rintro e w4 ⟨rfl, hb⟩
  have HW4 := Lib.hid (bel0 HW3.out hb)
  clear hb HW3
  go_wp2
  go_ret
  exact ⟨rfl, HW4.out⟩
theorem walk (Q : Psw) (mo cl cx ch : Int) (w : World) : Calls Try.prog 9 #[.agg #[.int .i64 Q.m, .int .i64 Q.k, .bool Q.ma, .bool Q.wa, .bool Q.pr, .int .i64 Q.co, .int .i64 Q.il, .int .i64 Q.cc, .int .i64 Q.pg, .int .i64 Q.ad], .int .i64 mo, .agg #[.int .i64 cl, .int .i64 cx, .int .i64 ch]] w (New w (.bool true)) := by
  obtain ⟨m, k, ma, wa, pr, co, il, cc, pg, ad⟩ := Q
  show Calls Try.prog 9 #[.agg #[.int .i64 m, .int .i64 k, .bool ma, .bool wa, .bool pr, .int .i64 co, .int .i64 il, .int .i64 cc, .int .i64 pg, .int .i64 ad], .int .i64 mo, .agg #[.int .i64 cl, .int .i64 cx, .int .i64 ch]] w (New w (.bool true))
  have e1 : bits .and .i64 mo 255 = mo % 256 := and_low mo 8 (by decide)
  have e2 : bits .and .i64 (mo / 256) 15 = mo / 256 % 16 := and_low (mo / 256) 4 (by decide)
  have e3 : bits .and .i64 (mo / 4096) 1 = mo / 4096 % 2 := and_low (mo / 4096) 1 (by decide)
  cases hq : okB ⟨m, k, ma, wa, pr, co, il, cc, pg, ad⟩ with
  | false => exact invalid m k ma wa pr co il cc pg ad mo cl cx ch w hq
  | true =>
    cases ma with
    | true =>
      cases ha : adB ⟨m, k, true, wa, pr, co, il, cc, pg, ad⟩ cl cx ch with
      | false => exact way_t_0 m k wa pr co il cc pg ad mo cl cx ch w _ _ _ _ hq e1 e2 rfl rfl ha
      | true => exact way_t_1 m k wa pr co il cc pg ad mo cl cx ch w _ _ _ _ hq e1 e2 rfl rfl ha (more ⟨m, k, true, wa, pr, co, il, cc, pg, ad⟩ (mo % 256) (mo / 256 % 16) false cl cx ch (by omega) (by omega) (by omega) (by omega) ha)
    | false =>
      rcases (by omega : mo / 4096 % 2 = 0 ∨ mo / 4096 % 2 = 1) with hz | hz
      · rw [hz] at e3
        cases ha : adB ⟨m, k, false, wa, pr, co, il, cc, pg, ad⟩ cl cx ch with
        | false => exact way_f0_0 m k wa pr co il cc pg ad mo cl cx ch w _ _ _ _ hq e1 e2 e3 rfl rfl ha
        | true => exact way_f0_1 m k wa pr co il cc pg ad mo cl cx ch w _ _ _ _ hq e1 e2 e3 rfl rfl ha (more ⟨m, k, false, wa, pr, co, il, cc, pg, ad⟩ (mo % 256) (mo / 256 % 16) false cl cx ch (by omega) (by omega) (by omega) (by omega) ha)
      · rw [hz] at e3
        cases ha : adB ⟨m, k, false, wa, pr, co, il, cc, pg, ad⟩ cl cx ch with
        | false => exact way_f1_0 m k wa pr co il cc pg ad mo cl cx ch w _ _ _ _ hq e1 e2 e3 rfl rfl ha
        | true => exact way_f1_1 m k wa pr co il cc pg ad mo cl cx ch w _ _ _ _ hq e1 e2 e3 rfl rfl ha (more ⟨m, k, false, wa, pr, co, il, cc, pg, ad⟩ (mo % 256) (mo / 256 % 16) true cl cx ch (by omega) (by omega) (by omega) (by omega) ha)

end Go.Proofs.Ytfobmgoehamnnaa.pswMasks

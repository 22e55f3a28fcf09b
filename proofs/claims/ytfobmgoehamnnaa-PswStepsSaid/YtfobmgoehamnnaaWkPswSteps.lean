/- The walk of the statement PswSteps: it answers true, and below its own memory nothing turns. -/
import Derived.Test.YtfobmgoehamnnaaPsWorks
import Derived.Test.YtfobmgoehamnnaaPsOpen
namespace Go.Proofs.Ytfobmgoehamnnaa.pswSteps
open Go.RowKit E
set_option linter.unusedVariables false

theorem rdi_below {w w' : World} {p : Option Addr} {l : List Int} (h : RdI w p l) (hb : Below w.heap.size w w') : RdI w' p l := by
  rcases h with h | ⟨B, off, hp, hc⟩
  · exact .inl h
  · exact .inr ⟨B, off, hp, fun j hj => cell_bel (hc j hj) hb⟩
set_option maxRecDepth 100000 in
theorem bad (Q : Psw) (p : Option Addr) (j c : Nat) (w : World) (hq : okB Q = false) : Calls Try.prog 11 #[.agg #[.int .i64 Q.m, .int .i64 Q.k, .bool Q.ma, .bool Q.wa, .bool Q.pr, .int .i64 Q.co, .int .i64 Q.il, .int .i64 Q.cc, .int .i64 Q.pg, .int .i64 Q.ad], .slice p j c] w (New w (.bool true)) := by
  have HV := Lib.hid (fun W => (by have h1 := valid_any Q W; rw [hq] at h1; exact h1 : Calls Try.prog 14 #[.agg #[.int .i64 Q.m, .int .i64 Q.k, .bool Q.ma, .bool Q.wa, .bool Q.pr, .int .i64 Q.co, .int .i64 Q.il, .int .i64 Q.cc, .int .i64 Q.pg, .int .i64 Q.ad]] W (New W (.bool false))))
  clear hq
  go_enter Try.func11, Try.ntmps11
  go_wp2_with fail
  refine (HV.out _).mono ?_
  rintro e w1 ⟨rfl, hb⟩
  have HW1 := Lib.hid (bel0 (below_new _ _) hb)
  clear hb HV
  go_wp2_with fail
  refine (works_any _).mono ?_
  rintro e w2 ⟨rfl, hb⟩
  have HW2 := Lib.hid (bel0 HW1.out hb)
  clear hb HW1
  go_wp2
  go_ret
  exact ⟨rfl, HW2.out⟩
set_option maxRecDepth 100000 in
theorem long (Q : Psw) (p : Option Addr) (j c : Nat) (w : World) (hq : okB Q = true) (hj : 100 < j) : Calls Try.prog 11 #[.agg #[.int .i64 Q.m, .int .i64 Q.k, .bool Q.ma, .bool Q.wa, .bool Q.pr, .int .i64 Q.co, .int .i64 Q.il, .int .i64 Q.cc, .int .i64 Q.pg, .int .i64 Q.ad], .slice p j c] w (New w (.bool true)) := by
  have HV := Lib.hid (fun W => (by have h1 := valid_any Q W; rw [hq] at h1; exact h1 : Calls Try.prog 14 #[.agg #[.int .i64 Q.m, .int .i64 Q.k, .bool Q.ma, .bool Q.wa, .bool Q.pr, .int .i64 Q.co, .int .i64 Q.il, .int .i64 Q.cc, .int .i64 Q.pg, .int .i64 Q.ad]] W (New W (.bool true))))
  have h1 : (100 : Int) < (j : Int) := by omega
  clear hq hj
  go_enter Try.func11, Try.ntmps11
  go_wp2_with fail
  refine (HV.out _).mono ?_
  rintro e w1 ⟨rfl, hb⟩
  have HW1 := Lib.hid (bel0 (below_new _ _) hb)
  clear hb HV
  go_wp2_with fail
  refine (works_any _).mono ?_
  rintro e w2 ⟨rfl, hb⟩
  have HW2 := Lib.hid (bel0 HW1.out hb)
  clear hb HW1
  go_wp2
  go_ret
  exact ⟨rfl, HW2.out⟩
theorem u3 (z : Int) : wrap64 (2 + wrap64 (2 * wrap64 ((IntKind.u64.wrap z).tmod 3))) = 2 ∨ wrap64 (2 + wrap64 (2 * wrap64 ((IntKind.u64.wrap z).tmod 3))) = 4 ∨ wrap64 (2 + wrap64 (2 * wrap64 ((IntKind.u64.wrap z).tmod 3))) = 6 := by
  have h0 : 0 ≤ IntKind.u64.wrap z := by simp [IntKind.wrap, IntKind.bits, IntKind.signed]; omega
  rw [Int.tmod_eq_emod_of_nonneg h0]
  generalize IntKind.u64.wrap z = y at *
  unfold wrap64
  omega
theorem ad_range {ad A : Int} {S : Nat} (h : A = (ad + S) % 16777216) : 0 ≤ A ∧ A ≤ 16777215 := by omega
theorem step_ok {m k : Int} {ma wa pr : Bool} {co il cc pg ad : Int} {L A : Int} (hq : okB ⟨m, k, ma, wa, pr, co, il, cc, pg, ad⟩ = true) (h0 : 0 ≤ L) (h1 : L ≤ 3) (hA : 0 ≤ A ∧ A ≤ 16777215) (n : Int) (hn : lenB n = true) (W : World) : Calls Try.prog 24 #[.agg #[.int .i64 m, .int .i64 k, .bool ma, .bool wa, .bool pr, .int .i64 co, .int .i64 L, .int .i64 cc, .int .i64 pg, .int .i64 A], .int .i64 n] W (New W (.agg #[.int .i64 m, .int .i64 k, .bool ma, .bool wa, .bool pr, .int .i64 co, .int .i64 (n / 2), .int .i64 cc, .int .i64 pg, .int .i64 ((A + n) % 16777216)])) := by
  have hok : okP ⟨m, k, ma, wa, pr, co, il, cc, pg, ad⟩ := of_decide_eq_true hq
  obtain ⟨a1, a2, a3, a4, a5, a6, a7⟩ := hok
  have h2 : okB ⟨m, k, ma, wa, pr, co, L, cc, pg, A⟩ = true := decide_eq_true ⟨a1, a2, a3, ⟨h0, h1⟩, a5, a6, hA⟩
  have h3 := adv_any ⟨m, k, ma, wa, pr, co, L, cc, pg, A⟩ n W
  rw [adv_eq _ n h2 hn] at h3
  exact h3
theorem frz10 {W : World} {g : Nat} {t : TypeId} {cs : Array Value} (h : Bx W g t cs) : W.frozen? ⟨g, 0, none⟩ = false ∧ W.frozen? ⟨g, 1, none⟩ = false ∧ W.frozen? ⟨g, 2, none⟩ = false ∧ W.frozen? ⟨g, 3, none⟩ = false ∧ W.frozen? ⟨g, 4, none⟩ = false ∧ W.frozen? ⟨g, 5, none⟩ = false ∧ W.frozen? ⟨g, 6, none⟩ = false ∧ W.frozen? ⟨g, 7, none⟩ = false ∧ W.frozen? ⟨g, 8, none⟩ = false ∧ W.frozen? ⟨g, 9, none⟩ = false := ⟨h.frozen 0, h.frozen 1, h.frozen 2, h.frozen 3, h.frozen 4, h.frozen 5, h.frozen 6, h.frozen 7, h.frozen 8, h.frozen 9⟩
theorem put10v_far {W : World} {n g : Nat} {t : TypeId} {cs : Array Value} (h : Bx W n t cs) (hn : n ≠ g) (v0 v1 v2 v3 v4 v5 v6 v7 v8 v9 : Value) : Bx (((((((((((W.setCell ⟨g, 0, none⟩ v0).setCell ⟨g, 1, none⟩ v1).setCell ⟨g, 2, none⟩ v2).setCell ⟨g, 3, none⟩ v3).setCell ⟨g, 4, none⟩ v4).setCell ⟨g, 5, none⟩ v5).setCell ⟨g, 6, none⟩ v6).setCell ⟨g, 7, none⟩ v7).setCell ⟨g, 8, none⟩ v8).setCell ⟨g, 9, none⟩ v9)) n t cs :=
  (((((((((h.far (p := ⟨g, 0, none⟩) hn.symm v0).far (p := ⟨g, 1, none⟩) hn.symm v1).far (p := ⟨g, 2, none⟩) hn.symm v2).far (p := ⟨g, 3, none⟩) hn.symm v3).far (p := ⟨g, 4, none⟩) hn.symm v4).far (p := ⟨g, 5, none⟩) hn.symm v5).far (p := ⟨g, 6, none⟩) hn.symm v6).far (p := ⟨g, 7, none⟩) hn.symm v7).far (p := ⟨g, 8, none⟩) hn.symm v8).far (p := ⟨g, 9, none⟩) hn.symm v9
/-- Where the loop stands. -/
def Lp (w : World) (g n0 : Nat) (m k : Int) (ma wa pr : Bool) (co il cc pg ad : Int) (sm i : Value) (N : Nat) (wr : World) : Prop :=
  Below w.heap.size w wr ∧ Bx wr n0 23 #[.int .i64 m, .int .i64 k, .bool ma, .bool wa, .bool pr, .int .i64 co, .int .i64 il, .int .i64 cc, .int .i64 pg, .int .i64 ad] ∧ ∃ (j : Nat) (S : Nat) (L A : Int), j ≤ N ∧ i = .int .i64 j ∧ sm = .int .i64 S ∧ S ≤ 6 * j ∧ 0 ≤ L ∧ L ≤ 3 ∧ A = (ad + S) % 16777216 ∧ Bx wr g 23 #[.int .i64 m, .int .i64 k, .bool ma, .bool wa, .bool pr, .int .i64 co, .int .i64 L, .int .i64 cc, .int .i64 pg, .int .i64 A]
set_option maxRecDepth 100000 in
set_option maxHeartbeats 2000000 in
theorem good (m k : Int) (ma wa pr : Bool) (co il cc pg ad : Int) (p : Option Addr) (l : List Int) (c : Nat) (w : World) (hq : okB ⟨m, k, ma, wa, pr, co, il, cc, pg, ad⟩ = true) (hl : l.length ≤ 100) (hr : RdI w p l) : Calls Try.prog 11 #[.agg #[.int .i64 m, .int .i64 k, .bool ma, .bool wa, .bool pr, .int .i64 co, .int .i64 il, .int .i64 cc, .int .i64 pg, .int .i64 ad], .slice p l.length c] w (New w (.bool true)) := by
  have HV := Lib.hid (fun W => (by have h1 := valid_any ⟨m, k, ma, wa, pr, co, il, cc, pg, ad⟩ W; rw [hq] at h1; exact h1 : Calls Try.prog 14 #[.agg #[.int .i64 m, .int .i64 k, .bool ma, .bool wa, .bool pr, .int .i64 co, .int .i64 il, .int .i64 cc, .int .i64 pg, .int .i64 ad]] W (New W (.bool true))))
  have HB := Lib.hid (Bx.new w 23 #[.int .i64 m, .int .i64 k, .bool ma, .bool wa, .bool pr, .int .i64 co, .int .i64 il, .int .i64 cc, .int .i64 pg, .int .i64 ad])
  have HQ := Lib.hid hq
  have HR := Lib.hid hr
  have HL := Lib.hid hl
  have h1 : ¬ ((100 : Int) < (l.length : Int)) := by omega
  obtain ⟨N, hN⟩ : ∃ N, N = l.length := ⟨_, rfl⟩
  have HN := Lib.hid hN
  rw [← hN] at h1 ⊢
  clear hq hr hl hN
  go_enter Try.func11, Try.ntmps11
  go_wp2_with fail
  refine (HV.out _).mono ?_
  rintro e w1 ⟨rfl, hb⟩
  have HW1 := Lib.hid (bel0 (below_new _ _) hb)
  have HB1 := Lib.hid (HB.out.below hb)
  have HLT := Lib.hid HB1.out.lt
  obtain ⟨c0, c1, c2, c3, c4, c5, c6, c7, c8, c9⟩ := cells_of (Q := ⟨m, k, ma, wa, pr, co, il, cc, pg, ad⟩) HB1.out
  clear hb HV HB
  have HB2 := Lib.hid (HB1.out.below (below_new w1 (.cells #[.int .i64 m, .int .i64 k, .bool ma, .bool wa, .bool pr, .int .i64 co, .int .i64 il, .int .i64 cc, .int .i64 pg, .int .i64 ad] 23)))
  have HG2 := Lib.hid (Bx.new w1 23 #[.int .i64 m, .int .i64 k, .bool ma, .bool wa, .bool pr, .int .i64 co, .int .i64 il, .int .i64 cc, .int .i64 pg, .int .i64 ad])
  have HW2 := Lib.hid (bel0 HW1.out (below_new w1 (.cells #[.int .i64 m, .int .i64 k, .bool ma, .bool wa, .bool pr, .int .i64 co, .int .i64 il, .int .i64 cc, .int .i64 pg, .int .i64 ad] 23)))
  have HQ' := Lib.hid (of_decide_eq_true HQ.out)
  clear HB1 HW1
  go_wp2
  clear c0 c1 c2 c3 c4 c5 c6 c7 c8 c9 h1
  go_loopw [6, 7] (fun sm i wr => Lp w w1.heap.size w.heap.size m k ma wa pr co il cc pg ad sm i N wr) (fun _ i _ => N - (intOf i).toNat)
  case atStart => exact ⟨HW2.out, HB2.out, 0, 0, il, ad, Nat.zero_le _, rfl, rfl, Nat.le_refl _, HQ'.out.2.2.2.1.1, HQ'.out.2.2.2.1.2, by have h : 0 ≤ ad ∧ ad ≤ 16777215 := HQ'.out.2.2.2.2.2.2; omega, HG2.out⟩
  case round =>
    obtain ⟨hw, hp, j, S, L, A, hj, rfl, rfl, hS, hL0, hL1, hA, hg⟩ := hrel
    have KW := Lib.hid hw
    have KP := Lib.hid hp
    have KG := Lib.hid hg
    have KS := Lib.hid hS
    have KL := Lib.hid (And.intro hL0 hL1)
    have KA := Lib.hid hA
    clear hw hp hg hS hL0 hL1 hA HW2 HB2 HG2
    by_cases hlt : j < N
    · obtain ⟨z, hz⟩ : ∃ z, z = gi l j := ⟨_, rfl⟩
      obtain ⟨B, off, rfl, hc⟩ : ∃ B off, p = some ⟨B, off, none⟩ ∧ wr.cell? ⟨B, off + j, none⟩ = some (.int .i64 z) := by
        rcases rdi_below HR.out KW.out with h0 | ⟨B, off, h1, h2⟩
        · have := HN.out; subst h0; simp at this; omega
        · exact ⟨B, off, h1, by rw [hz]; exact h2 j (by have := HN.out; omega)⟩
      have hz3 := u3 z
      clear hz
      obtain ⟨d0, d1, d2, d3, d4, d5, d6, d7, d8, d9⟩ := cells_of (Q := ⟨m, k, ma, wa, pr, co, L, cc, pg, A⟩) KG.out
      rcases hz3 with e0 | e0 | e0
      · have HA := Lib.hid (step_ok HQ.out KL.out.1 KL.out.2 (ad_range KA.out) 2 rfl)
        obtain ⟨A2, hA2⟩ : ∃ A2, A2 = (A + 2) % 16777216 := ⟨_, rfl⟩
        rw [← hA2] at HA
        obtain ⟨S2, hS2⟩ : ∃ S2, S2 = S + 2 := ⟨_, rfl⟩
        have e3 : wrap64 ((S : Int) + 2) = (S2 : Int) := by have := KS.out; have := HL.out; have := HN.out; rw [hS2]; unfold wrap64; omega
        have HA2 : Hid (A2 = (ad + S2) % 16777216) := Lib.hid (by rw [hA2, hS2, KA.out]; omega)
        have HS2 : Hid (S2 ≤ 6 * (j + 1)) := Lib.hid (by rw [hS2]; have := KS.out; omega)
        clear hA2 hS2
        go_wp2_with fail
        refine (HA.out _).mono ?_
        rintro e w2 ⟨rfl, hb⟩
        have JW := Lib.hid (bel0 KW.out hb)
        have JP := Lib.hid (KP.out.below hb)
        have JG := Lib.hid (KG.out.below hb)
        clear hb HA KW KP KG hc e0 d0 d1 d2 d3 d4 d5 d6 d7 d8 d9
        obtain ⟨d0, d1, d2, d3, d4, d5, d6, d7, d8, d9⟩ := cells_of (Q := ⟨m, k, ma, wa, pr, co, L, cc, pg, A⟩) JG.out
        obtain ⟨f0, f1, f2, f3, f4, f5, f6, f7, f8, f9⟩ := frz10 JG.out
        go_wp2
        go_roundw
        case rel => exact ⟨put10v_below JW.out (Nat.le_of_lt HLT.out) _ _ _ _ _ _ _ _ _ _, put10v_far JP.out (Nat.ne_of_lt HLT.out) _ _ _ _ _ _ _ _ _ _, j + 1, S2, 1, A2, by omega, by go_num, by rw [e3], HS2.out, by decide, by decide, HA2.out, put10v_at JG.out _ _ _ _ _ _ _ _ _ _⟩
        case measure => simp [intOf]; omega
      · have HA := Lib.hid (step_ok HQ.out KL.out.1 KL.out.2 (ad_range KA.out) 4 rfl)
        obtain ⟨A2, hA2⟩ : ∃ A2, A2 = (A + 4) % 16777216 := ⟨_, rfl⟩
        rw [← hA2] at HA
        obtain ⟨S2, hS2⟩ : ∃ S2, S2 = S + 4 := ⟨_, rfl⟩
        have e3 : wrap64 ((S : Int) + 4) = (S2 : Int) := by have := KS.out; have := HL.out; have := HN.out; rw [hS2]; unfold wrap64; omega
        have HA2 : Hid (A2 = (ad + S2) % 16777216) := Lib.hid (by rw [hA2, hS2, KA.out]; omega)
        have HS2 : Hid (S2 ≤ 6 * (j + 1)) := Lib.hid (by rw [hS2]; have := KS.out; omega)
        clear hA2 hS2
        go_wp2_with fail
        refine (HA.out _).mono ?_
        rintro e w2 ⟨rfl, hb⟩
        have JW := Lib.hid (bel0 KW.out hb)
        have JP := Lib.hid (KP.out.below hb)
        have JG := Lib.hid (KG.out.below hb)
        clear hb HA KW KP KG hc e0 d0 d1 d2 d3 d4 d5 d6 d7 d8 d9
        obtain ⟨d0, d1, d2, d3, d4, d5, d6, d7, d8, d9⟩ := cells_of (Q := ⟨m, k, ma, wa, pr, co, L, cc, pg, A⟩) JG.out
        obtain ⟨f0, f1, f2, f3, f4, f5, f6, f7, f8, f9⟩ := frz10 JG.out
        go_wp2
        go_roundw
        case rel => exact ⟨put10v_below JW.out (Nat.le_of_lt HLT.out) _ _ _ _ _ _ _ _ _ _, put10v_far JP.out (Nat.ne_of_lt HLT.out) _ _ _ _ _ _ _ _ _ _, j + 1, S2, 2, A2, by omega, by go_num, by rw [e3], HS2.out, by decide, by decide, HA2.out, put10v_at JG.out _ _ _ _ _ _ _ _ _ _⟩
        case measure => simp [intOf]; omega
      · have HA := Lib.hid (step_ok HQ.out KL.out.1 KL.out.2 (ad_range KA.out) 6 rfl)
        obtain ⟨A2, hA2⟩ : ∃ A2, A2 = (A + 6) % 16777216 := ⟨_, rfl⟩
        rw [← hA2] at HA
        obtain ⟨S2, hS2⟩ : ∃ S2, S2 = S + 6 := ⟨_, rfl⟩
        have e3 : wrap64 ((S : Int) + 6) = (S2 : Int) := by have := KS.out; have := HL.out; have := HN.out; rw [hS2]; unfold wrap64; omega
        have HA2 : Hid (A2 = (ad + S2) % 16777216) := Lib.hid (by rw [hA2, hS2, KA.out]; omega)
        have HS2 : Hid (S2 ≤ 6 * (j + 1)) := Lib.hid (by rw [hS2]; have := KS.out; omega)
        clear hA2 hS2
        go_wp2_with fail
        refine (HA.out _).mono ?_
        rintro e w2 ⟨rfl, hb⟩
        have JW := Lib.hid (bel0 KW.out hb)
        have JP := Lib.hid (KP.out.below hb)
        have JG := Lib.hid (KG.out.below hb)
        clear hb HA KW KP KG hc e0 d0 d1 d2 d3 d4 d5 d6 d7 d8 d9
        obtain ⟨d0, d1, d2, d3, d4, d5, d6, d7, d8, d9⟩ := cells_of (Q := ⟨m, k, ma, wa, pr, co, L, cc, pg, A⟩) JG.out
        obtain ⟨f0, f1, f2, f3, f4, f5, f6, f7, f8, f9⟩ := frz10 JG.out
        go_wp2
        go_roundw
        case rel => exact ⟨put10v_below JW.out (Nat.le_of_lt HLT.out) _ _ _ _ _ _ _ _ _ _, put10v_far JP.out (Nat.ne_of_lt HLT.out) _ _ _ _ _ _ _ _ _ _, j + 1, S2, 3, A2, by omega, by go_num, by rw [e3], HS2.out, by decide, by decide, HA2.out, put10v_at JG.out _ _ _ _ _ _ _ _ _ _⟩
        case measure => simp [intOf]; omega
    · obtain rfl : j = N := by omega
      have e4 : (wrap64 (ad + (S : Int))).tmod 16777216 = A := by
        have h : 0 ≤ ad ∧ ad ≤ 16777215 := HQ'.out.2.2.2.2.2.2
        have := KS.out
        have := HL.out
        have := HN.out
        rw [KA.out, show wrap64 (ad + (S : Int)) = ad + (S : Int) by unfold wrap64; omega]
        exact Int.tmod_eq_emod_of_nonneg (by omega)
      obtain ⟨d0, d1, d2, d3, d4, d5, d6, d7, d8, d9⟩ := cells_of (Q := ⟨m, k, ma, wa, pr, co, L, cc, pg, A⟩) KG.out
      obtain ⟨c0, c1, c2, c3, c4, c5, c6, c7, c8, c9⟩ := cells_of (Q := ⟨m, k, ma, wa, pr, co, il, cc, pg, ad⟩) KP.out
      have hal := fun o a => World.cell?_alloc_some wr a o
      have KN := Lib.hid (below_new wr (.cells #[.int .i64 m, .int .i64 k, .bool ma, .bool wa, .bool pr, .int .i64 co, .int .i64 L, .int .i64 cc, .int .i64 pg, .int .i64 A] 23))
      clear hj hlt
      go_wp2_with fail
      refine (works_any _).mono ?_
      rintro e w2 ⟨rfl, hb⟩
      have JW := Lib.hid (bel0 KW.out (bel0 KN.out hb))
      clear hb KW KN hal e4 c0 c1 c2 c3 c4 c5 c6 c7 c8 c9 d0 d1 d2 d3 d4 d5 d6 d7 d8 d9
      go_wp2
      go_ret
      exact ⟨rfl, JW.out⟩
theorem walk (Q : Psw) (p : Option Addr) (l : List Int) (c : Nat) (w : World) (hr : RdI w p l) : Calls Try.prog 11 #[.agg #[.int .i64 Q.m, .int .i64 Q.k, .bool Q.ma, .bool Q.wa, .bool Q.pr, .int .i64 Q.co, .int .i64 Q.il, .int .i64 Q.cc, .int .i64 Q.pg, .int .i64 Q.ad], .slice p l.length c] w (New w (.bool true)) := by
  cases hq : okB Q with
  | false => exact bad Q p l.length c w hq
  | true =>
    by_cases hl : l.length ≤ 100
    · exact good Q.m Q.k Q.ma Q.wa Q.pr Q.co Q.il Q.cc Q.pg Q.ad p l c w hq hl hr
    · exact long Q p l.length c w hq (by omega)

end Go.Proofs.Ytfobmgoehamnnaa.pswSteps

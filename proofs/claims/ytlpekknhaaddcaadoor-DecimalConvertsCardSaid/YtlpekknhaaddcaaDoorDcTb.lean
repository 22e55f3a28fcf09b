/- The document's own ToBinary and FromBinary: their contracts. -/
import Derived.Test.YtlpekknhaaddcaaDoorDcRop
import Derived.Test.YtlpekknhaaddcaaDoorDcSh
namespace Go.Proofs.YtlpekknhaaddcaaDoor
open Go.RowKit
set_option linter.unusedVariables false
namespace E

theorem own_far {w : World} {t base n : Nat} {sv : Value} {xs : List Value} (h : w.ownsRow base t 1 sv n xs) {a : Addr} (ha : a.block < base) (u : Value) : (w.setCell a u).ownsRow base t 1 sv n xs := by
  obtain ⟨h0, h1 | ⟨g, cap, cur, hv, hg, hh, hr⟩⟩ := h
  · exact ⟨h0, .inl h1⟩
  · exact ⟨h0, .inr ⟨g, cap, cur, hv, hg, (heap_setCell_other w a g u (by omega)).trans hh, hr⟩⟩
theorem own_slice {w : World} {t base n : Nat} {sv : Value} {xs : List Value} (h : w.ownsRow base t 1 sv n xs) : ∃ p c, sv = .slice p n c := by
  obtain ⟨h0, h1 | ⟨g, cap, cur, hv, _⟩⟩ := h
  · obtain ⟨h2, h3⟩ := h1
    exact ⟨none, 0, by rw [h2, h3]⟩
  · exact ⟨_, _, hv⟩
theorem sl_cells {w : World} {p : Option Addr} {c : Nat} {x : Nat} (h : SlI w p c (dgs x)) : ∀ k, k < (dgs x).length → ∃ B off, p = some ⟨B, off, none⟩ ∧ (dgs x).length ≤ c ∧ B < w.heap.size ∧ w.cell? ⟨B, off + k, none⟩ = some (.int .i64 ((x / 10 ^ k % 10 : Nat) : Int)) := fun k hk => by
  obtain ⟨hr, hc, _, _⟩ := h
  rcases hr with h0 | ⟨B, off, rfl, hcl⟩
  · rw [h0] at hk; simp at hk
  · refine ⟨B, off, rfl, hc, World.block_lt_of_cell? w _ (hcl k hk), ?_⟩
    rw [hcl k hk, dgs_getD]
set_option maxRecDepth 100000 in
set_option maxHeartbeats 4000000 in
theorem rtb_plus (p : Option Addr) (cp x lx code : Nat) (Nf Dg : Nat → Nat) (w : World) (hx : x < 1000000000000000) (HIN : Hid (x ≤ 2147483647 → code = 0)) (HOUT : Hid (¬ x ≤ 2147483647 → code = 9))
    (HZs : Hid (∀ k, Nf k = 10 * Nf (k + 1) + Dg k)) (HZm : Hid (∀ k, Nf k ≤ x)) (HZ0 : Hid (Nf 0 = x)) (HZn : Hid (Nf lx = 0)) (HD9 : Hid (∀ k, Dg k ≤ 9)) (hlx : lx ≤ 40)
    (HO : Hid (Calls Tryd.prog 45 #[.slice p (8 : Nat) cp] w (fun e w' => ∃ p1 c1, e = .returned (.tuple #[.agg #[.bool false, .slice p1 lx c1], .bool true]) ∧ (∀ k, k < lx → ∃ B off, p1 = some ⟨B, off, none⟩ ∧ lx ≤ c1 ∧ B < w'.heap.size ∧ w'.cell? ⟨B, off + k, none⟩ = some (.int .i64 ((Dg k : Nat) : Int))) ∧ Below w.heap.size w w'))) :
    Calls Tryd.prog 30 #[.slice p (8 : Nat) cp] w (TbPost w (((x : Int)) % 4294967296, code)) := by
  go_enter Tryd.func30, Tryd.ntmps30
  go_wp2_with fail
  refine (HO.out).mono ?_
  rintro e w1 ⟨p1, c1, rfl, hcl, hb⟩
  obtain ⟨W2, hW2⟩ : ∃ W2, W2 = w1.alloc (.cells #[.bool false, .slice p1 lx c1] 52) := ⟨_, rfl⟩
  have hb2 : Below w1.heap.size w1 W2 := by rw [hW2]; exact below_new _ _
  have hD : Bx W2 w1.heap.size 52 #[.bool false, .slice p1 lx c1] := by rw [hW2]; exact Bx.new _ _ _
  obtain ⟨⟨d1, d2⟩, _⟩ := hD.two
  have HB2 := Lib.hid (bel0 hb hb2)
  have HCL : Hid (∀ k, k < lx → ∃ B off, p1 = some ⟨B, off, none⟩ ∧ lx ≤ c1 ∧ W2.cell? ⟨B, off + k, none⟩ = some (.int .i64 ((Dg k : Nat) : Int))) := Lib.hid (fun k hk => by
    obtain ⟨B, off, h1, h2, h3, h4⟩ := hcl k hk
    exact ⟨B, off, h1, h2, keepC h4 hb2⟩)
  clear hb hb2 hcl hD HO
  go_wp2_with fail
  rw [← hW2]
  clear hW2
  go_wp2
  go_loopw [6, 7] (fun nv i wr => wr = W2 ∧ ∃ k : Nat, k ≤ lx ∧ i = .int .i64 ((k : Int) - 1) ∧ nv = .int .i64 ((Nf k : Nat) : Int)) (fun _ i _ => (intOf i + 1).toNat)
  case atStart => exact ⟨rfl, lx, Nat.le_refl _, rfl, by rw [HZn.out]; rfl⟩
  case round =>
    obtain ⟨rfl, k, hk, rfl, rfl⟩ := hrel
    cases k with
    | succ k =>
      have hk1 : (((k + 1 : Nat) : Int) - 1) = (k : Int) := by omega
      rw [hk1]
      obtain ⟨B, off, rfl, hlc, hcell⟩ := HCL.out k (by omega)
      have HZk := Lib.hid (HZs.out k)
      have hm1 := HZm.out (k + 1)
      have hd9 := HD9.out k
      have hklx : k < lx := by omega
      clear hk hk1
      generalize Nf (k + 1) = Y at *
      generalize Dg k = dk at *
      have hYb : Y < 1000000000000000 := by omega
      clear hm1
      go_wp2
      go_roundw
      case rel => exact ⟨by trivial, k, by omega, by go_num, by rw [HZk.out, Int.natCast_add, Int.natCast_mul]; rfl⟩
      case measure => simp [intOf]
    | zero =>
      rw [HZ0.out]
      have hn1 : (((0 : Nat) : Int) - 1) = -1 := rfl
      rw [hn1]
      clear hn1 hk
      by_cases hin : x ≤ 2147483647
      · have HCO := Lib.hid (HIN.out hin)
        go_wp2
        go_ret2
        exact ⟨by rw [HCO.out]; first | rfl | (rw [Int.emod_eq_of_lt (by omega) (by omega)]; rfl), HB2.out⟩
      · have HCO := Lib.hid (HOUT.out hin)
        have hin2 : 2147483647 < x := by omega
        clear hin
        go_wp2
        go_ret2
        exact ⟨by rw [HCO.out]; rfl, HB2.out⟩
set_option maxRecDepth 100000 in
set_option maxHeartbeats 4000000 in
theorem rtb_minus (p : Option Addr) (cp x lx code : Nat) (Nf Dg : Nat → Nat) (w : World) (hx : x < 1000000000000000) (HIN : Hid (x ≤ 2147483648 → code = 0)) (HOUT : Hid (¬ x ≤ 2147483648 → code = 9))
    (HZs : Hid (∀ k, Nf k = 10 * Nf (k + 1) + Dg k)) (HZm : Hid (∀ k, Nf k ≤ x)) (HZ0 : Hid (Nf 0 = x)) (HZn : Hid (Nf lx = 0)) (HD9 : Hid (∀ k, Dg k ≤ 9)) (hlx : lx ≤ 40)
    (HO : Hid (Calls Tryd.prog 45 #[.slice p (8 : Nat) cp] w (fun e w' => ∃ p1 c1, e = .returned (.tuple #[.agg #[.bool true, .slice p1 lx c1], .bool true]) ∧ (∀ k, k < lx → ∃ B off, p1 = some ⟨B, off, none⟩ ∧ lx ≤ c1 ∧ B < w'.heap.size ∧ w'.cell? ⟨B, off + k, none⟩ = some (.int .i64 ((Dg k : Nat) : Int))) ∧ Below w.heap.size w w'))) :
    Calls Tryd.prog 30 #[.slice p (8 : Nat) cp] w (TbPost w ((-(x : Int)) % 4294967296, code)) := by
  go_enter Tryd.func30, Tryd.ntmps30
  go_wp2_with fail
  refine (HO.out).mono ?_
  rintro e w1 ⟨p1, c1, rfl, hcl, hb⟩
  obtain ⟨W2, hW2⟩ : ∃ W2, W2 = w1.alloc (.cells #[.bool true, .slice p1 lx c1] 52) := ⟨_, rfl⟩
  have hb2 : Below w1.heap.size w1 W2 := by rw [hW2]; exact below_new _ _
  have hD : Bx W2 w1.heap.size 52 #[.bool true, .slice p1 lx c1] := by rw [hW2]; exact Bx.new _ _ _
  obtain ⟨⟨d1, d2⟩, _⟩ := hD.two
  have HB2 := Lib.hid (bel0 hb hb2)
  have HCL : Hid (∀ k, k < lx → ∃ B off, p1 = some ⟨B, off, none⟩ ∧ lx ≤ c1 ∧ W2.cell? ⟨B, off + k, none⟩ = some (.int .i64 ((Dg k : Nat) : Int))) := Lib.hid (fun k hk => by
    obtain ⟨B, off, h1, h2, h3, h4⟩ := hcl k hk
    exact ⟨B, off, h1, h2, keepC h4 hb2⟩)
  clear hb hb2 hcl hD HO
  go_wp2_with fail
  rw [← hW2]
  clear hW2
  go_wp2
  go_loopw [6, 7] (fun nv i wr => wr = W2 ∧ ∃ k : Nat, k ≤ lx ∧ i = .int .i64 ((k : Int) - 1) ∧ nv = .int .i64 ((Nf k : Nat) : Int)) (fun _ i _ => (intOf i + 1).toNat)
  case atStart => exact ⟨rfl, lx, Nat.le_refl _, rfl, by rw [HZn.out]; rfl⟩
  case round =>
    obtain ⟨rfl, k, hk, rfl, rfl⟩ := hrel
    cases k with
    | succ k =>
      have hk1 : (((k + 1 : Nat) : Int) - 1) = (k : Int) := by omega
      rw [hk1]
      obtain ⟨B, off, rfl, hlc, hcell⟩ := HCL.out k (by omega)
      have HZk := Lib.hid (HZs.out k)
      have hm1 := HZm.out (k + 1)
      have hd9 := HD9.out k
      have hklx : k < lx := by omega
      clear hk hk1
      generalize Nf (k + 1) = Y at *
      generalize Dg k = dk at *
      have hYb : Y < 1000000000000000 := by omega
      clear hm1
      go_wp2
      go_roundw
      case rel => exact ⟨by trivial, k, by omega, by go_num, by rw [HZk.out, Int.natCast_add, Int.natCast_mul]; rfl⟩
      case measure => simp [intOf]
    | zero =>
      rw [HZ0.out]
      have hn1 : (((0 : Nat) : Int) - 1) = -1 := rfl
      rw [hn1]
      clear hn1 hk
      by_cases hin : x ≤ 2147483648
      · have HCO := Lib.hid (HIN.out hin)
        go_wp2
        go_ret2
        exact ⟨by rw [HCO.out]; first | rfl | (rw [Int.emod_eq_of_lt (by omega) (by omega)]; rfl), HB2.out⟩
      · have HCO := Lib.hid (HOUT.out hin)
        have hin2 : 2147483648 < x := by omega
        clear hin
        go_wp2
        go_ret2
        exact ⟨by rw [HCO.out]; rfl, HB2.out⟩
set_option maxRecDepth 100000 in
set_option maxHeartbeats 4000000 in
theorem rtobin_any (p : Option Addr) (cp : Nat) (la : List UInt8) (w : World) (hr : Rd w p la) :
    Calls Tryd.prog 30 #[.slice p la.length cp] w (TbPost w (tbL la)) := by
  have HO := Lib.hid (of_any p cp la w hr)
  unfold OfPost at HO
  by_cases hl : la.length = 8
  · cases ho : dOk la
    · have hv : tbL la = (0, 7) := by
        unfold tbL
        rw [if_neg (by omega), opC7 (by omega) ho]
        rfl
      have HV := Lib.hid hv
      rw [ho] at HO
      rw [hl] at HO ⊢
      clear hv hr hl ho
      generalize (dgs (dVal la)).length = lx at *
      go_enter Tryd.func30, Tryd.ntmps30
      go_wp2_with fail
      refine (HO.out).mono ?_
      rintro e w1 ⟨p1, c1, rfl, h1, hb⟩
      have HB2 := Lib.hid (bel0 hb (below_new w1 (.cells #[.bool (dNeg la), .slice p1 lx c1] 52)))
      clear hb h1 HO
      go_wp2
      go_ret2
      exact ⟨by rw [HV.out]; rfl, HB2.out⟩
    · have h0 := opC0 (by omega) ho
      have vx := dVal_15 (bs := la) (by omega) (by omega)
      have hlx := dgs_31 (x := dVal la) (by omega)
      have hv : tbL la = (tbV la % 4294967296, if -2147483648 ≤ tbV la ∧ tbV la ≤ 2147483647 then 0 else 9) := by unfold tbL; rw [if_neg (by omega), if_neg (by omega)]
      have hx : ∀ k, dVal la / 10 ^ k = 10 * (dVal la / 10 ^ (k + 1)) + dVal la / 10 ^ k % 10 := fun k => by
        rw [Nat.pow_succ, ← Nat.div_div_eq_div_mul]
        omega
      have hO2 := HO.out
      rw [ho, hl] at hO2
      rw [hv, hl]
      unfold tbV
      cases hn : dNeg la
      · rw [hn] at hO2
        simp only [Bool.false_eq_true, if_false]
        exact rtb_plus p cp (dVal la) (dgs (dVal la)).length _ (fun k => dVal la / 10 ^ k) (fun k => dVal la / 10 ^ k % 10) w (by omega) (Lib.hid fun h => if_pos (by omega)) (Lib.hid fun h => if_neg (by omega)) (Lib.hid hx) (Lib.hid fun k => Nat.div_le_self _ _) (Lib.hid (by show dVal la / 10 ^ 0 = _; rw [Nat.pow_zero, Nat.div_one]))
          (Lib.hid (Nat.div_eq_of_lt ((dgs_len_le (dVal la) _).1 (Nat.le_refl _)))) (Lib.hid fun k => by show dVal la / 10 ^ k % 10 ≤ 9; omega) (by omega) (Lib.hid (hO2.mono fun e w' ⟨p1, c1, h1, h2, h3⟩ => ⟨p1, c1, h1, sl_cells h2, h3⟩))
      · rw [hn] at hO2
        simp only [if_true]
        exact rtb_minus p cp (dVal la) (dgs (dVal la)).length _ (fun k => dVal la / 10 ^ k) (fun k => dVal la / 10 ^ k % 10) w (by omega) (Lib.hid fun h => if_pos (by omega)) (Lib.hid fun h => if_neg (by omega)) (Lib.hid hx) (Lib.hid fun k => Nat.div_le_self _ _) (Lib.hid (by show dVal la / 10 ^ 0 = _; rw [Nat.pow_zero, Nat.div_one]))
          (Lib.hid (Nat.div_eq_of_lt ((dgs_len_le (dVal la) _).1 (Nat.le_refl _)))) (Lib.hid fun k => by show dVal la / 10 ^ k % 10 ≤ 9; omega) (by omega) (Lib.hid (hO2.mono fun e w' ⟨p1, c1, h1, h2, h3⟩ => ⟨p1, c1, h1, sl_cells h2, h3⟩))
  · have hv : tbL la = (0, 6) := by unfold tbL; rw [if_pos hl]
    have HV := Lib.hid hv
    have hl8 : ((la.length : Int) == 8) = false := by
      simp only [beq_eq_false_iff_ne, ne_eq]
      omega
    clear hv hr HO
    generalize la.length = n at *
    clear hl
    go_enter Tryd.func30, Tryd.ntmps30
    go_wp2
    go_ret2
    exact ⟨by rw [HV.out]; rfl, Below.refl _ _⟩
set_option maxRecDepth 100000 in
set_option maxHeartbeats 4000000 in
theorem rfb_plus (v m : Nat) (F : List UInt8) (ov : Bool) (w : World) (hv : v < 2147483648) (hm : v = m) (hl : (dgs m).length ≤ 40)
    (HF : Hid (∀ p c W, SlI W p c (dgs m) → Calls Tryd.prog 53 #[.agg #[.bool false, .slice p (dgs m).length c], .int .i64 8] W (fun e w' => ∃ sv, e = .returned (.tuple #[sv, .bool ov]) ∧ SvB w' sv F ∧ Below W.heap.size W w'))) :
    Calls Tryd.prog 32 #[.int .u32 (v : Int)] w (R1Post w F) := by
  obtain ⟨i0, hi, hz0, hz1, hz2⟩ := info_parts info3
  obtain rfl : m = v := hm.symm
  have hd1 : decide ((2147483648 : Int) ≤ (m : Int)) = false := decide_eq_false (by omega)
  have hd2 : decide (2147483648 ≤ m) = false := decide_eq_false (by omega)
  have hmx : max (m : Int) (-(m : Int)) = (m : Int) := by omega
  have hm2 : m ≤ 2147483648 := by omega
  clear hv
  obtain ⟨W0, hW0⟩ : ∃ W0, W0 = w.alloc (.cells #[.bool false, .slice none 0 0] 52) := ⟨_, rfl⟩
  have hb0 : Below w.heap.size w W0 := by rw [hW0]; exact below_new _ _
  have hD : Bx W0 w.heap.size 52 #[.bool false, .slice none 0 0] := by rw [hW0]; exact Bx.new _ _ _
  have HB0 := Lib.hid hb0
  have HD0 := Lib.hid hD
  have HTK := Lib.hid (fun t (h : t < (dgs m).length) => take_getD (l := dgs m) (k := t) h)
  have HGD := Lib.hid (fun t => dgs_getD m t)
  have HLN := Lib.hid (fun t => dgs_len_le m t)
  obtain ⟨lm, hlm⟩ : ∃ lm, lm = (dgs m).length := ⟨_, rfl⟩
  have HLM := Lib.hid hlm
  rw [← hlm] at HTK HLN HF hl
  clear hb0 hD hlm
  generalize hG : dgs m = G at *
  clear hG
  go_enter Tryd.func32, Tryd.ntmps32
  go_wp2
  rw [show decide ((m : Int) < 0) = false from decide_eq_false (by omega)]
  rw [← hW0]
  clear hW0
  go_loopw [3] (fun i wr => Below w.heap.size w wr ∧ ∃ (t u : Nat) (sv : Value), u = m / 10 ^ t ∧ t ≤ lm ∧ i = .int .i64 (u : Int) ∧ Bx wr w.heap.size 52 #[.bool false, sv] ∧ wr.ownsRow (w.heap.size + 1) 3 1 sv t (bsI (G.take t))) (fun i _ => (intOf i).toNat)
  case atStart => exact ⟨HB0.out, 0, m, _, by rw [Nat.pow_zero, Nat.div_one], Nat.zero_le _, by go_num, HD0.out, World.ownsRow_nil _ _ _ _⟩
  case round =>
    obtain ⟨hbw, t, u, sv, hu, ht, rfl, hbx, hown⟩ := hrel
    have HB := Lib.hid hbw
    have HX := Lib.hid hbx
    have HO := Lib.hid hown
    have HU := Lib.hid hu
    obtain ⟨⟨d1, d2⟩, f1, f2⟩ := hbx.two
    have hum : u ≤ m := by rw [hu]; exact Nat.div_le_self _ _
    clear hbw hbx hown hu
    by_cases hz : u = 0
    · have htl : t = lm := by
        have h1 := (HLN.out t).2 (by
          have h2 := HU.out
          rw [hz] at h2
          have h3 := (Nat.div_eq_zero_iff (a := m) (b := 10 ^ t)).1 h2.symm
          have h4 : 0 < 10 ^ t := Nat.pow_pos (by omega)
          omega)
        omega
      subst htl
      subst hz
      have hown := HO.out
      rw [List.take_of_length_le (by rw [← HLM.out]; exact Nat.le_refl _)] at hown
      have hoi : HoldI wr (w.heap.size + 1) sv G := by unfold HoldI; rw [← HLM.out]; exact hown
      obtain ⟨p5, c5, rfl, hs5⟩ := hoi.sl
      rw [← HLM.out] at d2
      have HS5 := Lib.hid hs5
      clear hown hoi hs5 HO
      go_wp2_with fail
      refine (HF.out _ _ _ HS5.out).mono ?_
      rintro e w6 ⟨sv6, rfl, hs6, hb6⟩
      have HB6 := Lib.hid (bel0 HB.out hb6)
      have HS6 := Lib.hid hs6
      clear hs6 hb6
      go_wp2
      go_ret
      exact ⟨_, rfl, HS6.out, HB6.out⟩
    · have htl : t < lm := by
        rcases Nat.lt_or_ge t lm with h | h
        · exact h
        · exfalso
          have h1 := (HLN.out t).1 h
          exact hz (by rw [HU.out, Nat.div_eq_of_lt h1])
      have hdg : (G.getD t 0).val = u % 10 := by rw [HGD.out t, ← HU.out]
      have HT := Lib.hid (HTK.out t htl)
      have HNX : Hid (u / 10 = m / 10 ^ (t + 1)) := Lib.hid (by rw [HU.out, Nat.pow_succ, Nat.div_div_eq_div_mul])
      have HDG := Lib.hid hdg
      have ht40 : t ≤ 40 := by omega
      have hu0 : 0 < u := by omega
      clear hdg hz
      go_wp2_with (at_builtin; refine wpList_append_own _ rfl (.tmp 23) (.tmp 26) 50 rfl (w.heap.size + 1) 3 i0 (.int .i64 0) 1 8 Tryd.underlying50 hi hz0 hz1 hz2 rfl (by decide) _ t _ rfl (HO.out.alloc _) ⟨wr.heap.size, 0, none⟩ 1 1 [_] rfl rfl (cellNew _ _ _) (by intro u hu; simp at hu; subst hu; rfl) (by unfold maxLen; omega) (by omega) (by have := HX.out.lt; simp; omega) ?_)
      intro v' w3 hown' hgrow _
      obtain ⟨p7, c7, rfl⟩ := own_slice hown'
      have hb1 := (HB.out.alloc HB.out.size _).grown hgrow (by have := HB.out.size; simp; omega) (fun r hr => by have := (HO.out.lt r hr).1; omega)
      have hx3 : Bx w3 w.heap.size 52 #[.bool false, sv] := (hgrow.block w.heap.size (by have := HX.out.lt; simp; omega) (fun e => by have := (HO.out.lt _ e.symm).1; omega)).trans ((heap_alloc_old wr _ w.heap.size HX.out.lt).trans HX.out)
      obtain ⟨⟨g1, g2⟩, k1, k2⟩ := hx3.two
      have HX4 : Hid (Bx (w3.setCell ⟨w.heap.size, 1, none⟩ (.slice p7 (t + 1) c7)) w.heap.size 52 #[.bool false, .slice p7 (t + 1) c7]) := Lib.hid (hx3.set 1 (.slice p7 (t + 1) c7))
      have HO4 := Lib.hid (own_far hown' (a := ⟨w.heap.size, 1, none⟩) (Nat.lt_succ_self _) (.slice p7 (t + 1) c7))
      have HB4 := Lib.hid (hb1.setCell (p := ⟨w.heap.size, 1, none⟩) (Nat.le_refl _) (.slice p7 (t + 1) c7))
      clear hgrow hx3 hown' hb1
      go_wp2
      go_roundw
      case rel => exact ⟨HB4.out, t + 1, u / 10, .slice p7 (t + 1) c7, HNX.out, by omega, by go_num, HX4.out, by rw [HT.out, bsI_snoc, HDG.out]; exact HO4.out⟩
      case measure => simp [intOf]; omega
set_option maxRecDepth 100000 in
set_option maxHeartbeats 4000000 in
theorem rfb_minus (v m : Nat) (F : List UInt8) (ov : Bool) (w : World) (hv : ¬ v < 2147483648) (hm : v + m = 4294967296) (hm1 : 1 ≤ m) (hl : (dgs m).length ≤ 40)
    (HF : Hid (∀ p c W, SlI W p c (dgs m) → Calls Tryd.prog 53 #[.agg #[.bool true, .slice p (dgs m).length c], .int .i64 8] W (fun e w' => ∃ sv, e = .returned (.tuple #[sv, .bool ov]) ∧ SvB w' sv F ∧ Below W.heap.size W w'))) :
    Calls Tryd.prog 32 #[.int .u32 (v : Int)] w (R1Post w F) := by
  obtain ⟨i0, hi, hz0, hz1, hz2⟩ := info_parts info3
  have hw1 : (v : Int) - 4294967296 = -(m : Int) := by omega
  have hd1 : decide ((2147483648 : Int) ≤ (v : Int)) = true := decide_eq_true (by omega)
  have hd2 : decide (2147483648 ≤ v) = true := decide_eq_true (by omega)
  have hmx : max (-(m : Int)) (m : Int) = (m : Int) := by omega
  have hmn : -(m : Int) < 0 := by omega
  have hm2 : m ≤ 2147483648 := by omega
  clear hv hm
  obtain ⟨W0, hW0⟩ : ∃ W0, W0 = w.alloc (.cells #[.bool true, .slice none 0 0] 52) := ⟨_, rfl⟩
  have hb0 : Below w.heap.size w W0 := by rw [hW0]; exact below_new _ _
  have hD : Bx W0 w.heap.size 52 #[.bool true, .slice none 0 0] := by rw [hW0]; exact Bx.new _ _ _
  have HB0 := Lib.hid hb0
  have HD0 := Lib.hid hD
  have HTK := Lib.hid (fun t (h : t < (dgs m).length) => take_getD (l := dgs m) (k := t) h)
  have HGD := Lib.hid (fun t => dgs_getD m t)
  have HLN := Lib.hid (fun t => dgs_len_le m t)
  obtain ⟨lm, hlm⟩ : ∃ lm, lm = (dgs m).length := ⟨_, rfl⟩
  have HLM := Lib.hid hlm
  rw [← hlm] at HTK HLN HF hl
  clear hb0 hD hlm
  generalize hG : dgs m = G at *
  clear hG
  go_enter Tryd.func32, Tryd.ntmps32
  go_wp2
  rw [show decide (0 < m) = true from decide_eq_true hm1]
  rw [← hW0]
  clear hW0
  go_loopw [3] (fun i wr => Below w.heap.size w wr ∧ ∃ (t u : Nat) (sv : Value), u = m / 10 ^ t ∧ t ≤ lm ∧ i = .int .i64 (u : Int) ∧ Bx wr w.heap.size 52 #[.bool true, sv] ∧ wr.ownsRow (w.heap.size + 1) 3 1 sv t (bsI (G.take t))) (fun i _ => (intOf i).toNat)
  case atStart => exact ⟨HB0.out, 0, m, _, by rw [Nat.pow_zero, Nat.div_one], Nat.zero_le _, by go_num, HD0.out, World.ownsRow_nil _ _ _ _⟩
  case round =>
    obtain ⟨hbw, t, u, sv, hu, ht, rfl, hbx, hown⟩ := hrel
    have HB := Lib.hid hbw
    have HX := Lib.hid hbx
    have HO := Lib.hid hown
    have HU := Lib.hid hu
    obtain ⟨⟨d1, d2⟩, f1, f2⟩ := hbx.two
    have hum : u ≤ m := by rw [hu]; exact Nat.div_le_self _ _
    clear hbw hbx hown hu
    by_cases hz : u = 0
    · have htl : t = lm := by
        have h1 := (HLN.out t).2 (by
          have h2 := HU.out
          rw [hz] at h2
          have h3 := (Nat.div_eq_zero_iff (a := m) (b := 10 ^ t)).1 h2.symm
          have h4 : 0 < 10 ^ t := Nat.pow_pos (by omega)
          omega)
        omega
      subst htl
      subst hz
      have hown := HO.out
      rw [List.take_of_length_le (by rw [← HLM.out]; exact Nat.le_refl _)] at hown
      have hoi : HoldI wr (w.heap.size + 1) sv G := by unfold HoldI; rw [← HLM.out]; exact hown
      obtain ⟨p5, c5, rfl, hs5⟩ := hoi.sl
      rw [← HLM.out] at d2
      have HS5 := Lib.hid hs5
      clear hown hoi hs5 HO
      go_wp2_with fail
      refine (HF.out _ _ _ HS5.out).mono ?_
      rintro e w6 ⟨sv6, rfl, hs6, hb6⟩
      have HB6 := Lib.hid (bel0 HB.out hb6)
      have HS6 := Lib.hid hs6
      clear hs6 hb6
      go_wp2
      go_ret
      exact ⟨_, rfl, HS6.out, HB6.out⟩
    · have htl : t < lm := by
        rcases Nat.lt_or_ge t lm with h | h
        · exact h
        · exfalso
          have h1 := (HLN.out t).1 h
          exact hz (by rw [HU.out, Nat.div_eq_of_lt h1])
      have hdg : (G.getD t 0).val = u % 10 := by rw [HGD.out t, ← HU.out]
      have HT := Lib.hid (HTK.out t htl)
      have HNX : Hid (u / 10 = m / 10 ^ (t + 1)) := Lib.hid (by rw [HU.out, Nat.pow_succ, Nat.div_div_eq_div_mul])
      have HDG := Lib.hid hdg
      have ht40 : t ≤ 40 := by omega
      have hu0 : 0 < u := by omega
      clear hdg hz
      go_wp2_with (at_builtin; refine wpList_append_own _ rfl (.tmp 23) (.tmp 26) 50 rfl (w.heap.size + 1) 3 i0 (.int .i64 0) 1 8 Tryd.underlying50 hi hz0 hz1 hz2 rfl (by decide) _ t _ rfl (HO.out.alloc _) ⟨wr.heap.size, 0, none⟩ 1 1 [_] rfl rfl (cellNew _ _ _) (by intro u hu; simp at hu; subst hu; rfl) (by unfold maxLen; omega) (by omega) (by have := HX.out.lt; simp; omega) ?_)
      intro v' w3 hown' hgrow _
      obtain ⟨p7, c7, rfl⟩ := own_slice hown'
      have hb1 := (HB.out.alloc HB.out.size _).grown hgrow (by have := HB.out.size; simp; omega) (fun r hr => by have := (HO.out.lt r hr).1; omega)
      have hx3 : Bx w3 w.heap.size 52 #[.bool true, sv] := (hgrow.block w.heap.size (by have := HX.out.lt; simp; omega) (fun e => by have := (HO.out.lt _ e.symm).1; omega)).trans ((heap_alloc_old wr _ w.heap.size HX.out.lt).trans HX.out)
      obtain ⟨⟨g1, g2⟩, k1, k2⟩ := hx3.two
      have HX4 : Hid (Bx (w3.setCell ⟨w.heap.size, 1, none⟩ (.slice p7 (t + 1) c7)) w.heap.size 52 #[.bool true, .slice p7 (t + 1) c7]) := Lib.hid (hx3.set 1 (.slice p7 (t + 1) c7))
      have HO4 := Lib.hid (own_far hown' (a := ⟨w.heap.size, 1, none⟩) (Nat.lt_succ_self _) (.slice p7 (t + 1) c7))
      have HB4 := Lib.hid (hb1.setCell (p := ⟨w.heap.size, 1, none⟩) (Nat.le_refl _) (.slice p7 (t + 1) c7))
      clear hgrow hx3 hown' hb1
      go_wp2
      go_roundw
      case rel => exact ⟨HB4.out, t + 1, u / 10, .slice p7 (t + 1) c7, HNX.out, by omega, by go_num, HX4.out, by rw [HT.out, bsI_snoc, HDG.out]; exact HO4.out⟩
      case measure => simp [intOf]; omega
theorem rfrombin_any (v : Nat) (w : World) (hv : v < 4294967296) :
    Calls Tryd.prog 32 #[.int .u32 (v : Int)] w (R1Post w (fbL v)) := by
  unfold fbL
  by_cases h : v < 2147483648
  · rw [if_pos h]
    have hl := dgs_31 (x := v) (by omega)
    exact rfb_plus v v (fldL false v 8) (ovB v 8) w h rfl (by omega) (Lib.hid fun p c W hs => rfield_any false p c v 8 W (by omega) (by omega) (by omega) hs)
  · rw [if_neg h]
    have hl := dgs_31 (x := 4294967296 - v) (by omega)
    exact rfb_minus v (4294967296 - v) (fldL true (4294967296 - v) 8) (ovB (4294967296 - v) 8) w h (by omega) (by omega) (by omega) (Lib.hid fun p c W hs => rfield_any true p c (4294967296 - v) 8 W (by omega) (by omega) (by omega) hs)

end E
end Go.Proofs.YtlpekknhaaddcaaDoor

/- The document's own reckoning with lists of digits: the contracts of digit, trim, Less, plus and minus. -/
import Derived.Test.YtlpekknhaaddcaaDoorDcBase
import Derived.Test.YtlpekknhaaddcaaDoorDcMath
namespace Go.Proofs.YtlpekknhaaddcaaDoor
open Go.RowKit
set_option linter.unusedVariables false
namespace E

/-- A slice of digits as it lies: it reads as l, and may be cut. -/
def SlI (W : World) (p : Option Addr) (c : Nat) (l : List (Fin 16)) : Prop := RdI W p l ∧ l.length ≤ c ∧ c ≤ 9223372036854775807 ∧ (p = none → c = 0)
theorem SlI.below {W W' : World} {p : Option Addr} {c : Nat} {l : List (Fin 16)} (h : SlI W p c l) (hb : Below W.heap.size W W') : SlI W' p c l := ⟨h.1.below hb, h.2⟩
theorem SlI.take {W : World} {p : Option Addr} {c : Nat} {l : List (Fin 16)} (h : SlI W p c l) (k : Nat) : SlI W p c (l.take k) := ⟨h.1.take k, by rw [List.length_take]; have := h.2.1; omega, h.2.2⟩
theorem HoldI.sl {W : World} {base : Nat} {sv : Value} {l : List (Fin 16)} (h : HoldI W base sv l) : ∃ p c, sv = .slice p l.length c ∧ SlI W p c l := by
  obtain ⟨p, c, h1, h2, h3, h4, h5⟩ := h.rd
  exact ⟨p, c, h1, h2, h3, h4, h5⟩
set_option maxRecDepth 100000 in
theorem digit_any (p : Option Addr) (c i : Nat) (l : List (Fin 16)) (w : World) (hl : l.length ≤ 1000) (hi0 : i ≤ 100000) (hr : RdI w p l) :
    Calls Tryd.prog 58 #[.slice p l.length c, .int .i64 (i : Int)] w fun e w' => e = .returned (.int .i64 ((l.getD i 0).val : Int)) ∧ w = w' := by
  by_cases hi : i < l.length
  · have hcl : ∃ B off, p = some ⟨B, off, none⟩ ∧ w.cell? ⟨B, off + i, none⟩ = some (.int .i64 ((l.getD i 0).val : Int)) := by
      rcases hr with h | ⟨B, off, h, hc⟩
      · rw [h] at hi; simp at hi
      · exact ⟨B, off, h, hc i hi⟩
    obtain ⟨B, off, rfl, hc⟩ := hcl
    generalize l.getD i 0 = d at *
    clear hr
    generalize l.length = m at *
    have h1 : ¬ ((i : Int) < 0) := by omega
    have h2 : ¬ ((m : Int) ≤ (i : Int)) := by omega
    go_enter Tryd.func58, Tryd.ntmps58
    go_wp2
    go_ret
    exact ⟨rfl, rfl⟩
  · rw [getD_none l i (by omega)]
    clear hr
    generalize l.length = m at *
    have h1 : ¬ ((i : Int) < 0) := by omega
    have h2 : (m : Int) ≤ (i : Int) := by omega
    go_enter Tryd.func58, Tryd.ntmps58
    go_wp2
    go_ret
    exact ⟨rfl, rfl⟩
theorem digit_neg (p : Option Addr) (c m : Nat) (i : Int) (w : World) (hi : i < 0) :
    Calls Tryd.prog 58 #[.slice p m c, .int .i64 i] w fun e w' => e = .returned (.int .i64 0) ∧ w = w' := by
  go_enter Tryd.func58, Tryd.ntmps58
  go_wp2
  go_ret
  exact ⟨rfl, rfl⟩
/-- What trim leaves: the digits of the value, in the same place. -/
def TrPost (w : World) (p : Option Addr) (c : Nat) (l : List (Fin 16)) (e : Ending) (w' : World) : Prop := ∃ k, k ≤ l.length ∧ e = .returned (.slice p k c) ∧ l.take k = dgs (val l) ∧ Below w.heap.size w w'
set_option maxRecDepth 100000 in
set_option maxHeartbeats 1000000 in
theorem trim_any (p : Option Addr) (c : Nat) (l : List (Fin 16)) (w : World) (hl : l.length ≤ 1000) (ho : ok9 l) (hs : SlI w p c l) :
    Calls Tryd.prog 60 #[.slice p l.length c] w (TrPost w p c l) := by
  obtain ⟨m, hm⟩ : ∃ m, m = l.length := ⟨_, rfl⟩
  have HM := Lib.hid hm
  obtain ⟨hr, hc1, hc2, hc3⟩ := hs
  have hcl : ∀ j, j < m → ∃ B off, p = some ⟨B, off, none⟩ ∧ B < w.heap.size ∧ w.cell? ⟨B, off + j, none⟩ = some (.int .i64 ((l.getD j 0).val : Int)) := fun j hj => by
    rw [hm] at hj
    rcases hr with h0 | ⟨B, off, rfl, hc⟩
    · subst h0; simp at hj
    · exact ⟨_, _, rfl, World.block_lt_of_cell? w _ (hc j hj), hc j hj⟩
  have HC := Lib.hid hcl
  have HO := Lib.hid ho
  have HN := Lib.hid hc3
  rw [← hm] at hl hc1 ⊢
  clear hr hcl hm ho hc3
  have fin : ∀ k, k ≤ m → (∀ j, k ≤ j → j < m → l.getD j 0 = 0) → (k ≠ 0 → l.getD (k - 1) 0 ≠ 0) → l.take k = dgs (val l) := fun k hk h1 h2 => trim_eq HO.out k (by rw [← HM.out]; exact hk) (fun j hj hj2 => h1 j hj (by rw [HM.out]; exact hj2)) h2
  have FIN := Lib.hid fin
  clear fin
  go_enter Tryd.func60, Tryd.ntmps60
  go_wp2
  go_loopw [3] (fun i wr => Below w.heap.size w wr ∧ ∃ k : Nat, k ≤ m ∧ i = .int .i64 k ∧ ∀ j, k ≤ j → j < m → l.getD j 0 = 0) (fun i _ => (intOf i).toNat)
  case atStart => exact ⟨Below.refl _ _, m, Nat.le_refl _, rfl, fun j h1 h2 => by omega⟩
  case round =>
    obtain ⟨hbw, k, hk, rfl, hz⟩ := hrel
    have HB := Lib.hid hbw
    have HZ := Lib.hid hz
    clear hbw hz
    by_cases h0 : k = 0
    · subst h0
      have hres := FIN.out 0 (Nat.zero_le _) HZ.out (fun h => absurd rfl h)
      have HR := Lib.hid hres
      clear hres
      go_wp2
      go_ret
      exact ⟨0, Nat.zero_le _, rfl, HR.out, HB.out⟩
    · obtain ⟨q, rfl⟩ : ∃ q, k = q + 1 := ⟨k - 1, by omega⟩
      obtain ⟨B, off, rfl, hB, hc⟩ := HC.out q (by omega)
      have hcw := (HB.out.cell (p := ⟨B, off + q, none⟩) hB).trans hc
      clear hc hB h0
      by_cases hd : l.getD q 0 = 0
      · rw [hd] at hcw
        have hcw0 : wr.cell? ⟨B, off + q, none⟩ = some (.int .i64 0) := hcw
        have HD := Lib.hid hd
        clear hd hcw
        go_wp2
        go_roundw
        case rel => exact ⟨HB.out, q, by omega, by go_num, fun j h1 h2 => by
          rcases Nat.lt_or_ge q j with h | h
          · exact HZ.out j h h2
          · have : j = q := by omega
            subst this
            exact HD.out⟩
        case measure => simp [intOf]
      · have hdz : (((l.getD q 0).val : Int) == 0) = false := by
          have : (l.getD q 0).val ≠ 0 := fun h => hd (Fin.ext h)
          simpa using this
        have hres := FIN.out (q + 1) hk HZ.out (fun _ => hd)
        have HR := Lib.hid hres
        clear hres hd
        generalize l.getD q 0 = d at *
        go_wp2
        go_ret
        exact ⟨q + 1, by rw [← HM.out]; exact hk, rfl, HR.out, HB.out⟩

set_option maxRecDepth 100000 in
set_option maxHeartbeats 1000000 in
theorem rless_any (p q : Option Addr) (c d : Nat) (a b : List (Fin 16)) (w : World) (ha : a.length ≤ 1000) (hb : b.length ≤ 1000) (oa : ok9 a) (ob : ok9 b) (ra : RdI w p a) (rb : RdI w q b) :
    Calls Tryd.prog 65 #[.slice p a.length c, .slice q b.length d] w fun e w' => e = .returned (.bool (decide (val a < val b))) ∧ w = w' := by
  have HA := Lib.hid (fun (i : Nat) (hi : i ≤ 100000) => digit_any p c i a w ha hi ra)
  have HB := Lib.hid (fun (i : Nat) (hi : i ≤ 100000) => digit_any q d i b w hb hi rb)
  have HOA := Lib.hid oa
  have HOB := Lib.hid ob
  have hbig : ∀ j, max a.length b.length ≤ j → a.getD j 0 = b.getD j 0 := fun j hj => by
    rw [getD_none a j (by omega), getD_none b j (by omega)]
  have HBG := Lib.hid hbig
  clear ra rb oa ob hbig
  generalize a.length = la at *
  generalize b.length = lb at *
  by_cases hlt : la < lb
  · go_enter Tryd.func65, Tryd.ntmps65
    go_wp2
    go_loop [5] (fun i => ∃ k : Nat, k ≤ lb ∧ i = .int .i64 ((k : Int) - 1) ∧ ∀ j, k ≤ j → a.getD j 0 = b.getD j 0) (fun i => (intOf i + 1).toNat)
    case atStart => exact ⟨lb, Nat.le_refl _, rfl, fun j hj => HBG.out j (by omega)⟩
    case round =>
      obtain ⟨k, hk, rfl, he⟩ := hrel
      have HE := Lib.hid he
      clear he
      by_cases h0 : k = 0
      · subst h0
        have hv : decide (val a < val b) = false := by
          rw [val_ext a b (fun j => HE.out j (Nat.zero_le _))]
          simp
        have HV := Lib.hid hv
        clear hv
        go_wp2
        go_ret
        exact ⟨by rw [HV.out]; rfl, rfl⟩
      · obtain ⟨q1, rfl⟩ : ∃ q1, k = q1 + 1 := ⟨k - 1, by omega⟩
        have e1 : (((q1 + 1 : Nat) : Int) - 1) = (q1 : Int) := by omega
        rw [e1]
        clear e1 h0
        have HA1 := Lib.hid (HA.out q1 (by omega))
        have HB1 := Lib.hid (HB.out q1 (by omega))
        by_cases hd : a.getD q1 0 = b.getD q1 0
        · rw [← hd] at HB1
          have HD := Lib.hid hd
          clear hd
          generalize a.getD q1 0 = x at HA1 HB1
          go_wp2_with fail
          refine (HA1.out).mono ?_
          rintro e w' ⟨rfl, rfl⟩
          go_wp2_with fail
          refine (HB1.out).mono ?_
          rintro e w' ⟨rfl, rfl⟩
          go_wp2
          go_round
          case rel => exact ⟨q1, by omega, by go_num, fun j hj => by
            rcases Nat.lt_or_ge q1 j with h | h
            · exact HE.out j h
            · have : j = q1 := by omega
              subst this
              exact HD.out⟩
          case measure => simp [intOf]
        · have hv : decide (val a < val b) = decide ((a.getD q1 0).val < (b.getD q1 0).val) := by
            rcases Nat.lt_or_ge (a.getD q1 0).val (b.getD q1 0).val with h | h
            · rw [decide_eq_true (less_at HOA.out HOB.out q1 (fun j hj => HE.out j hj) h), decide_eq_true (by omega)]
            · have h2 : (b.getD q1 0).val < (a.getD q1 0).val := by
                have : (a.getD q1 0).val ≠ (b.getD q1 0).val := fun h => hd (Fin.ext h)
                omega
              have h3 := less_at HOB.out HOA.out q1 (fun j hj => (HE.out j hj).symm) h2
              rw [decide_eq_false (by omega), decide_eq_false (by omega)]
          have hne : ((((a.getD q1 0).val : Int)) == ((b.getD q1 0).val : Int)) = false := by
            have : (a.getD q1 0).val ≠ (b.getD q1 0).val := fun h => hd (Fin.ext h)
            exact beq_eq_false_iff_ne.2 (by omega)
          have HV := Lib.hid hv
          clear hv hd
          generalize a.getD q1 0 = x at HA1 HV hne
          generalize b.getD q1 0 = y at HB1 HV hne
          go_wp2_with fail
          refine (HA1.out).mono ?_
          rintro e w' ⟨rfl, rfl⟩
          go_wp2_with fail
          refine (HB1.out).mono ?_
          rintro e w' ⟨rfl, rfl⟩
          go_wp2_with fail
          refine (HA1.out).mono ?_
          rintro e w' ⟨rfl, rfl⟩
          go_wp2_with fail
          refine (HB1.out).mono ?_
          rintro e w' ⟨rfl, rfl⟩
          go_wp2
          go_ret
          exact ⟨by rw [HV.out]; rfl, rfl⟩
  · go_enter Tryd.func65, Tryd.ntmps65
    go_wp2
    go_loop [5] (fun i => ∃ k : Nat, k ≤ la ∧ i = .int .i64 ((k : Int) - 1) ∧ ∀ j, k ≤ j → a.getD j 0 = b.getD j 0) (fun i => (intOf i + 1).toNat)
    case atStart => exact ⟨la, Nat.le_refl _, rfl, fun j hj => HBG.out j (by omega)⟩
    case round =>
      obtain ⟨k, hk, rfl, he⟩ := hrel
      have HE := Lib.hid he
      clear he
      by_cases h0 : k = 0
      · subst h0
        have hv : decide (val a < val b) = false := by
          rw [val_ext a b (fun j => HE.out j (Nat.zero_le _))]
          simp
        have HV := Lib.hid hv
        clear hv
        go_wp2
        go_ret
        exact ⟨by rw [HV.out]; rfl, rfl⟩
      · obtain ⟨q1, rfl⟩ : ∃ q1, k = q1 + 1 := ⟨k - 1, by omega⟩
        have e1 : (((q1 + 1 : Nat) : Int) - 1) = (q1 : Int) := by omega
        rw [e1]
        clear e1 h0
        have HA1 := Lib.hid (HA.out q1 (by omega))
        have HB1 := Lib.hid (HB.out q1 (by omega))
        by_cases hd : a.getD q1 0 = b.getD q1 0
        · rw [← hd] at HB1
          have HD := Lib.hid hd
          clear hd
          generalize a.getD q1 0 = x at HA1 HB1
          go_wp2_with fail
          refine (HA1.out).mono ?_
          rintro e w' ⟨rfl, rfl⟩
          go_wp2_with fail
          refine (HB1.out).mono ?_
          rintro e w' ⟨rfl, rfl⟩
          go_wp2
          go_round
          case rel => exact ⟨q1, by omega, by go_num, fun j hj => by
            rcases Nat.lt_or_ge q1 j with h | h
            · exact HE.out j h
            · have : j = q1 := by omega
              subst this
              exact HD.out⟩
          case measure => simp [intOf]
        · have hv : decide (val a < val b) = decide ((a.getD q1 0).val < (b.getD q1 0).val) := by
            rcases Nat.lt_or_ge (a.getD q1 0).val (b.getD q1 0).val with h | h
            · rw [decide_eq_true (less_at HOA.out HOB.out q1 (fun j hj => HE.out j hj) h), decide_eq_true (by omega)]
            · have h2 : (b.getD q1 0).val < (a.getD q1 0).val := by
                have : (a.getD q1 0).val ≠ (b.getD q1 0).val := fun h => hd (Fin.ext h)
                omega
              have h3 := less_at HOB.out HOA.out q1 (fun j hj => (HE.out j hj).symm) h2
              rw [decide_eq_false (by omega), decide_eq_false (by omega)]
          have hne : ((((a.getD q1 0).val : Int)) == ((b.getD q1 0).val : Int)) = false := by
            have : (a.getD q1 0).val ≠ (b.getD q1 0).val := fun h => hd (Fin.ext h)
            exact beq_eq_false_iff_ne.2 (by omega)
          have HV := Lib.hid hv
          clear hv hd
          generalize a.getD q1 0 = x at HA1 HV hne
          generalize b.getD q1 0 = y at HB1 HV hne
          go_wp2_with fail
          refine (HA1.out).mono ?_
          rintro e w' ⟨rfl, rfl⟩
          go_wp2_with fail
          refine (HB1.out).mono ?_
          rintro e w' ⟨rfl, rfl⟩
          go_wp2_with fail
          refine (HA1.out).mono ?_
          rintro e w' ⟨rfl, rfl⟩
          go_wp2_with fail
          refine (HB1.out).mono ?_
          rintro e w' ⟨rfl, rfl⟩
          go_wp2
          go_ret
          exact ⟨by rw [HV.out]; rfl, rfl⟩

end E
end Go.Proofs.YtlpekknhaaddcaaDoor

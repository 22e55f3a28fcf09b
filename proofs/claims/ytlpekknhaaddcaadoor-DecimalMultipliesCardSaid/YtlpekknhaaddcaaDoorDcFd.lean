/- The document's own arithmetic of digits, its numbers, Sum, Code, size and Field: their contracts. -/
import Derived.Test.YtlpekknhaaddcaaDoorDcBase
import Derived.Test.YtlpekknhaaddcaaDoorDcMath
import Derived.Test.YtlpekknhaaddcaaDoorDcOut
import Derived.Laws.ResultCell
import Derived.Test.YtlpekknhaaddcaaDoorDcDvd
namespace Go.Proofs.YtlpekknhaaddcaaDoor
open Go.RowKit
set_option linter.unusedVariables false
namespace E

/-- A slice of digits as it lies: it reads as l, and may be cut. -/
def SlI (W : World) (p : Option Addr) (c : Nat) (l : List (Fin 16)) : Prop := RdI W p l ∧ l.length ≤ c ∧ c ≤ 9223372036854775807 ∧ (p = none → c = 0)
theorem SlI.below {W W' : World} {p : Option Addr} {c : Nat} {l : List (Fin 16)} (h : SlI W p c l) (hb : Below W.heap.size W W') : SlI W' p c l := ⟨h.1.below hb, h.2⟩
theorem SlI.take {W : World} {p : Option Addr} {c : Nat} {l : List (Fin 16)} (h : SlI W p c l) (k : Nat) : SlI W p c (l.take k) := ⟨h.1.take k, by rw [List.length_take]; have := h.2.1; omega, h.2.2⟩
theorem HoldI.sl {W : World} {base : Nat} {sv : Value} {l : List (Fin 16)} (h : HoldI W base sv l) : ∃ p c, sv = .slice p l.length c ∧ SlI W p c l := by
  obtain ⟨p, c, h1, h2, h3, h4, h5⟩ := h.rd
  exact ⟨p, c, h1, h2, h3, h4, h5⟩
set_option maxRecDepth 100000 in
theorem digit_any (p : Option Addr) (c i : Nat) (l : List (Fin 16)) (w : World) (hl : l.length ≤ 1000) (hi0 : i ≤ 100000) (hr : RdI w p l) :
    Calls Tryd.prog 58 #[.slice p l.length c, .int .i64 (i : Int)] w fun e w' => e = .returned (.int .i64 ((l.getD i 0).val : Int)) ∧ w = w' := by
  by_cases hi : i < l.length
  · have hcl : ∃ B off, p = some ⟨B, off, none⟩ ∧ w.cell? ⟨B, off + i, none⟩ = some (.int .i64 ((l.getD i 0).val : Int)) := by
      rcases hr with h | ⟨B, off, h, hc⟩
      · rw [h] at hi; simp at hi
      · exact ⟨B, off, h, hc i hi⟩
    obtain ⟨B, off, rfl, hc⟩ := hcl
    generalize l.getD i 0 = d at *
    clear hr
    generalize l.length = m at *
    have h1 : ¬ ((i : Int) < 0) := by omega
    have h2 : ¬ ((m : Int) ≤ (i : Int)) := by omega
    go_enter Tryd.func58, Tryd.ntmps58
    go_wp2
    go_ret
    exact ⟨rfl, rfl⟩
  · rw [getD_none l i (by omega)]
    clear hr
    generalize l.length = m at *
    have h1 : ¬ ((i : Int) < 0) := by omega
    have h2 : (m : Int) ≤ (i : Int) := by omega
    go_enter Tryd.func58, Tryd.ntmps58
    go_wp2
    go_ret
    exact ⟨rfl, rfl⟩
theorem digit_neg (p : Option Addr) (c m : Nat) (i : Int) (w : World) (hi : i < 0) :
    Calls Tryd.prog 58 #[.slice p m c, .int .i64 i] w fun e w' => e = .returned (.int .i64 0) ∧ w = w' := by
  go_enter Tryd.func58, Tryd.ntmps58
  go_wp2
  go_ret
  exact ⟨rfl, rfl⟩
/-- What trim leaves: the digits of the value, in the same place. -/
def TrPost (w : World) (p : Option Addr) (c : Nat) (l : List (Fin 16)) (e : Ending) (w' : World) : Prop := ∃ k, k ≤ l.length ∧ e = .returned (.slice p k c) ∧ l.take k = dgs (val l) ∧ Below w.heap.size w w'
set_option maxRecDepth 100000 in
set_option maxHeartbeats 1000000 in
theorem trim_any (p : Option Addr) (c : Nat) (l : List (Fin 16)) (w : World) (hl : l.length ≤ 1000) (ho : ok9 l) (hs : SlI w p c l) :
    Calls Tryd.prog 60 #[.slice p l.length c] w (TrPost w p c l) := by
  obtain ⟨m, hm⟩ : ∃ m, m = l.length := ⟨_, rfl⟩
  have HM := Lib.hid hm
  obtain ⟨hr, hc1, hc2, hc3⟩ := hs
  have hcl : ∀ j, j < m → ∃ B off, p = some ⟨B, off, none⟩ ∧ B < w.heap.size ∧ w.cell? ⟨B, off + j, none⟩ = some (.int .i64 ((l.getD j 0).val : Int)) := fun j hj => by
    rw [hm] at hj
    rcases hr with h0 | ⟨B, off, rfl, hc⟩
    · subst h0; simp at hj
    · exact ⟨_, _, rfl, World.block_lt_of_cell? w _ (hc j hj), hc j hj⟩
  have HC := Lib.hid hcl
  have HO := Lib.hid ho
  have HN := Lib.hid hc3
  rw [← hm] at hl hc1 ⊢
  clear hr hcl hm ho hc3
  have fin : ∀ k, k ≤ m → (∀ j, k ≤ j → j < m → l.getD j 0 = 0) → (k ≠ 0 → l.getD (k - 1) 0 ≠ 0) → l.take k = dgs (val l) := fun k hk h1 h2 => trim_eq HO.out k (by rw [← HM.out]; exact hk) (fun j hj hj2 => h1 j hj (by rw [HM.out]; exact hj2)) h2
  have FIN := Lib.hid fin
  clear fin
  go_enter Tryd.func60, Tryd.ntmps60
  go_wp2
  go_loopw [3] (fun i wr => Below w.heap.size w wr ∧ ∃ k : Nat, k ≤ m ∧ i = .int .i64 k ∧ ∀ j, k ≤ j → j < m → l.getD j 0 = 0) (fun i _ => (intOf i).toNat)
  case atStart => exact ⟨Below.refl _ _, m, Nat.le_refl _, rfl, fun j h1 h2 => by omega⟩
  case round =>
    obtain ⟨hbw, k, hk, rfl, hz⟩ := hrel
    have HB := Lib.hid hbw
    have HZ := Lib.hid hz
    clear hbw hz
    by_cases h0 : k = 0
    · subst h0
      have hres := FIN.out 0 (Nat.zero_le _) HZ.out (fun h => absurd rfl h)
      have HR := Lib.hid hres
      clear hres
      go_wp2
      go_ret
      exact ⟨0, Nat.zero_le _, rfl, HR.out, HB.out⟩
    · obtain ⟨q, rfl⟩ : ∃ q, k = q + 1 := ⟨k - 1, by omega⟩
      obtain ⟨B, off, rfl, hB, hc⟩ := HC.out q (by omega)
      have hcw := (HB.out.cell (p := ⟨B, off + q, none⟩) hB).trans hc
      clear hc hB h0
      by_cases hd : l.getD q 0 = 0
      · rw [hd] at hcw
        have hcw0 : wr.cell? ⟨B, off + q, none⟩ = some (.int .i64 0) := hcw
        have HD := Lib.hid hd
        clear hd hcw
        go_wp2
        go_roundw
        case rel => exact ⟨HB.out, q, by omega, by go_num, fun j h1 h2 => by
          rcases Nat.lt_or_ge q j with h | h
          · exact HZ.out j h h2
          · have : j = q := by omega
            subst this
            exact HD.out⟩
        case measure => simp [intOf]
      · have hdz : (((l.getD q 0).val : Int) == 0) = false := by
          have : (l.getD q 0).val ≠ 0 := fun h => hd (Fin.ext h)
          simpa using this
        have hres := FIN.out (q + 1) hk HZ.out (fun _ => hd)
        have HR := Lib.hid hres
        clear hres hd
        generalize l.getD q 0 = d at *
        go_wp2
        go_ret
        exact ⟨q + 1, by rw [← HM.out]; exact hk, rfl, HR.out, HB.out⟩

set_option maxRecDepth 100000 in
set_option maxHeartbeats 1000000 in
theorem rless_any (p q : Option Addr) (c d : Nat) (a b : List (Fin 16)) (w : World) (ha : a.length ≤ 1000) (hb : b.length ≤ 1000) (oa : ok9 a) (ob : ok9 b) (ra : RdI w p a) (rb : RdI w q b) :
    Calls Tryd.prog 65 #[.slice p a.length c, .slice q b.length d] w fun e w' => e = .returned (.bool (decide (val a < val b))) ∧ w = w' := by
  have HA := Lib.hid (fun (i : Nat) (hi : i ≤ 100000) => digit_any p c i a w ha hi ra)
  have HB := Lib.hid (fun (i : Nat) (hi : i ≤ 100000) => digit_any q d i b w hb hi rb)
  have HOA := Lib.hid oa
  have HOB := Lib.hid ob
  have hbig : ∀ j, max a.length b.length ≤ j → a.getD j 0 = b.getD j 0 := fun j hj => by
    rw [getD_none a j (by omega), getD_none b j (by omega)]
  have HBG := Lib.hid hbig
  clear ra rb oa ob hbig
  generalize a.length = la at *
  generalize b.length = lb at *
  by_cases hlt : la < lb
  · go_enter Tryd.func65, Tryd.ntmps65
    go_wp2
    go_loop [5] (fun i => ∃ k : Nat, k ≤ lb ∧ i = .int .i64 ((k : Int) - 1) ∧ ∀ j, k ≤ j → a.getD j 0 = b.getD j 0) (fun i => (intOf i + 1).toNat)
    case atStart => exact ⟨lb, Nat.le_refl _, by first | rfl | (congr 1; omega), fun j hj => HBG.out j (by omega)⟩
    case round =>
      obtain ⟨k, hk, rfl, he⟩ := hrel
      have HE := Lib.hid he
      clear he
      by_cases h0 : k = 0
      · subst h0
        have hv : decide (val a < val b) = false := by
          rw [val_ext a b (fun j => HE.out j (Nat.zero_le _))]
          simp
        have HV := Lib.hid hv
        clear hv
        go_wp2
        go_ret
        exact ⟨by rw [HV.out]; rfl, rfl⟩
      · obtain ⟨q1, rfl⟩ : ∃ q1, k = q1 + 1 := ⟨k - 1, by omega⟩
        have e1 : (((q1 + 1 : Nat) : Int) - 1) = (q1 : Int) := by omega
        rw [e1]
        clear e1 h0
        have HA1 := Lib.hid (HA.out q1 (by omega))
        have HB1 := Lib.hid (HB.out q1 (by omega))
        by_cases hd : a.getD q1 0 = b.getD q1 0
        · rw [← hd] at HB1
          have HD := Lib.hid hd
          clear hd
          generalize a.getD q1 0 = x at HA1 HB1
          go_wp2_with fail
          refine (HA1.out).mono ?_
          rintro e w' ⟨rfl, rfl⟩
          go_wp2_with fail
          refine (HB1.out).mono ?_
          rintro e w' ⟨rfl, rfl⟩
          go_wp2
          go_round
          case rel => exact ⟨q1, by omega, by go_num, fun j hj => by
            rcases Nat.lt_or_ge q1 j with h | h
            · exact HE.out j h
            · have : j = q1 := by omega
              subst this
              exact HD.out⟩
          case measure => simp [intOf]
        · have hv : decide (val a < val b) = decide ((a.getD q1 0).val < (b.getD q1 0).val) := by
            rcases Nat.lt_or_ge (a.getD q1 0).val (b.getD q1 0).val with h | h
            · rw [decide_eq_true (less_at HOA.out HOB.out q1 (fun j hj => HE.out j hj) h), decide_eq_true (by omega)]
            · have h2 : (b.getD q1 0).val < (a.getD q1 0).val := by
                have : (a.getD q1 0).val ≠ (b.getD q1 0).val := fun h => hd (Fin.ext h)
                omega
              have h3 := less_at HOB.out HOA.out q1 (fun j hj => (HE.out j hj).symm) h2
              rw [decide_eq_false (by omega), decide_eq_false (by omega)]
          have hne : ((((a.getD q1 0).val : Int)) == ((b.getD q1 0).val : Int)) = false := by
            have : (a.getD q1 0).val ≠ (b.getD q1 0).val := fun h => hd (Fin.ext h)
            exact beq_eq_false_iff_ne.2 (by omega)
          have HV := Lib.hid hv
          clear hv hd
          generalize a.getD q1 0 = x at HA1 HV hne
          generalize b.getD q1 0 = y at HB1 HV hne
          go_wp2_with fail
          refine (HA1.out).mono ?_
          rintro e w' ⟨rfl, rfl⟩
          go_wp2_with fail
          refine (HB1.out).mono ?_
          rintro e w' ⟨rfl, rfl⟩
          go_wp2_with fail
          refine (HA1.out).mono ?_
          rintro e w' ⟨rfl, rfl⟩
          go_wp2_with fail
          refine (HB1.out).mono ?_
          rintro e w' ⟨rfl, rfl⟩
          go_wp2
          go_ret
          exact ⟨by rw [HV.out]; rfl, rfl⟩
  · go_enter Tryd.func65, Tryd.ntmps65
    go_wp2
    go_loop [5] (fun i => ∃ k : Nat, k ≤ la ∧ i = .int .i64 ((k : Int) - 1) ∧ ∀ j, k ≤ j → a.getD j 0 = b.getD j 0) (fun i => (intOf i + 1).toNat)
    case atStart => exact ⟨la, Nat.le_refl _, by first | rfl | (congr 1; omega), fun j hj => HBG.out j (by omega)⟩
    case round =>
      obtain ⟨k, hk, rfl, he⟩ := hrel
      have HE := Lib.hid he
      clear he
      by_cases h0 : k = 0
      · subst h0
        have hv : decide (val a < val b) = false := by
          rw [val_ext a b (fun j => HE.out j (Nat.zero_le _))]
          simp
        have HV := Lib.hid hv
        clear hv
        go_wp2
        go_ret
        exact ⟨by rw [HV.out]; rfl, rfl⟩
      · obtain ⟨q1, rfl⟩ : ∃ q1, k = q1 + 1 := ⟨k - 1, by omega⟩
        have e1 : (((q1 + 1 : Nat) : Int) - 1) = (q1 : Int) := by omega
        rw [e1]
        clear e1 h0
        have HA1 := Lib.hid (HA.out q1 (by omega))
        have HB1 := Lib.hid (HB.out q1 (by omega))
        by_cases hd : a.getD q1 0 = b.getD q1 0
        · rw [← hd] at HB1
          have HD := Lib.hid hd
          clear hd
          generalize a.getD q1 0 = x at HA1 HB1
          go_wp2_with fail
          refine (HA1.out).mono ?_
          rintro e w' ⟨rfl, rfl⟩
          go_wp2_with fail
          refine (HB1.out).mono ?_
          rintro e w' ⟨rfl, rfl⟩
          go_wp2
          go_round
          case rel => exact ⟨q1, by omega, by go_num, fun j hj => by
            rcases Nat.lt_or_ge q1 j with h | h
            · exact HE.out j h
            · have : j = q1 := by omega
              subst this
              exact HD.out⟩
          case measure => simp [intOf]
        · have hv : decide (val a < val b) = decide ((a.getD q1 0).val < (b.getD q1 0).val) := by
            rcases Nat.lt_or_ge (a.getD q1 0).val (b.getD q1 0).val with h | h
            · rw [decide_eq_true (less_at HOA.out HOB.out q1 (fun j hj => HE.out j hj) h), decide_eq_true (by omega)]
            · have h2 : (b.getD q1 0).val < (a.getD q1 0).val := by
                have : (a.getD q1 0).val ≠ (b.getD q1 0).val := fun h => hd (Fin.ext h)
                omega
              have h3 := less_at HOB.out HOA.out q1 (fun j hj => (HE.out j hj).symm) h2
              rw [decide_eq_false (by omega), decide_eq_false (by omega)]
          have hne : ((((a.getD q1 0).val : Int)) == ((b.getD q1 0).val : Int)) = false := by
            have : (a.getD q1 0).val ≠ (b.getD q1 0).val := fun h => hd (Fin.ext h)
            exact beq_eq_false_iff_ne.2 (by omega)
          have HV := Lib.hid hv
          clear hv hd
          generalize a.getD q1 0 = x at HA1 HV hne
          generalize b.getD q1 0 = y at HB1 HV hne
          go_wp2_with fail
          refine (HA1.out).mono ?_
          rintro e w' ⟨rfl, rfl⟩
          go_wp2_with fail
          refine (HB1.out).mono ?_
          rintro e w' ⟨rfl, rfl⟩
          go_wp2_with fail
          refine (HA1.out).mono ?_
          rintro e w' ⟨rfl, rfl⟩
          go_wp2_with fail
          refine (HB1.out).mono ?_
          rintro e w' ⟨rfl, rfl⟩
          go_wp2
          go_ret
          exact ⟨by rw [HV.out]; rfl, rfl⟩

end E
end Go.Proofs.YtlpekknhaaddcaaDoor
namespace Go.Proofs.YtlpekknhaaddcaaDoor
open Go.RowKit
set_option linter.unusedVariables false
namespace E

/-- A list of digits is returned: those of n, without zeros at the end. -/
def RnPost (w : World) (n : Nat) (e : Ending) (w' : World) : Prop := ∃ p c, e = .returned (.slice p (dgs n).length c) ∧ SlI w' p c (dgs n) ∧ Below w.heap.size w w'
theorem TrPost.rn {f : Nat} {args : Array Value} {w : World} {p : Option Addr} {c : Nat} {l : List (Fin 16)} (hs : SlI w p c l) (h : Calls Tryd.prog f args w (TrPost w p c l)) : Calls Tryd.prog f args w (RnPost w (val l)) :=
  h.mono fun e w' ⟨k, hk, he, hd, hb⟩ => by
    have hl : (dgs (val l)).length = k := by rw [← hd, List.length_take]; omega
    refine ⟨p, c, by rw [hl]; exact he, ?_, hb⟩
    rw [← hd]
    exact (hs.take k).below hb
set_option maxRecDepth 100000 in
set_option maxHeartbeats 1000000 in
theorem plus_any (p q : Option Addr) (c d : Nat) (a b : List (Fin 16)) (w : World) (ha : a.length ≤ 500) (hb : b.length ≤ 500) (oa : ok9 a) (ob : ok9 b) (ra : RdI w p a) (rb : RdI w q b) :
    Calls Tryd.prog 59 #[.slice p a.length c, .slice q b.length d] w (RnPost w (val a + val b)) := by
  obtain ⟨i0, hi, hz0, hz1, hz2⟩ := info_parts info3
  have HA := Lib.hid (fun (i : Nat) (hi : i ≤ 100000) W (h : Below w.heap.size w W) => digit_any p c i a W (by omega) hi (ra.below h))
  have HB := Lib.hid (fun (i : Nat) (hi : i ≤ 100000) W (h : Below w.heap.size w W) => digit_any q d i b W (by omega) hi (rb.below h))
  have HOA := Lib.hid oa
  have HOB := Lib.hid ob
  have HLA : Hid (∀ t, a.length ≤ t → a.getD t 0 = 0 ∧ a.take t = a) := Lib.hid (fun t h => ⟨getD_none a t h, List.take_of_length_le h⟩)
  have HLB : Hid (∀ t, b.length ≤ t → b.getD t 0 = 0 ∧ b.take t = b) := Lib.hid (fun t h => ⟨getD_none b t h, List.take_of_length_le h⟩)
  clear ra rb oa ob
  generalize a.length = la at *
  generalize b.length = lb at *
  go_enter Tryd.func59, Tryd.ntmps59
  go_wp2
  go_loopw [5, 6, 7] (fun sv cv i wr => Below w.heap.size w wr ∧ ∃ t cy L, i = .int .i64 ((t : Nat) : Int) ∧ cv = .int .i64 ((cy : Nat) : Int) ∧ cy ≤ 1 ∧ t ≤ max la lb + 1 ∧ (max la lb < t → cy = 0) ∧ ok9 L ∧ L.length = t ∧ val (a.take t) + val (b.take t) = val L + 10 ^ t * cy ∧ wr.ownsRow w.heap.size 3 1 sv t (bsI L)) (fun _ _ i _ => (max la lb + 2 - (intOf i).toNat))
  case atStart => exact ⟨Below.refl _ _, 0, 0, [], rfl, rfl, by omega, by omega, fun _ => rfl, ok9_nil, rfl, rfl, World.ownsRow_nil _ _ _ _⟩
  case round =>
    obtain ⟨hbw, t, cy, L, rfl, rfl, hcy, ht, hend, ho, hL, hv, hown⟩ := hrel
    have HBW := Lib.hid hbw
    have HO := Lib.hid ho
    have HL := Lib.hid hL
    have HV := Lib.hid hv
    have HW := Lib.hid hown
    clear hbw ho hL hv hown
    by_cases hla : t < la
    · have htl : t ≤ max la lb := by omega
      have HA1 := Lib.hid (HA.out t (by omega) wr HBW.out)
      have HB1 := Lib.hid (HB.out t (by omega) wr HBW.out)
      have da9 := ok9_getD HOA.out t
      have db9 := ok9_getD HOB.out t
      have hva := val_take_succ HOA.out t
      have hvb := val_take_succ HOB.out t
      have HVA := Lib.hid hva
      have HVB := Lib.hid hvb
      clear hva hvb
      have HX0 : Hid (la ≤ t → (a.getD t 0).val = 0) := Lib.hid (fun h => by rw [(HLA.out t h).1]; rfl)
      have HY0 : Hid (lb ≤ t → (b.getD t 0).val = 0) := Lib.hid (fun h => by rw [(HLB.out t h).1]; rfl)
      generalize a.getD t 0 = x at HA1 HVA da9 HX0
      generalize b.getD t 0 = y at HB1 HVB db9 HY0
      obtain ⟨s, hs⟩ : ∃ s, s = x.val + y.val + cy := ⟨_, rfl⟩
      have hs19 : s ≤ 19 := by omega
      have hsum : (x.val : Int) + (y.val : Int) + (cy : Int) = (s : Int) := by omega
      have HSS := Lib.hid hs
      clear hs
      go_wp2_with fail
      refine (HA1.out).mono ?_
      rintro e w' ⟨rfl, rfl⟩
      go_wp2_with fail
      refine (HB1.out).mono ?_
      rintro e w' ⟨rfl, rfl⟩
      go_wp2_with (at_builtin; refine wpList_append_own _ rfl _ _ 50 rfl w.heap.size 3 i0 (.int .i64 0) 1 8 Tryd.underlying50 hi hz0 hz1 hz2 rfl (by decide) _ t _ rfl (HW.out.alloc _) ⟨wr.heap.size, 0, none⟩ 1 1 [_] rfl rfl (cellNew _ _ _) (by intro u hu; simp at hu; subst hu; rfl) (by unfold maxLen; omega) (by omega) (by have := HBW.out.size; simp; omega) ?_)
      intro v' w3 hown' hgrow _
      have hb1 := (HBW.out.alloc HBW.out.size _).grown hgrow (by have := HBW.out.size; simp; omega) (fun r hr => (HW.out.lt r hr).1)
      clear hgrow
      have hval : val (a.take (t + 1)) + val (b.take (t + 1)) = val (L ++ [⟨s % 10, by omega⟩]) + 10 ^ (t + 1) * (s / 10) := by
        rw [HVA.out, HVB.out, val_snoc, HL.out, Nat.pow_succ]
        exact plus_step HV.out HSS.out
      have HVL := Lib.hid hval
      have hend2 : max la lb < t + 1 → s / 10 = 0 := fun h => by
        have h1 := HX0.out (by omega)
        have h2 := HY0.out (by omega)
        have h3 := HSS.out
        omega
      have HE2 := Lib.hid hend2
      clear hval hend2
      go_wp2
      go_roundw
      case rel => exact ⟨hb1, t + 1, s / 10, L ++ [⟨s % 10, by omega⟩], by go_num, by simp, by omega, by omega, HE2.out, ok9_app.2 ⟨HO.out, ok9_cons.2 ⟨by show s % 10 ≤ 9; omega, ok9_nil⟩⟩, by rw [List.length_append, HL.out]; rfl, HVL.out, by rw [bsI_snoc]; exact hown'⟩
      case measure => simp [intOf]; omega
    · by_cases hlb : t < lb
      · have htl : t ≤ max la lb := by omega
        have HA1 := Lib.hid (HA.out t (by omega) wr HBW.out)
        have HB1 := Lib.hid (HB.out t (by omega) wr HBW.out)
        have da9 := ok9_getD HOA.out t
        have db9 := ok9_getD HOB.out t
        have hva := val_take_succ HOA.out t
        have hvb := val_take_succ HOB.out t
        have HVA := Lib.hid hva
        have HVB := Lib.hid hvb
        clear hva hvb
        have HX0 : Hid (la ≤ t → (a.getD t 0).val = 0) := Lib.hid (fun h => by rw [(HLA.out t h).1]; rfl)
        have HY0 : Hid (lb ≤ t → (b.getD t 0).val = 0) := Lib.hid (fun h => by rw [(HLB.out t h).1]; rfl)
        generalize a.getD t 0 = x at HA1 HVA da9 HX0
        generalize b.getD t 0 = y at HB1 HVB db9 HY0
        obtain ⟨s, hs⟩ : ∃ s, s = x.val + y.val + cy := ⟨_, rfl⟩
        have hs19 : s ≤ 19 := by omega
        have hsum : (x.val : Int) + (y.val : Int) + (cy : Int) = (s : Int) := by omega
        have HSS := Lib.hid hs
        clear hs
        go_wp2_with fail
        refine (HA1.out).mono ?_
        rintro e w' ⟨rfl, rfl⟩
        go_wp2_with fail
        refine (HB1.out).mono ?_
        rintro e w' ⟨rfl, rfl⟩
        go_wp2_with (at_builtin; refine wpList_append_own _ rfl _ _ 50 rfl w.heap.size 3 i0 (.int .i64 0) 1 8 Tryd.underlying50 hi hz0 hz1 hz2 rfl (by decide) _ t _ rfl (HW.out.alloc _) ⟨wr.heap.size, 0, none⟩ 1 1 [_] rfl rfl (cellNew _ _ _) (by intro u hu; simp at hu; subst hu; rfl) (by unfold maxLen; omega) (by omega) (by have := HBW.out.size; simp; omega) ?_)
        intro v' w3 hown' hgrow _
        have hb1 := (HBW.out.alloc HBW.out.size _).grown hgrow (by have := HBW.out.size; simp; omega) (fun r hr => (HW.out.lt r hr).1)
        clear hgrow
        have hval : val (a.take (t + 1)) + val (b.take (t + 1)) = val (L ++ [⟨s % 10, by omega⟩]) + 10 ^ (t + 1) * (s / 10) := by
          rw [HVA.out, HVB.out, val_snoc, HL.out, Nat.pow_succ]
          exact plus_step HV.out HSS.out
        have HVL := Lib.hid hval
        have hend2 : max la lb < t + 1 → s / 10 = 0 := fun h => by
          have h1 := HX0.out (by omega)
          have h2 := HY0.out (by omega)
          have h3 := HSS.out
          omega
        have HE2 := Lib.hid hend2
        clear hval hend2
        go_wp2
        go_roundw
        case rel => exact ⟨hb1, t + 1, s / 10, L ++ [⟨s % 10, by omega⟩], by go_num, by simp, by omega, by omega, HE2.out, ok9_app.2 ⟨HO.out, ok9_cons.2 ⟨by show s % 10 ≤ 9; omega, ok9_nil⟩⟩, by rw [List.length_append, HL.out]; rfl, HVL.out, by rw [bsI_snoc]; exact hown'⟩
        case measure => simp [intOf]; omega
      · by_cases hc0 : cy = 0
        · subst hc0
          have hlist : val a + val b = val L := by
            have h := HV.out
            rw [(HLA.out t (by omega)).2, (HLB.out t (by omega)).2, Nat.mul_zero, Nat.add_zero] at h
            exact h
          have hown := HW.out
          rw [← HL.out] at hown
          obtain ⟨p1, c1, rfl, hsl⟩ := HoldI.sl (show HoldI wr w.heap.size u5 L from hown)
          have htr := TrPost.rn hsl (trim_any p1 c1 L wr (by rw [HL.out]; omega) HO.out hsl)
          rw [← hlist] at htr
          have HT := Lib.hid htr
          rw [HL.out] at HT ⊢
          clear hown hsl htr hlist
          go_wp2_with fail
          refine (HT.out).mono ?_
          rintro e w5 ⟨p5, c5, rfl, hs5, hb5⟩
          have HS5 := Lib.hid hs5
          have HB5 := Lib.hid (bel0 HBW.out hb5)
          clear hs5 hb5
          go_wp2
          go_ret
          exact ⟨p5, c5, rfl, HS5.out, HB5.out⟩
        · obtain rfl : cy = 1 := by omega
          have htl : t ≤ max la lb := by
            rcases Nat.lt_or_ge (max la lb) t with h | h
            · exact absurd (hend h) (by omega)
            · exact h
          have HA1 := Lib.hid (HA.out t (by omega) wr HBW.out)
          have HB1 := Lib.hid (HB.out t (by omega) wr HBW.out)
          have da9 := ok9_getD HOA.out t
          have db9 := ok9_getD HOB.out t
          have hva := val_take_succ HOA.out t
          have hvb := val_take_succ HOB.out t
          have HVA := Lib.hid hva
          have HVB := Lib.hid hvb
          clear hva hvb
          have HX0 : Hid (la ≤ t → (a.getD t 0).val = 0) := Lib.hid (fun h => by rw [(HLA.out t h).1]; rfl)
          have HY0 : Hid (lb ≤ t → (b.getD t 0).val = 0) := Lib.hid (fun h => by rw [(HLB.out t h).1]; rfl)
          generalize a.getD t 0 = x at HA1 HVA da9 HX0
          generalize b.getD t 0 = y at HB1 HVB db9 HY0
          obtain ⟨s, hs⟩ : ∃ s, s = x.val + y.val + 1 := ⟨_, rfl⟩
          have hs19 : s ≤ 19 := by omega
          have hsum : (x.val : Int) + (y.val : Int) + 1 = (s : Int) := by omega
          have HSS := Lib.hid hs
          clear hs
          go_wp2_with fail
          refine (HA1.out).mono ?_
          rintro e w' ⟨rfl, rfl⟩
          go_wp2_with fail
          refine (HB1.out).mono ?_
          rintro e w' ⟨rfl, rfl⟩
          go_wp2_with (at_builtin; refine wpList_append_own _ rfl _ _ 50 rfl w.heap.size 3 i0 (.int .i64 0) 1 8 Tryd.underlying50 hi hz0 hz1 hz2 rfl (by decide) _ t _ rfl (HW.out.alloc _) ⟨wr.heap.size, 0, none⟩ 1 1 [_] rfl rfl (cellNew _ _ _) (by intro u hu; simp at hu; subst hu; rfl) (by unfold maxLen; omega) (by omega) (by have := HBW.out.size; simp; omega) ?_)
          intro v' w3 hown' hgrow _
          have hb1 := (HBW.out.alloc HBW.out.size _).grown hgrow (by have := HBW.out.size; simp; omega) (fun r hr => (HW.out.lt r hr).1)
          clear hgrow
          have hval : val (a.take (t + 1)) + val (b.take (t + 1)) = val (L ++ [⟨s % 10, by omega⟩]) + 10 ^ (t + 1) * (s / 10) := by
            rw [HVA.out, HVB.out, val_snoc, HL.out, Nat.pow_succ]
            exact plus_step HV.out HSS.out
          have HVL := Lib.hid hval
          have hend2 : max la lb < t + 1 → s / 10 = 0 := fun h => by
            have h1 := HX0.out (by omega)
            have h2 := HY0.out (by omega)
            have h3 := HSS.out
            omega
          have HE2 := Lib.hid hend2
          clear hval hend2
          go_wp2
          go_roundw
          case rel => exact ⟨hb1, t + 1, s / 10, L ++ [⟨s % 10, by omega⟩], by go_num, by simp, by omega, by omega, HE2.out, ok9_app.2 ⟨HO.out, ok9_cons.2 ⟨by show s % 10 ≤ 9; omega, ok9_nil⟩⟩, by rw [List.length_append, HL.out]; rfl, HVL.out, by rw [bsI_snoc]; exact hown'⟩
          case measure => simp [intOf]; omega

end E
end Go.Proofs.YtlpekknhaaddcaaDoor
namespace Go.Proofs.YtlpekknhaaddcaaDoor
open Go.RowKit
set_option linter.unusedVariables false
namespace E

set_option maxRecDepth 100000 in
set_option maxHeartbeats 1000000 in
theorem minus_any (p q : Option Addr) (c d : Nat) (a b : List (Fin 16)) (w : World) (ha : a.length ≤ 500) (hb : b.length ≤ 500) (oa : ok9 a) (ob : ok9 b) (hle : val b ≤ val a) (ra : RdI w p a) (rb : RdI w q b) :
    Calls Tryd.prog 66 #[.slice p a.length c, .slice q b.length d] w (RnPost w (val a - val b)) := by
  obtain ⟨i0, hi, hz0, hz1, hz2⟩ := info_parts info3
  have HB := Lib.hid (fun (i : Nat) (hi : i ≤ 100000) W (h : Below w.heap.size w W) => digit_any q d i b W (by omega) hi (rb.below h))
  have hcl : ∀ j, j < a.length → ∃ B off, p = some ⟨B, off, none⟩ ∧ B < w.heap.size ∧ w.cell? ⟨B, off + j, none⟩ = some (.int .i64 ((a.getD j 0).val : Int)) := fun j hj => by
    rcases ra with h0 | ⟨B, off, rfl, hc⟩
    · subst h0; simp at hj
    · exact ⟨_, _, rfl, World.block_lt_of_cell? w _ (hc j hj), hc j hj⟩
  have HC := Lib.hid hcl
  have HOA := Lib.hid oa
  have HOB := Lib.hid ob
  have hfin : val (b.take a.length) = val b ∧ val (a.take a.length) = val a ∧ val a < 10 ^ a.length := by
    have h1 := val_lt oa
    exact ⟨by rw [val_take ob]; exact Nat.mod_eq_of_lt (by omega), by rw [List.take_of_length_le (Nat.le_refl _)], h1⟩
  have HF := Lib.hid hfin
  have HLE := Lib.hid hle
  clear ra rb oa ob hcl hfin hle
  generalize a.length = la at *
  generalize b.length = lb at *
  go_enter Tryd.func66, Tryd.ntmps66
  go_wp2
  go_loopw [5, 6, 7] (fun sv cv i wr => Below w.heap.size w wr ∧ ∃ t cy L, i = .int .i64 ((t : Nat) : Int) ∧ cv = .int .i64 ((cy : Nat) : Int) ∧ cy ≤ 1 ∧ t ≤ la ∧ ok9 L ∧ L.length = t ∧ val (a.take t) + 10 ^ t * cy = val L + val (b.take t) ∧ wr.ownsRow w.heap.size 3 1 sv t (bsI L)) (fun _ _ i _ => (la - (intOf i).toNat))
  case atStart => exact ⟨Below.refl _ _, 0, 0, [], rfl, rfl, by omega, by omega, ok9_nil, rfl, rfl, World.ownsRow_nil _ _ _ _⟩
  case round =>
    obtain ⟨hbw, t, cy, L, rfl, rfl, hcy, ht, ho, hL, hv, hown⟩ := hrel
    have HBW := Lib.hid hbw
    have HO := Lib.hid ho
    have HL := Lib.hid hL
    have HV := Lib.hid hv
    have HW := Lib.hid hown
    clear hbw ho hL hv hown
    by_cases hla : t < la
    · have HB1 := Lib.hid (fun W (h : Below w.heap.size w W) => HB.out t (by omega) W h)
      obtain ⟨B, off, rfl, hBl, hc⟩ := HC.out t hla
      have hcw := (HBW.out.cell (p := ⟨B, off + t, none⟩) hBl).trans hc
      have da9 := ok9_getD HOA.out t
      have db9 := ok9_getD HOB.out t
      have HVA := Lib.hid (val_take_succ HOA.out t)
      have HVB := Lib.hid (val_take_succ HOB.out t)
      clear hc HC hBl
      generalize a.getD t 0 = x at hcw HVA da9
      generalize b.getD t 0 = y at HB1 HVB db9
      have j1 : (0 : Int) ≤ (t : Int) := by omega
      have j2 : (t : Int) < (la : Int) := by omega
      have H0 : Hid ((fun W : World => W.cell? ⟨B, off + t, none⟩ = some (.int .i64 (x.val : Int)) ∧ ApS wr W) wr.drew) := Lib.hid ⟨keepC hcw (Below.refl _ _).drew, (Below.refl _ _).drew⟩
      clear hcw
      by_cases hbr : y.val + cy ≤ x.val
      · obtain ⟨r, hr⟩ : ∃ r, r = x.val - y.val - cy := ⟨_, rfl⟩
        have hr9 : r ≤ 9 := by omega
        have hr16 : r < 16 := by omega
        have hn : (x.val : Int) - (y.val : Int) - (cy : Int) = (r : Int) := by omega
        have hval : val (a.take (t + 1)) + 10 ^ (t + 1) * 0 = val (L ++ [⟨r, hr16⟩]) + val (b.take (t + 1)) := by
          rw [HVA.out, HVB.out, val_snoc, HL.out, Nat.pow_succ]
          have h := (minus_step HV.out hcy da9 db9).1 (by omega)
          rw [← hr] at h
          exact h
        have HVL := Lib.hid hval
        clear hval hr
        go_wp2
        go_region_held3 (fun W => W.cell? ⟨B, off + t, none⟩ = some (.int .i64 (x.val : Int)) ∧ ApS wr W)
          (first | assumption | exact H0.out)
          (first
            | (go_at_call 58; refine (HB1.out _ (bel0 HBW.out (And.right (a := _ = _) (by assumption)))).mono ?_; rintro e w5 ⟨rfl, rfl⟩))
        have HBD : Hid (Below w.heap.size w wr.drew) := Lib.hid HBW.out.drew
        have HWD := Lib.hid (own_kept HW.out ((Below.refl wr.heap.size wr).drew))
        go_wp2_with (at_builtin; refine wpList_append_own _ rfl _ _ 50 rfl w.heap.size 3 i0 (.int .i64 0) 1 8 Tryd.underlying50 hi hz0 hz1 hz2 rfl (by decide) _ t _ rfl (HWD.out.alloc _) ⟨wr.heap.size, 0, none⟩ 1 1 [_] rfl rfl (cellNew _ _ _) (by intro u hu; simp at hu; subst hu; rfl) (by unfold maxLen; omega) (by omega) (by have := HBW.out.size; simp; omega) ?_)
        intro v' w3 hown' hgrow _
        have hb1 := (HBD.out.alloc HBD.out.size _).grown hgrow (by have := HBW.out.size; simp; omega) (fun r hr => (HWD.out.lt r hr).1)
        clear hgrow
        go_wp2
        go_roundw
        case rel => exact ⟨hb1, t + 1, 0, L ++ [⟨r, hr16⟩], by go_num, rfl, by omega, by omega, ok9_app.2 ⟨HO.out, ok9_cons.2 ⟨hr9, ok9_nil⟩⟩, by rw [List.length_append, HL.out]; rfl, HVL.out, by rw [bsI_snoc]; exact hown'⟩
        case measure => simp [intOf]; omega
      · obtain ⟨r, hr⟩ : ∃ r, r = x.val + 10 - y.val - cy := ⟨_, rfl⟩
        have hr9 : r ≤ 9 := by omega
        have hr16 : r < 16 := by omega
        have hn : (x.val : Int) - (y.val : Int) - (cy : Int) = (r : Int) - 10 := by omega
        have hval : val (a.take (t + 1)) + 10 ^ (t + 1) * 1 = val (L ++ [⟨r, hr16⟩]) + val (b.take (t + 1)) := by
          rw [HVA.out, HVB.out, val_snoc, HL.out, Nat.pow_succ]
          have h := (minus_step HV.out hcy da9 db9).2 (by omega)
          rw [← hr] at h
          exact h
        have HVL := Lib.hid hval
        clear hval hr
        go_wp2
        go_region_held3 (fun W => W.cell? ⟨B, off + t, none⟩ = some (.int .i64 (x.val : Int)) ∧ ApS wr W)
          (first | assumption | exact H0.out)
          (first
            | (go_at_call 58; refine (HB1.out _ (bel0 HBW.out (And.right (a := _ = _) (by assumption)))).mono ?_; rintro e w5 ⟨rfl, rfl⟩))
        have HBD : Hid (Below w.heap.size w wr.drew) := Lib.hid HBW.out.drew
        have HWD := Lib.hid (own_kept HW.out ((Below.refl wr.heap.size wr).drew))
        go_wp2_with (at_builtin; refine wpList_append_own _ rfl _ _ 50 rfl w.heap.size 3 i0 (.int .i64 0) 1 8 Tryd.underlying50 hi hz0 hz1 hz2 rfl (by decide) _ t _ rfl (HWD.out.alloc _) ⟨wr.heap.size, 0, none⟩ 1 1 [_] rfl rfl (cellNew _ _ _) (by intro u hu; simp at hu; subst hu; rfl) (by unfold maxLen; omega) (by omega) (by have := HBW.out.size; simp; omega) ?_)
        intro v' w3 hown' hgrow _
        have hb1 := (HBD.out.alloc HBD.out.size _).grown hgrow (by have := HBW.out.size; simp; omega) (fun r hr => (HWD.out.lt r hr).1)
        clear hgrow
        go_wp2
        go_roundw
        case rel => exact ⟨hb1, t + 1, 1, L ++ [⟨r, hr16⟩], by go_num, rfl, by omega, by omega, ok9_app.2 ⟨HO.out, ok9_cons.2 ⟨hr9, ok9_nil⟩⟩, by rw [List.length_append, HL.out]; rfl, HVL.out, by rw [bsI_snoc]; exact hown'⟩
        case measure => simp [intOf]; omega
    · obtain rfl : t = la := by omega
      have hv2 := HV.out
      obtain ⟨f1, f2, f3⟩ := HF.out
      rw [f1, f2] at hv2
      have hc0 : cy = 0 := by
        rcases Nat.lt_or_ge 0 cy with h | h
        · exfalso
          have h1 : cy = 1 := by omega
          rw [h1, Nat.mul_one] at hv2
          have h2 := val_lt HO.out
          rw [HL.out] at h2
          have h3 := HLE.out
          omega
        · omega
      subst hc0
      have hval : val L = val a - val b := by rw [Nat.mul_zero] at hv2; omega
      have hown := HW.out
      have hlt2 : t ≤ 1000 := by omega
      rw [← HL.out] at hown
      obtain ⟨p1, c1, rfl, hsl⟩ := HoldI.sl (show HoldI wr w.heap.size u5 L from hown)
      have htr := TrPost.rn hsl (trim_any p1 c1 L wr (by rw [HL.out]; omega) HO.out hsl)
      rw [hval] at htr
      have HT := Lib.hid htr
      rw [HL.out] at HT ⊢
      clear hown hsl htr hval hv2 f1 f2 f3
      go_wp2_with fail
      refine (HT.out).mono ?_
      rintro e w5 ⟨p5, c5, rfl, hs5, hb5⟩
      have HS5 := Lib.hid hs5
      have HB5 := Lib.hid (bel0 HBW.out hb5)
      clear hs5 hb5
      go_wp2
      go_ret
      exact ⟨p5, c5, rfl, HS5.out, HB5.out⟩

end E
end Go.Proofs.YtlpekknhaaddcaaDoor
namespace Go.Proofs.YtlpekknhaaddcaaDoor
open Go.RowKit
set_option linter.unusedVariables false
namespace E

/-- A number is returned. -/
def NumP (w : World) (neg : Bool) (n : Nat) (e : Ending) (w' : World) : Prop := ∃ p c, e = .returned (.agg #[.bool neg, .slice p (dgs n).length c]) ∧ SlI w' p c (dgs n) ∧ Below w.heap.size w w'
theorem numB {b : Bool} {q : Option Addr} {n d : Nat} (k : Nat) (z : Int) : (#[.bool b, .slice q n d] : Array Value)[k]? ≠ some (Value.int .i64 z) := by
  match k with
  | 0 => simp
  | 1 => simp
  | k + 2 => simp
theorem RdI.far {w : World} {p : Option Addr} {l : List (Fin 16)} (h : RdI w p l) {F : Nat} {t : TypeId} {cs : Array Value} (hF : Bx w F t cs) (hi : ∀ (k : Nat) (z : Int), cs[k]? ≠ some (Value.int .i64 z)) {a : Addr} (ha : a.block = F) (u : Value) : RdI (w.setCell a u) p l := by
  rcases h with h | ⟨B, off, hp, hc⟩
  · exact .inl h
  · refine .inr ⟨B, off, hp, fun j hj => ?_⟩
    have h1 := hc j hj
    have hne : B ≠ F := by
      rintro rfl
      rw [hF.cell] at h1
      exact hi _ _ h1
    have h2 := heap_setCell_other w a B u (by rw [ha]; exact hne)
    unfold World.cell? at h1 ⊢
    rw [h2]
    exact h1
theorem SlI.far {w : World} {p : Option Addr} {c : Nat} {l : List (Fin 16)} (h : SlI w p c l) {F : Nat} {t : TypeId} {cs : Array Value} (hF : Bx w F t cs) (hi : ∀ (k : Nat) (z : Int), cs[k]? ≠ some (Value.int .i64 z)) {a : Addr} (ha : a.block = F) (u : Value) : SlI (w.setCell a u) p c l := ⟨h.1.far hF hi ha u, h.2⟩
theorem SlI.far2 {w : World} {p : Option Addr} {c : Nat} {l : List (Fin 16)} (h : SlI w p c l) {F : Nat} {t : TypeId} {b0 : Bool} {q : Option Addr} {n d : Nat} (hF : Bx w F t #[.bool b0, .slice q n d]) (x : Bool) (v : Value) : SlI ((w.setCell ⟨F, 0, none⟩ (.bool x)).setCell ⟨F, 1, none⟩ v) p c l :=
  (h.far hF numB rfl _).far (show Bx _ F t #[.bool x, .slice q n d] from hF.set 0 (.bool x)) numB rfl _
def Aq4 (D E : Nat) (p a q c : Value) (W : World) : Prop := W.cell? ⟨D, 0, none⟩ = some p ∧ W.cell? ⟨D, 1, none⟩ = some a ∧ W.cell? ⟨E, 0, none⟩ = some q ∧ W.cell? ⟨E, 1, none⟩ = some c
theorem Aq4.of {W : World} {D E : Nat} {t u : TypeId} {p a q c : Value} (h : Bx W D t #[p, a]) (k : Bx W E u #[q, c]) : Aq4 D E p a q c W := ⟨h.two.1.1, h.two.1.2, k.two.1.1, k.two.1.2⟩
theorem Aq4.next {W W' : World} {D E : Nat} {p a q c : Value} (h : Aq4 D E p a q c W) (hb : Below W.heap.size W W') : Aq4 D E p a q c W' := ⟨keepC h.1 hb, keepC h.2.1 hb, keepC h.2.2.1 hb, keepC h.2.2.2 hb⟩
theorem cell_far {w : World} {g j : Nat} {a : Addr} (ha : a.block ≠ g) (u : Value) {v : Option Value} (h : w.cell? ⟨g, j, none⟩ = v) : (w.setCell a u).cell? ⟨g, j, none⟩ = v := by
  have h2 := heap_setCell_other w a g u (fun e => ha e.symm)
  unfold World.cell? at h ⊢
  rw [h2]
  exact h
theorem Aq4.st {W : World} {D E F : Nat} {p a q c x y : Value} (h : Aq4 D E p a q c W) (h1 : D ≠ F) (h2 : E ≠ F) : Aq4 D E p a q c ((W.setCell ⟨F, 0, none⟩ x).setCell ⟨F, 1, none⟩ y) :=
  ⟨cell_far (fun e => h1 e.symm) _ (cell_far (fun e => h1 e.symm) _ h.1), cell_far (fun e => h1 e.symm) _ (cell_far (fun e => h1 e.symm) _ h.2.1), cell_far (fun e => h2 e.symm) _ (cell_far (fun e => h2 e.symm) _ h.2.2.1), cell_far (fun e => h2 e.symm) _ (cell_far (fun e => h2 e.symm) _ h.2.2.2)⟩
theorem below_set2 {w W : World} (h : Below w.heap.size w W) {F : Nat} (hF : w.heap.size ≤ F) (x y : Value) : Below w.heap.size w ((W.setCell ⟨F, 0, none⟩ x).setCell ⟨F, 1, none⟩ y) :=
  (h.setCell (p := ⟨F, 0, none⟩) hF x).setCell (p := ⟨F, 1, none⟩) hF y
theorem dgs_len500 {n : Nat} (h : n < 10 ^ 500) : (dgs n).length ≤ 500 := (dgs_len_le n 500).2 h
set_option maxRecDepth 100000 in
set_option maxHeartbeats 4000000 in
theorem sum_same0 (na : Bool) (p q : Option Addr) (c d x y : Nat) (w : World) (hx : (dgs x).length ≤ 500) (hy : (dgs y).length ≤ 500) (ra : SlI w p c (dgs x)) (rb : SlI w q d (dgs y)) :
    Calls Tryd.prog 40 #[.agg #[.bool na, .slice p (dgs x).length c], .agg #[.bool na, .slice q (dgs y).length d]] w (NumP w na (x + y)) := by
  have HC0 := fun W (h : Below w.heap.size w W) => plus_any p q c d (dgs x) (dgs y) W hx hy (dgs_ok9 x) (dgs_ok9 y) (ra.1.below h) (rb.1.below h)
  rw [val_dgs, val_dgs] at HC0
  have HC := Lib.hid HC0
  unfold RnPost at HC
  clear HC0 ra rb hx hy
  generalize (dgs x).length = lx at *
  generalize (dgs y).length = ly at *
  obtain ⟨W0, hW0⟩ : ∃ W0, W0 = ((w.alloc (.cells #[.bool na, .slice p lx c] 52)).alloc (.cells #[.bool na, .slice q ly d] 52)).alloc (.cells #[.bool false, .slice none 0 0] 52) := ⟨_, rfl⟩
  have hb0 : Below w.heap.size w W0 := by rw [hW0]; exact below3 _ _ _ _
  have hD : Bx W0 w.heap.size 52 #[.bool na, .slice p lx c] := by
    rw [hW0]
    exact ((Bx.new w _ _).below (below_new _ _)).below (below_new _ _)
  have hE : Bx W0 (w.heap.size + 1) 52 #[.bool na, .slice q ly d] := by
    rw [hW0]
    exact (second_new w _ _ _ _ rfl).below (below_new _ _)
  have hF : Bx W0 (w.heap.size + 1 + 1) 52 #[.bool false, .slice none 0 0] := by
    rw [hW0]
    exact third_new w _ _ _ _ _ rfl
  have HB0 := Lib.hid hb0
  have HD := Lib.hid hD
  have HE := Lib.hid hE
  have HF := Lib.hid hF
  obtain ⟨⟨d1, d2⟩, _⟩ := hD.two
  obtain ⟨⟨e1, e2⟩, _⟩ := hE.two
  clear hb0 hD hE hF
  have H0 : Hid (Aq4 w.heap.size (w.heap.size + 1) (.bool na) (.slice p lx c) (.bool na) (.slice q ly d) W0.drew) := Lib.hid ((Aq4.of HD.out HE.out).next (Below.refl _ _).drew)
  have HBd : Hid (Below w.heap.size w W0.drew) := Lib.hid HB0.out.drew
  have HFd := Lib.hid (HF.out.below ((Below.refl W0.heap.size W0).drew))
  have hsz : W0.drew.heap.size = W0.heap.size := rfl
  go_enter Tryd.func40, Tryd.ntmps40
  go_wp2_with fail
  rw [← hW0]
  clear hW0
  go_wp2_with fail
  go_region_held3 (fun W => W.cell? ⟨w.heap.size, 0, none⟩ = some (.bool na) ∧ W.cell? ⟨w.heap.size, 1, none⟩ = some (.slice p lx c) ∧ W.cell? ⟨w.heap.size + 1, 0, none⟩ = some (.bool na) ∧ W.cell? ⟨w.heap.size + 1, 1, none⟩ = some (.slice q ly d))
    (first | assumption | exact H0.out | exact Aq4.st (by assumption) (by omega) (by omega))
    (first
      | (go_at_call 59; refine (HC.out _ HBd.out).mono ?_; rintro e w5 ⟨p5, c5, rfl, hs0, hb5⟩; have hs5 := Aq4.next H0.out hb5; have HB5 := Lib.hid (bel0 HBd.out hb5); have HF5 := Lib.hid (HFd.out.below hb5); have HS5 := Lib.hid hs0; obtain ⟨⟨r1, r2⟩, q1, q2⟩ := HF5.out.two; clear hb5 hs0))
  all_goals go_wp2
  all_goals refine bodyPost_ret (v := .agg #[.bool na, .slice p5 (dgs (x + y)).length c5]) ?_ rfl ⟨p5, c5, rfl, HS5.out.far2 HF5.out _ _, below_set2 HB5.out (by omega) _ _⟩
  all_goals rw [results_cell1 rfl]
  all_goals go_simp
set_option maxRecDepth 100000 in
set_option maxHeartbeats 4000000 in
theorem sum_less0 (na nb : Bool) (hne : na ≠ nb) (p q : Option Addr) (c d x y : Nat) (hlt : x < y) (w : World) (hx : (dgs x).length ≤ 500) (hy : (dgs y).length ≤ 500) (ra : SlI w p c (dgs x)) (rb : SlI w q d (dgs y)) :
    Calls Tryd.prog 40 #[.agg #[.bool na, .slice p (dgs x).length c], .agg #[.bool nb, .slice q (dgs y).length d]] w (NumP w nb (y - x)) := by
  have HC0 := fun W (h : Below w.heap.size w W) => minus_any q p d c (dgs y) (dgs x) W hy hx (dgs_ok9 y) (dgs_ok9 x) (by rw [val_dgs, val_dgs]; omega) (rb.1.below h) (ra.1.below h)
  rw [val_dgs, val_dgs] at HC0
  have HL0 := fun W (h : Below w.heap.size w W) => rless_any p q c d (dgs x) (dgs y) W (by omega) (by omega) (dgs_ok9 x) (dgs_ok9 y) (ra.1.below h) (rb.1.below h)
  rw [val_dgs, val_dgs, decide_eq_true (by omega)] at HL0
  have HL := Lib.hid HL0
  have hnb : (na == nb) = false := by simpa using hne
  clear HL0 hne hlt
  have HC := Lib.hid HC0
  unfold RnPost at HC
  clear HC0 ra rb hx hy
  generalize (dgs x).length = lx at *
  generalize (dgs y).length = ly at *
  obtain ⟨W0, hW0⟩ : ∃ W0, W0 = ((w.alloc (.cells #[.bool na, .slice p lx c] 52)).alloc (.cells #[.bool nb, .slice q ly d] 52)).alloc (.cells #[.bool false, .slice none 0 0] 52) := ⟨_, rfl⟩
  have hb0 : Below w.heap.size w W0 := by rw [hW0]; exact below3 _ _ _ _
  have hD : Bx W0 w.heap.size 52 #[.bool na, .slice p lx c] := by
    rw [hW0]
    exact ((Bx.new w _ _).below (below_new _ _)).below (below_new _ _)
  have hE : Bx W0 (w.heap.size + 1) 52 #[.bool nb, .slice q ly d] := by
    rw [hW0]
    exact (second_new w _ _ _ _ rfl).below (below_new _ _)
  have hF : Bx W0 (w.heap.size + 1 + 1) 52 #[.bool false, .slice none 0 0] := by
    rw [hW0]
    exact third_new w _ _ _ _ _ rfl
  have HB0 := Lib.hid hb0
  have HD := Lib.hid hD
  have HE := Lib.hid hE
  have HF := Lib.hid hF
  obtain ⟨⟨d1, d2⟩, _⟩ := hD.two
  obtain ⟨⟨e1, e2⟩, _⟩ := hE.two
  clear hb0 hD hE hF
  have H0 : Hid (Aq4 w.heap.size (w.heap.size + 1) (.bool na) (.slice p lx c) (.bool nb) (.slice q ly d) W0.drew) := Lib.hid ((Aq4.of HD.out HE.out).next (Below.refl _ _).drew)
  have HBd : Hid (Below w.heap.size w W0.drew) := Lib.hid HB0.out.drew
  have HFd := Lib.hid (HF.out.below ((Below.refl W0.heap.size W0).drew))
  have hsz : W0.drew.heap.size = W0.heap.size := rfl
  go_enter Tryd.func40, Tryd.ntmps40
  go_wp2_with fail
  rw [← hW0]
  clear hW0
  go_wp2_with fail
  refine (HL.out W0 HB0.out).mono ?_
  rintro e w1 ⟨rfl, rfl⟩
  go_wp2_with fail
  go_region_held3 (fun W => W.cell? ⟨w.heap.size, 0, none⟩ = some (.bool na) ∧ W.cell? ⟨w.heap.size, 1, none⟩ = some (.slice p lx c) ∧ W.cell? ⟨w.heap.size + 1, 0, none⟩ = some (.bool nb) ∧ W.cell? ⟨w.heap.size + 1, 1, none⟩ = some (.slice q ly d))
    (first | assumption | exact H0.out | exact Aq4.st (by assumption) (by omega) (by omega))
    (first
      | (go_at_call 66; refine (HC.out _ HBd.out).mono ?_; rintro e w5 ⟨p5, c5, rfl, hs0, hb5⟩; have hs5 := Aq4.next H0.out hb5; have HB5 := Lib.hid (bel0 HBd.out hb5); have HF5 := Lib.hid (HFd.out.below hb5); have HS5 := Lib.hid hs0; obtain ⟨⟨r1, r2⟩, q1, q2⟩ := HF5.out.two; clear hb5 hs0))
  all_goals go_wp2
  all_goals refine bodyPost_ret (v := .agg #[.bool nb, .slice p5 (dgs (y - x)).length c5]) ?_ rfl ⟨p5, c5, rfl, HS5.out.far2 HF5.out _ _, below_set2 HB5.out (by omega) _ _⟩
  all_goals rw [results_cell1 rfl]
  all_goals go_simp
set_option maxRecDepth 100000 in
set_option maxHeartbeats 4000000 in
theorem sum_more0 (na nb : Bool) (hne : na ≠ nb) (p q : Option Addr) (c d x y : Nat) (hlt : ¬ x < y) (w : World) (hx : (dgs x).length ≤ 500) (hy : (dgs y).length ≤ 500) (ra : SlI w p c (dgs x)) (rb : SlI w q d (dgs y)) :
    Calls Tryd.prog 40 #[.agg #[.bool na, .slice p (dgs x).length c], .agg #[.bool nb, .slice q (dgs y).length d]] w (NumP w na (x - y)) := by
  have HC0 := fun W (h : Below w.heap.size w W) => minus_any p q c d (dgs x) (dgs y) W hx hy (dgs_ok9 x) (dgs_ok9 y) (by rw [val_dgs, val_dgs]; omega) (ra.1.below h) (rb.1.below h)
  rw [val_dgs, val_dgs] at HC0
  have HL0 := fun W (h : Below w.heap.size w W) => rless_any p q c d (dgs x) (dgs y) W (by omega) (by omega) (dgs_ok9 x) (dgs_ok9 y) (ra.1.below h) (rb.1.below h)
  rw [val_dgs, val_dgs, decide_eq_false (by omega)] at HL0
  have HL := Lib.hid HL0
  have hnb : (na == nb) = false := by simpa using hne
  clear HL0 hne hlt
  have HC := Lib.hid HC0
  unfold RnPost at HC
  clear HC0 ra rb hx hy
  generalize (dgs x).length = lx at *
  generalize (dgs y).length = ly at *
  obtain ⟨W0, hW0⟩ : ∃ W0, W0 = ((w.alloc (.cells #[.bool na, .slice p lx c] 52)).alloc (.cells #[.bool nb, .slice q ly d] 52)).alloc (.cells #[.bool false, .slice none 0 0] 52) := ⟨_, rfl⟩
  have hb0 : Below w.heap.size w W0 := by rw [hW0]; exact below3 _ _ _ _
  have hD : Bx W0 w.heap.size 52 #[.bool na, .slice p lx c] := by
    rw [hW0]
    exact ((Bx.new w _ _).below (below_new _ _)).below (below_new _ _)
  have hE : Bx W0 (w.heap.size + 1) 52 #[.bool nb, .slice q ly d] := by
    rw [hW0]
    exact (second_new w _ _ _ _ rfl).below (below_new _ _)
  have hF : Bx W0 (w.heap.size + 1 + 1) 52 #[.bool false, .slice none 0 0] := by
    rw [hW0]
    exact third_new w _ _ _ _ _ rfl
  have HB0 := Lib.hid hb0
  have HD := Lib.hid hD
  have HE := Lib.hid hE
  have HF := Lib.hid hF
  obtain ⟨⟨d1, d2⟩, _⟩ := hD.two
  obtain ⟨⟨e1, e2⟩, _⟩ := hE.two
  clear hb0 hD hE hF
  have H0 : Hid (Aq4 w.heap.size (w.heap.size + 1) (.bool na) (.slice p lx c) (.bool nb) (.slice q ly d) W0.drew) := Lib.hid ((Aq4.of HD.out HE.out).next (Below.refl _ _).drew)
  have HBd : Hid (Below w.heap.size w W0.drew) := Lib.hid HB0.out.drew
  have HFd := Lib.hid (HF.out.below ((Below.refl W0.heap.size W0).drew))
  have hsz : W0.drew.heap.size = W0.heap.size := rfl
  go_enter Tryd.func40, Tryd.ntmps40
  go_wp2_with fail
  rw [← hW0]
  clear hW0
  go_wp2_with fail
  refine (HL.out W0 HB0.out).mono ?_
  rintro e w1 ⟨rfl, rfl⟩
  go_wp2_with fail
  go_region_held3 (fun W => W.cell? ⟨w.heap.size, 0, none⟩ = some (.bool na) ∧ W.cell? ⟨w.heap.size, 1, none⟩ = some (.slice p lx c) ∧ W.cell? ⟨w.heap.size + 1, 0, none⟩ = some (.bool nb) ∧ W.cell? ⟨w.heap.size + 1, 1, none⟩ = some (.slice q ly d))
    (first | assumption | exact H0.out | exact Aq4.st (by assumption) (by omega) (by omega))
    (first
      | (go_at_call 66; refine (HC.out _ HBd.out).mono ?_; rintro e w5 ⟨p5, c5, rfl, hs0, hb5⟩; have hs5 := Aq4.next H0.out hb5; have HB5 := Lib.hid (bel0 HBd.out hb5); have HF5 := Lib.hid (HFd.out.below hb5); have HS5 := Lib.hid hs0; obtain ⟨⟨r1, r2⟩, q1, q2⟩ := HF5.out.two; clear hb5 hs0))
  all_goals go_wp2
  all_goals refine bodyPost_ret (v := .agg #[.bool na, .slice p5 (dgs (x - y)).length c5]) ?_ rfl ⟨p5, c5, rfl, HS5.out.far2 HF5.out _ _, below_set2 HB5.out (by omega) _ _⟩
  all_goals rw [results_cell1 rfl]
  all_goals go_simp
theorem rsum_any (na nb : Bool) (p q : Option Addr) (c d x y : Nat) (w : World) (hx : (dgs x).length ≤ 500) (hy : (dgs y).length ≤ 500) (ra : SlI w p c (dgs x)) (rb : SlI w q d (dgs y)) :
    Calls Tryd.prog 40 #[.agg #[.bool na, .slice p (dgs x).length c], .agg #[.bool nb, .slice q (dgs y).length d]] w (NumP w (sumS na x nb y).1 (sumS na x nb y).2) := by
  unfold sumS
  by_cases h : na = nb
  · subst h
    rw [if_pos rfl]
    exact sum_same0 na p q c d x y w hx hy ra rb
  · rw [if_neg h]
    by_cases hlt : x < y
    · rw [if_pos hlt]
      exact sum_less0 na nb h p q c d x y hlt w hx hy ra rb
    · rw [if_neg hlt]
      exact sum_more0 na nb h p q c d x y hlt w hx hy ra rb
theorem size4_any (n : Int) (w : World) : Calls Tryd.prog 44 #[.int .i64 n] w fun e w' => e = .returned (.bool (decide (1 ≤ n ∧ n ≤ 16))) ∧ w = w' := by
  by_cases h1 : 1 ≤ n
  · by_cases h2 : n ≤ 16
    · go_enter Tryd.func44, Tryd.ntmps44
      go_wp2
      go_ret
      exact ⟨by simp [h1, h2], rfl⟩
    · go_enter Tryd.func44, Tryd.ntmps44
      go_wp2
      go_ret
      exact ⟨by simp [h2], rfl⟩
  · go_enter Tryd.func44, Tryd.ntmps44
    go_wp2
    go_ret
    exact ⟨by rw [decide_eq_false (by omega)]; simp, rfl⟩
theorem len_zero (n : Nat) : (dgs n).length = 0 ↔ n = 0 := by rw [List.length_eq_zero_iff, dgs_nil]
set_option maxRecDepth 100000 in
theorem code_any (neg : Bool) (p : Option Addr) (c n : Nat) (w : World) :
    Calls Tryd.prog 47 #[.agg #[.bool neg, .slice p (dgs n).length c]] w (New w (.int .i64 (condN neg n : Int))) := by
  have HB := Lib.hid (below_new w (.cells #[.bool neg, .slice p (dgs n).length c] 52))
  obtain ⟨⟨d1, d2⟩, _⟩ := (Bx.new w 52 #[.bool neg, .slice p (dgs n).length c]).two
  by_cases h : n = 0
  · have hv : condN neg n = 0 := by unfold condN; rw [if_pos h]
    rw [(len_zero n).2 h] at HB d1 d2 ⊢
    have HV := Lib.hid hv
    clear hv h
    go_enter Tryd.func47, Tryd.ntmps47
    go_wp2
    go_ret
    exact ⟨by rw [HV.out]; rfl, HB.out⟩
  · have hl : (dgs n).length ≠ 0 := fun e => h ((len_zero n).1 e)
    have hv : condN neg n = if neg then 1 else 2 := by unfold condN; rw [if_neg h]
    have HV := Lib.hid hv
    clear hv h
    generalize (dgs n).length = ln at *
    cases neg
    · go_enter Tryd.func47, Tryd.ntmps47
      go_wp2
      go_ret
      exact ⟨by rw [HV.out]; rfl, HB.out⟩
    · go_enter Tryd.func47, Tryd.ntmps47
      go_wp2
      go_ret
      exact ⟨by rw [HV.out]; rfl, HB.out⟩

end E
end Go.Proofs.YtlpekknhaaddcaaDoor
namespace Go.Proofs.YtlpekknhaaddcaaDoor
open Go.RowKit
set_option linter.unusedVariables false
namespace E

/-- The digits of a field, from left to right. -/
def rlD (v N : Nat) : List (Fin 16) := (List.range N).map fun t => dj v (N - 1 - t)
theorem rlD_len (v N : Nat) : (rlD v N).length = N := by simp [rlD]
theorem rlD_getD (v N t : Nat) (h : t < N) : (rlD v N).getD t 0 = dj v (N - 1 - t) := by simp [rlD, List.getD_eq_getElem?_getD, h]
theorem fld_bytL (neg : Bool) (v n : Nat) (h1 : 1 ≤ n) : bytL (rlD v (2 * n - 1) ++ [sgn neg]) n = fldL neg v n := by
  refine nib_ext (by rw [bytL_len, fldL_len]) fun p hp => ?_
  rw [bytL_len] at hp
  rw [nib_bytL _ _ _ hp, nib_fld _ _ _ _ h1 hp, getD_app, rlD_len]
  by_cases h0 : p = 0
  · subst h0
    rw [if_neg (by omega), if_pos (by omega), if_pos rfl]
  · rw [if_pos (by omega), if_neg h0, rlD_getD _ _ _ (by omega)]
    congr 1
    omega
theorem rdi_own {w : World} {base k c : Nat} {p : Option Addr} {L : List (Fin 16)} {d : Fin 16} (h : w.ownsRow base 3 1 (.slice p k c) k (bsI L ++ [.int .i64 (d.val : Int)])) (hk : k = (L ++ [d]).length) : RdI w p (L ++ [d]) := by
  rw [← bsI_snoc] at h
  subst hk
  obtain ⟨q, c2, he, hr, _⟩ := HoldI.rd (show HoldI w base (.slice p (L ++ [d]).length c) (L ++ [d]) from h)
  injection he with e1 _ _
  rw [e1]
  exact hr
theorem ApS.app1 {w0 wr w' : World} {o : Obj} {n : Nat} {sv : Value} {t : TypeId} {xs : List Value} (h : ApS w0 wr) (hown : wr.ownsRow w0.heap.size t 1 sv n xs) (hg : ((wr.alloc o).drew).grownBy w' sv.ownBlock) : ApS w0 w' :=
  ((Below.alloc h (Below.size h) o).drew).grown hg (by have := Below.size h; simp; omega) (fun r hr => (hown.lt r hr).1)
def FnPost (w : World) (neg : Bool) (v n : Nat) (e : Ending) (w' : World) : Prop := ∃ sv, e = .returned (.tuple #[sv, .bool (ovB v n)]) ∧ SvB w' sv (fldL neg v n) ∧ Below w.heap.size w w'
set_option maxRecDepth 100000 in
set_option maxHeartbeats 4000000 in
theorem rfield_core (neg : Bool) (p : Option Addr) (c v n lv : Nat) (d : Fin 16) (F : List UInt8) (ov : Bool) (w : World) (h1 : 1 ≤ n) (h2 : n ≤ 16) (hd : d = sgn neg) (HLV : Hid (lv = (dgs v).length)) (HOV : Hid (ov = decide (2 * (n : Int) - 1 < (lv : Int))))
    (HDG : Hid (∀ i : Nat, i ≤ 100000 → ∀ W, Below w.heap.size w W → Calls Tryd.prog 58 #[.slice p lv c, .int .i64 (i : Int)] W fun e w' => e = .returned (.int .i64 ((dj v i).val : Int)) ∧ W = w'))
    (HBY : Hid (∀ p3 c3 W, RdI W p3 (rlD v (2 * n - 1) ++ [d]) → Calls Tryd.prog 74 #[.slice p3 (2 * n - 1 + 1) c3] W (RuPost W F))) :
    Calls Tryd.prog 53 #[.agg #[.bool neg, .slice p lv c], .int .i64 (n : Int)] w (fun e w' => ∃ sv, e = .returned (.tuple #[sv, .bool ov]) ∧ Hold w' w.heap.size sv F ∧ Below w.heap.size w w') := by
  obtain ⟨i0, hi, hz0, hz1, hz2⟩ := info_parts info3
  obtain ⟨W1, hW1⟩ : ∃ W1, W1 = w.alloc (.cells #[.bool neg, .slice p lv c] 52) := ⟨_, rfl⟩
  have hb0 : Below w.heap.size w W1 := by rw [hW1]; exact below_new _ _
  have hD : Bx W1 w.heap.size 52 #[.bool neg, .slice p lv c] := by rw [hW1]; exact Bx.new w _ _
  have HB0 := Lib.hid hb0
  have HD := Lib.hid hD
  obtain ⟨N, hN⟩ : ∃ N, N = 2 * n - 1 := ⟨_, rfl⟩
  have HRL := Lib.hid (rlD_len v N)
  have HRG := Lib.hid (rlD_getD v N)
  have HTK := Lib.hid (fun t (h : t < N) => take_getD (l := rlD v N) (k := t) (by rw [rlD_len]; exact h))
  have hN2 : 2 * (n : Int) - 2 = (N : Int) - 1 := by omega
  have hN3 : 2 * (n : Int) - 1 = (N : Int) := by omega
  have hNb : N ≤ 31 := by omega
  have hwr : IntKind.i64.wrap (IntKind.i64.wrap (2 * (n : Int)) - 1) = 2 * (n : Int) - 1 := by
    rw [show IntKind.i64.wrap (2 * (n : Int)) = 2 * (n : Int) by rw [IntKind.wrap_i64]; omega, IntKind.wrap_i64]
    omega
  have HOV2 : Hid (ov = decide (IntKind.i64.wrap (IntKind.i64.wrap (2 * (n : Int)) - 1) < (lv : Int))) := Lib.hid (by rw [hwr]; exact HOV.out)
  clear hwr
  rw [← hN] at HBY
  rw [hN3] at HOV
  have HN := Lib.hid hN
  generalize rlD v N = R at *
  clear hb0 hD hN
  go_enter Tryd.func53, Tryd.ntmps53
  go_wp2
  rw [← hW1]
  clear hW1
  go_loopw [6, 7] (fun sv i wr => Below W1.heap.size W1 wr ∧ ∃ t k : Nat, t + k = N ∧ i = .int .i64 ((k : Int) - 1) ∧ wr.ownsRow W1.heap.size 3 1 sv t (bsI (R.take t))) (fun _ i _ => (intOf i + 1).toNat)
  case atStart => exact ⟨Below.refl _ _, 0, N, by omega, rfl, World.ownsRow_nil _ _ _ _⟩
  case round =>
    obtain ⟨hbw, t, k, htk, rfl, hown⟩ := hrel
    have HB := Lib.hid hbw
    have HO := Lib.hid hown
    have HBx := Lib.hid (HD.out.below hbw)
    obtain ⟨⟨d1, d2⟩, _⟩ := (HD.out.below hbw).two
    clear hbw hown
    cases k with
    | succ k =>
      have hk1 : (((k + 1 : Nat) : Int) - 1) = (k : Int) := by omega
      have HDG1 := Lib.hid (HDG.out k (by omega) wr (bel0 HB0.out HB.out))
      have hdk : R.getD t 0 = dj v k := by
        rw [HRG.out t (by omega)]
        congr 1
        omega
      have HDK := Lib.hid hdk
      have HT := Lib.hid (HTK.out t (by omega))
      have HMS : Hid (t + 1 + k = N) := Lib.hid (by omega)
      have HTT : Hid (t ≤ 31) := Lib.hid (by omega)
      have hk31 : k ≤ 31 := by omega
      rw [hk1]
      clear hdk htk hk1
      generalize dj v k = dd at *
      go_wp2_with fail
      refine (HDG1.out).mono ?_
      rintro e w' ⟨rfl, rfl⟩
      go_wp2_with (at_builtin; refine wpList_append_own _ rfl (.tmp 16) (.tmp 21) 50 rfl W1.heap.size 3 i0 (.int .i64 0) 1 8 Tryd.underlying50 hi hz0 hz1 hz2 rfl (by decide) _ t _ rfl (HO.out.alloc _) ⟨wr.heap.size, 0, none⟩ 1 1 [_] rfl rfl (cellNew _ _ _) (by intro u hu; simp at hu; subst hu; rfl) (by unfold maxLen; have := HTT.out; omega) (by have := HTT.out; omega) (by have := HB.out.size; simp; omega) ?_)
      intro v' w3 hown' hgrow _
      have hb1 := (HB.out.alloc HB.out.size _).grown hgrow (by have := HB.out.size; simp; omega) (fun r hr => (HO.out.lt r hr).1)
      clear hgrow
      go_wp2
      go_roundw
      case rel => exact ⟨hb1, t + 1, k, HMS.out, by go_num, by rw [HT.out, HDK.out, bsI_snoc]; exact hown'⟩
      case measure => simp [intOf]
    | zero =>
      obtain rfl : t = N := by omega
      have hown := HO.out
      rw [List.take_of_length_le (by rw [HRL.out]; exact Nat.le_refl _)] at hown
      have HW := Lib.hid hown
      have H0 : Hid (((fun W : World => W.cell? ⟨w.heap.size, 1, none⟩ = some (.slice p lv c) ∧ ApS W1 W) wr.drew)) := Lib.hid ⟨keepC d2 (Below.refl _ _).drew, HB.out.drew⟩
      have HD2 := Lib.hid HD.out.two.1.2
      have HLT := Lib.hid HD.out.lt
      have hdv := d.isLt
      clear hown HO htk
      cases neg
      · have hsg : ((sgn false).val : Int) = 12 := by decide
        subst hd
        rw [show sgn false = (12 : Fin 16) by decide] at HBY hdv
        go_wp2
        go_region_held3 (fun W => W.cell? ⟨w.heap.size, 1, none⟩ = some (.slice p lv c) ∧ ApS W1 W)
          (first | exact H0.out | exact ApS.mk HLT.out HD2.out (by assumption) | exact ApS.new HLT.out HD2.out (by assumption))
          (first
            | ((refine step_append_lies _ (by rfl) (.tmp 25) (.tmp 27) 50 (by rfl) W1.heap.size 3 i0 (.int .i64 0) 1 8 Tryd.underlying50 hi hz0 hz1 hz2 rfl (by decide) _ t (bsI R) (by rfl) (own_kept HW.out ((below_new wr _).drew)) ⟨wr.heap.size, 0, none⟩ 1 1 _ (by rfl) (by rfl) (World.news_of_block (heap_alloc_new _ _)) (by intro u hu; simp at hu; subst hu; rfl) (by omega) (by unfold maxLen; omega) (by omega) (by have := HB.out.size; simp; omega) _ rfl ?_); intro g cap w3 hown3 hgrow hat hlt1; have hb3 : ApS W1 w3 := ApS.app1 HB.out HW.out hgrow; clear hat hlt1 hgrow)
            | (go_at_call 74; refine (HBY.out _ _ _ (rdi_own (d := (12 : Fin 16)) hown3 (by rw [List.length_append, HRL.out, List.length_singleton]))).mono ?_; rintro e w4 ⟨sv4, rfl, ho4, hb4⟩; have hs4 : ApS W1 w4 := bel_app hb3 hb4))
        all_goals have HF : Hid (Hold w4 w.heap.size sv4 F ∧ Below w.heap.size w w4) := Lib.hid ⟨Hold.base ho4 (Nat.le_trans HB0.out.size (Below.size hb3)), bel0 HB0.out hs4⟩
        all_goals clear ho4 hb4 hs4 hb3 hown3
        all_goals go_wp2
        all_goals go_ret2
        all_goals exact ⟨_, by rw [HOV2.out]; rfl, HF.out.1, HF.out.2⟩
      · subst hd
        rw [show sgn true = (13 : Fin 16) by decide] at HBY hdv
        go_wp2
        go_region_held3 (fun W => W.cell? ⟨w.heap.size, 1, none⟩ = some (.slice p lv c) ∧ ApS W1 W)
          (first | exact H0.out | exact ApS.mk HLT.out HD2.out (by assumption) | exact ApS.new HLT.out HD2.out (by assumption))
          (first
            | ((refine step_append_lies _ (by rfl) (.tmp 25) (.tmp 27) 50 (by rfl) W1.heap.size 3 i0 (.int .i64 0) 1 8 Tryd.underlying50 hi hz0 hz1 hz2 rfl (by decide) _ t (bsI R) (by rfl) (own_kept HW.out ((below_new wr _).drew)) ⟨wr.heap.size, 0, none⟩ 1 1 _ (by rfl) (by rfl) (World.news_of_block (heap_alloc_new _ _)) (by intro u hu; simp at hu; subst hu; rfl) (by omega) (by unfold maxLen; omega) (by omega) (by have := HB.out.size; simp; omega) _ rfl ?_); intro g cap w3 hown3 hgrow hat hlt1; have hb3 : ApS W1 w3 := ApS.app1 HB.out HW.out hgrow; clear hat hlt1 hgrow)
            | (go_at_call 74; refine (HBY.out _ _ _ (rdi_own (d := (13 : Fin 16)) hown3 (by rw [List.length_append, HRL.out, List.length_singleton]))).mono ?_; rintro e w4 ⟨sv4, rfl, ho4, hb4⟩; have hs4 : ApS W1 w4 := bel_app hb3 hb4))
        all_goals have HF : Hid (Hold w4 w.heap.size sv4 F ∧ Below w.heap.size w w4) := Lib.hid ⟨Hold.base ho4 (Nat.le_trans HB0.out.size (Below.size hb3)), bel0 HB0.out hs4⟩
        all_goals clear ho4 hb4 hs4 hb3 hown3
        all_goals go_wp2
        all_goals go_ret2
        all_goals exact ⟨_, by rw [HOV2.out]; rfl, HF.out.1, HF.out.2⟩
def FhPost (w : World) (neg : Bool) (v n : Nat) (e : Ending) (w' : World) : Prop := ∃ sv, e = .returned (.tuple #[sv, .bool (ovB v n)]) ∧ Hold w' w.heap.size sv (fldL neg v n) ∧ Below w.heap.size w w'
theorem rfield_hold (neg : Bool) (p : Option Addr) (c v n : Nat) (w : World) (h1 : 1 ≤ n) (h2 : n ≤ 16) (hv : (dgs v).length ≤ 1000) (hs : SlI w p c (dgs v)) :
    Calls Tryd.prog 53 #[.agg #[.bool neg, .slice p (dgs v).length c], .int .i64 (n : Int)] w (FhPost w neg v n) := by
  refine rfield_core neg p c v n (dgs v).length (sgn neg) (fldL neg v n) (ovB v n) w h1 h2 rfl (Lib.hid rfl) (Lib.hid ?_) (Lib.hid fun i hi W hW => ?_) (Lib.hid fun p3 c3 W h => ?_)
  · unfold ovB
    refine decide_eq_decide.2 ?_
    have := dgs_len_le v (2 * n - 1)
    omega
  · have h := digit_any p c i (dgs v) W hv hi (hs.1.below hW)
    rw [dgs_getD] at h
    exact h
  · have hlen : (rlD v (2 * n - 1) ++ [sgn neg]).length = 2 * n := by rw [List.length_append, rlD_len, List.length_singleton]; omega
    have := Bytes_any p3 c3 n _ W hlen (by omega) h
    rw [hlen, fld_bytL _ _ _ h1] at this
    rw [show 2 * n - 1 + 1 = 2 * n by omega]
    exact this
theorem rfield_any (neg : Bool) (p : Option Addr) (c v n : Nat) (w : World) (h1 : 1 ≤ n) (h2 : n ≤ 16) (hv : (dgs v).length ≤ 1000) (hs : SlI w p c (dgs v)) :
    Calls Tryd.prog 53 #[.agg #[.bool neg, .slice p (dgs v).length c], .int .i64 (n : Int)] w (FnPost w neg v n) :=
  (rfield_hold neg p c v n w h1 h2 hv hs).mono fun e w' ⟨sv, h1, h2, h3⟩ => ⟨sv, h1, h2.svb, h3⟩

end E
end Go.Proofs.YtlpekknhaaddcaaDoor

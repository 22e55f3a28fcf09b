/- The document's own plus and minus of magnitudes: their contracts. -/
import Derived.Test.YtlpekknhaaddcaaDoorDcRef
namespace Go.Proofs.YtlpekknhaaddcaaDoor
open Go.RowKit
set_option linter.unusedVariables false
namespace E

/-- A list of digits is returned: those of n, without zeros at the end. -/
def RnPost (w : World) (n : Nat) (e : Ending) (w' : World) : Prop := ∃ p c, e = .returned (.slice p (dgs n).length c) ∧ SlI w' p c (dgs n) ∧ Below w.heap.size w w'
theorem TrPost.rn {f : Nat} {args : Array Value} {w : World} {p : Option Addr} {c : Nat} {l : List (Fin 16)} (hs : SlI w p c l) (h : Calls Tryd.prog f args w (TrPost w p c l)) : Calls Tryd.prog f args w (RnPost w (val l)) :=
  h.mono fun e w' ⟨k, hk, he, hd, hb⟩ => by
    have hl : (dgs (val l)).length = k := by rw [← hd, List.length_take]; omega
    refine ⟨p, c, by rw [hl]; exact he, ?_, hb⟩
    rw [← hd]
    exact (hs.take k).below hb
set_option maxRecDepth 100000 in
set_option maxHeartbeats 1000000 in
theorem plus_any (p q : Option Addr) (c d : Nat) (a b : List (Fin 16)) (w : World) (ha : a.length ≤ 500) (hb : b.length ≤ 500) (oa : ok9 a) (ob : ok9 b) (ra : RdI w p a) (rb : RdI w q b) :
    Calls Tryd.prog 59 #[.slice p a.length c, .slice q b.length d] w (RnPost w (val a + val b)) := by
  obtain ⟨i0, hi, hz0, hz1, hz2⟩ := info_parts info3
  have HA := Lib.hid (fun (i : Nat) (hi : i ≤ 100000) W (h : Below w.heap.size w W) => digit_any p c i a W (by omega) hi (ra.below h))
  have HB := Lib.hid (fun (i : Nat) (hi : i ≤ 100000) W (h : Below w.heap.size w W) => digit_any q d i b W (by omega) hi (rb.below h))
  have HOA := Lib.hid oa
  have HOB := Lib.hid ob
  have HLA : Hid (∀ t, a.length ≤ t → a.getD t 0 = 0 ∧ a.take t = a) := Lib.hid (fun t h => ⟨getD_none a t h, List.take_of_length_le h⟩)
  have HLB : Hid (∀ t, b.length ≤ t → b.getD t 0 = 0 ∧ b.take t = b) := Lib.hid (fun t h => ⟨getD_none b t h, List.take_of_length_le h⟩)
  clear ra rb oa ob
  generalize a.length = la at *
  generalize b.length = lb at *
  go_enter Tryd.func59, Tryd.ntmps59
  go_wp2
  go_loopw [5, 6, 7] (fun sv cv i wr => Below w.heap.size w wr ∧ ∃ t cy L, i = .int .i64 ((t : Nat) : Int) ∧ cv = .int .i64 ((cy : Nat) : Int) ∧ cy ≤ 1 ∧ t ≤ max la lb + 1 ∧ (max la lb < t → cy = 0) ∧ ok9 L ∧ L.length = t ∧ val (a.take t) + val (b.take t) = val L + 10 ^ t * cy ∧ wr.ownsRow w.heap.size 3 1 sv t (bsI L)) (fun _ _ i _ => (max la lb + 2 - (intOf i).toNat))
  case atStart => exact ⟨Below.refl _ _, 0, 0, [], rfl, rfl, by omega, by omega, fun _ => rfl, ok9_nil, rfl, rfl, World.ownsRow_nil _ _ _ _⟩
  case round =>
    obtain ⟨hbw, t, cy, L, rfl, rfl, hcy, ht, hend, ho, hL, hv, hown⟩ := hrel
    have HBW := Lib.hid hbw
    have HO := Lib.hid ho
    have HL := Lib.hid hL
    have HV := Lib.hid hv
    have HW := Lib.hid hown
    clear hbw ho hL hv hown
    by_cases hla : t < la
    · have htl : t ≤ max la lb := by omega
      have HA1 := Lib.hid (HA.out t (by omega) wr HBW.out)
      have HB1 := Lib.hid (HB.out t (by omega) wr HBW.out)
      have da9 := ok9_getD HOA.out t
      have db9 := ok9_getD HOB.out t
      have hva := val_take_succ HOA.out t
      have hvb := val_take_succ HOB.out t
      have HVA := Lib.hid hva
      have HVB := Lib.hid hvb
      clear hva hvb
      have HX0 : Hid (la ≤ t → (a.getD t 0).val = 0) := Lib.hid (fun h => by rw [(HLA.out t h).1]; rfl)
      have HY0 : Hid (lb ≤ t → (b.getD t 0).val = 0) := Lib.hid (fun h => by rw [(HLB.out t h).1]; rfl)
      generalize a.getD t 0 = x at HA1 HVA da9 HX0
      generalize b.getD t 0 = y at HB1 HVB db9 HY0
      obtain ⟨s, hs⟩ : ∃ s, s = x.val + y.val + cy := ⟨_, rfl⟩
      have hs19 : s ≤ 19 := by omega
      have hsum : (x.val : Int) + (y.val : Int) + (cy : Int) = (s : Int) := by omega
      have HSS := Lib.hid hs
      clear hs
      go_wp2_with fail
      refine (HA1.out).mono ?_
      rintro e w' ⟨rfl, rfl⟩
      go_wp2_with fail
      refine (HB1.out).mono ?_
      rintro e w' ⟨rfl, rfl⟩
      go_wp2_with (at_builtin; refine wpList_append_own _ rfl _ _ 50 rfl w.heap.size 3 i0 (.int .i64 0) 1 8 Tryd.underlying50 hi hz0 hz1 hz2 rfl (by decide) _ t _ rfl (HW.out.alloc _) ⟨wr.heap.size, 0, none⟩ 1 1 [_] rfl rfl (cellNew _ _ _) (by intro u hu; simp at hu; subst hu; rfl) (by unfold maxLen; omega) (by omega) (by have := HBW.out.size; simp; omega) ?_)
      intro v' w3 hown' hgrow _
      have hb1 := (HBW.out.alloc HBW.out.size _).grown hgrow (by have := HBW.out.size; simp; omega) (fun r hr => (HW.out.lt r hr).1)
      clear hgrow
      have hval : val (a.take (t + 1)) + val (b.take (t + 1)) = val (L ++ [⟨s % 10, by omega⟩]) + 10 ^ (t + 1) * (s / 10) := by
        rw [HVA.out, HVB.out, val_snoc, HL.out, Nat.pow_succ]
        exact plus_step HV.out HSS.out
      have HVL := Lib.hid hval
      have hend2 : max la lb < t + 1 → s / 10 = 0 := fun h => by
        have h1 := HX0.out (by omega)
        have h2 := HY0.out (by omega)
        have h3 := HSS.out
        omega
      have HE2 := Lib.hid hend2
      clear hval hend2
      go_wp2
      go_roundw
      case rel => exact ⟨hb1, t + 1, s / 10, L ++ [⟨s % 10, by omega⟩], by go_num, by simp, by omega, by omega, HE2.out, ok9_app.2 ⟨HO.out, ok9_cons.2 ⟨by show s % 10 ≤ 9; omega, ok9_nil⟩⟩, by rw [List.length_append, HL.out]; rfl, HVL.out, by rw [bsI_snoc]; exact hown'⟩
      case measure => simp [intOf]; omega
    · by_cases hlb : t < lb
      · have htl : t ≤ max la lb := by omega
        have HA1 := Lib.hid (HA.out t (by omega) wr HBW.out)
        have HB1 := Lib.hid (HB.out t (by omega) wr HBW.out)
        have da9 := ok9_getD HOA.out t
        have db9 := ok9_getD HOB.out t
        have hva := val_take_succ HOA.out t
        have hvb := val_take_succ HOB.out t
        have HVA := Lib.hid hva
        have HVB := Lib.hid hvb
        clear hva hvb
        have HX0 : Hid (la ≤ t → (a.getD t 0).val = 0) := Lib.hid (fun h => by rw [(HLA.out t h).1]; rfl)
        have HY0 : Hid (lb ≤ t → (b.getD t 0).val = 0) := Lib.hid (fun h => by rw [(HLB.out t h).1]; rfl)
        generalize a.getD t 0 = x at HA1 HVA da9 HX0
        generalize b.getD t 0 = y at HB1 HVB db9 HY0
        obtain ⟨s, hs⟩ : ∃ s, s = x.val + y.val + cy := ⟨_, rfl⟩
        have hs19 : s ≤ 19 := by omega
        have hsum : (x.val : Int) + (y.val : Int) + (cy : Int) = (s : Int) := by omega
        have HSS := Lib.hid hs
        clear hs
        go_wp2_with fail
        refine (HA1.out).mono ?_
        rintro e w' ⟨rfl, rfl⟩
        go_wp2_with fail
        refine (HB1.out).mono ?_
        rintro e w' ⟨rfl, rfl⟩
        go_wp2_with (at_builtin; refine wpList_append_own _ rfl _ _ 50 rfl w.heap.size 3 i0 (.int .i64 0) 1 8 Tryd.underlying50 hi hz0 hz1 hz2 rfl (by decide) _ t _ rfl (HW.out.alloc _) ⟨wr.heap.size, 0, none⟩ 1 1 [_] rfl rfl (cellNew _ _ _) (by intro u hu; simp at hu; subst hu; rfl) (by unfold maxLen; omega) (by omega) (by have := HBW.out.size; simp; omega) ?_)
        intro v' w3 hown' hgrow _
        have hb1 := (HBW.out.alloc HBW.out.size _).grown hgrow (by have := HBW.out.size; simp; omega) (fun r hr => (HW.out.lt r hr).1)
        clear hgrow
        have hval : val (a.take (t + 1)) + val (b.take (t + 1)) = val (L ++ [⟨s % 10, by omega⟩]) + 10 ^ (t + 1) * (s / 10) := by
          rw [HVA.out, HVB.out, val_snoc, HL.out, Nat.pow_succ]
          exact plus_step HV.out HSS.out
        have HVL := Lib.hid hval
        have hend2 : max la lb < t + 1 → s / 10 = 0 := fun h => by
          have h1 := HX0.out (by omega)
          have h2 := HY0.out (by omega)
          have h3 := HSS.out
          omega
        have HE2 := Lib.hid hend2
        clear hval hend2
        go_wp2
        go_roundw
        case rel => exact ⟨hb1, t + 1, s / 10, L ++ [⟨s % 10, by omega⟩], by go_num, by simp, by omega, by omega, HE2.out, ok9_app.2 ⟨HO.out, ok9_cons.2 ⟨by show s % 10 ≤ 9; omega, ok9_nil⟩⟩, by rw [List.length_append, HL.out]; rfl, HVL.out, by rw [bsI_snoc]; exact hown'⟩
        case measure => simp [intOf]; omega
      · by_cases hc0 : cy = 0
        · subst hc0
          have hlist : val a + val b = val L := by
            have h := HV.out
            rw [(HLA.out t (by omega)).2, (HLB.out t (by omega)).2, Nat.mul_zero, Nat.add_zero] at h
            exact h
          have hown := HW.out
          rw [← HL.out] at hown
          obtain ⟨p1, c1, rfl, hsl⟩ := HoldI.sl (show HoldI wr w.heap.size u5 L from hown)
          have htr := TrPost.rn hsl (trim_any p1 c1 L wr (by rw [HL.out]; omega) HO.out hsl)
          rw [← hlist] at htr
          have HT := Lib.hid htr
          rw [HL.out] at HT ⊢
          clear hown hsl htr hlist
          go_wp2_with fail
          refine (HT.out).mono ?_
          rintro e w5 ⟨p5, c5, rfl, hs5, hb5⟩
          have HS5 := Lib.hid hs5
          have HB5 := Lib.hid (bel0 HBW.out hb5)
          clear hs5 hb5
          go_wp2
          go_ret
          exact ⟨p5, c5, rfl, HS5.out, HB5.out⟩
        · obtain rfl : cy = 1 := by omega
          have htl : t ≤ max la lb := by
            rcases Nat.lt_or_ge (max la lb) t with h | h
            · exact absurd (hend h) (by omega)
            · exact h
          have HA1 := Lib.hid (HA.out t (by omega) wr HBW.out)
          have HB1 := Lib.hid (HB.out t (by omega) wr HBW.out)
          have da9 := ok9_getD HOA.out t
          have db9 := ok9_getD HOB.out t
          have hva := val_take_succ HOA.out t
          have hvb := val_take_succ HOB.out t
          have HVA := Lib.hid hva
          have HVB := Lib.hid hvb
          clear hva hvb
          have HX0 : Hid (la ≤ t → (a.getD t 0).val = 0) := Lib.hid (fun h => by rw [(HLA.out t h).1]; rfl)
          have HY0 : Hid (lb ≤ t → (b.getD t 0).val = 0) := Lib.hid (fun h => by rw [(HLB.out t h).1]; rfl)
          generalize a.getD t 0 = x at HA1 HVA da9 HX0
          generalize b.getD t 0 = y at HB1 HVB db9 HY0
          obtain ⟨s, hs⟩ : ∃ s, s = x.val + y.val + 1 := ⟨_, rfl⟩
          have hs19 : s ≤ 19 := by omega
          have hsum : (x.val : Int) + (y.val : Int) + 1 = (s : Int) := by omega
          have HSS := Lib.hid hs
          clear hs
          go_wp2_with fail
          refine (HA1.out).mono ?_
          rintro e w' ⟨rfl, rfl⟩
          go_wp2_with fail
          refine (HB1.out).mono ?_
          rintro e w' ⟨rfl, rfl⟩
          go_wp2_with (at_builtin; refine wpList_append_own _ rfl _ _ 50 rfl w.heap.size 3 i0 (.int .i64 0) 1 8 Tryd.underlying50 hi hz0 hz1 hz2 rfl (by decide) _ t _ rfl (HW.out.alloc _) ⟨wr.heap.size, 0, none⟩ 1 1 [_] rfl rfl (cellNew _ _ _) (by intro u hu; simp at hu; subst hu; rfl) (by unfold maxLen; omega) (by omega) (by have := HBW.out.size; simp; omega) ?_)
          intro v' w3 hown' hgrow _
          have hb1 := (HBW.out.alloc HBW.out.size _).grown hgrow (by have := HBW.out.size; simp; omega) (fun r hr => (HW.out.lt r hr).1)
          clear hgrow
          have hval : val (a.take (t + 1)) + val (b.take (t + 1)) = val (L ++ [⟨s % 10, by omega⟩]) + 10 ^ (t + 1) * (s / 10) := by
            rw [HVA.out, HVB.out, val_snoc, HL.out, Nat.pow_succ]
            exact plus_step HV.out HSS.out
          have HVL := Lib.hid hval
          have hend2 : max la lb < t + 1 → s / 10 = 0 := fun h => by
            have h1 := HX0.out (by omega)
            have h2 := HY0.out (by omega)
            have h3 := HSS.out
            omega
          have HE2 := Lib.hid hend2
          clear hval hend2
          go_wp2
          go_roundw
          case rel => exact ⟨hb1, t + 1, s / 10, L ++ [⟨s % 10, by omega⟩], by go_num, by simp, by omega, by omega, HE2.out, ok9_app.2 ⟨HO.out, ok9_cons.2 ⟨by show s % 10 ≤ 9; omega, ok9_nil⟩⟩, by rw [List.length_append, HL.out]; rfl, HVL.out, by rw [bsI_snoc]; exact hown'⟩
          case measure => simp [intOf]; omega

end E
end Go.Proofs.YtlpekknhaaddcaaDoor

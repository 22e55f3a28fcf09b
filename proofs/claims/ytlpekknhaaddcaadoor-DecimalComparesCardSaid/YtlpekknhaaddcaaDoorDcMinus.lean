/- The document's own minus of magnitudes: its contract. -/
import Derived.Test.YtlpekknhaaddcaaDoorDcPlus
namespace Go.Proofs.YtlpekknhaaddcaaDoor
open Go.RowKit
set_option linter.unusedVariables false
namespace E

set_option maxRecDepth 100000 in
set_option maxHeartbeats 1000000 in
theorem minus_any (p q : Option Addr) (c d : Nat) (a b : List (Fin 16)) (w : World) (ha : a.length ≤ 500) (hb : b.length ≤ 500) (oa : ok9 a) (ob : ok9 b) (hle : val b ≤ val a) (ra : RdI w p a) (rb : RdI w q b) :
    Calls Tryd.prog 66 #[.slice p a.length c, .slice q b.length d] w (RnPost w (val a - val b)) := by
  obtain ⟨i0, hi, hz0, hz1, hz2⟩ := info_parts info3
  have HB := Lib.hid (fun (i : Nat) (hi : i ≤ 100000) W (h : Below w.heap.size w W) => digit_any q d i b W (by omega) hi (rb.below h))
  have hcl : ∀ j, j < a.length → ∃ B off, p = some ⟨B, off, none⟩ ∧ B < w.heap.size ∧ w.cell? ⟨B, off + j, none⟩ = some (.int .i64 ((a.getD j 0).val : Int)) := fun j hj => by
    rcases ra with h0 | ⟨B, off, rfl, hc⟩
    · subst h0; simp at hj
    · exact ⟨_, _, rfl, World.block_lt_of_cell? w _ (hc j hj), hc j hj⟩
  have HC := Lib.hid hcl
  have HOA := Lib.hid oa
  have HOB := Lib.hid ob
  have hfin : val (b.take a.length) = val b ∧ val (a.take a.length) = val a ∧ val a < 10 ^ a.length := by
    have h1 := val_lt oa
    exact ⟨by rw [val_take ob]; exact Nat.mod_eq_of_lt (by omega), by rw [List.take_of_length_le (Nat.le_refl _)], h1⟩
  have HF := Lib.hid hfin
  have HLE := Lib.hid hle
  clear ra rb oa ob hcl hfin hle
  generalize a.length = la at *
  generalize b.length = lb at *
  go_enter Tryd.func66, Tryd.ntmps66
  go_wp2
  go_loopw [5, 6, 7] (fun sv cv i wr => Below w.heap.size w wr ∧ ∃ t cy L, i = .int .i64 ((t : Nat) : Int) ∧ cv = .int .i64 ((cy : Nat) : Int) ∧ cy ≤ 1 ∧ t ≤ la ∧ ok9 L ∧ L.length = t ∧ val (a.take t) + 10 ^ t * cy = val L + val (b.take t) ∧ wr.ownsRow w.heap.size 3 1 sv t (bsI L)) (fun _ _ i _ => (la - (intOf i).toNat))
  case atStart => exact ⟨Below.refl _ _, 0, 0, [], rfl, rfl, by omega, by omega, ok9_nil, rfl, rfl, World.ownsRow_nil _ _ _ _⟩
  case round =>
    obtain ⟨hbw, t, cy, L, rfl, rfl, hcy, ht, ho, hL, hv, hown⟩ := hrel
    have HBW := Lib.hid hbw
    have HO := Lib.hid ho
    have HL := Lib.hid hL
    have HV := Lib.hid hv
    have HW := Lib.hid hown
    clear hbw ho hL hv hown
    by_cases hla : t < la
    · have HB1 := Lib.hid (fun W (h : Below w.heap.size w W) => HB.out t (by omega) W h)
      obtain ⟨B, off, rfl, hBl, hc⟩ := HC.out t hla
      have hcw := (HBW.out.cell (p := ⟨B, off + t, none⟩) hBl).trans hc
      have da9 := ok9_getD HOA.out t
      have db9 := ok9_getD HOB.out t
      have HVA := Lib.hid (val_take_succ HOA.out t)
      have HVB := Lib.hid (val_take_succ HOB.out t)
      clear hc HC hBl
      generalize a.getD t 0 = x at hcw HVA da9
      generalize b.getD t 0 = y at HB1 HVB db9
      have j1 : (0 : Int) ≤ (t : Int) := by omega
      have j2 : (t : Int) < (la : Int) := by omega
      have H0 : Hid ((fun W : World => W.cell? ⟨B, off + t, none⟩ = some (.int .i64 (x.val : Int)) ∧ ApS wr W) wr.drew) := Lib.hid ⟨keepC hcw (Below.refl _ _).drew, (Below.refl _ _).drew⟩
      clear hcw
      by_cases hbr : y.val + cy ≤ x.val
      · obtain ⟨r, hr⟩ : ∃ r, r = x.val - y.val - cy := ⟨_, rfl⟩
        have hr9 : r ≤ 9 := by omega
        have hr16 : r < 16 := by omega
        have hn : (x.val : Int) - (y.val : Int) - (cy : Int) = (r : Int) := by omega
        have hval : val (a.take (t + 1)) + 10 ^ (t + 1) * 0 = val (L ++ [⟨r, hr16⟩]) + val (b.take (t + 1)) := by
          rw [HVA.out, HVB.out, val_snoc, HL.out, Nat.pow_succ]
          have h := (minus_step HV.out hcy da9 db9).1 (by omega)
          rw [← hr] at h
          exact h
        have HVL := Lib.hid hval
        clear hval hr
        go_wp2
        go_region_held3 (fun W => W.cell? ⟨B, off + t, none⟩ = some (.int .i64 (x.val : Int)) ∧ ApS wr W)
          (first | assumption | exact H0.out)
          (first
            | (go_at_call 58; refine (HB1.out _ (bel0 HBW.out (And.right (a := _ = _) (by assumption)))).mono ?_; rintro e w5 ⟨rfl, rfl⟩))
        have HBD : Hid (Below w.heap.size w wr.drew) := Lib.hid HBW.out.drew
        have HWD := Lib.hid (own_kept HW.out ((Below.refl wr.heap.size wr).drew))
        go_wp2_with (at_builtin; refine wpList_append_own _ rfl _ _ 50 rfl w.heap.size 3 i0 (.int .i64 0) 1 8 Tryd.underlying50 hi hz0 hz1 hz2 rfl (by decide) _ t _ rfl (HWD.out.alloc _) ⟨wr.heap.size, 0, none⟩ 1 1 [_] rfl rfl (cellNew _ _ _) (by intro u hu; simp at hu; subst hu; rfl) (by unfold maxLen; omega) (by omega) (by have := HBW.out.size; simp; omega) ?_)
        intro v' w3 hown' hgrow _
        have hb1 := (HBD.out.alloc HBD.out.size _).grown hgrow (by have := HBW.out.size; simp; omega) (fun r hr => (HWD.out.lt r hr).1)
        clear hgrow
        go_wp2
        go_roundw
        case rel => exact ⟨hb1, t + 1, 0, L ++ [⟨r, hr16⟩], by go_num, rfl, by omega, by omega, ok9_app.2 ⟨HO.out, ok9_cons.2 ⟨hr9, ok9_nil⟩⟩, by rw [List.length_append, HL.out]; rfl, HVL.out, by rw [bsI_snoc]; exact hown'⟩
        case measure => simp [intOf]; omega
      · obtain ⟨r, hr⟩ : ∃ r, r = x.val + 10 - y.val - cy := ⟨_, rfl⟩
        have hr9 : r ≤ 9 := by omega
        have hr16 : r < 16 := by omega
        have hn : (x.val : Int) - (y.val : Int) - (cy : Int) = (r : Int) - 10 := by omega
        have hval : val (a.take (t + 1)) + 10 ^ (t + 1) * 1 = val (L ++ [⟨r, hr16⟩]) + val (b.take (t + 1)) := by
          rw [HVA.out, HVB.out, val_snoc, HL.out, Nat.pow_succ]
          have h := (minus_step HV.out hcy da9 db9).2 (by omega)
          rw [← hr] at h
          exact h
        have HVL := Lib.hid hval
        clear hval hr
        go_wp2
        go_region_held3 (fun W => W.cell? ⟨B, off + t, none⟩ = some (.int .i64 (x.val : Int)) ∧ ApS wr W)
          (first | assumption | exact H0.out)
          (first
            | (go_at_call 58; refine (HB1.out _ (bel0 HBW.out (And.right (a := _ = _) (by assumption)))).mono ?_; rintro e w5 ⟨rfl, rfl⟩))
        have HBD : Hid (Below w.heap.size w wr.drew) := Lib.hid HBW.out.drew
        have HWD := Lib.hid (own_kept HW.out ((Below.refl wr.heap.size wr).drew))
        go_wp2_with (at_builtin; refine wpList_append_own _ rfl _ _ 50 rfl w.heap.size 3 i0 (.int .i64 0) 1 8 Tryd.underlying50 hi hz0 hz1 hz2 rfl (by decide) _ t _ rfl (HWD.out.alloc _) ⟨wr.heap.size, 0, none⟩ 1 1 [_] rfl rfl (cellNew _ _ _) (by intro u hu; simp at hu; subst hu; rfl) (by unfold maxLen; omega) (by omega) (by have := HBW.out.size; simp; omega) ?_)
        intro v' w3 hown' hgrow _
        have hb1 := (HBD.out.alloc HBD.out.size _).grown hgrow (by have := HBW.out.size; simp; omega) (fun r hr => (HWD.out.lt r hr).1)
        clear hgrow
        go_wp2
        go_roundw
        case rel => exact ⟨hb1, t + 1, 1, L ++ [⟨r, hr16⟩], by go_num, rfl, by omega, by omega, ok9_app.2 ⟨HO.out, ok9_cons.2 ⟨hr9, ok9_nil⟩⟩, by rw [List.length_append, HL.out]; rfl, HVL.out, by rw [bsI_snoc]; exact hown'⟩
        case measure => simp [intOf]; omega
    · obtain rfl : t = la := by omega
      have hv2 := HV.out
      obtain ⟨f1, f2, f3⟩ := HF.out
      rw [f1, f2] at hv2
      have hc0 : cy = 0 := by
        rcases Nat.lt_or_ge 0 cy with h | h
        · exfalso
          have h1 : cy = 1 := by omega
          rw [h1, Nat.mul_one] at hv2
          have h2 := val_lt HO.out
          rw [HL.out] at h2
          have h3 := HLE.out
          omega
        · omega
      subst hc0
      have hval : val L = val a - val b := by rw [Nat.mul_zero] at hv2; omega
      have hown := HW.out
      have hlt2 : t ≤ 1000 := by omega
      rw [← HL.out] at hown
      obtain ⟨p1, c1, rfl, hsl⟩ := HoldI.sl (show HoldI wr w.heap.size u5 L from hown)
      have htr := TrPost.rn hsl (trim_any p1 c1 L wr (by rw [HL.out]; omega) HO.out hsl)
      rw [hval] at htr
      have HT := Lib.hid htr
      rw [HL.out] at HT ⊢
      clear hown hsl htr hval hv2 f1 f2 f3
      go_wp2_with fail
      refine (HT.out).mono ?_
      rintro e w5 ⟨p5, c5, rfl, hs5, hb5⟩
      have HS5 := Lib.hid hs5
      have HB5 := Lib.hid (bel0 HBW.out hb5)
      clear hs5 hb5
      go_wp2
      go_ret
      exact ⟨p5, c5, rfl, HS5.out, HB5.out⟩

end E
end Go.Proofs.YtlpekknhaaddcaaDoor

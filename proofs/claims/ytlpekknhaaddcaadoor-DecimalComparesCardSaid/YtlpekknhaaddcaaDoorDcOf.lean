/- The number of a field, by the document's own answers: its contract. -/
import Derived.Test.YtlpekknhaaddcaaDoorDcFd
import Derived.Test.YtlpekknhaaddcaaDoorPkRef10
namespace Go.Proofs.YtlpekknhaaddcaaDoor
open Go.RowKit
set_option linter.unusedVariables false
namespace E

def OfPost (w : World) (bs : List UInt8) (e : Ending) (w' : World) : Prop := ∃ p c, e = .returned (.tuple #[.agg #[.bool (dNeg bs), .slice p (dgs (dVal bs)).length c], .bool (dOk bs)]) ∧ SlI w' p c (dgs (dVal bs)) ∧ Below w.heap.size w w'
theorem SlI.nil (W : World) : SlI W none 0 [] := ⟨.inl rfl, Nat.le_refl _, by omega, fun _ => rfl⟩
set_option maxRecDepth 100000 in
set_option maxHeartbeats 4000000 in
theorem of_no (p : Option Addr) (c n : Nat) (S : ByteArray) (neg : Bool) (w : World)
    (HD : Hid (∀ W, Below w.heap.size w W → Calls Tryd.prog 61 #[.slice p n c] W fun e w' => e = .returned (.tuple #[.agg #[.bool neg, .string S], .bool false]) ∧ Below W.heap.size W w')) :
    Calls Tryd.prog 45 #[.slice p n c] w (New w (.tuple #[.agg #[.bool false, .slice none 0 0], .bool false])) := by
  have HB0 := Lib.hid (below_new w (.cells #[.bool false, .slice none 0 0] 52))
  have HX0 := Lib.hid (Bx.new w 52 #[.bool false, .slice none 0 0])
  go_enter Tryd.func45, Tryd.ntmps45
  go_wp2_with fail
  refine (HD.out _ HB0.out).mono ?_
  rintro e w1 ⟨rfl, hb⟩
  have hb2 := below_new w1 (.cells #[.bool neg, .string S] 78)
  have HB2 := Lib.hid (bel0 (bel0 HB0.out hb) hb2)
  obtain ⟨⟨d1, d2⟩, x1, x2⟩ := ((HX0.out.below hb).below hb2).two
  clear hb hb2 HD
  go_wp2
  refine bodyPost_ret (v := .tuple #[.agg #[.bool false, .slice none 0 0], .bool false]) ?_ rfl ⟨rfl, below_set2 HB2.out (Nat.le_refl _) _ _⟩
  rw [results_cell_tmp rfl]
  go_simp
set_option maxRecDepth 100000 in
set_option maxHeartbeats 4000000 in
theorem of_yes (p : Option Addr) (c n v : Nat) (S : ByteArray) (L : List UInt8) (neg : Bool) (w : World) (hs : S.data.toList = L) (hL : L.length ≤ 31) (hd : ∀ j, j < L.length → isD (gt L j) = true) (hv : val (fg L) = v)
    (HD : Hid (∀ W, Below w.heap.size w W → Calls Tryd.prog 61 #[.slice p n c] W fun e w' => e = .returned (.tuple #[.agg #[.bool neg, .string S], .bool true]) ∧ Below W.heap.size W w')) :
    Calls Tryd.prog 45 #[.slice p n c] w (fun e w' => ∃ p c, e = .returned (.tuple #[.agg #[.bool neg, .slice p (dgs v).length c], .bool true]) ∧ SlI w' p c (dgs v) ∧ Below w.heap.size w w') := by
  obtain ⟨i0, hi, hz0, hz1, hz2⟩ := info_parts info3
  have hln : L.length = S.size := by rw [← hs]; rfl
  have hstr : ∀ k (h : k < S.size), S[k] = gt L k := fun k h => by rw [← hs]; exact str_at S k h
  have h9 : ok9 (fg L) := fun d hd' => by
    obtain ⟨i, hi, rfl⟩ := List.getElem_of_mem hd'
    have := fg_getD9 hd i
    rw [List.getD_eq_getElem?_getD, List.getElem?_eq_getElem hi] at this
    exact this
  have hft : ∀ t k, t + (k + 1) = S.size → (fg L).take (t + 1) = (fg L).take t ++ [dgt (gt L k)] := fun t k h => fg_take (by omega)
  have HFT := Lib.hid hft
  have HFL : Hid ((fg L).length = S.size) := Lib.hid (by rw [fg_len, hln])
  have HTR := Lib.hid (fun p5 c5 W (h : SlI W p5 c5 (fg L)) => TrPost.rn h (trim_any p5 c5 (fg L) W (by rw [fg_len]; omega) h9 h))
  rw [hv] at HTR
  have HS := Lib.hid hstr
  have HDD : Hid (∀ k, k < S.size → isD (gt L k) = true) := Lib.hid (fun k hk => hd k (by omega))
  have hS31 : S.size ≤ 31 := by omega
  unfold RnPost at HTR
  generalize fg L = G at *
  clear hs hL hd hv hln hstr h9 hft
  have HB0 := Lib.hid (below_new w (.cells #[.bool false, .slice none 0 0] 52))
  have HX0 := Lib.hid (Bx.new w 52 #[.bool false, .slice none 0 0])
  go_enter Tryd.func45, Tryd.ntmps45
  go_wp2_with fail
  refine (HD.out _ HB0.out).mono ?_
  rintro e w1 ⟨rfl, hb⟩
  obtain ⟨W2, hW2⟩ : ∃ W2, W2 = w1.alloc (.cells #[.bool neg, .string S] 78) := ⟨_, rfl⟩
  have hb2 : Below w1.heap.size w1 W2 := by rw [hW2]; exact below_new _ _
  have HB2 := Lib.hid (bel0 (bel0 HB0.out hb) hb2)
  have HX2 := Lib.hid ((HX0.out.below hb).below hb2)
  have HE2 : Hid (Bx W2 w1.heap.size 78 #[.bool neg, .string S]) := Lib.hid (by rw [hW2]; exact Bx.new _ _ _)
  have hne : w.heap.size ≠ w1.heap.size := by have := (HX0.out.below hb).lt; omega
  obtain ⟨⟨e1, e2⟩, _⟩ := HE2.out.two
  clear hb hb2 HD
  go_wp2_with fail
  rw [← hW2]
  clear hW2
  go_wp2
  clear e1 e2
  go_loopw [6, 7] (fun sv i wr => Below W2.heap.size W2 wr ∧ ∃ t k : Nat, t + k = S.size ∧ i = .int .i64 ((k : Int) - 1) ∧ wr.ownsRow W2.heap.size 3 1 sv t (bsI (G.take t))) (fun _ i _ => (intOf i + 1).toNat)
  case atStart => exact ⟨Below.refl _ _, 0, S.size, by omega, rfl, World.ownsRow_nil _ _ _ _⟩
  case round =>
    obtain ⟨hbw, t, k, htk, rfl, hown⟩ := hrel
    have HB := Lib.hid hbw
    have HO := Lib.hid hown
    obtain ⟨⟨e1, e2⟩, _⟩ := (HE2.out.below hbw).two
    have HXr := Lib.hid (HX2.out.below hbw)
    clear hbw hown
    cases k with
    | succ k =>
      have hk1 : (((k + 1 : Nat) : Int) - 1) = (k : Int) := by omega
      have hlt : k < S.size := by omega
      have hst := HS.out k hlt
      have hd2 := (isD_iff _).1 (HDD.out k hlt)
      have hv : ((gt L k).toNat : Int) - 48 = ((dgt (gt L k)).val : Int) := by rw [dgt_nat hd2]; omega
      have HV := Lib.hid hv
      have HT := Lib.hid (HFT.out t k htk)
      have HMS : Hid (t + 1 + k = S.size) := Lib.hid (by omega)
      have HTT : Hid (t ≤ 31) := Lib.hid (by omega)
      have hk31 : k ≤ 31 := by omega
      rw [hk1]
      clear htk hk1 hv
      generalize gt L k = x at *
      go_wp2_with (at_builtin; refine wpList_append_own _ rfl (.tmp 24) (.tmp 31) 50 rfl W2.heap.size 3 i0 (.int .i64 0) 1 8 Tryd.underlying50 hi hz0 hz1 hz2 rfl (by decide) _ t _ rfl (HO.out.alloc _) ⟨wr.heap.size, 0, none⟩ 1 1 [_] rfl rfl (cellNew _ _ _) (by intro u hu; simp at hu; subst hu; rfl) (by unfold maxLen; have := HTT.out; omega) (by have := HTT.out; omega) (by have := HB.out.size; simp; omega) ?_)
      intro v' w3 hown' hgrow _
      have hb1 := (HB.out.alloc HB.out.size _).grown hgrow (by have := HB.out.size; simp; omega) (fun r hr => (HO.out.lt r hr).1)
      clear hgrow
      go_wp2
      go_roundw
      case rel => exact ⟨hb1, t + 1, k, HMS.out, by go_num, by rw [HT.out, bsI_snoc, ← HV.out]; exact hown'⟩
      case measure => simp [intOf]
    | zero =>
      obtain rfl : t = S.size := by omega
      have hown := HO.out
      rw [List.take_of_length_le (by rw [HFL.out]; exact Nat.le_refl _)] at hown
      have hoi : HoldI wr W2.heap.size u6 G := by unfold HoldI; rw [HFL.out]; exact hown
      obtain ⟨p5, c5, rfl, hs5⟩ := hoi.sl
      rw [HFL.out]
      have htr := HTR.out p5 c5 wr.drew (hs5.below (Below.refl _ _).drew)
      rw [HFL.out] at htr
      have HTT := Lib.hid htr
      have H0 : Hid (wr.drew.cell? ⟨w1.heap.size, 0, none⟩ = some (.bool neg)) := Lib.hid (keepC e1 (Below.refl _ _).drew)
      have HXd := Lib.hid (HXr.out.below (Below.refl wr.heap.size wr).drew)
      have HBd := Lib.hid ((bel0 HB2.out HB.out).drew)
      clear hown hoi hs5 HO htk htr
      go_wp2
      go_region_held3 (fun W => W.cell? ⟨w1.heap.size, 0, none⟩ = some (.bool neg))
        (first | assumption | exact H0.out | exact cell_far hne _ (cell_far hne _ (by assumption)))
        (first
          | (go_at_call 60; refine (HTT.out).mono ?_; rintro e w5 ⟨p6, c6, rfl, hs6, hb5⟩; have hk5 := keepC H0.out hb5; have HX5 := Lib.hid (HXd.out.below hb5); have HB5 := Lib.hid (bel0 HBd.out hb5); have HS6 := Lib.hid hs6; obtain ⟨⟨r1, r2⟩, q1, q2⟩ := HX5.out.two; clear hb5 hs6))
      all_goals go_wp2
      all_goals refine bodyPost_ret (v := .tuple #[.agg #[.bool neg, .slice p6 (dgs v).length c6], .bool true]) ?_ rfl ⟨p6, c6, rfl, HS6.out.far2 HX5.out _ _, below_set2 HB5.out (Nat.le_refl _) _ _⟩
      all_goals rw [results_cell_tmp rfl]
      all_goals go_simp
theorem of_any (p : Option Addr) (c : Nat) (bs : List UInt8) (w : World) (hr : Rd w p bs) :
    Calls Tryd.prog 45 #[.slice p bs.length c] w (OfPost w bs) := by
  by_cases h : dOk bs = true
  · have hk := (okL_iff _).1 (dDig_ok bs h)
    refine (of_yes p c bs.length (dVal bs) ⟨(dDig bs).toArray⟩ (dDig bs) (dNeg bs) w rfl hk.1.2.1 hk.2 rfl (Lib.hid fun W hb => ?_)).mono fun e w' h1 => ?_
    · have h2 := rdecode_any p c bs W (hr.below hb)
      unfold DecPost at h2
      rw [h] at h2
      exact h2
    · unfold OfPost
      rw [h]
      exact h1
  · have h' : dOk bs = false := by simpa using h
    refine (of_no p c bs.length ⟨(dDig bs).toArray⟩ (dNeg bs) w (Lib.hid fun W hb => ?_)).mono fun e w' h1 => ?_
    · have h2 := rdecode_any p c bs W (hr.below hb)
      unfold DecPost at h2
      rw [h'] at h2
      exact h2
    · unfold OfPost
      rw [h', (dVal_not bs h').1, (dVal_not bs h').2, dgs_zero]
      exact ⟨none, 0, h1.1, SlI.nil _, h1.2⟩

end E
end Go.Proofs.YtlpekknhaaddcaaDoor

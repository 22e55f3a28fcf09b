/- The statements' numbers: plain, tail and zeros. -/
import Derived.Test.YtfkenoehoocobaaEdDig
namespace Go.Proofs.Ytfkenoehoocobaa
open Go.RowKit
set_option linter.unusedVariables false
namespace E

theorem plain_any (x : UInt8) (w : World) : Calls Try.prog 16 #[.int .u8 (x.toNat : Int)] w fun e w' => e = .returned (.bool (msgB x)) ∧ w = w' := by
  by_cases h1 : x.toNat < 32
  · have i1 : (x.toNat : Int) < 32 := by omega
    have hv : msgB x = true := by unfold msgB; simp [h1]
    rw [hv]
    clear h1 hv
    go_enter Try.func16, Try.ntmps16
    go_wp2
    go_ret
    exact ⟨by simp, rfl⟩
  · by_cases h2 : 34 < x.toNat
    · have i1 : ¬ ((x.toNat : Int) < 32) := by omega
      have i2 : (34 : Int) < (x.toNat : Int) := by omega
      have hv : msgB x = true := by unfold msgB; simp [h2]
      rw [hv]
      clear h1 h2 hv
      go_enter Try.func16, Try.ntmps16
      go_wp2
      go_ret
      exact ⟨by simp, rfl⟩
    · have i1 : ¬ ((x.toNat : Int) < 32) := by omega
      have i2 : ¬ ((34 : Int) < (x.toNat : Int)) := by omega
      have hv : msgB x = false := by unfold msgB; simp [h1, h2]
      rw [hv]
      clear h1 h2 hv
      go_enter Try.func16, Try.ntmps16
      go_wp2
      go_ret
      exact ⟨by simp, rfl⟩
theorem zN_at : ∀ (d : List Nat) (t : Nat), t ≤ d.length → (∀ j, j < t → d.getD j 0 = 0) → (t = d.length ∨ 0 < d.getD t 0) → zN d = t
  | [], t, h, _, _ => by simp at h; rw [h]; rfl
  | a :: r, 0, _, _, h => by
    rcases h with h | h
    · simp at h
    · have h' : 0 < a := h
      rw [zN, if_pos h']
  | a :: r, t + 1, h1, h2, h3 => by
    have h0 : a = 0 := h2 0 (by omega)
    rw [zN, if_neg (by omega), zN_at r t (by simpa using h1) (fun j hj => h2 (j + 1) (by omega)) (by
      rcases h3 with h3 | h3
      · left; simpa using h3
      · right; exact h3)]
set_option maxRecDepth 100000 in
set_option maxHeartbeats 1000000 in
theorem zeros_any (v : Value) (l m : List UInt8) (neg : Bool) (w : World) (h : NumV w v l neg m) :
    Calls Try.prog 20 #[v] w (New w (.int .i64 (zN (dgN l) : Int))) := by
  have HD := Lib.hid (fun W (hb : Below w.heap.size w W) => digits_any v l m neg W (h.below hb))
  obtain ⟨d, tv, rfl, hd, ht⟩ := h
  obtain ⟨p, c, rfl, _⟩ := hd
  obtain ⟨q, cq, rfl, _⟩ := ht
  have HBW := Lib.hid (below_new w (.cells #[.slice p l.length c, .bool neg, .slice q m.length cq] 37))
  have hl := (dgN_len l).1
  have HLN := Lib.hid hl
  clear hl
  generalize dgN l = dg at *
  go_enter Try.func20, Try.ntmps20
  go_wp2_with fail
  refine (HD.out _ HBW.out).mono ?_
  rintro e w1 ⟨sv, rfl, ho, hb⟩
  obtain ⟨p1, c1, rfl⟩ := ho.slice
  have HB := Lib.hid (bel0 HBW.out hb)
  have HO := Lib.hid ho
  obtain ⟨n, hn⟩ : ∃ n, n = dg.length := ⟨_, rfl⟩
  have HN := Lib.hid hn
  have hn99 : n ≤ 99 := by rw [hn]; exact HLN.out
  rw [← hn]
  clear ho hb hn
  go_wp2
  go_loop [4] (fun i => ∃ t : Nat, t ≤ n ∧ i = .int .i64 t ∧ ∀ j, j < t → dg.getD j 0 = 0) (fun i => n - (intOf i).toNat)
  case atStart => exact ⟨0, Nat.zero_le _, rfl, fun j hj => absurd hj (Nat.not_lt_zero _)⟩
  case round =>
    obtain ⟨t, ht, rfl, hz⟩ := hrel
    have HZ := Lib.hid hz
    clear hz
    by_cases hlt : t < n
    · obtain ⟨g, rfl, hc⟩ := HO.out.at' t (by rw [← HN.out]; exact hlt)
      by_cases h0 : dg.getD t 0 = 0
      · have hc' : w1.cell? ⟨g, t, none⟩ = some (.int .i64 0) := by rw [hc, h0]; rfl
        have H0 := Lib.hid h0
        clear hc h0
        go_wp2
        go_round
        case rel => exact ⟨t + 1, by omega, by go_num, fun j hj => by
          rcases Nat.lt_or_ge j t with h | h
          · exact HZ.out j h
          · obtain rfl : j = t := by omega
            exact H0.out⟩
        case measure => simp [intOf]; omega
      · have hv : zN dg = t := zN_at dg t (by rw [← HN.out]; exact ht) HZ.out (.inr (by omega))
        have HV := Lib.hid hv
        have hne : (((dg.getD t 0 : Nat) : Int) == 0) = false := by simp only [beq_eq_false_iff_ne, ne_eq]; omega
        clear hv h0
        generalize ((dg.getD t 0 : Nat) : Int) = a at *
        go_wp2
        go_ret
        exact ⟨by rw [HV.out]; rfl, HB.out⟩
    · obtain rfl : t = n := by omega
      have hv : zN dg = t := zN_at dg t (by rw [← HN.out]; exact Nat.le_refl _) HZ.out (.inl HN.out)
      have HV := Lib.hid hv
      clear hv
      go_wp2
      go_ret
      exact ⟨by rw [HV.out]; rfl, HB.out⟩
theorem tl_at (m : List UInt8) (t : Nat) (h : t < m.length) : (m.take (t + 1)).filter msgB = (m.take t).filter msgB ++ (if msgB (gt m t) then [gt m t] else []) := by
  rw [take_one h, List.filter_append]
  congr 1
  cases hb : msgB (gt m t) <;> simp [List.filter, hb]
set_option maxRecDepth 100000 in
set_option maxHeartbeats 1000000 in
theorem tail_any (v : Value) (l m : List UInt8) (neg : Bool) (w : World) (h : NumV w v l neg m) :
    Calls Try.prog 27 #[v] w (HPost w (tlN m)) := by
  obtain ⟨d, tv, rfl, hd, htl⟩ := h
  obtain ⟨i0, hi0, hz0, hz1, hz2⟩ := info_parts info5
  obtain ⟨p, c, rfl, hr, hlc, hcm, _⟩ := htl
  obtain ⟨q, cq, rfl, _⟩ := hd
  obtain ⟨n, hn⟩ : ∃ n, n = m.length := ⟨_, rfl⟩
  have HN := Lib.hid hn
  have hcl : ∀ j, j < n → ∃ B off, p = some ⟨B, off, none⟩ ∧ B < w.heap.size ∧ w.cell? ⟨B, off + j, none⟩ = some (.int .u8 ((gt m j).toNat : Int)) := fun j hj => by
    rw [hn] at hj
    rcases hr with h0 | ⟨B, off, rfl, hc⟩
    · subst h0; simp at hj
    · exact ⟨_, _, rfl, World.block_lt_of_cell? w _ (hc j hj), hc j hj⟩
  have HC := Lib.hid hcl
  rw [← hn] at hlc ⊢
  have hnm : n ≤ 9223372036854775807 := by omega
  have HB := Lib.hid (Bx.new w 37 #[.slice q l.length cq, .bool neg, .slice p n c])
  have HBW := Lib.hid (below_new w (.cells #[.slice q l.length cq, .bool neg, .slice p n c] 37))
  have HSZ : Hid ((w.alloc (.cells #[.slice q l.length cq, .bool neg, .slice p n c] 37)).heap.size = w.heap.size + 1) := Lib.hid (World.size_alloc _ _)
  clear hr hcl hn hlc hcm
  go_enter Try.func27, Try.ntmps27
  go_wp2
  go_loopw [3, 4] (fun sv i wr => Below (w.heap.size + 1) (w.alloc (.cells #[.slice q l.length cq, .bool neg, .slice p n c] 37)) wr ∧ ∃ t : Nat, t ≤ n ∧ t ≤ 50 ∧ i = .int .i64 t ∧ wr.ownsRow (w.heap.size + 1) 5 1 sv ((m.take t).filter msgB).length (bsU ((m.take t).filter msgB))) (fun _ i _ => 50 - (intOf i).toNat)
  case atStart => exact ⟨Below.refl _ _, 0, Nat.zero_le _, Nat.zero_le _, rfl, World.ownsRow_nil _ _ _ _⟩
  case round =>
    obtain ⟨hbw, t, ht, ht9, rfl, hown⟩ := hrel
    obtain ⟨p3, c3, rfl⟩ := own_slice hown
    have HBR := Lib.hid hbw
    have HO := Lib.hid hown
    have c2 := (HB.out.bel hbw (Nat.lt_succ_self _)).cell 2
    have HSR : Hid (w.heap.size + 1 ≤ wr.heap.size) := Lib.hid (by have := hbw.size; rw [HSZ.out] at this; exact this)
    have HFL : Hid (((m.take t).filter msgB).length ≤ 50) := Lib.hid (by have := List.length_filter_le msgB (m.take t); rw [List.length_take] at this; omega)
    clear hbw hown
    by_cases hlt : t < n ∧ t < 50
    · obtain ⟨hlt, hl9⟩ := hlt
      obtain ⟨B, off, rfl, hBl, hc⟩ := HC.out t hlt
      have hcw : wr.cell? ⟨B, off + t, none⟩ = some (.int .u8 ((gt m t).toNat : Int)) := (HBR.out.cell (p := ⟨B, off + t, none⟩) (by show B < w.heap.size + 1; omega)).trans ((HBW.out.cell (p := ⟨B, off + t, none⟩) hBl).trans hc)
      have HT := Lib.hid (tl_at m t (by rw [← HN.out]; exact hlt))
      clear hc HC hBl
      generalize gt m t = x at *
      have HP := Lib.hid (plain_any x wr)
      generalize hmb : msgB x = b at *
      have HMB := Lib.hid hmb
      clear hmb
      cases b
      · go_wp2_with fail
        refine (HP.out).mono ?_
        rintro e w1 ⟨rfl, rfl⟩
        have HO2 : Hid (wr.ownsRow (w.heap.size + 1) 5 1 (.slice p3 ((m.take t).filter msgB).length c3) ((m.take (t + 1)).filter msgB).length (bsU ((m.take (t + 1)).filter msgB))) := Lib.hid (by rw [HT.out]; simpa using HO.out)
        go_wp2
        go_roundw
        case rel => exact ⟨HBR.out, t + 1, by omega, by omega, by go_num, HO2.out⟩
        case measure => simp [intOf]; omega
      · go_wp2_with fail
        refine (HP.out).mono ?_
        rintro e w1 ⟨rfl, rfl⟩
        go_wp2_with (at_builtin; refine wpList_append_own _ rfl (.tmp 22) (.tmp 28) 22 rfl (w.heap.size + 1) 5 i0 (.int .u8 0) 1 1 Try.underlying22 hi0 hz0 hz1 hz2 rfl (by decide) _ ((m.take t).filter msgB).length _ rfl (HO.out.alloc _) ⟨wr.heap.size, 0, none⟩ 1 1 [_] rfl rfl (cellNew _ _ _) (by intro u hu; simp at hu; subst hu; rfl) (by unfold maxLen; have := HFL.out; omega) (by have := HFL.out; omega) (by have := HSR.out; simp; omega) ?_)
        intro v' w1 hown1 hgrow hnil
        have HB1 : Hid (Below (w.heap.size + 1) (w.alloc (.cells #[.slice q l.length cq, .bool neg, .slice (some ⟨B, off, none⟩) n c] 37)) w1) := Lib.hid ((HBR.out.alloc HSR.out _).grown hgrow (by have := HSR.out; simp; omega) (fun r hr => (HO.out.lt r hr).1))
        have HO2 : Hid (w1.ownsRow (w.heap.size + 1) 5 1 v' ((m.take (t + 1)).filter msgB).length (bsU ((m.take (t + 1)).filter msgB))) := Lib.hid (by have e := HT.out; simp only [reduceIte] at e; rw [e, bsU_snoc, List.length_append]; exact hown1)
        clear hown1 hgrow hnil
        go_wp2
        go_roundw
        case rel => exact ⟨HB1.out, t + 1, by omega, by omega, by go_num, HO2.out⟩
        case measure => simp [intOf]; omega
    · have hfin : tlN m = (m.take t).filter msgB := by
        unfold tlN
        by_cases h5 : t = n
        · rw [List.take_of_length_le (by rw [← HN.out]; omega), List.take_of_length_le (by rw [← HN.out]; omega)]
        · rw [show t = 50 by omega]
      have HF := Lib.hid hfin
      by_cases h5 : t < n
      · have k2 : ¬ ((t : Int) < 50) := by omega
        have k1 : (t : Int) < (n : Int) := by omega
        clear hlt hfin h5
        go_wp2
        go_ret
        exact ⟨_, rfl, by rw [HF.out]; exact own_base HO.out (Nat.le_succ _), HBW.out.trans (HBR.out.mono (Nat.le_succ _))⟩
      · have k1 : ¬ ((t : Int) < (n : Int)) := by omega
        clear hlt hfin h5
        go_wp2
        go_ret
        exact ⟨_, rfl, by rw [HF.out]; exact own_base HO.out (Nat.le_succ _), HBW.out.trans (HBR.out.mono (Nat.le_succ _))⟩

end E
end Go.Proofs.Ytfkenoehoocobaa

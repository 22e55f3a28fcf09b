/- The statements' numbers: their patterns. -/
import Derived.Test.YtfkenoehoocobaaEdTail
import Derived.Test.YtfkenoehoocobaaEdMore
namespace Go.Proofs.Ytfkenoehoocobaa
open Go.RowKit
set_option linter.unusedVariables false
namespace E

theorem own_oneU (w : World) (x : UInt8) (b : Nat) (hb : b = w.heap.size) : (w.alloc (.cells #[.int .u8 (x.toNat : Int)] 5)).ownsRow b 5 1 (.slice (some ⟨b, 0, none⟩) 1 1) 1 (bsU [x]) := by
  subst hb
  exact ⟨rfl, .inr ⟨_, 1, _, rfl, Nat.le_refl _, heap_alloc_new w _, Nat.le_refl _, by unfold maxLen; omega, rfl, rfl⟩⟩
theorem bsU_app (a b : List UInt8) : bsU (a ++ b) = bsU a ++ bsU b := by simp [bsU]
theorem selP_at (K : Int) : ∀ (d : List Nat) (i t : Nat), t < d.length → selP K i (d.take (t + 1)) = selP K i (d.take t) ++ [if ((i + t : Nat) : Int) = K then 33 else 32]
  | [], _, _, h => absurd h (Nat.not_lt_zero _)
  | _ :: _, _, 0, _ => rfl
  | a :: r, i, t + 1, h => by
    rw [List.take_succ_cons, List.take_succ_cons, selP, selP, selP_at K r (i + 1) t (by simpa using h), List.cons_append, show i + 1 + t = i + (t + 1) by omega]
theorem own_len {w : World} {b n n' size : Nat} {t : TypeId} {sv : Value} {xs ys : List Value} (h : w.ownsRow b t size sv n xs) (e : n' = n) (e2 : ys = xs) : w.ownsRow b t size sv n' ys := by
  subst e e2
  exact h
set_option maxRecDepth 100000 in
set_option maxHeartbeats 1000000 in
theorem pattern_any (v : Value) (l m : List UInt8) (neg : Bool) (c : UInt8) (K : Int) (w : World) (h : NumV w v l neg m) :
    Calls Try.prog 17 #[v, .int .u8 (c.toNat : Int), .int .i64 K] w (HPost w (ptN c K (dgN l) (tlN m))) := by
  obtain ⟨i0, hi0, hz0, hz1, hz2⟩ := info_parts info5
  have HD := Lib.hid (fun W (hb : Below w.heap.size w W) => digits_any v l m neg W (h.below hb))
  have HT := Lib.hid (fun W (hb : Below w.heap.size w W) => tail_any v l m neg W (h.below hb))
  obtain ⟨d, tv, rfl, hd, ht⟩ := h
  obtain ⟨p, c0, rfl, _⟩ := hd
  obtain ⟨q, cq, rfl, _⟩ := ht
  have HBW := Lib.hid (below_new w (.cells #[.slice p l.length c0, .bool neg, .slice q m.length cq] 37))
  have HSZ : Hid ((w.alloc (.cells #[.slice p l.length c0, .bool neg, .slice q m.length cq] 37)).heap.size = w.heap.size + 1) := Lib.hid (World.size_alloc _ _)
  have HB := Lib.hid (Bx.new w 37 #[.slice p l.length c0, .bool neg, .slice q m.length cq])
  have HBO := Lib.hid (below_new (w.alloc (.cells #[.slice p l.length c0, .bool neg, .slice q m.length cq] 37)) (.cells #[.int .u8 (c.toNat : Int)] 5))
  have HOW := Lib.hid (own_oneU (w.alloc (.cells #[.slice p l.length c0, .bool neg, .slice q m.length cq] 37)) c (w.heap.size + 1) HSZ.out.symm)
  have HLN := Lib.hid (dgN_len l).1
  have HTL := Lib.hid (tlN_len m)
  generalize dgN l = dg at *
  generalize tlN m = tl at *
  have HPT := Lib.hid (ptN_len c K dg tl)
  go_enter Try.func17, Try.ntmps17
  go_wp2_with fail
  refine (HD.out _ (bel0 HBW.out HBO.out)).mono ?_
  rintro e w1 ⟨sv, rfl, ho, hb⟩
  obtain ⟨p1, c1, rfl⟩ := ho.slice
  have hb1 := bel0 HBO.out hb
  rw [HSZ.out] at hb1
  have HB1 := Lib.hid hb1
  have HO1 := Lib.hid (own_kept HOW.out hb)
  obtain ⟨n, hn⟩ : ∃ n, n = dg.length := ⟨_, rfl⟩
  have HN := Lib.hid hn
  have hn99 : n ≤ 99 := by rw [hn]; exact HLN.out
  have H99 := Lib.hid hn99
  rw [← hn]
  clear ho hb hb1 hn
  go_wp2
  go_loopw [7, 9] (fun pv i wr => Below (w.heap.size + 1) (w.alloc (.cells #[.slice p l.length c0, .bool neg, .slice q m.length cq] 37)) wr ∧ ∃ t : Nat, t ≤ n ∧ i = .int .i64 t ∧ wr.ownsRow (w.heap.size + 1) 5 1 pv (1 + t) (bsU (c :: selP K 0 (dg.take t)))) (fun _ i _ => n - (intOf i).toNat)
  case atStart => exact ⟨HB1.out, 0, Nat.zero_le _, rfl, HO1.out⟩
  case round =>
    obtain ⟨hbw, t, ht, rfl, hown⟩ := hrel
    obtain ⟨p3, c3, rfl⟩ := own_slice hown
    have HBR := Lib.hid hbw
    have HO := Lib.hid hown
    have HSR : Hid (w.heap.size + 1 ≤ wr.heap.size) := Lib.hid (by have := hbw.size; rw [HSZ.out] at this; exact this)
    have hbox := (HB.out.bel hbw (Nat.lt_succ_self _))
    have HBX := Lib.hid hbox
    clear hbw hown hbox
    by_cases hlt : t < n
    · have HTK := Lib.hid (selP_at K dg 0 t (by rw [← HN.out]; exact hlt))
      by_cases hk : (t : Int) = K
      · have k1 : ((t : Int) == K) = true := by simpa using hk
        have HK := Lib.hid (show c :: selP K 0 (dg.take (t + 1)) = (c :: selP K 0 (dg.take t)) ++ [33] by rw [HTK.out, if_pos (by rw [Nat.zero_add]; exact hk)]; rfl)
        clear hk HTK
        go_wp2_with (at_builtin; refine wpList_append_own _ rfl (.tmp 23) (.tmp 24) 22 rfl (w.heap.size + 1) 5 i0 (.int .u8 0) 1 1 Try.underlying22 hi0 hz0 hz1 hz2 rfl (by decide) _ (1 + t) _ rfl (HO.out.alloc _) ⟨wr.heap.size, 0, none⟩ 1 1 [_] rfl rfl (cellNew _ _ _) (by intro u hu; simp at hu; subst hu; rfl) (by unfold maxLen; have := H99.out; omega) (by have := H99.out; omega) (by have := HSR.out; simp; omega) ?_)
        intro v' w2 hown1 hgrow hnil
        have HB2 : Hid (Below (w.heap.size + 1) (w.alloc (.cells #[.slice p l.length c0, .bool neg, .slice q m.length cq] 37)) w2) := Lib.hid ((HBR.out.alloc HSR.out _).grown hgrow (by have := HSR.out; simp; omega) (fun r hr => (HO.out.lt r hr).1))
        have HO2 : Hid (w2.ownsRow (w.heap.size + 1) 5 1 v' (1 + (t + 1)) (bsU (c :: selP K 0 (dg.take (t + 1))))) := Lib.hid (by
          rw [HK.out, bsU_snoc]
          exact hown1)
        clear hown1 hgrow hnil
        go_wp2
        go_roundw
        case rel => exact ⟨HB2.out, t + 1, by omega, by go_num, HO2.out⟩
        case measure => simp [intOf]; omega
      · have k1 : ((t : Int) == K) = false := by simpa using hk
        have HK := Lib.hid (show c :: selP K 0 (dg.take (t + 1)) = (c :: selP K 0 (dg.take t)) ++ [32] by rw [HTK.out, if_neg (by rw [Nat.zero_add]; exact hk)]; rfl)
        clear hk HTK
        go_wp2_with (at_builtin; refine wpList_append_own _ rfl (.tmp 26) (.tmp 27) 22 rfl (w.heap.size + 1) 5 i0 (.int .u8 0) 1 1 Try.underlying22 hi0 hz0 hz1 hz2 rfl (by decide) _ (1 + t) _ rfl (HO.out.alloc _) ⟨wr.heap.size, 0, none⟩ 1 1 [_] rfl rfl (cellNew _ _ _) (by intro u hu; simp at hu; subst hu; rfl) (by unfold maxLen; have := H99.out; omega) (by have := H99.out; omega) (by have := HSR.out; simp; omega) ?_)
        intro v' w2 hown1 hgrow hnil
        have HB2 : Hid (Below (w.heap.size + 1) (w.alloc (.cells #[.slice p l.length c0, .bool neg, .slice q m.length cq] 37)) w2) := Lib.hid ((HBR.out.alloc HSR.out _).grown hgrow (by have := HSR.out; simp; omega) (fun r hr => (HO.out.lt r hr).1))
        have HO2 : Hid (w2.ownsRow (w.heap.size + 1) 5 1 v' (1 + (t + 1)) (bsU (c :: selP K 0 (dg.take (t + 1))))) := Lib.hid (by
          rw [HK.out, bsU_snoc]
          exact hown1)
        clear hown1 hgrow hnil
        go_wp2
        go_roundw
        case rel => exact ⟨HB2.out, t + 1, by omega, by go_num, HO2.out⟩
        case measure => simp [intOf]; omega
    · obtain rfl : t = n := by omega
      have hfull := HO.out
      rw [HN.out, List.take_length, ← HN.out] at hfull
      have HOF := Lib.hid hfull
      have HBD : Hid (Below w.heap.size w wr) := Lib.hid (HBW.out.trans (HBR.out.mono (Nat.le_succ _)))
      obtain ⟨⟨b0, b1, b2⟩, _⟩ := HBX.out.three
      clear hfull hlt
      go_wp2_with fail
      refine (HT.out wr HBD.out).mono ?_
      rintro e w2 ⟨sv5, rfl, ho5, hb5⟩
      obtain ⟨p5, c5, rfl, hr5, hle5, hcm5, hnil5⟩ := ho5.full
      have HO5 := Lib.hid (own_kept HOF.out hb5)
      have HS5 := Lib.hid (show w.heap.size + 1 ≤ w2.heap.size from Nat.le_trans HSR.out hb5.size)
      have HB5 := Lib.hid (hb5.mono HSR.out)
      have HR5 := Lib.hid hr5
      have HL5 := Lib.hid hle5
      have HN5 := Lib.hid hnil5
      clear ho5 hb5 hr5 hle5 hcm5 hnil5 b0 b1 b2
      go_wp2_with (at_builtin; go_must (refine wpList_append_sv rfl (.tmp 29) (.tmp 31) rfl (w.heap.size + 1) _ (1 + t) _ rfl HO5.out p5 tl.length c5 tl rfl rfl HR5.out HL5.out HN5.out (by have := H99.out; have := HTL.out; omega) HS5.out ?_))
      intro v6 w6 ho6 hg6
      have HB6 : Hid (Below (w.heap.size + 1) wr w6) := Lib.hid (HB5.out.grown hg6 HS5.out (fun r hr => (HO5.out.lt r hr).1))
      have HO6 : Hid (Hold w6 w.heap.size v6 (ptN c K dg tl)) := Lib.hid (by
        unfold Hold
        refine own_base (own_len ho6 ?_ ?_) (Nat.le_succ _)
        · rw [HPT.out, ← HN.out]
        · rw [← bsU_app]; rfl)
      clear ho6 hg6
      go_wp2
      go_ret
      exact ⟨_, rfl, HO6.out, HBW.out.trans ((HBR.out.trans HB6.out).mono (Nat.le_succ _))⟩

end E
end Go.Proofs.Ytfkenoehoocobaa

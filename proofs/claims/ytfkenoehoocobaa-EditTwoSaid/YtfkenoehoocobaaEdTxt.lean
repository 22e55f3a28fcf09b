/- The statements' numbers: the edited texts that are asked for. -/
import Derived.Test.YtfkenoehoocobaaEdPat
namespace Go.Proofs.Ytfkenoehoocobaa
open Go.RowKit
set_option linter.unusedVariables false
namespace E

theorem own_far {w w' : World} {b n size : Nat} {t : TypeId} {sv : Value} {xs : List Value} {row : Option Nat} (h : w.ownsRow b t size sv n xs) (hg : w.grownBy w' row) (hne : ∀ g, sv.ownBlock = some g → some g ≠ row) : w'.ownsRow b t size sv n xs := by
  obtain ⟨h0, h1 | ⟨g, cap, cur, hv, hbg, hh, hle, hm, hsz, ht⟩⟩ := h
  · exact ⟨h0, .inl h1⟩
  · refine ⟨h0, .inr ⟨g, cap, cur, hv, hbg, ?_, hle, hm, hsz, ht⟩⟩
    have hlt : g < w.heap.size := (Array.getElem?_eq_some_iff.1 hh).1
    rw [hg.block g hlt (hne g (by rw [hv]; rfl))]
    exact hh
/-- Two rows of the call's own in blocks apart: one that is read, one that grows. -/
def Two (A : Nat) (W0 : World) (u : Value) (ty : TypeId) (m : Nat) (ys : List Value) (v : Value) (n : Nat) (xs : List Value) (w : World) : Prop :=
  Below A W0 w ∧ A ≤ w.heap.size ∧ w.ownsRow A ty 1 u m ys ∧ w.ownsRow A 5 1 v n xs ∧ ∀ g, v.ownBlock = some g → u.ownBlock ≠ some g
theorem Two.app {A : Nat} {W0 w w' : World} {u v : Value} {ty : TypeId} {m n g cap : Nat} {ys xs : List Value} {x : Value} {o : Obj} (h : Two A W0 u ty m ys v n xs w)
    (h1 : w'.ownsRow A 5 1 (.slice (some ⟨g, 0, none⟩) (n + 1) cap) (n + 1) (xs ++ [x])) (h2 : (w.alloc o).grownBy w' v.ownBlock) (h3 : v.ownBlock = some g ∨ g = w.heap.size + 1) :
    Two A W0 u ty m ys (.slice (some ⟨g, 0, none⟩) (n + 1) cap) (n + 1) (xs ++ [x]) w' := by
  obtain ⟨a1, a2, a3, a4, a5⟩ := h
  have hsz : (w.alloc o).heap.size = w.heap.size + 1 := World.size_alloc _ _
  have hbel := ((a1.alloc a2 o).grown h2 (by rw [hsz]; omega) (fun r hr => (a4.lt r hr).1))
  refine ⟨hbel, ?_, own_far (own_kept a3 (below_new w o)) h2 (fun k hk e => ?_), h1, fun k hk => ?_⟩
  · have := h2.size
    rw [hsz] at this
    omega
  · exact a5 k e.symm hk
  · obtain rfl : g = k := by simpa [Value.ownBlock] using hk
    intro e
    rcases h3 with h3 | h3
    · exact a5 g h3 e
    · have := (a3.lt g e).2
      omega
theorem txD_at (fill : UInt8) (f : Nat) : ∀ (d : List Nat) (i t : Nat), t < d.length → txD fill f i (d.take (t + 1)) = txD fill f i (d.take t) ++ [if f ≤ i + t then UInt8.ofNat (240 + d.getD t 0) else fill]
  | [], _, _, h => absurd h (Nat.not_lt_zero _)
  | _ :: _, _, 0, _ => rfl
  | a :: r, i, t + 1, h => by
    rw [List.take_succ_cons, List.take_succ_cons, txD, txD, txD_at fill f r (i + 1) t (by simpa using h), List.cons_append, show i + 1 + t = i + (t + 1) by omega]
    rfl
theorem row_int {w : World} {A m : Nat} {u : Value} {d : List Nat} (h : w.ownsRow A 3 1 u m (bsN d)) (hm : m = d.length) (k : Nat) (hk : k < m) : ∃ g c, u = .slice (some ⟨g, 0, none⟩) m c ∧ w.cell? ⟨g, k, none⟩ = some (.int .i64 ((d.getD k 0 : Nat) : Int)) := by
  subst hm
  obtain ⟨p, c, rfl⟩ := own_slice h
  obtain ⟨g, rfl, hc⟩ := OwnI.at' (show OwnI w A _ d from h) k hk
  exact ⟨g, c, rfl, hc⟩
theorem row_byte {w : World} {A m : Nat} {u : Value} {l : List UInt8} (h : w.ownsRow A 5 1 u m (bsU l)) (hm : m = l.length) (k : Nat) (hk : k < m) : ∃ g c, u = .slice (some ⟨g, 0, none⟩) m c ∧ w.cell? ⟨g, k, none⟩ = some (.int .u8 ((gt l k).toNat : Int)) := by
  subst hm
  have h' := h
  obtain ⟨_, ⟨_, h0⟩ | ⟨g, c', cur, rfl, hrest⟩⟩ := h
  · omega
  · refine ⟨g, c', rfl, ?_⟩
    rw [h'.cellAt k (by omega), bsU_get l k hk]
theorem zone9 (a : Nat) (h : a ≤ 9) : (240 + (a : Int)) % 256 = ((UInt8.ofNat (240 + a)).toNat : Int) ∧ 240 + (a : Int) = ((UInt8.ofNat (240 + a)).toNat : Int) := by
  rw [show (UInt8.ofNat (240 + a)).toNat = 240 + a from by rw [UInt8.toNat_ofNat']; exact Nat.mod_eq_of_lt (by show 240 + a < 256; omega)]
  omega
def tlB (b : Bool) (fill x : UInt8) : UInt8 := if b then x else fill
/-- The message bytes behind the digits, up to an index: shown, or hidden. -/
def tlT (b : Bool) (fill : UInt8) (tl : List UInt8) (j : Nat) : List UInt8 := (tl.take j).map (tlB b fill)
theorem tlT_zero (b : Bool) (fill : UInt8) (tl : List UInt8) : tlT b fill tl 0 = [] := rfl
theorem rep_at (b : Bool) (fill : UInt8) (tl : List UInt8) (t : Nat) (h : t < tl.length) : tlT b fill tl (t + 1) = tlT b fill tl t ++ [tlB b fill (gt tl t)] := by
  unfold tlT
  rw [take_one h, List.map_append]
  rfl
theorem rep_all (b : Bool) (fill : UInt8) (tl : List UInt8) : tlT b fill tl tl.length = if b then tl else List.replicate tl.length fill := by
  unfold tlT
  rw [List.take_length]
  induction tl with
  | nil => cases b <;> rfl
  | cons x r ih =>
    rw [List.map_cons, ih]
    cases b <;> rfl
set_option maxRecDepth 100000 in
set_option maxHeartbeats 2000000 in
theorem text_any (v : Value) (l m : List UInt8) (neg : Bool) (fill : UInt8) (f : Nat) (bh : Bool) (w : World) (h : NumV w v l neg m) :
    Calls Try.prog 21 #[v, .int .u8 (fill.toNat : Int), .int .i64 (f : Int), .bool bh] w (HPost w (txN fill f (dgN l) (tlN m) bh)) := by
  obtain ⟨i0, hi0, hz0, hz1, hz2⟩ := info_parts info5
  have HD := Lib.hid (fun W (hb : Below w.heap.size w W) => digits_any v l m neg W (h.below hb))
  have HT := Lib.hid (fun W (hb : Below w.heap.size w W) => tail_any v l m neg W (h.below hb))
  obtain ⟨d, tv, rfl, hd, ht⟩ := h
  obtain ⟨p, c0, rfl, _⟩ := hd
  obtain ⟨q, cq, rfl, _⟩ := ht
  have HBW := Lib.hid (below_new w (.cells #[.slice p l.length c0, .bool neg, .slice q m.length cq] 37))
  have HSZ : Hid ((w.alloc (.cells #[.slice p l.length c0, .bool neg, .slice q m.length cq] 37)).heap.size = w.heap.size + 1) := Lib.hid (World.size_alloc _ _)
  have HB := Lib.hid (Bx.new w 37 #[.slice p l.length c0, .bool neg, .slice q m.length cq])
  have HBO := Lib.hid (below_new (w.alloc (.cells #[.slice p l.length c0, .bool neg, .slice q m.length cq] 37)) (.cells #[.int .u8 (fill.toNat : Int)] 5))
  have HOW := Lib.hid (own_oneU (w.alloc (.cells #[.slice p l.length c0, .bool neg, .slice q m.length cq] 37)) fill (w.heap.size + 1) HSZ.out.symm)
  have HLN := Lib.hid (dgN_len l).1
  have HTL := Lib.hid (tlN_len m)
  have H9 := Lib.hid (dgN_nine l)
  generalize dgN l = dg at *
  generalize tlN m = tl at *
  have HTX := Lib.hid (txN_len fill f dg tl bh)
  obtain ⟨W0, hW0⟩ : ∃ W0, W0 = w.alloc (.cells #[.slice p l.length c0, .bool neg, .slice q m.length cq] 37) := ⟨_, rfl⟩
  rw [← hW0] at HBW HSZ HB HBO HOW
  have hsz1 : (W0.alloc (.cells #[.int .u8 (fill.toNat : Int)] 5)).heap.size = w.heap.size + 1 + 1 := by rw [World.size_alloc, HSZ.out]
  have HSZ1 := Lib.hid hsz1
  clear hsz1
  go_enter Try.func21, Try.ntmps21
  go_wp2_with fail
  rw [← hW0]
  clear hW0
  refine (HD.out _ (bel0 HBW.out HBO.out)).mono ?_
  rintro e w1 ⟨sv, rfl, ho, hb⟩
  obtain ⟨p1, c1, rfl⟩ := ho.slice
  have hb1 := bel0 HBO.out hb
  rw [HSZ.out] at hb1
  have htwo : Two (w.heap.size + 1) W0 (.slice p1 dg.length c1) 3 dg.length (bsN dg) (.slice (some ⟨w.heap.size + 1, 0, none⟩) 1 1) 1 (bsU [fill]) w1 := by
    refine ⟨hb1, by have := hb1.size; rw [HSZ.out] at this; exact this, own_base ho (by rw [HSZ1.out]; omega), own_kept HOW.out hb, fun g hg e => ?_⟩
    obtain rfl : w.heap.size + 1 = g := by simpa [Value.ownBlock] using hg
    have := (World.ownsRow.lt ho _ e).1
    rw [HSZ1.out] at this
    omega
  have HTW := Lib.hid htwo
  obtain ⟨n, hn⟩ : ∃ n, n = dg.length := ⟨_, rfl⟩
  have HN := Lib.hid hn
  have hn99 : n ≤ 99 := by rw [hn]; exact HLN.out
  have H99 := Lib.hid hn99
  rw [← hn] at HTW ⊢
  clear ho hb hb1 hn htwo
  go_wp2
  go_loopw [9, 11] (fun pv i wr => ∃ t : Nat, t ≤ n ∧ i = .int .i64 t ∧ Two (w.heap.size + 1) W0 (.slice p1 n c1) 3 n (bsN dg) pv (1 + t) (bsU (fill :: txD fill f 0 (dg.take t))) wr) (fun _ i _ => n - (intOf i).toNat)
  case atStart => exact ⟨0, Nat.zero_le _, rfl, HTW.out⟩
  case round =>
    obtain ⟨t, ht, rfl, htw⟩ := hrel
    obtain ⟨p3, c3, rfl⟩ := own_slice htw.2.2.2.1
    have HO := Lib.hid htw
    clear htw
    by_cases hlt : t < n
    · have HTK := Lib.hid (txD_at fill f dg 0 t (by rw [← HN.out]; exact hlt))
      by_cases hk : f ≤ t
      · obtain ⟨g1, c4, he, hc⟩ := row_int HO.out.2.2.1 HN.out t hlt
        obtain ⟨rfl, _, rfl⟩ := Value.slice.inj he
        have h9 : dg.getD t 0 ≤ 9 := H9.out _ (by
          have hlt' : t < dg.length := by rw [← HN.out]; exact hlt
          rw [List.getD_eq_getElem?_getD, List.getElem?_eq_getElem hlt']
          exact List.getElem_mem hlt')
        have HK := Lib.hid (show fill :: txD fill f 0 (dg.take (t + 1)) = (fill :: txD fill f 0 (dg.take t)) ++ [UInt8.ofNat (240 + dg.getD t 0)] by rw [HTK.out, if_pos (by omega)]; rfl)
        generalize dg.getD t 0 = a at *
        have hz := zone9 a h9
        have HZ := Lib.hid hz
        have k1 : (f : Int) ≤ (t : Int) := by omega
        have h9' : (a : Int) ≤ 9 := by omega
        clear hk he hz HTK h9
        go_wp2_with (at_builtin; go_must (refine wpList_append_lies _ rfl (.tmp 27) (.tmp 34) 22 rfl (w.heap.size + 1) 5 i0 (.int .u8 0) 1 1 Try.underlying22 hi0 hz0 hz1 hz2 rfl (by decide) _ (1 + t) _ rfl (HO.out.2.2.2.1.alloc _) ⟨wr.heap.size, 0, none⟩ 1 1 [_] rfl rfl (cellNew _ _ _) (by intro u hu; simp at hu; subst hu; rfl) (by decide) (by unfold maxLen; have := H99.out; omega) (by have := H99.out; omega) (by have := HO.out.2.1; simp; omega) (wr.heap.size + 1) (World.size_alloc _ _) ?_))
        intro g cap w2 hown1 hgrow hat hlt1
        have HO2 : Hid (Two (w.heap.size + 1) W0 (.slice (some ⟨g1, 0, none⟩) n c1) 3 n (bsN dg) (.slice (some ⟨g, 0, none⟩) (1 + (t + 1)) cap) (1 + (t + 1)) (bsU (fill :: txD fill f 0 (dg.take (t + 1)))) w2) := Lib.hid (by
          rw [HK.out, bsU_snoc]
          first
            | (rw [← HZ.out.2]; exact Two.app HO.out hown1 hgrow hat)
            | (rw [← HZ.out.1]; exact Two.app HO.out hown1 hgrow hat))
        clear hown1 hgrow hat hlt1
        go_wp2
        go_roundw
        case rel => exact ⟨t + 1, by omega, by go_num, HO2.out⟩
        case measure => simp [intOf]; omega
      · have HK := Lib.hid (show fill :: txD fill f 0 (dg.take (t + 1)) = (fill :: txD fill f 0 (dg.take t)) ++ [fill] by rw [HTK.out, if_neg (by omega)]; rfl)
        have k1 : ¬ ((f : Int) ≤ (t : Int)) := by omega
        clear hk HTK
        go_wp2_with (at_builtin; go_must (refine wpList_append_lies _ rfl (.tmp 36) (.tmp 38) 22 rfl (w.heap.size + 1) 5 i0 (.int .u8 0) 1 1 Try.underlying22 hi0 hz0 hz1 hz2 rfl (by decide) _ (1 + t) _ rfl (HO.out.2.2.2.1.alloc _) ⟨wr.heap.size, 0, none⟩ 1 1 [_] rfl rfl (cellNew _ _ _) (by intro u hu; simp at hu; subst hu; rfl) (by decide) (by unfold maxLen; have := H99.out; omega) (by have := H99.out; omega) (by have := HO.out.2.1; simp; omega) (wr.heap.size + 1) (World.size_alloc _ _) ?_))
        intro g cap w2 hown1 hgrow hat hlt1
        have HO2 : Hid (Two (w.heap.size + 1) W0 (.slice p1 n c1) 3 n (bsN dg) (.slice (some ⟨g, 0, none⟩) (1 + (t + 1)) cap) (1 + (t + 1)) (bsU (fill :: txD fill f 0 (dg.take (t + 1)))) w2) := Lib.hid (by
          rw [HK.out, bsU_snoc]
          exact Two.app HO.out hown1 hgrow hat)
        clear hown1 hgrow hat hlt1
        go_wp2
        go_roundw
        case rel => exact ⟨t + 1, by omega, by go_num, HO2.out⟩
        case measure => simp [intOf]; omega
    · obtain rfl : t = n := by omega
      have hfull := HO.out
      rw [HN.out, List.take_length, ← HN.out] at hfull
      have HOF := Lib.hid hfull
      have HBD : Hid (Below w.heap.size w wr) := Lib.hid (HBW.out.trans (HO.out.1.mono (Nat.le_succ _)))
      obtain ⟨⟨b0, b1, b2⟩, _⟩ := (HB.out.bel HO.out.1 (Nat.lt_succ_self _)).three
      clear hfull hlt HO
      go_wp2_with fail
      refine (HT.out wr HBD.out).mono ?_
      rintro e w2 ⟨sv5, rfl, ho5, hb5⟩
      obtain ⟨p5, c5, rfl⟩ := own_slice ho5
      obtain ⟨k, hk⟩ : ∃ k, k = tl.length := ⟨_, rfl⟩
      have HKL := Lib.hid hk
      have hk50 : k ≤ 50 := by rw [hk]; exact HTL.out
      have htwo : Two (w.heap.size + 1) W0 (.slice p5 k c5) 5 k (bsU tl) (.slice p3 (1 + t) c3) (1 + t) (bsU (fill :: txD fill f 0 dg)) w2 := by
        obtain ⟨a1, a2, a3, a4, a5⟩ := HOF.out
        rw [hk]
        refine ⟨a1.trans (hb5.mono a2), Nat.le_trans a2 hb5.size, own_base ho5 a2, own_kept a4 hb5, fun g hg e => ?_⟩
        have h1 := (a4.lt g hg).2
        have h2 := (World.ownsRow.lt ho5 g e).1
        omega
      have HTW2 := Lib.hid htwo
      rw [← hk]
      clear hk htwo ho5 hb5 b0 b1 b2 HTW HOF
      go_wp2
      go_loopw [9, 13] (fun pv i wr => ∃ j : Nat, j ≤ k ∧ i = .int .i64 j ∧ Two (w.heap.size + 1) W0 (.slice p5 k c5) 5 k (bsU tl) pv (1 + t + j) (bsU (fill :: (txD fill f 0 dg ++ tlT bh fill tl j))) wr) (fun _ i _ => k - (intOf i).toNat)
      case atStart => exact ⟨0, Nat.zero_le _, rfl, by rw [tlT_zero, List.append_nil]; exact HTW2.out⟩
      case round =>
        obtain ⟨j, hj, rfl, htw⟩ := hrel
        obtain ⟨p6, c6, rfl⟩ := own_slice htw.2.2.2.1
        have HO := Lib.hid htw
        clear htw
        by_cases hlt : j < k
        · have hK := (show fill :: (txD fill f 0 dg ++ tlT bh fill tl (j + 1)) = (fill :: (txD fill f 0 dg ++ tlT bh fill tl j)) ++ [tlB bh fill (gt tl j)] by rw [rep_at bh fill tl j (by rw [← HKL.out]; exact hlt), ← List.append_assoc]; rfl)
          obtain ⟨g1, c4, he, hc⟩ := row_byte HO.out.2.2.1 HKL.out j hlt
          obtain ⟨rfl, _, rfl⟩ := Value.slice.inj he
          have HK := Lib.hid hK
          clear he hK
          generalize gt tl j = x at *
          cases bh
          · go_wp2_with (at_builtin; go_must (refine wpList_append_lies _ rfl (.tmp 56) (.tmp 58) 22 rfl (w.heap.size + 1) 5 i0 (.int .u8 0) 1 1 Try.underlying22 hi0 hz0 hz1 hz2 rfl (by decide) _ (1 + t + j) _ rfl (HO.out.2.2.2.1.alloc _) ⟨wr.heap.size, 0, none⟩ 1 1 [_] rfl rfl (cellNew _ _ _) (by intro u hu; simp at hu; subst hu; rfl) (by decide) (by unfold maxLen; have := H99.out; omega) (by have := H99.out; omega) (by have := HO.out.2.1; simp; omega) (wr.heap.size + 1) (World.size_alloc _ _) ?_))
            intro g cap w3 hown1 hgrow hat hlt1
            have HO2 : Hid (Two (w.heap.size + 1) W0 (.slice (some ⟨g1, 0, none⟩) k c5) 5 k (bsU tl) (.slice (some ⟨g, 0, none⟩) (1 + t + (j + 1)) cap) (1 + t + (j + 1)) (bsU (fill :: (txD fill f 0 dg ++ tlT false fill tl (j + 1)))) w3) := Lib.hid (by
              rw [HK.out, bsU_snoc]
              exact Two.app HO.out hown1 hgrow hat)
            clear hown1 hgrow hat hlt1
            go_wp2
            go_roundw
            case rel => exact ⟨j + 1, by omega, by go_num, HO2.out⟩
            case measure => simp [intOf]; omega
          · go_wp2_with (at_builtin; go_must (refine wpList_append_lies _ rfl (.tmp 49) (.tmp 54) 22 rfl (w.heap.size + 1) 5 i0 (.int .u8 0) 1 1 Try.underlying22 hi0 hz0 hz1 hz2 rfl (by decide) _ (1 + t + j) _ rfl (HO.out.2.2.2.1.alloc _) ⟨wr.heap.size, 0, none⟩ 1 1 [_] rfl rfl (cellNew _ _ _) (by intro u hu; simp at hu; subst hu; rfl) (by decide) (by unfold maxLen; have := H99.out; omega) (by have := H99.out; omega) (by have := HO.out.2.1; simp; omega) (wr.heap.size + 1) (World.size_alloc _ _) ?_))
            intro g cap w3 hown1 hgrow hat hlt1
            have HO2 : Hid (Two (w.heap.size + 1) W0 (.slice (some ⟨g1, 0, none⟩) k c5) 5 k (bsU tl) (.slice (some ⟨g, 0, none⟩) (1 + t + (j + 1)) cap) (1 + t + (j + 1)) (bsU (fill :: (txD fill f 0 dg ++ tlT true fill tl (j + 1)))) w3) := Lib.hid (by
              rw [HK.out, bsU_snoc]
              exact Two.app HO.out hown1 hgrow hat)
            clear hown1 hgrow hat hlt1
            go_wp2
            go_roundw
            case rel => exact ⟨j + 1, by omega, by go_num, HO2.out⟩
            case measure => simp [intOf]; omega
        · obtain rfl : j = k := by omega
          have HF : Hid (Hold wr w.heap.size (.slice p6 (1 + t + j) c6) (txN fill f dg tl bh)) := Lib.hid (by
            have h := HO.out.2.2.2.1
            rw [HKL.out, rep_all, ← HKL.out] at h
            unfold Hold
            refine own_base (own_len h ?_ (by rw [HKL.out]; rfl)) (Nat.le_succ _)
            rw [HTX.out, ← HN.out, ← HKL.out])
          have HB9 := Lib.hid (HBW.out.trans (HO.out.1.mono (Nat.le_succ _)))
          clear HO hlt
          go_wp2
          go_ret
          exact ⟨_, rfl, HF.out, HB9.out⟩

end E
end Go.Proofs.Ytfkenoehoocobaa

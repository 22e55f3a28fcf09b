/- The walk of the statement IsaBack: it answers true, and below its own memory nothing turns. -/
import Derived.Test.YtaodghaicmjadaaDoorIsOpen
import Derived.Laws.AppendOwn
import Derived.Laws.AppendOwnNone
namespace Go.Proofs.YtaodghaicmjadaaDoor.isaBack
open Go.RowKit Go.Shelf E
set_option linter.unusedVariables false
attribute [local go_sem 5000] ins_eql

/-- 'append(buf, xs...)': buf the call's own, xs any slice of bytes that reads as a list. -/
theorem append_rd {w : World} {ops : Array Oper} {rest : List Oper} {o : Oper} {a : Act} {Q : Exit → Act → World → Prop} (hgd : o.guard = none) (s x : Operand)
    (ho : o.op = .call { callee := .builtin .append, args := #[s, x], argTypes := #[29, 29] })
    (base : Nat) (v : Value) (n : Nat) (xs : List Value) (hs : a.eval s = v) (hown : w.ownsRow base 5 1 v n xs)
    (p : Option Addr) (c m : Nat) (l : List UInt8) (hm : l.length = m) (hx : a.eval x = .slice p m c) (hc : p = none → c = 0) (hr : Rd w p l) (hn : n + m ≤ 140737488355328) (hbase : base ≤ w.heap.size)
    (h : ∀ v' w', w'.ownsRow base 5 1 v' (n + m) (xs ++ bsU l) → w.grownBy w' v.ownBlock → wpList Tryd.prog ops Q rest (a.put o.dst v') w') : wpList Tryd.prog ops Q (o :: rest) a w := by
  obtain ⟨i0, hi, hz0, hz1, hz2⟩ := info_parts info5
  subst hm
  cases p with
  | none =>
    have hl : l = [] := by
      rcases hr with h | ⟨_, _, h, _⟩
      · exact h
      · cases h
    subst hl
    rw [hc rfl] at hx
    refine wpList_append_own_none hgd s x 29 ho base 5 i0 1 Tryd.underlying29 hi v n xs hs hown hx ?_
    refine h v w (by simpa [bsU] using hown) ⟨rfl, rfl, rfl, Nat.le_refl _, fun _ _ _ => rfl⟩
  | some ad =>
    refine wpList_append_own _ hgd s x 29 ho base 5 i0 (.int .u8 0) 1 1 Tryd.underlying29 hi hz0 hz1 hz2 rfl (by decide) v n xs hs hown ad l.length c (bsU l) hx (by rw [bsU_len]; omega) ?_ (bsU_one l) (by unfold maxLen; omega) (by omega) hbase fun v' w' h1 h2 _ => h v' w' h1 h2
    rcases hr with h0 | ⟨B, off, he, hcell⟩
    · subst h0
      intro j u hu
      simp [bsU] at hu
    · cases he
      intro j u hu
      obtain ⟨hj, rfl⟩ := bsU_at hu
      rw [show ((⟨B, off, none⟩ : Addr).add j) = ⟨B, off + j, none⟩ from by simp [Addr.add]]
      exact hcell j hj
theorem own_ge {W : World} {base n size : Nat} {t : TypeId} {v : Value} {xs : List Value} (h : W.ownsRow base t size v n xs) : ∀ r, v.ownBlock = some r → base ≤ r := by
  intro r hr
  obtain ⟨_, ⟨h2, _⟩ | ⟨g, cap, cur, hv, hg, _⟩⟩ := h
  · rw [h2] at hr
    cases hr
  · rw [hv] at hr
    cases hr
    exact hg
theorem own_empty (W : World) : (W.alloc (.cells #[] 5)).ownsRow W.heap.size 5 1 (.slice (some ⟨W.heap.size, 0, none⟩) 0 0) 0 [] :=
  ⟨rfl, .inr ⟨W.heap.size, 0, #[], rfl, Nat.le_refl _, heap_alloc_new W _, Nat.le_refl _, by unfold maxLen; omega, rfl, rfl⟩⟩
theorem info_u8 : (Tryd.prog.info? 5).map (fun i => (i.zero, i.size, i.bytes)) = some (some (.int .u8 0), 1, 1) := info5

set_option maxRecDepth 100000 in
set_option maxHeartbeats 400000 in
theorem no (Q : Ins) (v : Value) (w : World) (h0 : chkV Q ≠ 0) :
    Calls Tryd.prog 7 #[Q.val, v] w (New w (.bool true)) := by
  have HC := Lib.hid (fun W => check_any Q W)
  have HE := Lib.hid (fun W => (encode_any Q W).mono (fun e w' (h : EncPost W Q e w') => (h.elim (fun x => x.2) (fun x => absurd x.1 h0) : New W (.tuple #[.slice none 0 0, .int .i64 (chkV Q)]) e w')))
  obtain ⟨k, hk⟩ : ∃ k, k = chkV Q := ⟨_, rfl⟩
  have hkb : (k != 0) = true := by rw [hk, bne_iff_ne]; exact h0
  rw [← hk] at HC HE
  have HQ1 := Lib.hid (Bx.new w 28 Q.cs)
  have HB1 := Lib.hid (below_new w (.cells Q.cs 28))
  obtain ⟨I, hI⟩ : ∃ I, I = w.heap.size := ⟨_, rfl⟩
  obtain ⟨w1, hw1⟩ : ∃ w1, w1 = w.alloc (.cells Q.cs 28) := ⟨_, rfl⟩
  rw [← hw1] at HB1 HQ1
  rw [← hI] at HQ1
  obtain ⟨c0, c1, c2, c3, c4, c5, c6, c7, c8, c9, c10, c11⟩ := bx_cells HQ1.out
  unfold Ins.cs at hw1
  unfold Ins.val at HC HE ⊢
  clear h0 hk
  have HWI := Lib.hid (And.intro hw1 hI)
  rw [hw1] at c0 c1 c2 c3 c4 c5 c6 c7 c8 c9 c10 c11
  rw [hI] at c0 c1 c2 c3 c4 c5 c6 c7 c8 c9 c10 c11
  clear hw1 hI
  go_enter Tryd.func7, Tryd.ntmps7
  go_wp2_with fail
  clear c0 c1 c2 c3 c4 c5 c6 c7 c8 c9 c10 c11
  rw [← HWI.out.1, ← HWI.out.2]
  refine (HC.out _).mono ?_
  rintro e w2 ⟨rfl, hb⟩
  have HB2 := Lib.hid (bel0 HB1.out hb)
  have HQ2 := Lib.hid (HQ1.out.below hb)
  obtain ⟨c0, c1, c2, c3, c4, c5, c6, c7, c8, c9, c10, c11⟩ := bx_cells HQ2.out
  clear hb HQ1 HB1
  go_wp2_with fail
  refine (HE.out _).mono ?_
  rintro e w3 ⟨rfl, hb⟩
  have HB3 := Lib.hid (bel0 HB2.out hb)
  have HQ3 := Lib.hid (HQ2.out.below hb)
  clear c0 c1 c2 c3 c4 c5 c6 c7 c8 c9 c10 c11
  obtain ⟨c0, c1, c2, c3, c4, c5, c6, c7, c8, c9, c10, c11⟩ := bx_cells HQ3.out
  clear hb HQ2 HB2 HE
  go_wp2_with fail
  refine (HC.out _).mono ?_
  rintro e w4 ⟨rfl, hb⟩
  have HB4 := Lib.hid (bel0 HB3.out hb)
  clear hb HQ3 HB3 HC c0 c1 c2 c3 c4 c5 c6 c7 c8 c9 c10 c11
  go_wp2_with fail
  refine (works_any _).mono ?_
  rintro e w5 ⟨rfl, hb⟩
  have HB5 := Lib.hid (bel0 HB4.out hb)
  clear hb HB4
  go_wp2
  go_ret
  exact ⟨rfl, HB5.out⟩
set_option maxRecDepth 100000 in
set_option maxHeartbeats 400000 in
theorem yes (Q : Ins) (p : Option Addr) (c : Nat) (l : List UInt8) (w : World) (h0 : chkV Q = 0) (hp : Rd w p l) (hcl : l.length ≤ c) (hcm : c ≤ 9223372036854775807) (hcz : p = none → c = 0) (hsz : l.length ≤ 140737488351232) :
    Calls Tryd.prog 7 #[Q.val, .slice p l.length c] w (New w (.bool true)) := by
  obtain ⟨hbk1, hbk2⟩ := back h0 l
  have hlen6 := len_small Q.op
  obtain ⟨nn, hnn⟩ : ∃ nn, nn = lenO Q.op := ⟨_, rfl⟩
  have hbl : (bytesOf Q).length = nn := by rw [bytes_len, hnn]
  have HC := Lib.hid (fun W => check_any Q W)
  rw [h0] at HC
  have HE := Lib.hid (fun W => encode_any Q W)
  have HL := Lib.hid (fun W => length_any Q.op W)
  rw [← hnn] at HL hlen6
  have HD := Lib.hid (fun W q d (h1 : Rd W q (bytesOf Q ++ l)) (h2 : (bytesOf Q ++ l).length ≤ d) (h3 : d ≤ 9223372036854775807) => by
    have h := decode_any q d (bytesOf Q ++ l) W h1 h2 h3
    unfold decV at h
    rw [hbk1, hbk2] at h
    exact h)
  have HN := Lib.hid h0
  have HP := Lib.hid hp
  have HZ := Lib.hid (And.intro hsz (And.intro hcz hlen6))
  have HBL := Lib.hid hbl
  have HB := Lib.hid (show lastB (enW (foO (ixC Q.op)) Q) (lenO Q.op) = bytesOf Q from rfl)
  have HQ1 := Lib.hid (Bx.new w 28 Q.cs)
  have HB1 := Lib.hid (below_new w (.cells Q.cs 28))
  obtain ⟨I, hI⟩ : ∃ I, I = w.heap.size := ⟨_, rfl⟩
  obtain ⟨w1, hw1⟩ : ∃ w1, w1 = w.alloc (.cells Q.cs 28) := ⟨_, rfl⟩
  obtain ⟨n, hn⟩ : ∃ n, n = l.length := ⟨_, rfl⟩
  have HNL := Lib.hid hn
  have HS1 := Lib.hid (show 0 + nn ≤ 140737488355328 from by omega)
  have HS2 := Lib.hid (show nn + n ≤ 140737488355328 from by omega)
  rw [← hn]
  rw [← hw1] at HB1 HQ1
  rw [← hI] at HQ1
  obtain ⟨c0, c1, c2, c3, c4, c5, c6, c7, c8, c9, c10, c11⟩ := bx_cells HQ1.out
  unfold Ins.cs at hw1
  unfold Ins.val at HC HE HD ⊢
  have HWI := Lib.hid (And.intro hw1 hI)
  rw [hw1] at c0 c1 c2 c3 c4 c5 c6 c7 c8 c9 c10 c11
  rw [hI] at c0 c1 c2 c3 c4 c5 c6 c7 c8 c9 c10 c11
  clear hw1 hI hn h0 hp hsz hcz hlen6 hbl hnn hbk1 hbk2 hcl hcm
  go_enter Tryd.func7, Tryd.ntmps7
  go_wp2_with fail
  clear c0 c1 c2 c3 c4 c5 c6 c7 c8 c9 c10 c11
  rw [← HWI.out.1, ← HWI.out.2]
  refine (HC.out _).mono ?_
  rintro e w2 ⟨rfl, hb⟩
  have HB2 := Lib.hid (bel0 HB1.out hb)
  have HQ2 := Lib.hid (HQ1.out.below hb)
  obtain ⟨c0, c1, c2, c3, c4, c5, c6, c7, c8, c9, c10, c11⟩ := bx_cells HQ2.out
  clear hb HQ1 HB1
  go_wp2_with fail
  refine (HE.out _).mono ?_
  rintro e w3 (⟨h, _⟩ | ⟨_, sv, rfl, ho, hb⟩)
  · exact absurd HN.out h
  rw [HB.out] at ho
  obtain ⟨q, d, rfl, hr3, _, _, hqz⟩ := ho.full
  rw [HBL.out]
  have HR3 := Lib.hid (And.intro hr3 hqz)
  have HB3 := Lib.hid (bel0 HB2.out hb)
  have HQ3 := Lib.hid (HQ2.out.below hb)
  clear c0 c1 c2 c3 c4 c5 c6 c7 c8 c9 c10 c11 hb hr3 hqz HE HQ2 HB2 ho HB
  have HO := Lib.hid (own_empty w3)
  have HA := Lib.hid (below_new w3 (.cells #[] 5))
  obtain ⟨w4, hw4⟩ : ∃ w4, w4 = w3.alloc (.cells #[] 5) := ⟨_, rfl⟩
  obtain ⟨g, hg⟩ : ∃ g, g = w3.heap.size := ⟨_, rfl⟩
  rw [← hw4] at HO HA
  have HG := Lib.hid (And.intro hw4 hg)
  clear hw4 hg
  go_wp2_with (at_builtin; rw [← HG.out.1, ← HG.out.2]; refine append_rd rfl (.tmp 32) (.tmp 33) rfl w3.heap.size (.slice (some ⟨g, 0, none⟩) 0 0) 0 [] rfl (by rw [HG.out.2]; exact HO.out) q d nn (bytesOf Q) HBL.out rfl HR3.out.2 (HR3.out.1.below HA.out) HS1.out HA.out.size ?_)
  rintro v5 w5 ho5 hg5
  have HB5 := Lib.hid (HA.out.grown hg5 HA.out.size (fun r hr => by cases hr; rw [HG.out.2]; exact Nat.le_refl _))
  have HO5 := Lib.hid ho5
  clear ho5 hg5 HR3 HO HA HG
  go_wp2_with (at_builtin; refine append_rd rfl (.tmp 34) (.tmp 35) rfl w3.heap.size v5 nn (bsU (bytesOf Q)) rfl HO5.out p c n l HNL.out.symm rfl HZ.out.2.1 ((HP.out.below HB3.out).below HB5.out) HS2.out HB5.out.size ?_)
  rintro v6 w6 ho6 hg6
  have hh6 : Hold w6 w3.heap.size v6 (bytesOf Q ++ l) := by
    unfold Hold
    have e1 : (bytesOf Q ++ l).length = nn + n := by rw [List.length_append, HBL.out, HNL.out]
    have e2 : bsU (bytesOf Q ++ l) = bsU (bytesOf Q) ++ bsU l := by unfold bsU; rw [List.map_append]
    rw [e1, e2]
    exact ho6
  have HB6 := Lib.hid (HB5.out.grown hg6 HB5.out.size (own_ge HO5.out))
  obtain ⟨q6, d6, rfl, hr6, hd6, hm6, _⟩ := hh6.full
  have HD6 := Lib.hid (HD.out w6 q6 d6 hr6 hd6 hm6)
  obtain ⟨N, hN⟩ : ∃ N, N = (bytesOf Q ++ l).length := ⟨_, rfl⟩
  rw [← hN] at HD6 ⊢
  clear hN
  clear hh6 ho6 hg6 hr6 hd6 hm6 HD HO5
  go_wp2_with fail
  refine HD6.out.mono ?_
  rintro e w7 ⟨rfl, hb⟩
  have HB7 := Lib.hid (bel0 HB3.out (bel0 HB6.out hb))
  have HQ7 := HQ3.out.below (bel0 HB6.out hb)
  have hbJ := below_new w7 (.cells Q.cs 28)
  have HB8 := Lib.hid (bel0 HB7.out hbJ)
  have hI8 := HQ7.below hbJ
  have hJ8 := Bx.new w7 28 Q.cs
  obtain ⟨J, hJ⟩ : ∃ J, J = w7.heap.size := ⟨_, rfl⟩
  obtain ⟨w8, hw8⟩ : ∃ w8, w8 = w7.alloc (.cells Q.cs 28) := ⟨_, rfl⟩
  rw [← hw8] at HB8 hI8 hJ8
  rw [← hJ] at hJ8
  unfold Ins.cs at hw8
  have HW8 := Lib.hid (And.intro hw8 hJ)
  obtain ⟨c0, c1, c2, c3, c4, c5, c6, c7, c8, c9, c10, c11⟩ := bx_cells hI8
  obtain ⟨d0, d1, d2, d3, d4, d5, d6, d7, d8, d9, d10, d11⟩ := bx_cells hJ8
  rw [hw8] at c0 c1 c2 c3 c4 c5 c6 c7 c8 c9 c10 c11 d0 d1 d2 d3 d4 d5 d6 d7 d8 d9 d10 d11
  rw [hJ] at d0 d1 d2 d3 d4 d5 d6 d7 d8 d9 d10 d11
  have hz : insEq ⟨Q.op, Q.fo, Q.r1, Q.r2, Q.x2, Q.b1, Q.d1, Q.b2, Q.d2, Q.l1, Q.l2, Q.i2⟩ ⟨Q.op, Q.fo, Q.r1, Q.r2, Q.x2, Q.b1, Q.d1, Q.b2, Q.d2, Q.l1, Q.l2, Q.i2⟩ = true := insEq_self Q
  clear hb HQ7 hbJ HB7 hI8 hJ8 hw8 hJ HB6 HB5 HB3 HQ3
  go_wp2_with fail
  rw [← HW8.out.1, ← HW8.out.2]
  clear c0 c1 c2 c3 c4 c5 c6 c7 c8 c9 c10 c11 d0 d1 d2 d3 d4 d5 d6 d7 d8 d9 d10 d11
  refine (HL.out _).mono ?_
  rintro e w9 ⟨rfl, rfl⟩
  go_wp2_with fail
  refine (works_any _).mono ?_
  rintro e w10 ⟨rfl, hb⟩
  have HB10 := Lib.hid (bel0 HB8.out hb)
  clear hb HB8 hz
  go_wp2
  go_ret
  exact ⟨rfl, HB10.out⟩
theorem walk (Q : Ins) (v : Value) (l : List UInt8) (w : World) (h : SvB w v l) (hsz : l.length ≤ 140737488351232) : Calls Tryd.prog 7 #[Q.val, v] w (New w (.bool true)) := by
  by_cases h0 : chkV Q = 0
  · obtain ⟨p, c, rfl, hp, hcl, hcm, hcz⟩ := h
    exact yes Q p c l w h0 hp hcl hcm hcz hsz
  · exact no Q v w h0

end Go.Proofs.YtaodghaicmjadaaDoor.isaBack

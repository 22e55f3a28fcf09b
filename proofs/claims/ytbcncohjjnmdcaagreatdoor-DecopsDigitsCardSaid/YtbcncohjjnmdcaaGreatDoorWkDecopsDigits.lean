/- The walk of the statement DecopsDigits. -/
import Derived.Test.YtbcncohjjnmdcaaGreatDoorRows
import Derived.Test.YtbcncohjjnmdcaaGreatDoorDpMove
import Derived.Test.YtbcncohjjnmdcaaGreatDoorDpSumsP
import Derived.Test.YtbcncohjjnmdcaaGreatDoorDpXec
namespace Go.Proofs.YtbcncohjjnmdcaaGreatDoor
namespace E
end E
open Go.RowKit Go.Shelf E
set_option linter.unusedVariables false
namespace M

theorem un_out (q : Qn) (R : Nat → Int) (bs x : List UInt8) (a d m k : Nat) (hF : adF q R = a) (hT : adT q R = d) (hl1 : q.l1 + 1 = m) (hl2 : q.l2 + 1 = k) (b1 : a + m ≤ 2048) (b2 : d + k ≤ 2048) (hx : E.subL bs d k = x) (hk : x.length = k) (s1 : 1 ≤ k ∧ k ≤ 16) (s2 : 1 ≤ m ∧ m ≤ 16) : unO q R (⟨0, 0, false, false, false, 0, 0, 0, 0, 0⟩ : Psw) 2048 bs (List.replicate 1 0) = .go R (⟨0, 0, false, false, false, 0, 0, 0, 0, 0⟩ : Psw) 0 (E.putL bs a (unpackL x m)) := by
  unfold unO cY ftC unR opY
  rw [hT, hl2, hl1, hF, hx, thenO_go _ (code_zero ftP_zero b2)]
  have hs : szB x.length ((m : Nat) : Int) = true := by
    unfold szB
    rw [hk, decide_eq_true s1, decide_eq_true (by omega)]
    rfl
  rw [hs]
  unfold mvL putO stC
  rw [if_pos rfl, unpackL_len, thenO_go _ (code_zero stP_zero b1)]
theorem pk_out (q : Qn) (R : Nat → Int) (bs x : List UInt8) (a d m k : Nat) (hF : adF q R = a) (hT : adT q R = d) (hl1 : q.l1 + 1 = m) (hl2 : q.l2 + 1 = k) (b1 : a + m ≤ 2048) (b2 : d + k ≤ 2048) (hx : E.subL bs d k = x) (hk : x.length = k) (s1 : 1 ≤ k ∧ k ≤ 16) (s2 : 1 ≤ m ∧ m ≤ 16) : pkO q R (⟨0, 0, false, false, false, 0, 0, 0, 0, 0⟩ : Psw) 2048 bs (List.replicate 1 0) = .go R (⟨0, 0, false, false, false, 0, 0, 0, 0, 0⟩ : Psw) 0 (E.putL bs a (packL x m)) := by
  unfold pkO cY ftC pkR opY
  rw [hT, hl2, hl1, hF, hx, thenO_go _ (code_zero ftP_zero b2)]
  have hs : szB x.length ((m : Nat) : Int) = true := by
    unfold szB
    rw [hk, decide_eq_true s1, decide_eq_true (by omega)]
    rfl
  rw [hs]
  unfold mvL putO stC
  rw [if_pos rfl, packL_len, thenO_go _ (code_zero stP_zero b1)]
theorem byt_in {l : List UInt8} {a k : Nat} (h : a + k ≤ 2048) : bytL 2048 l (a : Int) (k : Int) = E.subL l a k := by
  unfold bytL
  rw [if_pos (inB_iff.2 ⟨by omega, by omega, by omega⟩)]
  simp
theorem Runs.eqo {q : Qn} {R : Nat → Int} {p : Psw} {n : Nat} {bs ks : List UInt8} {o o' : Out} (h : Runs q R p n bs ks o) (e : o = o') : Runs q R p n bs ks o' := e ▸ h
theorem q1_ok (n : Nat) (h1 : 1 ≤ n) (h2 : n ≤ 8) : QOk (⟨243, 6, 0, 0, 0, 0, 200, 0, 100, 2 * n - 2, n - 1, 0⟩ : Qn) := ⟨by simp, by simp, by simp, by simp, by simp, by simp, by simp, by simp, by show 2 * n - 2 < 256; omega, by show n - 1 < 16; omega, by simp⟩
theorem q2_ok (n : Nat) (h1 : 1 ≤ n) (h2 : n ≤ 8) : QOk (⟨242, 6, 0, 0, 0, 0, 300, 0, 200, n - 1, 2 * n - 2, 0⟩ : Qn) := ⟨by simp, by simp, by simp, by simp, by simp, by simp, by simp, by simp, by show n - 1 < 256; omega, by show 2 * n - 2 < 16; omega, by simp⟩
theorem x1_chk (n : Nat) (h1 : 1 ≤ n) (h2 : n ≤ 8) : chkV (⟨243, 6, 0, 0, 0, 0, 200, 0, 100, 2 * n - 2, n - 1, 0⟩ : Qn).ins = 0 := by
  rcases (by omega : n = 1 ∨ n = 2 ∨ n = 3 ∨ n = 4 ∨ n = 5 ∨ n = 6 ∨ n = 7 ∨ n = 8) with rfl | rfl | rfl | rfl | rfl | rfl | rfl | rfl <;> kernel_rfl
theorem x2_chk (n : Nat) (h1 : 1 ≤ n) (h2 : n ≤ 8) : chkV (⟨242, 6, 0, 0, 0, 0, 300, 0, 200, n - 1, 2 * n - 2, 0⟩ : Qn).ins = 0 := by
  rcases (by omega : n = 1 ∨ n = 2 ∨ n = 3 ∨ n = 4 ∨ n = 5 ∨ n = 6 ∨ n = 7 ∨ n = 8) with rfl | rfl | rfl | rfl | rfl | rfl | rfl | rfl <;> kernel_rfl
set_option maxRecDepth 100000 in
set_option maxHeartbeats 8000000 in
theorem digits_in (p : Option Addr) (c n : Nat) (b : List UInt8) (hn : n = b.length) (hr : 1 ≤ n ∧ n ≤ 8) (w : World) (hv : SvB w (.slice p n c) b) (hsg : Sg w) : Calls Tryz.prog 9 #[.slice p n c] w (New w (.bool true)) := by
  have HSG := Lib.hid hsg
  have HV := Lib.hid hv
  have HNEW := Lib.hid (new_any 2048 w (by decide))
  have kl0 : kb0.length = 2048 := by kernel_rfl
  obtain ⟨l1, hl1⟩ : ∃ l, l = E.putL kb0 100 b := ⟨_, rfl⟩
  obtain ⟨U, hU⟩ : ∃ u, u = unpackL b (2 * n - 1) := ⟨_, rfl⟩
  obtain ⟨l2, hl2⟩ : ∃ l, l = E.putL l1 200 U := ⟨_, rfl⟩
  obtain ⟨l3, hl3⟩ : ∃ l, l = E.putL l2 300 b := ⟨_, rfl⟩
  have kU : U.length = 2 * n - 1 := by rw [hU]; exact unpackL_len _ _
  have kl1 : l1.length = 2048 := by rw [hl1, put_len (by omega), kl0]
  have kl2 : l2.length = 2048 := by rw [hl2, put_len (by omega), kl1]
  have s1 : E.subL l1 100 n = b := by
    have h := sub_put (l := kb0) (b := b) (a := 100) (by omega)
    rw [hl1, hn, h]
  have s2 : E.subL l2 200 (2 * n - 1) = U := by
    have h := sub_put (l := l1) (b := U) (a := 200) (by omega)
    rw [kU] at h
    rw [hl2, h]
  have s3 : E.subL l3 300 n = b := by
    have h := sub_put (l := l2) (b := b) (a := 300) (by omega)
    rw [hl3, hn, h]
  have s4 : E.subL l3 100 n = b := by rw [hl3, sub_put_low (by omega) (by omega), hl2, sub_put_low (by omega) (by omega), s1]
  have hpu : packL U n = b := by rw [hU, hn]; exact pack_unpack b (2 * b.length - 1) (by omega) (by omega)
  have hR : RegOk (fun _ => 0 : Nat → Int) := fun n => ⟨Int.le_refl 0, by show (0 : Int) < 4294967296; decide⟩
  have X1 : Hid (∀ A g h W, Sto W A g h 2048 1 l1 (List.replicate 1 0) → Sg W → Calls Tryz.prog 24 #[.agg #[.int .i64 243, .int .i64 6, .int .i64 0, .int .i64 0, .int .i64 0, .int .i64 0, .int .i64 200, .int .i64 0, .int .i64 100, .int .i64 ((2 * n - 2 : Nat) : Int), .int .i64 ((n - 1 : Nat) : Int), .int .i64 0], .agg #[.int .u32 0, .int .u32 0, .int .u32 0, .int .u32 0, .int .u32 0, .int .u32 0, .int .u32 0, .int .u32 0, .int .u32 0, .int .u32 0, .int .u32 0, .int .u32 0, .int .u32 0, .int .u32 0, .int .u32 0, .int .u32 0], .pointer (some ⟨A, 0, none⟩)] W fun e w' => e = .returned (.tuple #[.agg #[.int .u32 0, .int .u32 0, .int .u32 0, .int .u32 0, .int .u32 0, .int .u32 0, .int .u32 0, .int .u32 0, .int .u32 0, .int .u32 0, .int .u32 0, .int .u32 0, .int .u32 0, .int .u32 0, .int .u32 0, .int .u32 0], .int .i64 0, .int .i64 0]) ∧ Sto w' A g h 2048 1 l2 (List.replicate 1 0) ∧ Kp W w' [g]) := Lib.hid (fun A g h W hs hg => xec_post (q := (⟨243, 6, 0, 0, 0, 0, 200, 0, 100, 2 * n - 2, n - 1, 0⟩ : Qn)) (R := (fun _ => 0 : Nat → Int)) (o := .go (fun _ => 0 : Nat → Int) (⟨0, 0, false, false, false, 0, 0, 0, 0, 0⟩ : Psw) 0 l2) hs hg (x1_chk n hr.1 hr.2) ((runs_243 (⟨243, 6, 0, 0, 0, 0, 200, 0, 100, 2 * n - 2, n - 1, 0⟩ : Qn) (fun _ => 0 : Nat → Int) (⟨0, 0, false, false, false, 0, 0, 0, 0, 0⟩ : Psw) 2048 l1 (List.replicate 1 0) hR (q1_ok n hr.1 hr.2) rfl).eqo ((un_out (⟨243, 6, 0, 0, 0, 0, 200, 0, 100, 2 * n - 2, n - 1, 0⟩ : Qn) (fun _ => 0 : Nat → Int) l1 b 200 100 (2 * n - 1) n (by kernel_rfl) (by kernel_rfl) (by show 2 * n - 2 + 1 = _; omega) (by show n - 1 + 1 = _; omega) (by omega) (by omega) s1 hn.symm (by omega) (by omega)).trans (by rw [hl2, hU]))))
  have X2 : Hid (∀ A g h W, Sto W A g h 2048 1 l2 (List.replicate 1 0) → Sg W → Calls Tryz.prog 24 #[.agg #[.int .i64 242, .int .i64 6, .int .i64 0, .int .i64 0, .int .i64 0, .int .i64 0, .int .i64 300, .int .i64 0, .int .i64 200, .int .i64 ((n - 1 : Nat) : Int), .int .i64 ((2 * n - 2 : Nat) : Int), .int .i64 0], .agg #[.int .u32 0, .int .u32 0, .int .u32 0, .int .u32 0, .int .u32 0, .int .u32 0, .int .u32 0, .int .u32 0, .int .u32 0, .int .u32 0, .int .u32 0, .int .u32 0, .int .u32 0, .int .u32 0, .int .u32 0, .int .u32 0], .pointer (some ⟨A, 0, none⟩)] W fun e w' => e = .returned (.tuple #[.agg #[.int .u32 0, .int .u32 0, .int .u32 0, .int .u32 0, .int .u32 0, .int .u32 0, .int .u32 0, .int .u32 0, .int .u32 0, .int .u32 0, .int .u32 0, .int .u32 0, .int .u32 0, .int .u32 0, .int .u32 0, .int .u32 0], .int .i64 0, .int .i64 0]) ∧ Sto w' A g h 2048 1 l3 (List.replicate 1 0) ∧ Kp W w' [g]) := Lib.hid (fun A g h W hs hg => xec_post (q := (⟨242, 6, 0, 0, 0, 0, 300, 0, 200, n - 1, 2 * n - 2, 0⟩ : Qn)) (R := (fun _ => 0 : Nat → Int)) (o := .go (fun _ => 0 : Nat → Int) (⟨0, 0, false, false, false, 0, 0, 0, 0, 0⟩ : Psw) 0 l3) hs hg (x2_chk n hr.1 hr.2) ((runs_242 (⟨242, 6, 0, 0, 0, 0, 300, 0, 200, n - 1, 2 * n - 2, 0⟩ : Qn) (fun _ => 0 : Nat → Int) (⟨0, 0, false, false, false, 0, 0, 0, 0, 0⟩ : Psw) 2048 l2 (List.replicate 1 0) hR (q2_ok n hr.1 hr.2) rfl).eqo ((pk_out (⟨242, 6, 0, 0, 0, 0, 300, 0, 200, n - 1, 2 * n - 2, 0⟩ : Qn) (fun _ => 0 : Nat → Int) l2 U 300 200 n (2 * n - 1) (by kernel_rfl) (by kernel_rfl) (by show n - 1 + 1 = _; omega) (by show 2 * n - 2 + 1 = _; omega) (by omega) (by omega) s2 kU (by omega) (by omega)).trans (by rw [hl3, hpu]))))
  have HP : Hid (∀ A g h W, Below w.heap.size w W → Sto W A g h 2048 1 kb0 (List.replicate 1 0) → Calls Tryz.prog 27 #[.pointer (some ⟨A, 0, none⟩), .int .i64 100, .slice p n c, .int .i64 0] W fun e w' => e = .returned (.int .i64 0) ∧ Sto w' A g h 2048 1 l1 (List.replicate 1 0) ∧ Kp W w' [g]) := Lib.hid (fun A g h W hb hs => put_lit A g h 100 _ b kb0 l1 W hs (hv.below hb) (by omega) hl1.symm)
  have HB1 : Hid (∀ A g h W, Sto W A g h 2048 1 l3 (List.replicate 1 0) → Calls Tryz.prog 18 #[.pointer (some ⟨A, 0, none⟩), .int .i64 300, .int .i64 (n : Int)] W (BytPost W b)) := Lib.hid (fun A g h W hs => by
    have h1 := bytes_any A g h 2048 1 300 (n : Int) l3 (List.replicate 1 0) W (by decide) hs
    rw [show (300 : Int) = ((300 : Nat) : Int) from rfl, byt_in (by omega), s3] at h1
    exact h1)
  have HB2 : Hid (∀ A g h W, Sto W A g h 2048 1 l3 (List.replicate 1 0) → Calls Tryz.prog 18 #[.pointer (some ⟨A, 0, none⟩), .int .i64 100, .int .i64 (n : Int)] W (BytPost W b)) := Lib.hid (fun A g h W hs => by
    have h1 := bytes_any A g h 2048 1 100 (n : Int) l3 (List.replicate 1 0) W (by decide) hs
    rw [show (100 : Int) = ((100 : Nat) : Int) from rfl, byt_in (by omega), s4] at h1
    exact h1)
  have f1 : ¬ ((n : Int) < 1) := by omega
  have f2 : ¬ (8 < (n : Int)) := by omega
  have f3 : ¬ (n < 1) := by omega
  have f4 : ¬ (8 < n) := by omega
  have f5 : ¬ (n = 0) := by omega
  have i1 : 2 * (n : Int) - 2 = ((2 * n - 2 : Nat) : Int) := by omega
  have i2 : (n : Int) - 1 = ((n - 1 : Nat) : Int) := by omega
  have I1 := Lib.hid i1
  have I2 := Lib.hid i2
  have n1 : (n : Int) ≤ 8 := by omega
  have n2 : 1 ≤ (n : Int) := by omega
  clear hv hsg hl1 hU hl2 hl3 kU kl1 kl2 kl0 s1 s2 s3 s4 hpu hR i1 i2 hr hn
  go_enter Tryz.func9, Tryz.ntmps9
  go_wp2_with fail
  refine HNEW.out.mono ?_
  rintro e x1 ⟨A, g, h, rfl, hst, hA, hg, hh, hb⟩
  have HG : Hid (w.heap.size ≤ g) := Lib.hid hg
  have HT : Hid (Sto x1 A g h 2048 1 kb0 (List.replicate 1 0)) := Lib.hid hst
  have HB := Lib.hid hb
  clear hst hA hg hh hb HNEW
  go_wp2_with fail
  refine (HP.out A g h x1 HB.out HT.out).mono ?_
  rintro e x2 ⟨rfl, hst, hk⟩
  have HT2 := Lib.hid hst
  have HX2 := Lib.hid (Kp.below HB.out hk (by simpa using HG.out))
  clear hst hk HT HB HP
  go_wp2_with fail
  rw [I1.out, I2.out]
  refine (X1.out A g h x2 HT2.out (HSG.out.below HX2.out)).mono ?_
  rintro e x3 ⟨rfl, hst, hk⟩
  have HT3 := Lib.hid hst
  have HX3 := Lib.hid (Kp.below HX2.out hk (by simpa using HG.out))
  clear hst hk HT2 HX2
  go_wp2_with fail
  rw [I1.out, I2.out]
  refine (X2.out A g h _ (HT3.out.below (below_new _ _)) (HSG.out.below (bel0 HX3.out (below_new _ _)))).mono ?_
  rintro e x4 ⟨rfl, hst, hk⟩
  have HT4 := Lib.hid hst
  have HX4 := Lib.hid (Kp.below (bel0 HX3.out (below_new _ _)) hk (by simpa using HG.out))
  clear hst hk HT3 HX3
  go_wp2_with fail
  refine (HB1.out A g h _ (HT4.out.below (below_new _ _))).mono ?_
  rintro e x5 ⟨v5, rfl, ho, hb⟩
  have HV5 := Lib.hid ho.svb
  have HT5 := Lib.hid ((HT4.out.below (below_new _ _)).below hb)
  have HX5 := Lib.hid (bel0 (bel0 HX4.out (below_new _ _)) hb)
  clear ho hb HT4 HX4
  go_wp2_with fail
  refine (same_svb HV5.out (HV.out.below HX5.out)).mono ?_
  rintro e x6 ⟨rfl, rfl⟩
  go_wp2_with fail
  refine (HB2.out A g h _ HT5.out).mono ?_
  rintro e x6 ⟨v6, rfl, ho, hb⟩
  have HV6 := Lib.hid ho.svb
  have HX6 := Lib.hid (bel0 HX5.out hb)
  clear ho hb HT5 HX5 HV5
  go_wp2_with fail
  refine (same_svb HV6.out (HV.out.below HX6.out)).mono ?_
  rintro e x7 ⟨rfl, rfl⟩
  go_wp2_with fail
  refine (works_any _ (HSG.out.below HX6.out)).mono ?_
  rintro e x8 ⟨rfl, hb⟩
  have HX8 := Lib.hid (bel0 HX6.out hb)
  clear hb
  go_wp2
  go_ret
  exact ⟨rfl, HX8.out⟩
set_option maxRecDepth 100000 in
set_option maxHeartbeats 4000000 in
theorem digits_out (p : Option Addr) (c n : Nat) (hr : ¬ (1 ≤ n ∧ n ≤ 8)) (w : World) (hsg : Sg w) : Calls Tryz.prog 9 #[.slice p n c] w (New w (.bool true)) := by
  have HSG := Lib.hid hsg
  have HNEW := Lib.hid (new_any 2048 w (by decide))
  clear hsg
  by_cases h0 : n = 0
  · subst h0
    go_enter Tryz.func9, Tryz.ntmps9
    go_wp2_with fail
    refine HNEW.out.mono ?_
    rintro e x1 ⟨A, g, h, rfl, hst, hA, hg, hh, hb⟩
    have HB := Lib.hid hb
    clear hst hA hg hh hb HNEW
    go_wp2_with fail
    refine (works_any _ (HSG.out.below HB.out)).mono ?_
    rintro e x2 ⟨rfl, hb⟩
    have HB2 := Lib.hid (bel0 HB.out hb)
    clear hb
    go_wp2
    go_ret
    exact ⟨rfl, HB2.out⟩
  · have f1 : ¬ ((n : Int) < 1) := by omega
    have f2 : 8 < (n : Int) := by omega
    have f3 : ¬ (n < 1) := by omega
    have f4 : 8 < n := by omega
    go_enter Tryz.func9, Tryz.ntmps9
    go_wp2_with fail
    refine HNEW.out.mono ?_
    rintro e x1 ⟨A, g, h, rfl, hst, hA, hg, hh, hb⟩
    have HB := Lib.hid hb
    clear hst hA hg hh hb HNEW
    go_wp2_with fail
    refine (works_any _ (HSG.out.below HB.out)).mono ?_
    rintro e x2 ⟨rfl, hb⟩
    have HB2 := Lib.hid (bel0 HB.out hb)
    clear hb
    go_wp2
    go_ret
    exact ⟨rfl, HB2.out⟩
theorem wk_digits (v : Value) (b : List UInt8) (w : World) (hv : SvB w v b) (hsg : Sg w) : Calls Tryz.prog 9 #[v] w (New w (.bool true)) := by
  obtain ⟨p, c, rfl, hrd⟩ := hv
  obtain ⟨n, hn⟩ : ∃ n, n = b.length := ⟨_, rfl⟩
  have hv : SvB w (.slice p n c) b := by rw [hn]; exact ⟨p, c, rfl, hrd⟩
  rw [← hn]
  by_cases hr : 1 ≤ n ∧ n ≤ 8
  · exact digits_in p c n b hn hr w hv hsg
  · exact digits_out p c n hr w hsg

end M
end Go.Proofs.YtbcncohjjnmdcaaGreatDoor

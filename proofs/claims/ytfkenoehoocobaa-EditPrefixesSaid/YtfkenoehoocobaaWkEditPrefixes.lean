/- The walk of the statement EditPrefixes: it answers true, and below its own memory nothing turns. -/
import Derived.Test.YtfkenoehoocobaaEdMore
import Derived.Test.YtfkenoehoocobaaEdLaid
import Derived.Test.YtfkenoehoocobaaEdProps
namespace Go.Proofs.Ytfkenoehoocobaa.editPrefixes
open Go.RowKit E
set_option linter.unusedVariables false

/-- Edit, with numbers written out. -/
theorem ed {pv sv : Value} {pat src : List UInt8} {w : World} (l : List UInt8) (cc : Nat) (mk : Int) (code : Nat) (k : Nat) (cc' code' : Int) (hp : SvB w pv pat) (hs : SvB w sv src) (h : edRes pat src = (l, cc, mk, code)) (hk : l.length = k) (h1 : (cc : Int) = cc') (h2 : (code : Int) = code') :
    Calls Try.prog 12 #[pv, sv] w (fun e w' => ∃ p c, e = .returned (.tuple #[.agg #[.slice p k c, .int .i64 cc', .int .i64 mk], .int .i64 code']) ∧ SvB w' (.slice p k c) l ∧ Below w.heap.size w w') :=
  (edit4_any pv sv pat src w l cc mk code hp hs h).mono fun e w' h' => by
    obtain ⟨p, c, e1, e2, e3⟩ := h'
    subst hk h1 h2
    exact ⟨p, c, e1, e2.svb, e3⟩
set_option maxRecDepth 100000 in
set_option maxHeartbeats 2000000 in
theorem zero (v u z : Value) (pat src more : List UInt8) (x : UInt8) (k0 : Nat) (t : List UInt8) (cc cc2 : Nat) (mk mk2 : Int) (w : World) (hl1 : 1 ≤ pat.length) (hl2 : pat.length ≤ 2000) (hl3 : src.length ≤ 2000) (hl4 : more.length ≤ 2000) (hk : k0 = x.toNat % pat.length) (hp : SvB w v pat) (hs : SvB w u src) (hz : RestV w z more x)
    (h1 : edRes pat src = (t, cc, mk, 0)) (h2 : edRes (pat.take (k0 + 1)) src = (t.take (k0 + 1), cc2, mk2, 0)) (h3 : edRes pat (src ++ more) = (t, cc, mk, 0)) (htl : t.length = pat.length) :
    Calls Try.prog 5 #[v, u, z] w (New w (.bool true)) := by
  obtain ⟨d, rfl, hd⟩ := hz
  have HKT : Hid (k0 + 1 ≤ t.length) := Lib.hid (by have := Nat.mod_lt x.toNat (show 0 < pat.length by omega); omega)
  have HBX0 := Lib.hid (Bx.new w 34 #[d, .int .u8 (x.toNat : Int)])
  have HW0 := Lib.hid (below_new w (.cells #[d, .int .u8 (x.toNat : Int)] 34))
  have hlt : k0 < pat.length := by rw [hk]; exact Nat.mod_lt _ (by omega)
  have hE1 := fun W (hb : Below w.heap.size w W) => ed (w := W) t cc mk 0 pat.length (cc : Int) 0 (hp.below hb) (hs.below hb) h1 htl rfl rfl
  have HE1 := Lib.hid hE1
  have HSS := Lib.hid hs
  have HDD := Lib.hid hd
  have hfront : ∃ pp cp, v = .slice pp pat.length cp ∧ SvB w (.slice pp (k0 + 1) cp) (pat.take (k0 + 1)) ∧ pat.length ≤ cp := by
    obtain ⟨pp, cp, rfl, hr, h1, h2, h3⟩ := hp
    have hlen : (pat.take (k0 + 1)).length = k0 + 1 := by rw [List.length_take]; omega
    exact ⟨pp, cp, rfl, ⟨pp, cp, by rw [hlen], hr.take _, by omega, h2, h3⟩, h1⟩
  have HPP := Lib.hid hp
  obtain ⟨pp, cp, rfl, hpk, hpc⟩ := hfront
  have hE2 := fun W (hb : Below w.heap.size w W) => ed (w := W) (t.take (k0 + 1)) cc2 mk2 0 (k0 + 1) (cc2 : Int) 0 (hpk.below hb) (hs.below hb) h2 (by rw [List.length_take]; omega) rfl rfl
  have HE2 := Lib.hid hE2
  have hE3 := fun W sv (hb : Below w.heap.size w W) (hsv : SvB W sv (src ++ more)) => ed (w := W) t cc mk 0 pat.length (cc : Int) 0 (HPP.out.below hb) hsv h3 htl rfl rfl
  have HE3 := Lib.hid hE3
  obtain ⟨q, dq, rfl, hrs, hs1, hs2, hs3⟩ := hs
  obtain ⟨s, ds, rfl, hrm, hm1, hm2, hm3⟩ := hd
  have HRS := Lib.hid hrs
  have HRM := Lib.hid hrm
  have HQ := Lib.hid hs3
  have HSN := Lib.hid hm3
  obtain ⟨n, hn⟩ : ∃ n, n = pat.length := ⟨_, rfl⟩
  obtain ⟨m1, hm1'⟩ : ∃ m, m = src.length := ⟨_, rfl⟩
  obtain ⟨m2, hm2'⟩ : ∃ m, m = more.length := ⟨_, rfl⟩
  have HM1 := Lib.hid hm1'
  have HM2 := Lib.hid hm2'
  have hx256 := x.toNat_lt
  rw [← hn] at hl1 hl2 hlt hk hpc HE1 HE3 ⊢
  rw [← hm1'] at hl3 hs1 HE1 HE2 ⊢
  rw [← hm2'] at hl4 hm1 HBX0 HW0 ⊢
  have e1 : (x.toNat : Int) % (n : Int) = (k0 : Int) := by rw [hk]; exact (Int.natCast_emod _ _).symm
  have e2 : (x.toNat : Int).tmod (n : Int) = (k0 : Int) := by rw [Int.tmod_eq_emod_of_nonneg (by omega)]; exact e1
  have i1 : ¬ ((2000 : Int) < (n : Int)) := by omega
  have i2 : ¬ ((2000 : Int) < (m1 : Int)) := by omega
  have i3 : ¬ ((2000 : Int) < (m2 : Int)) := by omega
  have i4 : ¬ ((n : Int) = 0) := by omega
  have i5 : (0 : Int) < (n : Int) := by omega
  have i8 : ((n : Int) == 0) = false := by simp only [beq_eq_false_iff_ne, ne_eq]; omega
  have i9 : ¬ (n = 0) := by omega
  have i6 : ((k0 : Int) + 1) ≤ (cp : Int) := by omega
  have i7 : (0 : Int) ≤ (k0 : Int) + 1 := by omega
  have HN4 := Lib.hid (show m1 ≤ 2000 ∧ m2 ≤ 2000 from ⟨hl3, hl4⟩)
  have hk2000 : k0 ≤ 2000 := by omega
  clear hE1 hE2 hE3 hrs hrm hs3 hm3 hn hm1' hm2' hk hp hpk hlt
  go_enter Try.func5, Try.ntmps5
  go_wp2_with fail
  refine (works_any _).mono ?_
  rintro e w1 ⟨rfl, hb⟩
  have HB1 := Lib.hid (bel0 HW0.out hb)
  have cx := (HBX0.out.below hb).cell 1
  clear hb
  go_wp2_with fail
  refine (HE1.out w1 HB1.out).mono ?_
  rintro e w2 ⟨p1, c1, rfl, ht1, hb⟩
  have HBR : Hid (Below w2.heap.size w2 (w2.alloc (.cells #[.slice p1 n c1, .int .i64 (cc : Int), .int .i64 mk] 26))) := Lib.hid (below_new _ _)
  have HB2 := Lib.hid (bel0 (bel0 HB1.out hb) HBR.out)
  have HT1 := Lib.hid (ht1.below HBR.out)
  have HX1 := Lib.hid (Bx.new w2 26 #[.slice p1 n c1, .int .i64 (cc : Int), .int .i64 mk])
  clear hb ht1 cx
  go_wp2_with fail
  refine (HE2.out _ HB2.out).mono ?_
  rintro e w3 ⟨p2, c2, rfl, ht2, hb⟩
  have HBP : Hid (Below w3.heap.size w3 (w3.alloc (.cells #[.slice p2 (k0 + 1) c2, .int .i64 (cc2 : Int), .int .i64 mk2] 26))) := Lib.hid (below_new _ _)
  obtain ⟨W3, hW3⟩ : ∃ W3, W3 = w3.alloc (.cells #[.slice p2 (k0 + 1) c2, .int .i64 (cc2 : Int), .int .i64 mk2] 26) := ⟨_, rfl⟩
  have HB3 : Hid (Below w.heap.size w W3) := Lib.hid (by rw [hW3]; exact bel0 (bel0 HB2.out hb) HBP.out)
  have HT1b : Hid (SvB W3 (.slice p1 n c1) _) := Lib.hid (by rw [hW3]; exact (HT1.out.below hb).below HBP.out)
  have HT2 : Hid (SvB W3 (.slice p2 (k0 + 1) c2) _) := Lib.hid (by rw [hW3]; exact ht2.below HBP.out)
  have HX1b : Hid (Bx W3 w2.heap.size 26 #[.slice p1 n c1, .int .i64 (cc : Int), .int .i64 mk]) := Lib.hid (by rw [hW3]; exact (HX1.out.below hb).below HBP.out)
  have HX2 : Hid (Bx W3 w3.heap.size 26 #[.slice p2 (k0 + 1) c2, .int .i64 (cc2 : Int), .int .i64 mk2]) := Lib.hid (by rw [hW3]; exact Bx.new _ _ _)
  clear hb ht2 HBR HBP HT1 HX1
  obtain ⟨⟨a1, a2, a3⟩, _⟩ := HX1b.out.three
  obtain ⟨⟨b1, b2, b3⟩, _⟩ := HX2.out.three
  go_wp2_with fail
  rw [← hW3]
  clear hW3
  go_wp2
  have HTK : Hid (SvB W3 (.slice p1 (k0 + 1) c1) (t.take (k0 + 1))) := Lib.hid (by
    obtain ⟨p', c', hv, hr, g1, g2, g3⟩ := HT1b.out
    obtain ⟨rfl, hlen, rfl⟩ := Value.slice.inj hv
    have hl : (t.take (k0 + 1)).length = k0 + 1 := by rw [List.length_take]; have := HKT.out; omega
    exact ⟨p1, c1, by rw [hl], hr.take _, by rw [hl]; have := HKT.out; omega, g2, g3⟩)
  have hc1 : ((k0 : Int) + 1) ≤ (c1 : Int) := by
    obtain ⟨p', c', hv, hr, g1, g2, g3⟩ := HTK.out
    obtain ⟨_, hlen, rfl⟩ := Value.slice.inj hv
    omega
  go_quiet ((go_at_call 14; exact sameq_svb HT2.out HTK.out))
  have hbd : Below W3.heap.size W3 (W3.drewN nq) := belowDraw _ _
  obtain ⟨W4, hW4⟩ : ∃ W4, W4 = W3.drewN nq := ⟨_, rfl⟩
  have hb4 : Below W3.heap.size W3 W4 := by rw [hW4]; exact hbd
  have HB4 := Lib.hid (bel0 HB3.out hb4)
  have HT4 := Lib.hid (HT1b.out.below hb4)
  have HX4 := Lib.hid (HX1b.out.below hb4)
  have HE4 := Lib.hid (ownsEmpty' W4)
  have HW5 := Lib.hid (below_new W4 (.cells #[] 5))
  rw [← hW4]
  clear hW4 hbd hb4 a1 a2 a3 b1 b2 b3 HX2 HT2 HB3 HT1b HX1b
  go_wp2_with (at_builtin; go_must (refine wpList_append_sv rfl (.tmp 76) (.tmp 77) rfl W4.heap.size (.slice (some ⟨W4.heap.size, 0, none⟩) 0 0) 0 [] rfl HE4.out q m1 dq src rfl HM1.out (HRS.out.below (bel0 HB4.out HW5.out)) hs1 HQ.out (by have := HN4.out; omega) HW5.out.size ?_))
  intro v5 w5 ho5 hg5
  have HB5 := Lib.hid (HW5.out.grown hg5 HW5.out.size (fun r hr => by simp [Value.ownBlock] at hr; omega))
  have HO5 := Lib.hid ho5
  clear ho5 hg5
  go_wp2_with (at_builtin; go_must (refine wpList_append_sv rfl (.tmp 78) (.tmp 79) rfl W4.heap.size _ m1 _ rfl HO5.out s m2 ds more rfl HM2.out (HRM.out.below (bel0 HB4.out HB5.out)) hm1 HSN.out (by have := HN4.out; omega) HB5.out.size ?_))
  intro v6 w6 ho6 hg6
  have HB6 := Lib.hid (HB5.out.grown hg6 HB5.out.size (fun r hr => (HO5.out.lt r hr).1))
  have hsv6 : SvB w6 v6 (src ++ more) := by
    refine Hold.svb (base := W4.heap.size) ?_
    unfold Hold
    have h := ho6
    rw [HM1.out, HM2.out] at h
    rw [List.length_append, show bsU (src ++ more) = bsU src ++ bsU more by simp [bsU]]
    exact h
  have HSV6 := Lib.hid hsv6
  clear ho6 hg6 hsv6
  go_wp2_with fail
  refine (HE3.out w6 v6 (bel0 HB4.out HB6.out) HSV6.out).mono ?_
  rintro e w7 ⟨p7, c7, rfl, ht7, hb⟩
  have hbr : Below w7.heap.size w7 (w7.alloc (.cells #[.slice p7 n c7, .int .i64 (cc : Int), .int .i64 mk] 26)) := below_new _ _
  have HB7 := Lib.hid (bel0 (bel0 (bel0 HB4.out HB6.out) hb) hbr)
  have HT7 := Lib.hid (ht7.below hbr)
  have HT8 := Lib.hid (((HT4.out.below HB6.out).below hb).below hbr)
  obtain ⟨⟨a1, a2, a3⟩, _⟩ := (((HX4.out.below HB6.out).below hb).below hbr).three
  clear hb hbr ht7
  go_wp2_with fail
  refine (same_svb HT7.out HT8.out).mono ?_
  rintro e w8 ⟨rfl, hb⟩
  have HB8 := Lib.hid (bel0 HB7.out hb)
  clear hb
  go_wp2
  go_ret
  exact ⟨rfl, HB8.out⟩
set_option maxRecDepth 100000 in
set_option maxHeartbeats 2000000 in
theorem long (v u z : Value) (pat src more : List UInt8) (x : UInt8) (w : World) (hp : SvB w v pat) (hs : SvB w u src) (hz : RestV w z more x) (hl : pat.length = 0 ∨ 2000 < pat.length ∨ 2000 < src.length ∨ 2000 < more.length) :
    Calls Try.prog 5 #[v, u, z] w (New w (.bool true)) := by
  obtain ⟨d, rfl, hd⟩ := hz
  obtain ⟨pp, cp, rfl, _⟩ := hp
  obtain ⟨q, dq, rfl, _⟩ := hs
  obtain ⟨s, ds, rfl, _⟩ := hd
  have HBX0 := Lib.hid (Bx.new w 34 #[.slice s more.length ds, .int .u8 (x.toNat : Int)])
  have HW0 := Lib.hid (below_new w (.cells #[.slice s more.length ds, .int .u8 (x.toNat : Int)] 34))
  generalize pat.length = n at *
  generalize src.length = m1 at *
  generalize more.length = m2 at *
  have hcs : (2000 : Int) < (n : Int) ∨ (¬ ((2000 : Int) < (n : Int)) ∧ (2000 : Int) < (m1 : Int)) ∨ (¬ ((2000 : Int) < (n : Int)) ∧ ¬ ((2000 : Int) < (m1 : Int)) ∧ (2000 : Int) < (m2 : Int)) ∨ (¬ ((2000 : Int) < (m1 : Int)) ∧ ¬ ((2000 : Int) < (m2 : Int)) ∧ n = 0) := by omega
  clear hl
  rcases hcs with i1 | ⟨i1, i2⟩ | ⟨i1, i2, i3⟩ | ⟨i2, i3, rfl⟩
  all_goals
    go_enter Try.func5, Try.ntmps5
    go_wp2_with fail
    refine (works_any _).mono ?_
    rintro e w1 ⟨rfl, hb⟩
    have HB1 := Lib.hid (bel0 HW0.out hb)
    clear hb
    go_wp2
    go_ret
    exact ⟨rfl, HB1.out⟩
set_option maxRecDepth 100000 in
set_option maxHeartbeats 2000000 in
theorem five (v u z : Value) (pat src more : List UInt8) (x : UInt8) (k0 : Nat) (t2 t3 : List UInt8) (cc2 cc3 c2 c3  : Nat) (mk2 mk3 : Int) (w : World) (hl1 : 1 ≤ pat.length) (hl2 : pat.length ≤ 2000) (hl3 : src.length ≤ 2000) (hl4 : more.length ≤ 2000) (hk : k0 = x.toNat % pat.length) (hp : SvB w v pat) (hs : SvB w u src) (hz : RestV w z more x)
    (h1 : edRes pat src = ([], 0, 0, 5)) (h2 : edRes (pat.take (k0 + 1)) src = (t2, cc2, mk2, c2)) (h3 : edRes pat (src ++ more) = (t3, cc3, mk3, c3)) :
    Calls Try.prog 5 #[v, u, z] w (New w (.bool true)) := by
  obtain ⟨d, rfl, hd⟩ := hz
  have HBX0 := Lib.hid (Bx.new w 34 #[d, .int .u8 (x.toNat : Int)])
  have HW0 := Lib.hid (below_new w (.cells #[d, .int .u8 (x.toNat : Int)] 34))
  have hlt : k0 < pat.length := by rw [hk]; exact Nat.mod_lt _ (by omega)
  have hE1 := fun W (hb : Below w.heap.size w W) => ed (w := W) [] 0 0 5 0 0 (5 : Int) (hp.below hb) (hs.below hb) h1 rfl rfl rfl
  have HE1 := Lib.hid hE1
  have HSS := Lib.hid hs
  have HDD := Lib.hid hd
  have hfront : ∃ pp cp, v = .slice pp pat.length cp ∧ SvB w (.slice pp (k0 + 1) cp) (pat.take (k0 + 1)) ∧ pat.length ≤ cp := by
    obtain ⟨pp, cp, rfl, hr, h1, h2, h3⟩ := hp
    have hlen : (pat.take (k0 + 1)).length = k0 + 1 := by rw [List.length_take]; omega
    exact ⟨pp, cp, rfl, ⟨pp, cp, by rw [hlen], hr.take _, by omega, h2, h3⟩, h1⟩
  have HPP := Lib.hid hp
  obtain ⟨pp, cp, rfl, hpk, hpc⟩ := hfront
  have hE2 := fun W (hb : Below w.heap.size w W) => ed (w := W) t2 cc2 mk2 c2 t2.length (cc2 : Int) (c2 : Int) (hpk.below hb) (hs.below hb) h2 rfl rfl rfl
  have HE2 := Lib.hid hE2
  have hE3 := fun W sv (hb : Below w.heap.size w W) (hsv : SvB W sv (src ++ more)) => ed (w := W) t3 cc3 mk3 c3 t3.length (cc3 : Int) (c3 : Int) (HPP.out.below hb) hsv h3 rfl rfl rfl
  have HE3 := Lib.hid hE3
  obtain ⟨q, dq, rfl, hrs, hs1, hs2, hs3⟩ := hs
  obtain ⟨s, ds, rfl, hrm, hm1, hm2, hm3⟩ := hd
  have HRS := Lib.hid hrs
  have HRM := Lib.hid hrm
  have HQ := Lib.hid hs3
  have HSN := Lib.hid hm3
  obtain ⟨n, hn⟩ : ∃ n, n = pat.length := ⟨_, rfl⟩
  obtain ⟨m1, hm1'⟩ : ∃ m, m = src.length := ⟨_, rfl⟩
  obtain ⟨m2, hm2'⟩ : ∃ m, m = more.length := ⟨_, rfl⟩
  have HM1 := Lib.hid hm1'
  have HM2 := Lib.hid hm2'
  have hx256 := x.toNat_lt
  rw [← hn] at hl1 hl2 hlt hk hpc HE1 HE3 ⊢
  rw [← hm1'] at hl3 hs1 HE1 HE2 ⊢
  rw [← hm2'] at hl4 hm1 HBX0 HW0 ⊢
  have e1 : (x.toNat : Int) % (n : Int) = (k0 : Int) := by rw [hk]; exact (Int.natCast_emod _ _).symm
  have e2 : (x.toNat : Int).tmod (n : Int) = (k0 : Int) := by rw [Int.tmod_eq_emod_of_nonneg (by omega)]; exact e1
  have i1 : ¬ ((2000 : Int) < (n : Int)) := by omega
  have i2 : ¬ ((2000 : Int) < (m1 : Int)) := by omega
  have i3 : ¬ ((2000 : Int) < (m2 : Int)) := by omega
  have i4 : ¬ ((n : Int) = 0) := by omega
  have i5 : (0 : Int) < (n : Int) := by omega
  have i8 : ((n : Int) == 0) = false := by simp only [beq_eq_false_iff_ne, ne_eq]; omega
  have i9 : ¬ (n = 0) := by omega
  have i6 : ((k0 : Int) + 1) ≤ (cp : Int) := by omega
  have i7 : (0 : Int) ≤ (k0 : Int) + 1 := by omega
  have HN4 := Lib.hid (show m1 ≤ 2000 ∧ m2 ≤ 2000 from ⟨hl3, hl4⟩)
  have hk2000 : k0 ≤ 2000 := by omega
  clear hE1 hE2 hE3 hrs hrm hs3 hm3 hn hm1' hm2' hk hp hpk hlt
  go_enter Try.func5, Try.ntmps5
  go_wp2_with fail
  refine (works_any _).mono ?_
  rintro e w1 ⟨rfl, hb⟩
  have HB1 := Lib.hid (bel0 HW0.out hb)
  have cx := (HBX0.out.below hb).cell 1
  clear hb
  go_wp2_with fail
  refine (HE1.out w1 HB1.out).mono ?_
  rintro e w2 ⟨p1, c1, rfl, ht1, hb⟩
  have HBR : Hid (Below w2.heap.size w2 (w2.alloc (.cells #[.slice p1 0 c1, .int .i64 0, .int .i64 0] 26))) := Lib.hid (below_new _ _)
  have HB2 := Lib.hid (bel0 (bel0 HB1.out hb) HBR.out)
  have HT1 := Lib.hid (ht1.below HBR.out)
  have HX1 := Lib.hid (Bx.new w2 26 #[.slice p1 0 c1, .int .i64 0, .int .i64 0])
  clear hb ht1 cx
  go_wp2_with fail
  refine (HE2.out _ HB2.out).mono ?_
  rintro e w3 ⟨p2, q2, rfl, ht2, hb⟩
  have HBP : Hid (Below w3.heap.size w3 (w3.alloc (.cells #[.slice p2 t2.length q2, .int .i64 (cc2 : Int), .int .i64 mk2] 26))) := Lib.hid (below_new _ _)
  obtain ⟨W3, hW3⟩ : ∃ W3, W3 = w3.alloc (.cells #[.slice p2 t2.length q2, .int .i64 (cc2 : Int), .int .i64 mk2] 26) := ⟨_, rfl⟩
  have HB3 : Hid (Below w.heap.size w W3) := Lib.hid (by rw [hW3]; exact bel0 (bel0 HB2.out hb) HBP.out)
  have HT1b : Hid (SvB W3 (.slice p1 0 c1) _) := Lib.hid (by rw [hW3]; exact (HT1.out.below hb).below HBP.out)
  have HT2 : Hid (SvB W3 (.slice p2 t2.length q2) _) := Lib.hid (by rw [hW3]; exact ht2.below HBP.out)
  have HX1b : Hid (Bx W3 w2.heap.size 26 #[.slice p1 0 c1, .int .i64 0, .int .i64 0]) := Lib.hid (by rw [hW3]; exact (HX1.out.below hb).below HBP.out)
  have HX2 : Hid (Bx W3 w3.heap.size 26 #[.slice p2 t2.length q2, .int .i64 (cc2 : Int), .int .i64 mk2]) := Lib.hid (by rw [hW3]; exact Bx.new _ _ _)
  clear hb ht2 HBR HBP HT1 HX1
  obtain ⟨⟨a1, a2, a3⟩, _⟩ := HX1b.out.three
  obtain ⟨⟨b1, b2, b3⟩, _⟩ := HX2.out.three
  go_wp2_with fail
  rw [← hW3]
  clear hW3
  go_wp2
  go_quiet (fail)
  have hbd : Below W3.heap.size W3 (W3.drewN nq) := belowDraw _ _
  obtain ⟨W4, hW4⟩ : ∃ W4, W4 = W3.drewN nq := ⟨_, rfl⟩
  have hb4 : Below W3.heap.size W3 W4 := by rw [hW4]; exact hbd
  have HB4 := Lib.hid (bel0 HB3.out hb4)
  have HT4 := Lib.hid (HT1b.out.below hb4)
  have HX4 := Lib.hid (HX1b.out.below hb4)
  have HE4 := Lib.hid (ownsEmpty' W4)
  have HW5 := Lib.hid (below_new W4 (.cells #[] 5))
  rw [← hW4]
  clear hW4 hbd hb4 a1 a2 a3 b1 b2 b3 HX2 HT2 HB3 HT1b HX1b
  go_wp2_with (at_builtin; go_must (refine wpList_append_sv rfl (.tmp 76) (.tmp 77) rfl W4.heap.size (.slice (some ⟨W4.heap.size, 0, none⟩) 0 0) 0 [] rfl HE4.out q m1 dq src rfl HM1.out (HRS.out.below (bel0 HB4.out HW5.out)) hs1 HQ.out (by have := HN4.out; omega) HW5.out.size ?_))
  intro v5 w5 ho5 hg5
  have HB5 := Lib.hid (HW5.out.grown hg5 HW5.out.size (fun r hr => by simp [Value.ownBlock] at hr; omega))
  have HO5 := Lib.hid ho5
  clear ho5 hg5
  go_wp2_with (at_builtin; go_must (refine wpList_append_sv rfl (.tmp 78) (.tmp 79) rfl W4.heap.size _ m1 _ rfl HO5.out s m2 ds more rfl HM2.out (HRM.out.below (bel0 HB4.out HB5.out)) hm1 HSN.out (by have := HN4.out; omega) HB5.out.size ?_))
  intro v6 w6 ho6 hg6
  have HB6 := Lib.hid (HB5.out.grown hg6 HB5.out.size (fun r hr => (HO5.out.lt r hr).1))
  have hsv6 : SvB w6 v6 (src ++ more) := by
    refine Hold.svb (base := W4.heap.size) ?_
    unfold Hold
    have h := ho6
    rw [HM1.out, HM2.out] at h
    rw [List.length_append, show bsU (src ++ more) = bsU src ++ bsU more by simp [bsU]]
    exact h
  have HSV6 := Lib.hid hsv6
  clear ho6 hg6 hsv6
  go_wp2_with fail
  refine (HE3.out w6 v6 (bel0 HB4.out HB6.out) HSV6.out).mono ?_
  rintro e w7 ⟨p7, c7, rfl, ht7, hb⟩
  have hbr : Below w7.heap.size w7 (w7.alloc (.cells #[.slice p7 t3.length c7, .int .i64 (cc3 : Int), .int .i64 mk3] 26)) := below_new _ _
  have HB7 := Lib.hid (bel0 (bel0 (bel0 HB4.out HB6.out) hb) hbr)
  clear hb hbr ht7
  go_wp2
  go_ret
  exact ⟨rfl, HB7.out⟩
set_option maxRecDepth 100000 in
set_option maxHeartbeats 2000000 in
theorem six (v u z : Value) (pat src more : List UInt8) (x : UInt8) (k0 : Nat) (t2 t3 : List UInt8) (cc2 cc3 c2 c3 c : Nat) (mk2 mk3 : Int) (w : World) (hl1 : 1 ≤ pat.length) (hl2 : pat.length ≤ 2000) (hl3 : src.length ≤ 2000) (hl4 : more.length ≤ 2000) (hk : k0 = x.toNat % pat.length) (hp : SvB w v pat) (hs : SvB w u src) (hz : RestV w z more x)
    (hc : c = 6 ∨ c = 7) (h1 : edRes pat src = ([], 0, 0, c)) (h2 : edRes (pat.take (k0 + 1)) src = (t2, cc2, mk2, c2)) (h3 : edRes pat (src ++ more) = ([], 0, 0, c)) :
    Calls Try.prog 5 #[v, u, z] w (New w (.bool true)) := by
  obtain ⟨d, rfl, hd⟩ := hz
  have HBX0 := Lib.hid (Bx.new w 34 #[d, .int .u8 (x.toNat : Int)])
  have HW0 := Lib.hid (below_new w (.cells #[d, .int .u8 (x.toNat : Int)] 34))
  have hlt : k0 < pat.length := by rw [hk]; exact Nat.mod_lt _ (by omega)
  have hE1 := fun W (hb : Below w.heap.size w W) => ed (w := W) [] 0 0 c 0 0 (c : Int) (hp.below hb) (hs.below hb) h1 rfl rfl rfl
  have HE1 := Lib.hid hE1
  have HSS := Lib.hid hs
  have HDD := Lib.hid hd
  have hfront : ∃ pp cp, v = .slice pp pat.length cp ∧ SvB w (.slice pp (k0 + 1) cp) (pat.take (k0 + 1)) ∧ pat.length ≤ cp := by
    obtain ⟨pp, cp, rfl, hr, h1, h2, h3⟩ := hp
    have hlen : (pat.take (k0 + 1)).length = k0 + 1 := by rw [List.length_take]; omega
    exact ⟨pp, cp, rfl, ⟨pp, cp, by rw [hlen], hr.take _, by omega, h2, h3⟩, h1⟩
  have HPP := Lib.hid hp
  obtain ⟨pp, cp, rfl, hpk, hpc⟩ := hfront
  have hE2 := fun W (hb : Below w.heap.size w W) => ed (w := W) t2 cc2 mk2 c2 t2.length (cc2 : Int) (c2 : Int) (hpk.below hb) (hs.below hb) h2 rfl rfl rfl
  have HE2 := Lib.hid hE2
  have hE3 := fun W sv (hb : Below w.heap.size w W) (hsv : SvB W sv (src ++ more)) => ed (w := W) [] 0 0 c 0 0 (c : Int) (HPP.out.below hb) hsv h3 rfl rfl rfl
  have HE3 := Lib.hid hE3
  obtain ⟨q, dq, rfl, hrs, hs1, hs2, hs3⟩ := hs
  obtain ⟨s, ds, rfl, hrm, hm1, hm2, hm3⟩ := hd
  have HRS := Lib.hid hrs
  have HRM := Lib.hid hrm
  have HQ := Lib.hid hs3
  have HSN := Lib.hid hm3
  obtain ⟨n, hn⟩ : ∃ n, n = pat.length := ⟨_, rfl⟩
  obtain ⟨m1, hm1'⟩ : ∃ m, m = src.length := ⟨_, rfl⟩
  obtain ⟨m2, hm2'⟩ : ∃ m, m = more.length := ⟨_, rfl⟩
  have HM1 := Lib.hid hm1'
  have HM2 := Lib.hid hm2'
  have hx256 := x.toNat_lt
  rw [← hn] at hl1 hl2 hlt hk hpc HE1 HE3 ⊢
  rw [← hm1'] at hl3 hs1 HE1 HE2 ⊢
  rw [← hm2'] at hl4 hm1 HBX0 HW0 ⊢
  have e1 : (x.toNat : Int) % (n : Int) = (k0 : Int) := by rw [hk]; exact (Int.natCast_emod _ _).symm
  have e2 : (x.toNat : Int).tmod (n : Int) = (k0 : Int) := by rw [Int.tmod_eq_emod_of_nonneg (by omega)]; exact e1
  have i1 : ¬ ((2000 : Int) < (n : Int)) := by omega
  have i2 : ¬ ((2000 : Int) < (m1 : Int)) := by omega
  have i3 : ¬ ((2000 : Int) < (m2 : Int)) := by omega
  have i4 : ¬ ((n : Int) = 0) := by omega
  have i5 : (0 : Int) < (n : Int) := by omega
  have i8 : ((n : Int) == 0) = false := by simp only [beq_eq_false_iff_ne, ne_eq]; omega
  have i9 : ¬ (n = 0) := by omega
  have i6 : ((k0 : Int) + 1) ≤ (cp : Int) := by omega
  have i7 : (0 : Int) ≤ (k0 : Int) + 1 := by omega
  have HN4 := Lib.hid (show m1 ≤ 2000 ∧ m2 ≤ 2000 from ⟨hl3, hl4⟩)
  have hk2000 : k0 ≤ 2000 := by omega
  clear hE1 hE2 hE3 hrs hrm hs3 hm3 hn hm1' hm2' hk hp hpk hlt
  rcases hc with rfl | rfl
  all_goals
    go_enter Try.func5, Try.ntmps5
    go_wp2_with fail
    refine (works_any _).mono ?_
    rintro e w1 ⟨rfl, hb⟩
    have HB1 := Lib.hid (bel0 HW0.out hb)
    have cx := (HBX0.out.below hb).cell 1
    clear hb
    go_wp2_with fail
    refine (HE1.out w1 HB1.out).mono ?_
    rintro e w2 ⟨p1, c1, rfl, ht1, hb⟩
    have HBR : Hid (Below w2.heap.size w2 (w2.alloc (.cells #[.slice p1 0 c1, .int .i64 0, .int .i64 0] 26))) := Lib.hid (below_new _ _)
    have HB2 := Lib.hid (bel0 (bel0 HB1.out hb) HBR.out)
    have HT1 := Lib.hid (ht1.below HBR.out)
    have HX1 := Lib.hid (Bx.new w2 26 #[.slice p1 0 c1, .int .i64 0, .int .i64 0])
    clear hb ht1 cx
    go_wp2_with fail
    refine (HE2.out _ HB2.out).mono ?_
    rintro e w3 ⟨p2, q2, rfl, ht2, hb⟩
    have HBP : Hid (Below w3.heap.size w3 (w3.alloc (.cells #[.slice p2 t2.length q2, .int .i64 (cc2 : Int), .int .i64 mk2] 26))) := Lib.hid (below_new _ _)
    obtain ⟨W3, hW3⟩ : ∃ W3, W3 = w3.alloc (.cells #[.slice p2 t2.length q2, .int .i64 (cc2 : Int), .int .i64 mk2] 26) := ⟨_, rfl⟩
    have HB3 : Hid (Below w.heap.size w W3) := Lib.hid (by rw [hW3]; exact bel0 (bel0 HB2.out hb) HBP.out)
    have HT1b : Hid (SvB W3 (.slice p1 0 c1) _) := Lib.hid (by rw [hW3]; exact (HT1.out.below hb).below HBP.out)
    have HT2 : Hid (SvB W3 (.slice p2 t2.length q2) _) := Lib.hid (by rw [hW3]; exact ht2.below HBP.out)
    have HX1b : Hid (Bx W3 w2.heap.size 26 #[.slice p1 0 c1, .int .i64 0, .int .i64 0]) := Lib.hid (by rw [hW3]; exact (HX1.out.below hb).below HBP.out)
    have HX2 : Hid (Bx W3 w3.heap.size 26 #[.slice p2 t2.length q2, .int .i64 (cc2 : Int), .int .i64 mk2]) := Lib.hid (by rw [hW3]; exact Bx.new _ _ _)
    clear hb ht2 HBR HBP HT1 HX1
    obtain ⟨⟨a1, a2, a3⟩, _⟩ := HX1b.out.three
    obtain ⟨⟨b1, b2, b3⟩, _⟩ := HX2.out.three
    go_wp2_with fail
    rw [← hW3]
    clear hW3
    go_wp2
    go_quiet (fail)
    have hbd : Below W3.heap.size W3 (W3.drewN nq) := belowDraw _ _
    obtain ⟨W4, hW4⟩ : ∃ W4, W4 = W3.drewN nq := ⟨_, rfl⟩
    have hb4 : Below W3.heap.size W3 W4 := by rw [hW4]; exact hbd
    have HB4 := Lib.hid (bel0 HB3.out hb4)
    have HT4 := Lib.hid (HT1b.out.below hb4)
    have HX4 := Lib.hid (HX1b.out.below hb4)
    have HE4 := Lib.hid (ownsEmpty' W4)
    have HW5 := Lib.hid (below_new W4 (.cells #[] 5))
    rw [← hW4]
    clear hW4 hbd hb4 a1 a2 a3 b1 b2 b3 HX2 HT2 HB3 HT1b HX1b
    go_wp2_with (at_builtin; go_must (refine wpList_append_sv rfl (.tmp 76) (.tmp 77) rfl W4.heap.size (.slice (some ⟨W4.heap.size, 0, none⟩) 0 0) 0 [] rfl HE4.out q m1 dq src rfl HM1.out (HRS.out.below (bel0 HB4.out HW5.out)) hs1 HQ.out (by have := HN4.out; omega) HW5.out.size ?_))
    intro v5 w5 ho5 hg5
    have HB5 := Lib.hid (HW5.out.grown hg5 HW5.out.size (fun r hr => by simp [Value.ownBlock] at hr; omega))
    have HO5 := Lib.hid ho5
    clear ho5 hg5
    go_wp2_with (at_builtin; go_must (refine wpList_append_sv rfl (.tmp 78) (.tmp 79) rfl W4.heap.size _ m1 _ rfl HO5.out s m2 ds more rfl HM2.out (HRM.out.below (bel0 HB4.out HB5.out)) hm1 HSN.out (by have := HN4.out; omega) HB5.out.size ?_))
    intro v6 w6 ho6 hg6
    have HB6 := Lib.hid (HB5.out.grown hg6 HB5.out.size (fun r hr => (HO5.out.lt r hr).1))
    have hsv6 : SvB w6 v6 (src ++ more) := by
      refine Hold.svb (base := W4.heap.size) ?_
      unfold Hold
      have h := ho6
      rw [HM1.out, HM2.out] at h
      rw [List.length_append, show bsU (src ++ more) = bsU src ++ bsU more by simp [bsU]]
      exact h
    have HSV6 := Lib.hid hsv6
    clear ho6 hg6 hsv6
    go_wp2_with fail
    refine (HE3.out w6 v6 (bel0 HB4.out HB6.out) HSV6.out).mono ?_
    rintro e w7 ⟨p7, c7, rfl, ht7, hb⟩
    have hbr : Below w7.heap.size w7 (w7.alloc (.cells #[.slice p7 0 c7, .int .i64 0, .int .i64 0] 26)) := below_new _ _
    have HB7 := Lib.hid (bel0 (bel0 (bel0 HB4.out HB6.out) hb) hbr)
    have HT7 := Lib.hid (ht7.below hbr)
    have HT8 := Lib.hid (((HT4.out.below HB6.out).below hb).below hbr)
    obtain ⟨⟨a1, a2, a3⟩, _⟩ := (((HX4.out.below HB6.out).below hb).below hbr).three
    clear hb hbr ht7
    go_wp2_with fail
    refine (same_svb HT7.out HT8.out).mono ?_
    rintro e w8 ⟨rfl, hb⟩
    have HB8 := Lib.hid (bel0 HB7.out hb)
    clear hb
    go_wp2
    go_ret
    exact ⟨rfl, HB8.out⟩
theorem walk (v : Value) (pat : List UInt8) (u : Value) (src : List UInt8) (z : Value) (more : List UInt8) (x : UInt8) (w : World) (hp : SvB w v pat) (hs : SvB w u src) (hz : RestV w z more x) :
    Calls Try.prog 5 #[v, u, z] w (New w (.bool true)) := by
  by_cases hl : pat.length = 0 ∨ 2000 < pat.length ∨ 2000 < src.length ∨ 2000 < more.length
  · exact long v u z pat src more x w hp hs hz hl
  · have h1 : 1 ≤ pat.length := by omega
    have h2 : pat.length ≤ 2000 := by omega
    have h3 : src.length ≤ 2000 := by omega
    have h4 : more.length ≤ 2000 := by omega
    obtain ⟨t2, cc2, mk2, c2, e2⟩ : ∃ t2 cc2 mk2 c2, edRes (pat.take (x.toNat % pat.length + 1)) src = (t2, cc2, mk2, c2) := ⟨_, _, _, _, rfl⟩
    obtain ⟨t3, cc3, mk3, c3, e3⟩ : ∃ t3 cc3 mk3 c3, edRes pat (src ++ more) = (t3, cc3, mk3, c3) := ⟨_, _, _, _, rfl⟩
    rcases res_cases pat src with ⟨h, h'⟩ | ⟨c, hc, h, h', h''⟩ | ⟨t, cc, mk, h, a1, a2, a3, a4, a5, a6⟩
    · exact six v u z pat src more x _ t2 t3 cc2 cc3 c2 c3 6 mk2 mk3 w h1 h2 h3 h4 rfl hp hs hz (.inl rfl) h e2 ((res_more more (by rw [h]; simp)).trans h)
    · rcases hc with rfl | rfl
      · exact five v u z pat src more x _ t2 t3 cc2 cc3 c2 c3 mk2 mk3 w h1 h2 h3 h4 rfl hp hs hz h e2 e3
      · exact six v u z pat src more x _ t2 t3 cc2 cc3 c2 c3 7 mk2 mk3 w h1 h2 h3 h4 rfl hp hs hz (.inr rfl) h e2 ((res_more more (by rw [h]; simp)).trans h)
    · have hlt : x.toNat % pat.length < pat.length := Nat.mod_lt _ (by omega)
      obtain ⟨cc', mk', h5⟩ := res_prefix (k := x.toNat % pat.length + 1) h (by omega) (by omega)
      exact zero v u z pat src more x _ t cc cc' mk mk' w h1 h2 h3 h4 rfl hp hs hz h h5 ((res_more more (by rw [h]; simp)).trans h) a3

end Go.Proofs.Ytfkenoehoocobaa.editPrefixes

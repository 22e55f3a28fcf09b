/- The walk of the statement StoreOwn: it answers true, and below its own memory nothing turns. -/
import Derived.Test.YtnnpnklbhghegaaWkStoreWholeS
import Derived.Deep.CutRange
namespace Go.Proofs.Ytnnpnklbhghegaa.storeOwn
open Go.RowKit Go.Shelf E storeProtects
set_option linter.unusedVariables false

theorem xor255 (x : UInt8) : bits .xor .u8 (x.toNat : Int) 255 = (((255 - x).toNat : Nat) : Int) := all256 (p := fun x => bits .xor .u8 (x.toNat : Int) 255 = (((255 - x).toNat : Nat) : Int)) (by decide +kernel) x
theorem allB_key0 (ks : List UInt8) (x k : Nat) : allB (stP 0) ks x k = true := by
  rw [allB_iff]
  intro i _
  rfl
theorem codeS0 {n : Nat} {ks : List UInt8} {x k : Int} (h : inB n x k = true) : codeV (stP 0) n ks x k = 0 := by
  unfold codeV
  rw [if_pos h, if_pos (allB_key0 _ _ _)]
theorem codeF0 {n : Nat} {ks : List UInt8} {x k : Int} (h : inB n x k = true) : codeV (ftP 0) n ks x k = 0 := by
  unfold codeV
  rw [if_pos h, if_pos]
  rw [allB_iff]
  intro i _
  rfl
theorem subL_putL {bs b : List UInt8} {X : Nat} (h : X + b.length ≤ bs.length) : subL (putL bs X b) X b.length = b := by
  have l1 : (putL bs X b).length = bs.length := putL_len h
  refine ext_gt (subL_len (by omega)) fun j hj => ?_
  rw [subL_len (by omega)] at hj
  rw [gt_subL j hj, gt_putL h, if_pos (by omega)]
  congr 1
  omega
/-- What lies in the slice that is given to Put. -/
def InR (W : World) (B gi ci nb : Nat) (L : List UInt8) : Prop := B ≤ gi ∧ ci ≤ 9223372036854775807 ∧ Row W gi 5 (bsU L) ci ∧ L.length = nb + 1
theorem InR.sv {W : World} {B gi ci nb : Nat} {L : List UInt8} (h : InR W B gi ci nb L) : SvB W (.slice (some ⟨gi, 0, none⟩) nb ci) (L.take nb) := by
  obtain ⟨_, hc, hr, hl⟩ := h
  have h1 := hr.len
  rw [bsU_len] at h1
  have h2 : (L.take nb).length = nb := by rw [List.length_take]; omega
  have h3 := hr.rd 0 nb (by omega)
  rw [show (L.drop 0).take nb = L.take nb by simp] at h3
  exact ⟨_, _, by rw [h2], h3, by omega, hc, fun h => by cases h⟩
/-- Behind the two appends. -/
def After (w2 : World) (nb : Nat) (b : List UInt8) (W : World) (v : Value) : Prop := Below w2.heap.size w2 W ∧ ∃ gi ci, v = .slice (some ⟨gi, 0, none⟩) (nb + 1) ci ∧ InR W w2.heap.size gi ci nb (b ++ [170])
theorem after_of {w2 wa W : World} {nb : Nat} {b : List UInt8} {v v0 : Value} {r : Option Nat} (hb0 : Below w2.heap.size w2 wa) (hl : nb = b.length) (hown : W.ownsRow w2.heap.size 5 1 v (nb + 1) (bsU b ++ [.int .u8 170])) (hg : wa.grownBy W r) (hr : ∀ k, r = some k → w2.heap.size ≤ k) : After w2 nb b W v := by
  have h2 : bsU b ++ [.int .u8 170] = bsU (b ++ [170]) := by simp [bsU]
  rw [h2] at hown
  obtain ⟨gi, ci, rfl, h3, h4, h5⟩ := own_some hown (by omega) (by rw [bsU_len]; simp [hl])
  exact ⟨hb0.grown hg hb0.size hr, gi, ci, rfl, h3, h4, h5, by simp [hl]⟩
/-- A row of n bytes in a block of its own, where n is not 0. -/
def RowP (W : World) (p : Option Addr) (c n lo hi : Nat) : Prop := 0 < n → ∃ g, p = some ⟨g, 0, none⟩ ∧ lo ≤ g ∧ g < hi ∧ ∃ L : List UInt8, L.length = n ∧ Row W g 5 (bsU L) c
theorem RowP.grown {W W' : World} {p : Option Addr} {c n lo hi k : Nat} (h : RowP W p c n lo hi) (hg : W.grownBy W' (some k)) (hk : k < lo ∨ hi ≤ k) : RowP W' p c n lo hi := fun h0 => by
  obtain ⟨g, hp, h1, h2, L, hl, hr⟩ := h h0
  exact ⟨g, hp, h1, h2, L, hl, hr.grown hg (fun e => by have := Option.some.inj e; omega)⟩
theorem RowP.below {W W' : World} {p : Option Addr} {c n lo hi : Nat} (h : RowP W p c n lo hi) (hb : Below W.heap.size W W') : RowP W' p c n lo hi := fun h0 => by
  obtain ⟨g, hp, h1, h2, L, hl, hr⟩ := h h0
  exact ⟨g, hp, h1, h2, L, hl, hr.below hb⟩
theorem rowP_of {W : World} {base n : Nat} {sv : Value} {l : List UInt8} (h : Hold W base sv l) (hn : l.length = n) : ∃ p c, sv = .slice p n c ∧ n ≤ c ∧ RowP W p c n base W.heap.size := by
  obtain ⟨p, c, rfl, _, hc, _⟩ := h.full
  refine ⟨p, c, by rw [hn], by omega, fun h0 => ?_⟩
  obtain ⟨g, c', h1, h2, _, h3⟩ := own_some h (by omega) (bsU_len _)
  injection h1 with e1 e2 e3
  exact ⟨g, e1, h2, h3.lt, l, hn, by rw [e3]; exact h3⟩
/-- What stands in the rounds of the inner loop. -/
def Inn (w : World) (a g h gi ci nb B4 B5 B6 : Nat) (bs1 ks0 L : List UInt8) (px py : Option Addr) (cx cy : Nat) (W : World) : Prop := Below w.heap.size w W ∧ Sto W a g h 8192 4 bs1 ks0 ∧ Row W gi 5 (bsU L) ci ∧ RowP W px cx nb B4 B5 ∧ RowP W py cy nb B5 B6
theorem Inn.step {w W : World} {a g h gi ci nb B4 B5 B6 : Nat} {bs1 ks0 L : List UInt8} {px py : Option Addr} {cx cy : Nat} (i : Inn w a g h gi ci nb B4 B5 B6 bs1 ks0 L px py cx cy W) (hlt : w.heap.size ≤ B4 ∧ a < B4 ∧ g < B4 ∧ h < B4 ∧ gi < B4 ∧ B4 ≤ B5) (h0 : 0 < nb) (q : Nat) (hq : q < nb) :
    ∃ gx gy ux uy, px = some ⟨gx, 0, none⟩ ∧ py = some ⟨gy, 0, none⟩ ∧ W.cell? ⟨gx, q, none⟩ = some ux ∧ (W.setCell ⟨gx, q, none⟩ (.int .u8 85)).cell? ⟨gy, q, none⟩ = some uy ∧ W.frozen? ⟨gx, q, none⟩ = false ∧ (W.setCell ⟨gx, q, none⟩ (.int .u8 85)).frozen? ⟨gy, q, none⟩ = false ∧ Inn w a g h gi ci nb B4 B5 B6 bs1 ks0 L px py cx cy ((W.setCell ⟨gx, q, none⟩ (.int .u8 85)).setCell ⟨gy, q, none⟩ (.int .u8 86)) := by
  obtain ⟨i1, i2, i3, i4, i5⟩ := i
  obtain ⟨gx, px', x1, x2, Lx, lx, rx⟩ := i4 h0
  obtain ⟨gy, py', y1, y2, Ly, ly, ry⟩ := i5 h0
  obtain ⟨rx1, gr1⟩ := rx.set q (.int .u8 ((85 : UInt8).toNat : Int))
  have ry1 := ry.grown gr1 (fun e => by have := Option.some.inj e; omega)
  obtain ⟨ry2, gr2⟩ := ry1.set q (.int .u8 ((86 : UInt8).toNat : Int))
  rw [bsU_set] at rx1 ry2
  have n1 : ∀ k, k < B4 → some k ≠ some gx := fun k hk e => by have := Option.some.inj e; omega
  have n2 : ∀ k, k < B4 → some k ≠ some gy := fun k hk e => by have := Option.some.inj e; omega
  obtain ⟨l0, l1, l2, l3, l4, l5⟩ := hlt
  refine ⟨gx, gy, _, _, px', py', (rx.cell q (by rw [bsU_len, lx]; exact hq)).trans (bsU_get Lx q (by rw [lx]; exact hq)), (ry1.cell q (by rw [bsU_len, ly]; exact hq)).trans (bsU_get Ly q (by rw [ly]; exact hq)), rx.frozen q, ry1.frozen q, ?_, ?_, ?_, ?_, ?_⟩
  · exact below_grown (below_grown i1 gr1 (by omega)) gr2 (by omega)
  · exact (i2.grown gr1 (n1 _ l1) (n1 _ l2) (n1 _ l3)).grown gr2 (n2 _ l1) (n2 _ l2) (n2 _ l3)
  · exact (i3.grown gr1 (n1 _ l4)).grown gr2 (n2 _ l4)
  · exact fun _ => ⟨gx, px', x1, x2, _, by rw [List.length_set, lx], rx1.grown gr2 (fun e => by have := Option.some.inj e; omega)⟩
  · exact fun _ => ⟨gy, py', y1, y2, _, by rw [List.length_set, ly], ry2⟩
theorem own_lt {W : World} {base n : Nat} {t : TypeId} {v : Value} {xs : List Value} (h : W.ownsRow base t 1 v n xs) : ∀ k, v.ownBlock = some k → base ≤ k := fun k hk => (h.lt k hk).1
theorem gt_last {nb : Nat} {b : List UInt8} (h : nb = b.length) : gt (b ++ [170]) nb = 170 := by
  subst h
  simp [gt]
set_option maxRecDepth 100000 in
set_option maxHeartbeats 8000000 in
theorem walk (v : Value) (l : List UInt8) (at16 : Nat) (w : World) (hb : SvB w v l) (had : at16 < 65536) : Calls Try.prog 8 #[v, .int .u16 (at16 : Int)] w (New w (.bool true)) := by
  obtain ⟨i0, hi0, hz0, hz1, hz2⟩ := info_parts info5
  obtain ⟨p0, c0, rfl, hr0, hc0, hm0, hn0⟩ := hb
  obtain ⟨nl, hnl⟩ : ∃ nl, nl = l.length := ⟨_, rfl⟩
  obtain ⟨b, hbd⟩ : ∃ b, b = l.take 2000 := ⟨_, rfl⟩
  obtain ⟨nb, hnb⟩ : ∃ nb, nb = b.length := ⟨_, rfl⟩
  have hb1 : b.length = min 2000 l.length := by rw [hbd, List.length_take]
  have HNB := Lib.hid hnb
  have HNB2 : Hid (nb ≤ 2000) := Lib.hid (by omega)
  have HR0 : Rd w p0 b := by rw [hbd]; exact hr0.take 2000
  have H1 : Hid (nl ≤ 2000 → SvB w (.slice p0 nl c0) b) := Lib.hid (fun h => ⟨p0, c0, by rw [show b.length = nl by omega], HR0, by omega, hm0, hn0⟩)
  have H2 : Hid (2000 < nl → SvB w (.slice p0 2000 c0) b ∧ 2000 ≤ c0) := Lib.hid (fun h => ⟨⟨p0, c0, by rw [show b.length = 2000 by omega], HR0, by omega, hm0, hn0⟩, by omega⟩)
  rw [← hnl]
  have HMK := Lib.hid (make_any 3)
  obtain ⟨X, hX⟩ : ∃ X, X = at16 % 6000 := ⟨_, rfl⟩
  have HX : Hid (X < 6000) := Lib.hid (by omega)
  have HXE : Hid (Int.tmod (wrap64 (at16 : Int)) 6000 = (X : Int)) := Lib.hid (by
    rw [show wrap64 (at16 : Int) = (at16 : Int) by unfold wrap64; omega, Int.tmod_eq_emod_of_nonneg (by omega), hX]
    rfl)
  have h16 : (at16 : Int) ≤ 65536 := by omega
  have hXe : (at16 : Int) % 6000 = (X : Int) := by omega
  clear had hX hr0 hc0 hm0 hn0 hb1 hbd hnb hnl HR0
  go_enter Try.func8, Try.ntmps8
  go_wp2_with fail
  refine (works_any _).mono ?_
  rintro e w1 ⟨rfl, hb1⟩
  have HW1 := Lib.hid hb1
  clear hb1
  go_wp2_with fail
  refine (HMK.out _).mono ?_
  rintro e w2 ⟨a, g, h, rfl, hs, hg1, hg2, hg3, hb2⟩
  have HW2 := Lib.hid (bel0 HW1.out hb2)
  have HS2 : Hid (Sto w2 a g h 8192 4 (List.replicate 8192 0) (List.replicate 4 0)) := Lib.hid hs
  have HGB : Hid (w.heap.size ≤ g) := Lib.hid (Nat.le_trans HW1.out.size hg2)
  have HAG := Lib.hid (And.intro HS2.out.1.lt HS2.out.2.2.1.lt)
  generalize List.replicate 8192 (0 : UInt8) = bs0 at *
  generalize List.replicate 4 (0 : UInt8) = ks0 at *
  have HBL := Lib.hid HS2.out.nums.1
  have HIN8 : Hid (inB 8192 (X : Int) (b.length : Int) = true) := Lib.hid (inB_iff.2 ⟨by omega, by omega, by have := HX.out; have := HNB2.out; have := HNB.out; omega⟩)
  have HC0 : Hid (codeV (stP 0) 8192 ks0 (X : Int) (b.length : Int) = 0) := Lib.hid (codeS0 HIN8.out)
  have HPB : Hid (putB (stP 0) 8192 bs0 ks0 (X : Int) b = putL bs0 X b) := Lib.hid (by unfold putB; rw [if_pos HC0.out]; rfl)
  have HSUB : Hid (subL (putL bs0 X b) X b.length = b) := Lib.hid (subL_putL (by have := HX.out; have := HNB2.out; have := HNB.out; have := HBL.out; omega))
  generalize putL bs0 X b = bs1 at *
  have HCF : Hid (codeV (ftP 0) 8192 ks0 (X : Int) (nb : Int) = 0) := Lib.hid (by rw [HNB.out]; exact codeF0 HIN8.out)
  have HFV : Hid (fetL (ftP 0) 8192 bs1 ks0 (X : Int) (nb : Int) = b) := Lib.hid (by unfold fetL; rw [if_pos HCF.out, HNB.out]; exact HSUB.out)
  have HBV : Hid (bytL 8192 bs1 (X : Int) (nb : Int) = b) := Lib.hid (by unfold bytL; rw [HNB.out, if_pos HIN8.out]; exact HSUB.out)
  have HE := Lib.hid (own_empty w2 5)
  have HA0 := Lib.hid (below_new w2 (.cells #[] 5))
  have HMX : Hid (nb + 1 ≤ maxLen) := Lib.hid (by unfold maxLen; have := HNB2.out; omega)
  have HMY : Hid ((nb + 1) * 1 ≤ 140737488355328) := Lib.hid (by have := HNB2.out; omega)
  have HMZ : Hid (0 + nb ≤ maxLen) := Lib.hid (by unfold maxLen; have := HNB2.out; omega)
  have HMW : Hid ((0 + nb) * 1 ≤ 140737488355328) := Lib.hid (by have := HNB2.out; omega)
  have HLN : Hid ((bsU b).length = nb * 1) := Lib.hid (by rw [bsU_len, HNB.out, Nat.mul_one])
  clear hs hg1 hg2 hg3 hb2 HMK
  go_upto_if 21 with fail
  go_cut [0] from 19 to 23 (fun v wx => w2 = wx ∧ SvB w v b)
  case first =>
    by_cases h5 : nl ≤ 2000
    · have h6 : (nl : Int) ≤ 2000 := by omega
      have HA := Lib.hid (H1.out h5)
      clear H1 H2 h5
      go_wp2_with fail
      go_meet
      exact ⟨rfl, HA.out⟩
    · have h6 : (2000 : Int) < (nl : Int) := by omega
      have HA := Lib.hid (H2.out (by omega)).1
      have h7 := (H2.out (by omega)).2
      clear H1 H2 h5
      go_wp2_with fail
      go_meet
      exact ⟨rfl, HA.out⟩
  case rest =>
  obtain ⟨rfl, hb⟩ := hcut
  have HV := Lib.hid hb
  obtain ⟨p, c, rfl, hr, hbc, hcm, hpn⟩ := hb
  have HRD := Lib.hid hr
  rw [← HNB.out] at hbc HV ⊢
  have hb5' : (nb : Int) ≤ 2000 := by have := HNB2.out; omega
  clear hr H1 H2
  go_upto_region 9 with fail
  rw [hXe]
  go_cut [7] from 27 to 32 (fun v wx => After w2 nb b wx v)
  case first =>
    cases p with
    | none =>
      obtain rfl := hpn rfl
      obtain rfl : nb = 0 := by omega
      have hb0 : b = [] := List.length_eq_zero_iff.1 HNB.out.symm
      have HB0 := Lib.hid hb0
      have HO0 : Hid ((w2.alloc (.cells #[] 5)).ownsRow w2.heap.size 5 1 (.slice (some ⟨w2.heap.size, 0, none⟩) 0 0) 0 (bsU b)) := Lib.hid (by rw [hb0]; exact HE.out)
      have HBA : Hid (Below w2.heap.size w2 ((w2.alloc (.cells #[] 5)).alloc (.cells #[.int .u8 170] 5))) := Lib.hid (bel0 HA0.out (below_new _ _))
      have HSZ : Hid (w2.heap.size ≤ ((w2.alloc (.cells #[] 5)).alloc (.cells #[.int .u8 170] 5)).heap.size) := Lib.hid HBA.out.size
      have HCN : Hid (∀ j u, [Value.int .u8 170][j]? = some u → ((w2.alloc (.cells #[] 5)).alloc (.cells #[.int .u8 170] 5)).cell? ((⟨w2.heap.size + 1, 0, none⟩ : Addr).add j) = some u) := Lib.hid (by
        have h9 := cellNew (w2.alloc (.cells #[] 5)) (.int .u8 170) 5
        rw [show (w2.alloc (.cells #[] 5)).heap.size = w2.heap.size + 1 from Array.size_push _] at h9
        exact h9)
      clear hb0 hbc hcm hpn
      go_wp2_with (first
        | (at_builtin; refine wpList_append_own_none rfl (.tmp 27) (.tmp 28) 29 rfl w2.heap.size 5 i0 1 Try.underlying29 hi0 _ 0 [] rfl HE.out rfl ?_)
        | (at_builtin; refine wpList_append_own _ rfl (.tmp 29) (.tmp 30) 29 rfl w2.heap.size 5 i0 (.int .u8 0) 1 1 Try.underlying29 hi0 hz0 hz1 hz2 rfl (by decide) (.slice (some ⟨w2.heap.size, 0, none⟩) 0 0) 0 (bsU b) rfl (HO0.out.alloc _) ⟨w2.heap.size + 1, 0, none⟩ 1 1 [.int .u8 170] rfl rfl HCN.out (by intro u hu; simp at hu; subst hu; rfl) HMX.out HMY.out HSZ.out ?_; intro v1 w1 hown1 hgrow1 _; have HA : Hid (After w2 0 b w1 v1) := Lib.hid (after_of (v0 := (.slice (some ⟨w2.heap.size, 0, none⟩) 0 0)) HBA.out HNB.out hown1 hgrow1 (own_lt HO0.out)); clear hown1 hgrow1))
      go_wp2_with fail
      go_meet
      exact HA.out
    | some ad =>
      have HSRC : Hid (∀ j u, (bsU b)[j]? = some u → (w2.alloc (.cells #[] 5)).cell? (ad.add j) = some u) := Lib.hid (cells_rd (HRD.out.below (bel0 HW2.out (below_new _ _))))
      clear hpn
      go_wp2_with (first
        | (at_builtin; refine wpList_append_own _ rfl (.tmp 27) (.tmp 28) 29 rfl w2.heap.size 5 i0 (.int .u8 0) 1 1 Try.underlying29 hi0 hz0 hz1 hz2 rfl (by decide) (.slice (some ⟨w2.heap.size, 0, none⟩) 0 0) 0 [] rfl HE.out ad nb c (bsU b) rfl HLN.out HSRC.out (bsU_one _) HMZ.out HMW.out HA0.out.size ?_; intro v0 w0 hown0 hgrow0 _; rw [Nat.zero_add, List.nil_append] at hown0; have HO0 := Lib.hid hown0; have HB0 : Hid (Below w2.heap.size w2 w0) := Lib.hid (HA0.out.grown hgrow0 HA0.out.size (fun r hr => by simp [Value.ownBlock] at hr; omega)); have HBA : Hid (Below w2.heap.size w2 (w0.alloc (.cells #[.int .u8 170] 5))) := Lib.hid (bel0 HB0.out (below_new _ _)); have HSZ : Hid (w2.heap.size ≤ (w0.alloc (.cells #[.int .u8 170] 5)).heap.size) := Lib.hid HBA.out.size; clear hown0 hgrow0)
        | (at_builtin; refine wpList_append_own _ rfl (.tmp 29) (.tmp 30) 29 rfl w2.heap.size 5 i0 (.int .u8 0) 1 1 Try.underlying29 hi0 hz0 hz1 hz2 rfl (by decide) v0 nb (bsU b) rfl (HO0.out.alloc _) ⟨w0.heap.size, 0, none⟩ 1 1 [.int .u8 170] rfl rfl (cellNew _ _ _) (by intro u hu; simp at hu; subst hu; rfl) HMX.out HMY.out HSZ.out ?_; intro v1 w1 hown1 hgrow1 _; have HA : Hid (After w2 nb b w1 v1) := Lib.hid (after_of (v0 := v0) HBA.out HNB.out hown1 hgrow1 (own_lt HO0.out)); clear hown1 hgrow1))
      go_wp2_with fail
      go_meet
      exact HA.out
  case rest =>
    have HAX := Lib.hid hcut
    clear hcut
    obtain ⟨gi, ci, rfl, hin⟩ := HAX.out.2
    have HIN := Lib.hid hin
    have HS3 := Lib.hid (HS2.out.below HAX.out.1)
    have HW3 := Lib.hid (bel0 HW2.out HAX.out.1)
    have HGI : Hid (g < gi ∧ w2.heap.size ≤ gi) := Lib.hid ⟨Nat.lt_of_lt_of_le HS2.out.2.1.lt hin.1, hin.1⟩
    have hci : nb + 1 ≤ ci := by have h9 := hin.2.2.1.len; rw [bsU_len, hin.2.2.2] at h9; exact h9
    have hci0 : nb ≤ ci := by omega
    have HCI := Lib.hid hin.2.1
    have HP1 := Lib.hid (put_any a g h 8192 4 (X : Int) 0 (.slice (some ⟨gi, 0, none⟩) nb ci) b bs0 ks0 wc (by have := HX.out; omega) HS3.out (by have h9 := hin.sv; rw [List.take_append_of_le_length (by have := HNB.out; omega), HNB.out, List.take_length, ← HNB.out] at h9; exact h9))
    rw [HC0.out, HPB.out] at HP1
    clear hin HS2 HW2 HAX
    go_wp2_with fail
    refine HP1.out.mono ?_
    rintro e w4 ⟨rfl, hg4, hs4⟩
    have HS4 := Lib.hid hs4
    have HW4 := Lib.hid (below_grown HW3.out hg4 HGB.out)
    have HR4 := Lib.hid (HIN.out.2.2.1.grown hg4 (fun e => by have := Option.some.inj e; have := HGI.out; omega))
    have HGI2 : Hid (w.heap.size ≤ gi ∧ gi < w4.heap.size) := Lib.hid ⟨by have := HGB.out; have := HGI.out; omega, HR4.out.lt⟩
    clear hg4 hs4 HP1 HS3 HW3
    go_wp2
    go_loopw [8, 42] (fun _ i wr => Below w.heap.size w wr ∧ Sto wr a g h 8192 4 bs1 ks0 ∧ ∃ j : Nat, j ≤ nb + 1 ∧ i = .int .i64 (j : Int) ∧ ∃ L : List UInt8, L.length = nb + 1 ∧ Row wr gi 5 (bsU L) ci ∧ gt L nb = if j ≤ nb then 170 else 85) (fun _ i _ => nb + 1 - (intOf i).toNat)
    case atStart => exact ⟨HW4.out, HS4.out, 0, Nat.zero_le _, rfl, b ++ [170], HIN.out.2.2.2, HR4.out, by rw [if_pos (Nat.zero_le _)]; exact gt_last HNB.out⟩
    case round =>
      clear HS4 HW4 HR4
      obtain ⟨hw, hs, j, hj, rfl, L, hL, hrow, hlast⟩ := hrel
      have JW := Lib.hid hw
      have JS := Lib.hid hs
      have JR := Lib.hid hrow
      have JL := Lib.hid hL
      have JLAST := Lib.hid hlast
      clear hw hs hL hrow hlast
      by_cases hlt : j < nb + 1
      · obtain ⟨v, hv⟩ : ∃ v, v = (gt L j).toNat := ⟨_, rfl⟩
        obtain ⟨v2, hv2⟩ : ∃ v2, v2 = (255 - gt L j).toNat := ⟨_, rfl⟩
        have hc : wr.cell? ⟨gi, j, none⟩ = some (.int .u8 (v : Int)) := by rw [JR.out.cell j (by rw [bsU_len, JL.out]; exact hlt), bsU_get _ j (by rw [JL.out]; exact hlt), hv]
        have hf := JR.out.frozen j
        have hx : bits .xor .u8 (v : Int) 255 = (v2 : Int) := by rw [hv, hv2]; exact xor255 _
        obtain ⟨hr1, hr2⟩ := JR.out.set j (.int .u8 (v2 : Int))
        have hr3 : (bsU L).set j (.int .u8 (v2 : Int)) = bsU (L.set j (255 - gt L j)) := by rw [hv2, bsU_set]
        rw [hr3] at hr1
        have HN := Lib.hid (And.intro hr1 hr2)
        have HLN2 : Hid (gt (L.set j (255 - gt L j)) nb = if j + 1 ≤ nb then 170 else 85) := Lib.hid (by
          rw [gt_setX (by rw [JL.out]; exact hlt)]
          have h9 := JLAST.out
          rw [if_pos (by omega)] at h9
          by_cases e : nb = j
          · rw [if_pos e, if_neg (by omega), ← e, h9]; rfl
          · rw [if_neg e, if_pos (by omega), h9])
        have hjn : (j : Int) < (nb : Int) + 1 := by omega
        have hjs : (j : Int) ≤ 2001 := by have := HNB2.out; omega
        have HS5 := Lib.hid (JS.out.grown hr2 (fun e => by have := Option.some.inj e; have := HGI.out; have := HAG.out; omega) (fun e => by have := Option.some.inj e; have := HGI.out; omega) (fun e => by have := Option.some.inj e; have := HGI.out; have := HAG.out; omega))
        have HW5 := Lib.hid (below_grown JW.out hr2 HGI2.out.1)
        clear hv hv2 hr1 hr2 hr3
        go_wp2
        go_roundw
        case rel => exact ⟨HW5.out, HS5.out, j + 1, hlt, by go_num, L.set j (255 - gt L j), by rw [List.length_set, JL.out], HN.out.1, HLN2.out⟩
        case measure => simp [intOf]; omega
      · obtain rfl : j = nb + 1 := by omega
        have h85 : gt L nb = 85 := by have h9 := JLAST.out; rw [if_neg (by omega)] at h9; exact h9
        have H85 := Lib.hid h85
        clear hlt h85 JLAST
        go_wp2
        go_loopw [9] (fun tv wr => Below w.heap.size w wr ∧ Sto wr a g h 8192 4 bs1 ks0 ∧ Row wr gi 5 (bsU L) ci ∧ ∃ j : Nat, j ≤ 2 ∧ tv = .int .i64 (j : Int)) (fun tv _ => 2 - (intOf tv).toNat)
        case atStart => exact ⟨JW.out, JS.out, JR.out, 0, Nat.zero_le _, rfl⟩
        case round =>
          clear JW JS JR
          obtain ⟨hw, hs, hr, j, hj, rfl⟩ := hrel
          have TW := Lib.hid hw
          have TS := Lib.hid hs
          have TR := Lib.hid hr
          clear hw hs hr
          by_cases hlt : j < 2
          · have HF := Lib.hid (fetch_any a g h 8192 4 (X : Int) (nb : Int) 0 bs1 ks0 _ (by have := HX.out; omega) TS.out)
            rw [HFV.out, HCF.out] at HF
            obtain ⟨B4, hB4⟩ : ∃ n, n = wr.heap.size := ⟨_, rfl⟩
            have hjn : (j : Int) < 2 := by omega
            go_wp2_with fail
            refine HF.out.mono ?_
            rintro e w5 ⟨xv, rfl, hx5, hb5⟩
            obtain ⟨px, cx, rfl, hcx, rx⟩ := rowP_of hx5 HNB.out.symm
            rw [← hB4] at rx
            have RX := Lib.hid rx
            have SX := Lib.hid hx5.svb
            have TS5 := Lib.hid (TS.out.below hb5)
            have TR5 := Lib.hid (TR.out.below hb5)
            have TW5 := Lib.hid (bel0 TW.out hb5)
            have HLT5 : Hid (w.heap.size ≤ B4 ∧ a < B4 ∧ g < B4 ∧ h < B4 ∧ gi < B4 ∧ B4 ≤ w5.heap.size) := Lib.hid (by rw [hB4]; exact ⟨TW.out.size, TS.out.1.lt, TS.out.2.1.lt, TS.out.2.2.1.lt, TR.out.lt, hb5.size⟩)
            have HY := Lib.hid (bytes_any a g h 8192 4 (X : Int) (nb : Int) bs1 ks0 _ (by have := HX.out; omega) TS5.out)
            rw [HBV.out] at HY
            clear hx5 hb5 rx TS TR TW HF hB4
            go_wp2_with fail
            refine HY.out.mono ?_
            rintro e w6 ⟨yv, rfl, hy6, hb6⟩
            obtain ⟨py, cy, rfl, hcy, ry⟩ := rowP_of hy6 HNB.out.symm
            have TW6 := bel0 TW5.out hb6
            have HI : Hid (Inn w a g h gi ci nb B4 w5.heap.size w6.heap.size bs1 ks0 L px py cx cy w6) := Lib.hid ⟨TW6, TS5.out.below hb6, TR5.out.below hb6, RX.out.below hb6, ry⟩
            have c1 := conv_sv (SX.out.below hb6)
            have c2 := conv_sv hy6.svb
            have c3 := conv_sv (HV.out.below TW6)
            generalize w6.heap.size = B6 at HI
            clear hy6 hb6 ry TW6 RX SX TS5 TR5 TW5 HY
            go_wp2
            clear c1 c2 c3
            go_loopw [89] (fun iv wr => Inn w a g h gi ci nb B4 w5.heap.size B6 bs1 ks0 L px py cx cy wr ∧ ∃ q : Nat, q ≤ nb ∧ iv = .int .i64 (q : Int)) (fun iv _ => nb - (intOf iv).toNat)
            case atStart => exact ⟨HI.out, 0, Nat.zero_le _, rfl⟩
            case round =>
              clear HI
              obtain ⟨hi, q, hq, rfl⟩ := hrel
              have II := Lib.hid hi
              clear hi
              by_cases hqn : q < nb
              · obtain ⟨gx, gy, ux, uy, rfl, rfl, ex, ey, fx, fy, hi2⟩ := II.out.step HLT5.out (by omega) q hqn
                have I2 := Lib.hid hi2
                clear hi2 II
                have hqi : (q : Int) < (nb : Int) := by omega
                have hqs : (q : Int) ≤ 2000 := by have := HNB2.out; omega
                go_wp2
                go_roundw
                case rel => exact ⟨I2.out, q + 1, hqn, by go_num⟩
                case measure => simp [intOf]; omega
              · obtain rfl : q = nb := by omega
                clear hqn
                go_wp2
                go_roundw
                case rel => (repeat apply Exists.intro); exact ⟨⟨II.out.1, II.out.2.1, II.out.2.2.1, j + 1, hlt, by go_num⟩, rfl⟩
                case measure => simp [intOf]; omega
          · obtain rfl : j = 2 := by omega
            clear hlt
            obtain ⟨C, hC⟩ : ∃ C, C = codeV (stP 0) 8192 ks0 (X : Int) (((L.take nb).length : Nat) : Int) := ⟨_, rfl⟩
            have HP2 := Lib.hid (put_any a g h 8192 4 (X : Int) 0 (.slice (some ⟨gi, 0, none⟩) nb ci) (L.take nb) bs1 ks0 _ (by have := HX.out; omega) TS.out (InR.sv (B := 0) ⟨Nat.zero_le _, HCI.out, TR.out, JL.out⟩))
            rw [← hC] at HP2
            clear hC
            go_wp2_with fail
            refine HP2.out.mono ?_
            rintro e w7 ⟨rfl, hg7, hs7⟩
            have hc7 : w7.cell? ⟨gi, nb, none⟩ = some (.int .u8 85) := by
              rw [(TR.out.grown hg7 (fun e => by have := Option.some.inj e; have := HGI.out; omega)).cell nb (by rw [bsU_len, JL.out]; omega), bsU_get _ nb (by rw [JL.out]; omega), H85.out]
              rfl
            have HB7 := Lib.hid (below_grown TW.out hg7 HGB.out)
            clear hg7 hs7 HP2 TS TR TW
            go_wp2
            go_ret
            exact ⟨by simp, HB7.out⟩

end Go.Proofs.Ytnnpnklbhghegaa.storeOwn

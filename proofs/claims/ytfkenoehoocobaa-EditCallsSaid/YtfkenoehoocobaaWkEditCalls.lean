/- The walk of the statement EditCalls: it answers true, and below its own memory nothing turns. -/
import Derived.Test.YtfkenoehoocobaaEdRef
import Derived.Test.YtfkenoehoocobaaEdLent
import Derived.Test.YtfkenoehoocobaaEdOut
import Derived.Test.YtfkenoehoocobaaEdProps
import Derived.Deep.CutRange
import Derived.BigRegion
namespace Go.Proofs.Ytfkenoehoocobaa.editCalls
open Go.RowKit E
set_option linter.unusedVariables false

set_option maxRecDepth 100000 in
theorem long (p q : Option Addr) (n m c d : Nat) (w : World) (hl : 2000 < n ∨ 2000 < m) :
    Calls Try.prog 3 #[.slice p n c, .slice q m d] w (New w (.bool true)) := by
  have hcs : (2000 : Int) < (n : Int) ∨ (¬ ((2000 : Int) < (n : Int)) ∧ (2000 : Int) < (m : Int)) := by omega
  clear hl
  rcases hcs with i1 | ⟨i1, i2⟩
  all_goals
    go_enter Try.func3, Try.ntmps3
    go_wp2_with fail
    refine (works_any _).mono ?_
    rintro e w1 ⟨rfl, hb⟩
    have HB1 := Lib.hid hb
    clear hb
    go_wp2
    go_ret
    exact ⟨rfl, HB1.out⟩
theorem step_one (x : UInt8) : ((x.toNat : Int) + 1) % 256 = ((x + 1).toNat : Int) := all256 (p := fun x => ((x.toNat : Int) + 1) % 256 = ((x + 1).toNat : Int)) (by decide +kernel) x
/-- Where the loop that writes into the text stands. -/
def Lp (w3 : World) (g : Nat) (pv : Option Addr) (k cv : Nat) (cc : Nat) (mk : Int) (wr : World) : Prop :=
  Below w3.heap.size w3 wr ∧ Bx wr g 26 #[.slice pv k cv, .int .i64 (cc : Int), .int .i64 mk] ∧ (0 < k → ∃ tb l, pv = some ⟨tb, 0, none⟩ ∧ tb ≠ g ∧ w3.heap.size ≤ tb ∧ l.length = k ∧ Blk wr w3.heap.size tb l)
set_option maxRecDepth 100000 in
set_option maxHeartbeats 4000000 in
theorem yes (v u : Value) (pat src text : List UInt8) (cc : Nat) (mk : Int) (code : Nat) (w : World) (hl1 : pat.length ≤ 2000) (hl2 : src.length ≤ 2000) (hp : SvB w v pat) (hs : SvB w u src) (h : edRes pat src = (text, cc, mk, code)) (htl : text.length ≤ 256) :
    Calls Try.prog 3 #[v, u] w (New w (.bool true)) := by
  have HV := Lib.hid (fun W (hb : Below w.heap.size w W) => lent_any v pat W hl1 (hp.below hb))
  have HU := Lib.hid (fun W (hb : Below w.heap.size w W) => lent_any u src W hl2 (hs.below hb))
  have HE := Lib.hid (fun W pv sv (h1 : SvB W pv pat) (h2 : SvB W sv src) => edit4_any pv sv pat src W text cc mk code h1 h2 h)
  have HRE := Lib.hid (fun W (hb : Below w.heap.size w W) => (redit_any v u pat src W hl2 (hp.below hb) (hs.below hb)).mono fun e w' h' => (by rw [h] at h'; exact h'.open : E4Post W text cc mk code e w'))
  have HKP := Lib.hid (fun W pv (hb : Below w.heap.size w W) (h1 : SvB W pv (pat ++ List.replicate 8 7)) => kept_any pv v pat W hl1 h1 (hp.below hb))
  have HKS := Lib.hid (fun W pv (hb : Below w.heap.size w W) (h1 : SvB W pv (src ++ List.replicate 8 7)) => kept_any pv u src W hl2 h1 (hs.below hb))
  obtain ⟨pp, cp, rfl, _⟩ := hp
  obtain ⟨q, dq, rfl, _⟩ := hs
  obtain ⟨n, hn⟩ : ∃ n, n = pat.length := ⟨_, rfl⟩
  obtain ⟨m, hm⟩ : ∃ m, m = src.length := ⟨_, rfl⟩
  have HN := Lib.hid hn
  have HM := Lib.hid hm
  rw [← hn] at HV HRE HKP hl1 ⊢
  rw [← hm] at HU HRE HKS hl2 ⊢
  have i1 : ¬ ((2000 : Int) < (n : Int)) := by omega
  have i2 : ¬ ((2000 : Int) < (m : Int)) := by omega
  clear hn hm h
  go_enter Try.func3, Try.ntmps3
  go_wp2_with fail
  refine (works_any _).mono ?_
  rintro e w1 ⟨rfl, hb⟩
  have HB1 := Lib.hid hb
  clear hb
  go_wp2_with fail
  refine (HV.out w1 HB1.out).mono ?_
  rintro e w2 ⟨sv1, rfl, ho1, hb⟩
  have HB2 := Lib.hid (bel0 HB1.out hb)
  have HP2 := Lib.hid ho1.svb
  clear hb ho1
  go_wp2_with fail
  refine (HU.out w2 HB2.out).mono ?_
  rintro e w3 ⟨sv2, rfl, ho2, hb⟩
  have HB3 := Lib.hid (bel0 HB2.out hb)
  have HP3 := Lib.hid (HP2.out.below hb)
  have HS3 := Lib.hid ho2.svb
  clear hb ho2 HP2
  obtain ⟨p1, c1, rfl, hf1, hc1, hm1⟩ := lent_front HP3.out
  obtain ⟨p2, c2, rfl, hf2, hc2, hm2⟩ := lent_front HS3.out
  rw [List.length_replicate] at hc1 hc2
  simp only [List.length_replicate]
  rw [← HN.out] at hf1 hc1 ⊢
  rw [← HM.out] at hf2 hc2 ⊢
  have HE3 : Hid (∀ W, Below w3.heap.size w3 W → Calls Try.prog 12 #[.slice p1 n c1, .slice p2 m c2] W (E4Post W text cc mk code)) := Lib.hid (fun W hb => HE.out W _ _ (hf1.below hb) (hf2.below hb))
  have j1 : (n : Int) ≤ (c1 : Int) := by omega
  have j2 : (m : Int) ≤ (c2 : Int) := by omega
  clear hf1 hf2 hc1 hc2
  have HP4 : Hid (SvB w3 (.slice p1 (n + 8) c1) (pat ++ List.replicate 8 7)) := Lib.hid (by have h := HP3.out; rw [List.length_replicate, ← HN.out] at h; exact h)
  have HS4 : Hid (SvB w3 (.slice p2 (m + 8) c2) (src ++ List.replicate 8 7)) := Lib.hid (by have h := HS3.out; rw [List.length_replicate, ← HM.out] at h; exact h)
  clear HP3 HS3
  go_upto_region 7 with fail
  go_cut [7, 8] from 12 (fun rv ev wx => AfterEd w3 text cc mk code rv ev wx)
  case first =>
    have H0 : Hid (Below w3.heap.size w3 w3.drew) := Lib.hid (Below.refl _ _).drew
    go_region_held3 (fun W => Below w3.heap.size w3 W)
      (first | exact H0.out | exact bel0 (by assumption) (by assumption) | exact Below.alloc (by assumption) (Below.size (by assumption)) _ | exact keep_new H0.out (by assumption) | exact below_set3 (by assumption) (Nat.le_refl _) _ _ _)
      (first
        | (go_at_call 12; refine (HE3.out _ (by assumption)).mono ?_; rintro e w4 ⟨pv, cv, rfl, hh, hb4⟩; first | (have hbx := bx_first hb4; obtain ⟨⟨b0, b1, b2⟩, f0, f1, f2⟩ := Bx.three hbx) | skip))
    all_goals go_wp2_with fail
    all_goals go_meet
    all_goals first
      | exact after_new H0.out hh hb4
      | exact after_store (W := (w3.alloc (.cells #[.slice none 0 0, .int .i64 0, .int .i64 0] 26)).drew) (below_new w3 _).drew (Nat.le_refl _) (by simp) hbx hh hb4
  case rest =>
    obtain ⟨g, pv, cv, rfl, rfl, hB, hh, hb, hg, hne⟩ := hcut
    have HB4 := Lib.hid (bel0 HB3.out hb)
    have HW4 := Lib.hid hb
    have HBX := Lib.hid hB
    have HH := Lib.hid hh
    have HG := Lib.hid hg
    have HNE := Lib.hid hne
    obtain ⟨k, hk⟩ : ∃ k, k = text.length := ⟨_, rfl⟩
    have HK := Lib.hid hk
    rw [← hk] at HBX htl
    clear hB hh hb hg hne
    have HRE2 : Hid (∀ W, Below w.heap.size w W → Calls Try.prog 13 #[.slice pp n cp, .slice q m dq] W fun e w' => ∃ pv2 cv2, e = .returned (.tuple #[.agg #[.slice pv2 k cv2, .int .i64 (cc : Int), .int .i64 mk], .int .i64 (code : Int)]) ∧ SvB w' (.slice pv2 k cv2) text ∧ Below W.heap.size W w') :=
      Lib.hid (fun W hb => (HRE.out W hb).mono fun e w' h => by
        obtain ⟨pv2, cv2, h1, h2, h3⟩ := h
        rw [← HK.out] at h1 h2
        exact ⟨pv2, cv2, h1, h2.svb, h3⟩)
    clear HRE hk
    go_wp2_with fail
    refine (HRE2.out wc HB4.out).mono ?_
    rintro e w5 ⟨pv2, cv2, rfl, hh2, hb5⟩
    have hbr : Below w5.heap.size w5 (w5.alloc (.cells #[.slice pv2 k cv2, .int .i64 (cc : Int), .int .i64 mk] 29)) := below_new _ _
    obtain ⟨W6, hW6⟩ : ∃ W6, W6 = w5.alloc (.cells #[.slice pv2 k cv2, .int .i64 (cc : Int), .int .i64 mk] 29) := ⟨_, rfl⟩
    rw [← hW6] at hbr
    have HB6 := Lib.hid (bel0 (bel0 HB4.out hb5) hbr)
    have HW6 := Lib.hid (bel0 (bel0 HW4.out hb5) hbr)
    have HX6 := Lib.hid ((HBX.out.below hb5).below hbr)
    have HX7 : Hid (Bx W6 w5.heap.size 29 #[.slice pv2 k cv2, .int .i64 (cc : Int), .int .i64 mk]) := Lib.hid (by rw [hW6]; exact Bx.new _ _ _)
    have HT1 : Hid (SvB W6 (.slice pv k cv) text) := Lib.hid (by have h := (HH.out.svb.below hb5).below hbr; rw [← HK.out] at h; exact h)
    have HT2 : Hid (SvB W6 (.slice pv2 k cv2) text) := Lib.hid (hh2.below hbr)
    have HBK : Hid (text.length = 0 ∨ ∃ tb, pv = some ⟨tb, 0, none⟩ ∧ Blk W6 w3.heap.size tb text) := Lib.hid (by
      rcases hold_blk HH.out with h | ⟨tb, h1, h2⟩
      · exact .inl h
      · exact .inr ⟨tb, h1, (h2.below hb5).below hbr⟩)
    obtain ⟨⟨a1, a2, a3⟩, _⟩ := HX6.out.three
    obtain ⟨⟨b1, b2, b3⟩, _⟩ := HX7.out.three
    clear hb5 hbr hh2
    go_upto_region 9 with fail
    rw [← hW6]
    clear hW6
    go_wp2_with fail
    refine (same_svb HT1.out HT2.out).mono ?_
    rintro e w7 ⟨rfl, hb7⟩
    have HB7 := Lib.hid (bel0 HB6.out hb7)
    have hlp : Lp w3 g pv k cv cc mk w7 := ⟨bel0 HW6.out hb7, HX6.out.below hb7, fun hk0 => by
      rcases HBK.out with h | ⟨tb, h1, h2⟩
      · have := HK.out; omega
      · exact ⟨tb, text, h1, fun e => HNE.out _ h1 e, h2.1, HK.out.symm, h2.below hb7⟩⟩
    have HLP := Lib.hid hlp
    obtain ⟨⟨a1, a2, a3⟩, _⟩ := (HX6.out.below hb7).three
    clear hb7 hlp b1 b2 b3
    go_wp2
    go_loopw [11] (fun i wr => Lp w3 g pv k cv cc mk wr ∧ ∃ t : Nat, t ≤ k ∧ i = .int .i64 t) (fun i _ => k - (intOf i).toNat)
    case atStart => exact ⟨HLP.out, 0, Nat.zero_le _, rfl⟩
    case round =>
      obtain ⟨hL, t, ht, rfl⟩ := hrel
      have HL := Lib.hid hL
      clear hL
      obtain ⟨⟨c0, c1, c2⟩, _⟩ := HL.out.2.1.three
      by_cases hlt : t < k
      · obtain ⟨tb, l, rfl, hne, hge, hll, hbl⟩ := HL.out.2.2 (by omega)
        have ct := hbl.cell t (by omega)
        have cf := hbl.frozen t
        have HBL := Lib.hid hbl
        have HNL := Lib.hid (And.intro hne (And.intro hge hll))
        clear hbl hne hge hll
        have HT := Lib.hid ht
        clear ht
        go_wp2
        go_region
        go_wp2
        rw [step_one (gt l t)]
        obtain ⟨hn1, hn2, hn3⟩ := HNL.out
        obtain ⟨s1, s2⟩ := HBL.out.stored t (gt l t + 1)
        exact ⟨⟨⟨(HL.out.1.setCell hn2 _).drew, (HL.out.2.1.far hn1 _).below (Below.refl _ _).drew, fun _ => ⟨tb, l.set t (gt l t + 1), rfl, hn1, hn2, by rw [List.length_set]; exact hn3, s1.below (Below.refl _ _).drew⟩⟩, t + 1, by omega, by go_num⟩, by simp [intOf]; omega⟩
      · obtain rfl : t = k := by omega
        have HB9 := Lib.hid (bel0 HB3.out HL.out.1)
        have HP9 := Lib.hid (HP4.out.below HL.out.1)
        have HS9 := Lib.hid (HS4.out.below HL.out.1)
        go_wp2_with fail
        refine (HKP.out wr _ HB9.out HP9.out).mono ?_
        rintro e w8 ⟨rfl, hb8⟩
        have HB10 := Lib.hid (bel0 HB9.out hb8)
        have HS10 := Lib.hid (HS9.out.below hb8)
        clear hb8
        go_wp2_with fail
        refine (HKS.out _ _ HB10.out HS10.out).mono ?_
        rintro e w9 ⟨rfl, hb9⟩
        have HB11 := Lib.hid (bel0 HB10.out hb9)
        clear hb9
        go_wp2
        go_ret
        exact ⟨rfl, HB11.out⟩
theorem walk (v : Value) (pat : List UInt8) (u : Value) (src : List UInt8) (w : World) (hp : SvB w v pat) (hs : SvB w u src) :
    Calls Try.prog 3 #[v, u] w (New w (.bool true)) := by
  by_cases hl : pat.length ≤ 2000 ∧ src.length ≤ 2000
  · rcases res_cases pat src with ⟨h, h1⟩ | ⟨c, hc, h, h1, h2⟩ | ⟨t, cc, mk, h, h1, h2, h3, h4⟩
    · exact yes v u pat src _ _ _ _ w hl.1 hl.2 hp hs h (by simp)
    · exact yes v u pat src _ _ _ _ w hl.1 hl.2 hp hs h (by simp)
    · exact yes v u pat src t cc mk 0 w hl.1 hl.2 hp hs h (by omega)
  · obtain ⟨p, c, rfl, _⟩ := hp
    obtain ⟨q, d, rfl, _⟩ := hs
    exact long p q _ _ c d w (by omega)

end Go.Proofs.Ytfkenoehoocobaa.editCalls

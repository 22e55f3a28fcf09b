/- The walk of the statement DecimalQuotients: it answers true, and below its own memory nothing turns. -/
import Derived.Test.YtlpekknhaaddcaaDoorDcQuo
import Derived.Test.YtlpekknhaaddcaaDoorDcLaid
namespace Go.Proofs.YtlpekknhaaddcaaDoor.decimalQuotients
open Go.ChangeShapes Go.WideShapes Go.ChangeAt Go.RowKit Go.ChangeMaps E
set_option linter.unusedVariables false

set_option maxRecDepth 100000 in
set_option maxHeartbeats 4000000 in
theorem qu_no (p q : Option Addr) (c d : Nat) (la lb : List UInt8) (w : World) (HG : RowKit.Hid (Sg w)) (HR : RowKit.Hid (Rd w p la)) (HQ : RowKit.Hid (Rd w q lb)) (k : Nat) (hk : k ≠ 0) (HD : RowKit.Hid (Calls Tryd.prog 25 #[.slice p la.length c, .slice q lb.length d] w (fun e w' => ∃ sv, e = .returned (.tuple #[sv, .int .i64 (k : Int)]) ∧ SvB w' sv [] ∧ Below w.heap.size w w'))) :
    Calls Tryd.prog 11 #[.slice p la.length c, .slice q lb.length d] w (New w (.bool true)) := by
  have h00 : ((([] : List UInt8).length : Nat) : Int) = 0 := rfl
  go_enter Tryd.func11, Tryd.ntmps11
  go_wp2_with fail
  refine (HD.out).mono ?_
  rintro e w1 ⟨sv, rfl, ⟨p1, c1, rfl, hr1, _⟩, hb⟩
  have HB1 := Lib.hid hb
  clear hb hr1
  rw [List.length_nil]
  go_wp2_with fail
  refine (works_any _ (HG.out.below HB1.out)).mono ?_
  rintro e w9 ⟨rfl, hb⟩
  have HB9 := Lib.hid (bel0 HB1.out hb)
  clear hb
  go_wp2
  go_ret
  exact ⟨rfl, HB9.out⟩
set_option maxRecDepth 100000 in
set_option maxHeartbeats 4000000 in
theorem qu_yes (p q : Option Addr) (c d : Nat) (la lb : List UInt8) (w : World) (HG : RowKit.Hid (Sg w)) (HR : RowKit.Hid (Rd w p la)) (HQ : RowKit.Hid (Rd w q lb)) (F1 F2 P S : List UInt8) (n cc : Nat) (HLe : RowKit.Hid (la.length = lb.length + n ∧ 1 ≤ n ∧ 1 ≤ lb.length ∧ la.length ≤ 16)) (HL1 : RowKit.Hid (F1.length = n)) (HL2 : RowKit.Hid (F2.length = lb.length)) (HLP : RowKit.Hid (P.length = la.length)) (HLS : RowKit.Hid (S.length = la.length)) (HD : RowKit.Hid (Calls Tryd.prog 25 #[.slice p la.length c, .slice q lb.length d] w (fun e w' => ∃ sv, e = .returned (.tuple #[sv, .int .i64 0]) ∧ SvB w' sv (F1 ++ F2) ∧ Below w.heap.size w w')))
    (HM : RowKit.Hid (∀ p3 c3 W, la.length ≤ c3 → c3 ≤ 9223372036854775807 → Rd W p3 (List.replicate lb.length 0 ++ F1) → Rd W q lb → Sg W → Calls Tryd.prog 23 #[.slice p3 la.length c3, .slice q lb.length d] W (fun e w' => ∃ sv, e = .returned (.tuple #[sv, .int .i64 0]) ∧ SvB w' sv P ∧ Below W.heap.size W w')))
    (HA : RowKit.Hid (∀ p3 c3 p4 c4 W, Rd W p3 P → Rd W p4 F2 → Sg W → Calls Tryd.prog 13 #[.slice p3 la.length c3, .slice p4 lb.length c4] W (fun e w' => ∃ sv, e = .returned (.tuple #[sv, .int .i64 (cc : Int), .int .i64 0]) ∧ SvB w' sv S ∧ Below W.heap.size W w')))
    (HE : RowKit.Hid (∀ p3 c3 W, Rd W p3 S → Rd W p la → Sg W → Calls Tryd.prog 33 #[.slice p3 la.length c3, .slice p la.length c] W (New W (.bool true))))
    (HS : RowKit.Hid (∀ p3 c3 W, Rd W p3 F2 → Rd W q lb → Calls Tryd.prog 34 #[.slice p3 lb.length c3, .slice q lb.length d] W (New W (.bool true)))) :
    Calls Tryd.prog 11 #[.slice p la.length c, .slice q lb.length d] w (New w (.bool true)) := by
  obtain ⟨e1, e2, e3, e4⟩ := HLe.out
  have hI : (la.length : Int) - (lb.length : Int) = (n : Int) := by omega
  have hI2 : (la.length : Int) - (n : Int) = (lb.length : Int) := by omega
  have hlen : (F1 ++ F2).length = la.length := by rw [List.length_append, HL1.out, HL2.out]; omega
  have HLen := Lib.hid hlen
  have hmk := fun W => make_m W lb.length (by omega)
  have hn16 : n ≤ 16 := by omega
  have hm16 : lb.length ≤ 16 := by omega
  have hnl : n ≤ la.length := by omega
  have hI3 : la.length - n = lb.length := by omega
  have HI3 := Lib.hid hI3
  clear hI3
  clear hlen e1
  go_enter Tryd.func11, Tryd.ntmps11
  go_wp2_with fail
  refine (HD.out).mono ?_
  rintro e w1 ⟨sv, rfl, ⟨p1, c1, rfl, hr1, hc1, hc2, _⟩, hb⟩
  obtain ⟨B, off, rfl⟩ := hr1.addr (by rw [HLen.out]; omega)
  rw [HLen.out] at hc1 ⊢
  have hnc : n ≤ c1 := by omega
  have HB1 := Lib.hid hb
  have HR1 := Lib.hid hr1
  have HB2 := Lib.hid (bel0 hb (below_new w1 (.cells (bsU (List.replicate lb.length 0)).toArray 5)))
  have HR2 := Lib.hid (hr1.below (below_new w1 (.cells (bsU (List.replicate lb.length 0)).toArray 5)))
  have HZ2 := Lib.hid (rd_new w1 (List.replicate lb.length 0) 5)
  obtain ⟨i0, hi, hz0, hz1, hz2⟩ := info_parts info5
  clear hb hr1
  go_wp2_with (at_builtin; refine wpList_append_grows _ rfl (.tmp 46) (.tmp 49) 22 rfl 5 i0 (.int .u8 0) 1 1 Tryd.underlying22 hi hz0 hz1 hz2 rfl (by decide) (some ⟨w1.heap.size, 0, none⟩) lb.length lb.length (bsU (List.replicate lb.length 0)) rfl (fun h => by cases h) (by rw [bsU_len, List.length_replicate, Nat.mul_one]) (fun b hb => by obtain rfl := (Option.some.inj hb); exact HZ2.out.cells4) ⟨B, off, none⟩ n c1 (bsU F1) rfl (by rw [bsU_len, HL1.out, Nat.mul_one]) HR2.out.left.cells4 (bsU_one _) (by omega) (by unfold maxLen; omega) (by omega) ?_)
  intro v' w3 hown hgrow
  have HB3 := Lib.hid (HB2.out.grown hgrow HB2.out.size (fun r hr => by cases hr))
  have HR3 := Lib.hid (HR2.out.below ((Below.refl _ _).grown hgrow (Nat.le_refl _) (fun r hr => by cases hr)))
  have hsv : SvB w3 v' (List.replicate lb.length 0 ++ F1) := by
    refine Hold.svb (base := w1.heap.size + 1) ?_
    unfold Hold
    rw [bsU_app, List.length_append, List.length_replicate, HL1.out]
    exact hown
  obtain ⟨p3, c3, rfl, hr3, hc3, hc4, _⟩ := hsv
  have hl3 : (List.replicate lb.length (0 : UInt8) ++ F1).length = la.length := by rw [List.length_append, List.length_replicate, HL1.out]; omega
  rw [hl3] at hc3 ⊢
  have HR4 := Lib.hid hr3
  have HC := Lib.hid (And.intro hc3 hc4)
  clear hown hgrow hr3 hc3 hc4 hl3 hmk hi hz0 hz1 hz2 HR1 HR2 HZ2 HB1
  go_wp2_with fail
  refine (HM.out p3 c3 w3 HC.out.1 HC.out.2 HR4.out (HQ.out.below HB3.out) (HG.out.below HB3.out)).mono ?_
  rintro e w4 ⟨sv, rfl, ⟨p5, c5, rfl, hr5, _⟩, hb⟩
  rw [HLP.out]
  have HB4 := Lib.hid (bel0 HB3.out hb)
  have HR5 := Lib.hid hr5
  have hrr := (HR3.out.below hb).right
  rw [HL1.out] at hrr
  have HRR := Lib.hid hrr
  clear hb hr5 HR4 HC HR3 hrr HB3 HB2
  go_wp2_with fail
  rw [HI3.out]
  refine (HA.out p5 c5 _ _ w4 HR5.out HRR.out (HG.out.below HB4.out)).mono ?_
  rintro e w5 ⟨sv, rfl, ⟨p6, c6, rfl, hr6, _⟩, hb⟩
  rw [HLS.out]
  have HB5 := Lib.hid (bel0 HB4.out hb)
  have HR6 := Lib.hid hr6
  have HRR5 := Lib.hid (HRR.out.below hb)
  clear hb hr6 HR5 HRR HB4
  go_wp2_with fail
  refine (HE.out p6 c6 w5 HR6.out (HR.out.below HB5.out) (HG.out.below HB5.out)).mono ?_
  rintro e w6 ⟨rfl, hb⟩
  have HB6 := Lib.hid (bel0 HB5.out hb)
  have HRR6 := Lib.hid (HRR5.out.below hb)
  clear hb HR6 HRR5 HB5
  go_wp2_with fail
  rw [HI3.out]
  refine (HS.out _ _ w6 HRR6.out (HQ.out.below HB6.out)).mono ?_
  rintro e w7 ⟨rfl, hb⟩
  have HB7 := Lib.hid (bel0 HB6.out hb)
  clear hb HRR6 HB6
  go_wp2_with fail
  refine (works_any _ (HG.out.below HB7.out)).mono ?_
  rintro e w9 ⟨rfl, hb⟩
  have HB9 := Lib.hid (bel0 HB7.out hb)
  clear hb
  go_wp2
  go_ret
  exact ⟨rfl, HB9.out⟩
theorem walk (p : Option Addr) (c : Nat) (la : List UInt8) (hle : la.length ≤ c) (hc : c ≤ 9223372036854775807) (hn : p = none → c = 0) (q : Option Addr) (d : Nat) (lb : List UInt8) (kle : lb.length ≤ d) (kc : d ≤ 9223372036854775807) (kn : q = none → d = 0) (w : World) (hg : Sg w) (hr : Rd w p la) (hq : Rd w q lb) :
    Calls Tryd.prog 11 #[.slice p la.length c, .slice q lb.length d] w (New w (.bool true)) := by
  have hD := pdiv4_any p q c d la lb w hle hc (by omega) hr hq hg
  by_cases h0 : divC la lb = 0
  · obtain ⟨F1, F2, P, S, n, hf⟩ := quo_facts la lb h0
    obtain ⟨cc, hadd⟩ := hf.add
    rw [hf.div] at hD
    refine qu_yes p q c d la lb w (Lib.hid hg) (Lib.hid hr) (Lib.hid hq) F1 F2 P S n cc (Lib.hid hf.lens) (Lib.hid hf.l1) (Lib.hid hf.l2) (Lib.hid hf.lp) (Lib.hid hf.ls) (Lib.hid hD) (Lib.hid ?_) (Lib.hid ?_) (Lib.hid ?_) (Lib.hid ?_)
    · intro p3 c3 W h1 h2 h3 h4 h5
      have hl : (List.replicate lb.length (0 : UInt8) ++ F1).length = la.length := by rw [List.length_append, List.length_replicate, hf.l1]; exact hf.lens.1.symm
      have h := pmul_any p3 q c3 d _ lb W (by rw [hl]; exact h1) h2 (by omega) h3 h4 h5
      rw [hf.mul, hl] at h
      exact h
    · intro p3 c3 p4 c4 W h1 h2 h3
      have h := padd_any p3 p4 c3 c4 P F2 W h1 h2 h3
      rw [hadd, hf.lp, hf.l2] at h
      exact h
    · intro p3 c3 W h1 h2 h3
      have h := equal_any p3 p c3 c S la W h1 h2 h3 hf.cmp
      rw [hf.ls] at h
      exact h
    · intro p3 c3 W h1 h2
      have h := less_any p3 q c3 d F2 lb W h1 h2 hf.o2 hf.ob hf.lt
      rw [hf.l2] at h
      exact h
  · rw [divL_no la lb h0] at hD
    exact qu_no p q c d la lb w (Lib.hid hg) (Lib.hid hr) (Lib.hid hq) (divC la lb) h0 (Lib.hid hD)

end Go.Proofs.YtlpekknhaaddcaaDoor.decimalQuotients

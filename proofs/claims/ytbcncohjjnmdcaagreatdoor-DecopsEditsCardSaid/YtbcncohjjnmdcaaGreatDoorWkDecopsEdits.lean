/- The walk of the statement DecopsEdits. -/
import Derived.Test.YtbcncohjjnmdcaaGreatDoorRows
import Derived.Test.YtbcncohjjnmdcaaGreatDoorDpE
import Derived.Test.YtbcncohjjnmdcaaGreatDoorDpEdP
import Derived.Test.YtbcncohjjnmdcaaGreatDoorDpX
import Derived.Test.YtbcncohjjnmdcaaGreatDoorWkDecopsDigits
import Derived.Test.YtbcncohjjnmdcaaGreatDoorWkDecopsSums
namespace Go.Proofs.YtbcncohjjnmdcaaGreatDoor
namespace E
end E
open Go.RowKit Go.Shelf E
set_option linter.unusedVariables false
namespace M

theorem fb_fld (v : Nat) (hv : v < 4294967296) : fbL v = fldL (decide (sV v < 0)) (sV v).natAbs 8 := by
  unfold fbL sV
  split
  · rw [decide_eq_false (by omega), Int.natAbs_natCast]
  · rw [decide_eq_true (by omega)]
    congr 1
    omega
theorem sub_put_high {l b : List UInt8} {a x k : Nat} (h : a + b.length ≤ x) (h2 : a ≤ l.length) : E.subL (E.putL l a b) x k = E.subL l x k := by
  unfold E.subL E.putL
  have e : (l.take a).length = a := by rw [List.length_take]; omega
  obtain ⟨y, hy⟩ : ∃ y, x = a + (b.length + y) := ⟨x - a - b.length, by omega⟩
  rw [hy, ← List.drop_drop, List.drop_left' e, ← List.drop_drop, List.drop_left' rfl, List.drop_drop, ← Nat.add_assoc]
theorem sub_add (l : List UInt8) (a k j : Nat) : E.subL l a (k + j) = E.subL l a k ++ E.subL l (a + k) j := by
  unfold E.subL
  rw [List.take_add, List.drop_drop]
theorem ed_out (bs : List UInt8) (neg : Bool) (m : Nat) (hm : m < 1000000000000000) (hx : E.subL bs 100 16 = (64 :: List.replicate 15 32 : List UInt8)) (hF : E.subL bs 64 8 = fldL neg m 8) : edtO (⟨222, 5, 0, 0, 0, 0, 100, 0, 64, 15, 0, 0⟩ : Qn) (fun _ => 0 : Nat → Int) (⟨0, 0, false, false, false, 0, 0, 0, 0, 0⟩ : Psw) 2048 bs (List.replicate 1 0) = .go (fun _ => 0 : Nat → Int) { (⟨0, 0, false, false, false, 0, 0, 0, 0, 0⟩ : Psw) with cc := ((if m = 0 then 0 else if neg then 1 else 2 : Nat) : Int) } 0 (E.putL bs 100 (edT m)) := by
  have hX : opX (⟨222, 5, 0, 0, 0, 0, 100, 0, 64, 15, 0, 0⟩ : Qn) (fun _ => 0 : Nat → Int) bs = (64 :: List.replicate 15 32 : List UInt8) := by
    unfold opX
    rw [show adF (⟨222, 5, 0, 0, 0, 0, 100, 0, 64, 15, 0, 0⟩ : Qn) (fun _ => 0 : Nat → Int) = 100 by kernel_rfl]
    exact hx
  have hc : cX (⟨222, 5, 0, 0, 0, 0, 100, 0, 64, 15, 0, 0⟩ : Qn) (fun _ => 0 : Nat → Int) (⟨0, 0, false, false, false, 0, 0, 0, 0, 0⟩ : Psw) 2048 (List.replicate 1 0) = 0 := by
    unfold cX ftC
    rw [show adF (⟨222, 5, 0, 0, 0, 0, 100, 0, 64, 15, 0, 0⟩ : Qn) (fun _ => 0 : Nat → Int) = 100 by kernel_rfl]
    exact code_zero ftP_zero (by decide)
  have hk : srcK (srcF (⟨222, 5, 0, 0, 0, 0, 100, 0, 64, 15, 0, 0⟩ : Qn) (fun _ => 0 : Nat → Int) (⟨0, 0, false, false, false, 0, 0, 0, 0, 0⟩ : Psw) 2048 (List.replicate 1 0)) 16 = 16 := srcK_all (fun j hj => by
    unfold srcF ftC
    rw [show adT (⟨222, 5, 0, 0, 0, 0, 100, 0, 64, 15, 0, 0⟩ : Qn) (fun _ => 0 : Nat → Int) = 64 by kernel_rfl]
    exact code_zero ftP_zero (by omega))
  have hS : srcL (⟨222, 5, 0, 0, 0, 0, 100, 0, 64, 15, 0, 0⟩ : Qn) (fun _ => 0 : Nat → Int) (⟨0, 0, false, false, false, 0, 0, 0, 0, 0⟩ : Psw) 2048 bs (List.replicate 1 0) (opX (⟨222, 5, 0, 0, 0, 0, 100, 0, 64, 15, 0, 0⟩ : Qn) (fun _ => 0 : Nat → Int) bs).length = fldL neg m 8 ++ E.subL bs (64 + 8) 8 := by
    unfold srcL
    rw [hX, show ((64 :: List.replicate 15 32 : List UInt8)).length = 16 from rfl, hk, show adT (⟨222, 5, 0, 0, 0, 0, 100, 0, 64, 15, 0, 0⟩ : Qn) (fun _ => 0 : Nat → Int) = 64 by kernel_rfl, show (16 : Nat) = 8 + 8 from rfl, sub_add, hF]
  have hr := ed_res neg m hm (E.subL bs (64 + 8) 8)
  have hRR : edRR (⟨222, 5, 0, 0, 0, 0, 100, 0, 64, 15, 0, 0⟩ : Qn) (fun _ => 0 : Nat → Int) (⟨0, 0, false, false, false, 0, 0, 0, 0, 0⟩ : Psw) 2048 bs (List.replicate 1 0) = edRes (64 :: List.replicate 15 32 : List UInt8) (fldL neg m 8 ++ E.subL bs (64 + 8) 8) := by
    unfold edRR
    rw [hS, hX]
  unfold edtO edC
  rw [hRR, hr, thenO_go _ hc]
  show thenO (if (0 : Nat) = 5 then _ else ((0 : Nat) : Int)) _ = _
  rw [if_neg (by decide), thenO_go _ (show ((0 : Nat) : Int) = 0 from rfl)]
  unfold putO stC
  rw [show adF (⟨222, 5, 0, 0, 0, 0, 100, 0, 64, 15, 0, 0⟩ : Qn) (fun _ => 0 : Nat → Int) = 100 by kernel_rfl, thenO_go]
  · exact code_zero stP_zero (show 100 + (edT m).length ≤ 2048 from (show 100 + 16 ≤ 2048 by decide))
theorem own_lit (x1 : World) : (x1.alloc (.cells #[.int .u8 64] 5)).ownsRow x1.heap.size 5 1 (.slice (some ⟨x1.heap.size, 0, none⟩) 1 1) 1 (bsU [64]) := ⟨rfl, .inr ⟨x1.heap.size, 1, #[.int .u8 64], rfl, Nat.le_refl _, heap_alloc_new x1 _, Nat.le_refl _, by unfold maxLen; decide, rfl, rfl⟩⟩
/-- The length of a slice. -/
def slLen : Value → Nat
  | .slice _ n _ => n
  | _ => 0
set_option maxRecDepth 100000 in
set_option maxHeartbeats 8000000 in
theorem edits_core (x : Nat) (hx : x < 4294967296) (w : World) (hsg : Sg w) : Calls Tryz.prog 10 #[.int .u32 (x : Int)] w (New w (.bool true)) := by
  have HSG := Lib.hid hsg
  have HNEW := Lib.hid (new_any 2048 w (by decide))
  obtain ⟨i0, hi, hz0, hz1, hz2⟩ := info_u8
  have hR := R23_ok hx (show 0 < 4294967296 by decide)
  have hR0 : RegOk (fun _ => 0 : Nat → Int) := fun n => ⟨Int.le_refl 0, by show (0 : Int) < 4294967296; decide⟩
  have kl0 : kb0.length = 2048 := by kernel_rfl
  obtain ⟨l1, hl1⟩ : ∃ l, l = E.putL kb0 100 (64 :: List.replicate 15 32 : List UInt8) := ⟨_, rfl⟩
  obtain ⟨l2, hl2⟩ : ∃ l, l = E.putL l1 64 (fbL x) := ⟨_, rfl⟩
  obtain ⟨s, hs⟩ : ∃ s, s = sV x := ⟨_, rfl⟩
  obtain ⟨m, hm⟩ : ∃ m, m = s.natAbs := ⟨_, rfl⟩
  obtain ⟨l3, hl3⟩ : ∃ l, l = E.putL l2 100 (edT m) := ⟨_, rfl⟩
  have sx : -2147483648 ≤ s ∧ s < 2147483648 := by rw [hs]; unfold sV; split <;> omega
  have hmb : m < 1000000000000000 := by omega
  have e1 := fbL_len x
  have kl1 : l1.length = 2048 := by rw [hl1, put_len (by rw [kl0]; decide), kl0]
  have kl2 : l2.length = 2048 := by rw [hl2, put_len (by omega), kl1]
  have s1 : E.subL l2 100 16 = (64 :: List.replicate 15 32 : List UInt8) := by
    rw [hl2, sub_put_high (by omega) (by omega), hl1]
    exact sub_put (l := kb0) (b := (64 :: List.replicate 15 32 : List UInt8)) (a := 100) (by rw [kl0]; decide)
  have s2 : E.subL l2 64 8 = fldL (decide (s < 0)) m 8 := by
    have h := sub_put (l := l1) (b := fbL x) (a := 64) (by omega)
    rw [e1] at h
    rw [hl2, h, fb_fld x hx, ← hs, ← hm]
  have s3 : E.subL l3 100 16 = edT m := by
    rw [hl3]
    exact sub_put (l := l2) (b := edT m) (a := 100) (by rw [kl2]; show 100 + 16 ≤ 2048; decide)
  obtain ⟨cc, hcc⟩ : ∃ c : Nat, c = (if m = 0 then 0 else if decide (s < 0) then 1 else 2) := ⟨_, rfl⟩
  have X1 : Hid (∀ A g h W, Sto W A g h 2048 1 l1 (List.replicate 1 0) → Sg W → Calls Tryz.prog 24 #[.agg #[.int .i64 78, .int .i64 2, .int .i64 2, .int .i64 0, .int .i64 0, .int .i64 0, .int .i64 0, .int .i64 0, .int .i64 64, .int .i64 0, .int .i64 0, .int .i64 0], .agg #[.int .u32 0, .int .u32 0, .int .u32 (x : Int), .int .u32 0, .int .u32 0, .int .u32 0, .int .u32 0, .int .u32 0, .int .u32 0, .int .u32 0, .int .u32 0, .int .u32 0, .int .u32 0, .int .u32 0, .int .u32 0, .int .u32 0], .pointer (some ⟨A, 0, none⟩)] W fun e w' => e = .returned (.tuple #[.agg #[.int .u32 0, .int .u32 0, .int .u32 (x : Int), .int .u32 0, .int .u32 0, .int .u32 0, .int .u32 0, .int .u32 0, .int .u32 0, .int .u32 0, .int .u32 0, .int .u32 0, .int .u32 0, .int .u32 0, .int .u32 0, .int .u32 0], .int .i64 0, .int .i64 0]) ∧ Sto w' A g h 2048 1 l2 (List.replicate 1 0) ∧ Kp W w' [g]) := Lib.hid (fun A g h W hs hg => xec_post (q := (⟨78, 2, 2, 0, 0, 0, 0, 0, 64, 0, 0, 0⟩ : Qn)) (R := (R23 x 0)) (o := .go (R23 x 0) (⟨0, 0, false, false, false, 0, 0, 0, 0, 0⟩ : Psw) 0 l2) hs hg (by kernel_rfl) (runs_78' (⟨78, 2, 2, 0, 0, 0, 0, 0, 64, 0, 0, 0⟩ : Qn) (R23 x 0) (⟨0, 0, false, false, false, 0, 0, 0, 0, 0⟩ : Psw) 2048 l1 (List.replicate 1 0) hR ⟨by decide, by decide, by decide, by decide, by decide, by decide, by decide, by decide, by decide, by decide, by decide⟩ rfl _ ((cvd_out (⟨78, 2, 2, 0, 0, 0, 0, 0, 64, 0, 0, 0⟩ : Qn) (R23 x 0) l1 64 (by kernel_rfl) (by decide) (by decide)).trans (by rw [hl2]; rfl))))
  have X2 : Hid (∀ A g h W, Sto W A g h 2048 1 l2 (List.replicate 1 0) → Sg W → Calls Tryz.prog 24 #[.agg #[.int .i64 222, .int .i64 5, .int .i64 0, .int .i64 0, .int .i64 0, .int .i64 0, .int .i64 100, .int .i64 0, .int .i64 64, .int .i64 15, .int .i64 0, .int .i64 0], .agg #[.int .u32 0, .int .u32 0, .int .u32 0, .int .u32 0, .int .u32 0, .int .u32 0, .int .u32 0, .int .u32 0, .int .u32 0, .int .u32 0, .int .u32 0, .int .u32 0, .int .u32 0, .int .u32 0, .int .u32 0, .int .u32 0], .pointer (some ⟨A, 0, none⟩)] W fun e w' => e = .returned (.tuple #[.agg #[.int .u32 0, .int .u32 0, .int .u32 0, .int .u32 0, .int .u32 0, .int .u32 0, .int .u32 0, .int .u32 0, .int .u32 0, .int .u32 0, .int .u32 0, .int .u32 0, .int .u32 0, .int .u32 0, .int .u32 0, .int .u32 0], .int .i64 (cc : Int), .int .i64 0]) ∧ Sto w' A g h 2048 1 l3 (List.replicate 1 0) ∧ Kp W w' [g]) := Lib.hid (fun A g h W hs hg => xec_post (q := (⟨222, 5, 0, 0, 0, 0, 100, 0, 64, 15, 0, 0⟩ : Qn)) (R := (fun _ => 0 : Nat → Int)) (o := .go (fun _ => 0 : Nat → Int) { (⟨0, 0, false, false, false, 0, 0, 0, 0, 0⟩ : Psw) with cc := (cc : Int) } 0 l3) hs hg (by kernel_rfl) ((runs_222 (⟨222, 5, 0, 0, 0, 0, 100, 0, 64, 15, 0, 0⟩ : Qn) (fun _ => 0 : Nat → Int) (⟨0, 0, false, false, false, 0, 0, 0, 0, 0⟩ : Psw) 2048 l2 (List.replicate 1 0) hR0 ⟨by decide, by decide, by decide, by decide, by decide, by decide, by decide, by decide, by decide, by decide, by decide⟩ rfl).eqo ((ed_out l2 (decide (s < 0)) m hmb s1 s2).trans (by rw [hl3, hcc]))))
  have HP : Hid (∀ A g h W v, SvB W v (64 :: List.replicate 15 32 : List UInt8) → Sto W A g h 2048 1 kb0 (List.replicate 1 0) → Calls Tryz.prog 27 #[.pointer (some ⟨A, 0, none⟩), .int .i64 100, v, .int .i64 0] W fun e w' => e = .returned (.int .i64 0) ∧ Sto w' A g h 2048 1 l1 (List.replicate 1 0) ∧ Kp W w' [g]) := Lib.hid (fun A g h W v hv hs => put_lit A g h 100 _ (64 :: List.replicate 15 32 : List UInt8) kb0 l1 W hs hv (by decide) hl1.symm)
  have HB1 : Hid (∀ A g h W, Sto W A g h 2048 1 l3 (List.replicate 1 0) → Calls Tryz.prog 18 #[.pointer (some ⟨A, 0, none⟩), .int .i64 100, .int .i64 16] W (BytPost W (edT m))) := Lib.hid (fun A g h W hs => by
    have h1 := bytes_any A g h 2048 1 100 16 l3 (List.replicate 1 0) W (by decide) hs
    rw [show (100 : Int) = ((100 : Nat) : Int) from rfl, show (16 : Int) = ((16 : Nat) : Int) from rfl, byt_in (by decide), s3] at h1
    exact h1)
  have w1 : wrap32 (x : Int) = s := by rw [hs]; unfold wrap32 sV; split <;> omega
  have HS5 := Lib.hid (And.intro sx (And.intro hm (And.intro hcc (And.intro w1 hmb))))
  clear hsg hl1 hl2 hs hm hl3 sx hmb e1 kl0 kl1 kl2 s1 s2 s3 hcc hR hR0 w1
  go_enter Tryz.func10, Tryz.ntmps10
  go_wp2_with fail
  refine HNEW.out.mono ?_
  rintro e x1 ⟨A, g, h, rfl, hst, hA, hg, hh, hb⟩
  have HG : Hid (w.heap.size ≤ g) := Lib.hid hg
  have HT : Hid (Sto x1 A g h 2048 1 kb0 (List.replicate 1 0)) := Lib.hid hst
  have HB := Lib.hid hb
  clear hst hA hg hh hb HNEW
  go_wp2
  go_loopw [5] (fun v wr => ∃ k : Nat, 1 ≤ k ∧ k ≤ 16 ∧ (∃ B c, v = .slice (some ⟨B, 0, none⟩) k c) ∧ wr.ownsRow x1.heap.size 5 1 v k (bsU (64 :: List.replicate (k - 1) 32)) ∧ Below x1.heap.size x1 wr) (fun v _ => 16 - slLen v)
  case atStart => exact ⟨1, Nat.le_refl _, by decide, ⟨_, _, rfl⟩, own_lit x1, below_new _ _⟩
  case round =>
    obtain ⟨k, hk1, hk2, ⟨B, c, rfl⟩, ho, hb2⟩ := hrel
    have HO := Lib.hid ho
    have HBX := Lib.hid hb2
    clear ho hb2
    by_cases hlt : k < 16
    · have hlt' : (k : Int) < 16 := by omega
      go_wp2_with (at_builtin; refine wpList_append_own _ rfl _ _ 31 rfl x1.heap.size 5 i0 (.int .u8 0) 1 1 Tryz.underlying31 hi hz0 hz1 hz2 rfl (by decide) _ k _ rfl (HO.out.alloc _) ⟨wr.heap.size, 0, none⟩ 1 1 [_] rfl rfl (cellNew _ _ _) (by intro u hu; simp at hu; subst hu; rfl) (by unfold maxLen; omega) (by omega) (by have := HBX.out.size; simp; omega) ?_)
      intro v' w3 hown' hgrow _
      have hb1 := (HBX.out.alloc HBX.out.size _).grown hgrow (by have := HBX.out.size; simp; omega) (fun r hr => (HO.out.lt r hr).1)
      have HO2 : Hid (w3.ownsRow x1.heap.size 5 1 v' (k + 1) (bsU (64 :: List.replicate (k + 1 - 1) 32))) := Lib.hid (by
        have e : bsU (64 :: List.replicate (k + 1 - 1) 32) = bsU (64 :: List.replicate (k - 1) 32) ++ [Value.int .u8 32] := by
          obtain ⟨t, rfl⟩ : ∃ t, k = t + 1 := ⟨k - 1, by omega⟩
          unfold bsU
          simp [List.replicate_succ']
        rw [e]
        exact hown')
      obtain ⟨B', c', rfl, _⟩ := own_some HO2.out (by omega) (by unfold bsU; simp; try omega)
      have HB2 := Lib.hid hb1
      clear hgrow hown' hb1 HO HBX
      go_wp2
      go_roundw
      case rel => exact ⟨k + 1, by omega, hlt, ⟨_, _, rfl⟩, HO2.out, HB2.out⟩
      case measure => simp [slLen]; omega
    · obtain rfl : k = 16 := by omega
      have HV : Hid (SvB wr (.slice (some ⟨B, 0, none⟩) 16 c) (64 :: List.replicate 15 32 : List UInt8)) := Lib.hid (Hold.svb (base := x1.heap.size) (show Hold wr x1.heap.size _ (64 :: List.replicate 15 32 : List UInt8) from HO.out))
      have HBW := Lib.hid (bel0 HB.out HBX.out)
      have HT1 := Lib.hid (HT.out.below HBX.out)
      clear HO HBX HT HB
      go_wp2_with fail
      refine (HP.out A g h wr _ HV.out HT1.out).mono ?_
      rintro e x2 ⟨rfl, hst, hk⟩
      have HT2 := Lib.hid hst
      have HX2 := Lib.hid (Kp.below HBW.out hk (by simpa using HG.out))
      clear hst hk HT1 HBW HP HV
      go_wp2_with fail
      refine (cvd_any 2 64 x2).mono ?_
      rintro e x3 ⟨rfl, hb⟩
      have HT3 := Lib.hid (HT2.out.below hb)
      have HX3 := Lib.hid (bel0 HX2.out hb)
      clear hb HT2 HX2
      go_wp2_with fail
      refine (X1.out A g h x3 HT3.out (HSG.out.below HX3.out)).mono ?_
      rintro e x4 ⟨rfl, hst, hk⟩
      have HT4 := Lib.hid hst
      have HX4 := Lib.hid (Kp.below HX3.out hk (by simpa using HG.out))
      clear hst hk HT3 HX3
      go_wp2_with fail
      refine (X2.out A g h _ (HT4.out.below (below_new _ _)) (HSG.out.below (bel0 HX4.out (below_new _ _)))).mono ?_
      rintro e x5 ⟨rfl, hst, hk⟩
      have HT5 := Lib.hid hst
      have HX5 := Lib.hid (Kp.below (bel0 HX4.out (below_new _ _)) hk (by simpa using HG.out))
      clear hst hk HT4 HX4 X1 X2
      obtain ⟨sx, hm, hcc, w1, hmb⟩ := HS5.out
      have hmle : (m : Int) ≤ 2147483648 := by omega
      have HMB := Lib.hid hmb
      clear HS5 hmb
      rcases (by omega : s < 0 ∨ s = 0 ∨ 0 < s) with hsg | hsg | hsg
      · obtain rfl : s = -(m : Int) := by omega
        have h1 : -(m : Int) < 0 := hsg
        have hm0 : m ≠ 0 := by omega
        have m0 : ((m : Int) == 0) = false := by simp; omega
        obtain rfl : cc = 1 := by rw [hcc, if_neg hm0, decide_eq_true hsg, if_pos rfl]
        clear hcc hm sx hsg hm0
        go_wp2_with fail
        refine (HB1.out A g h _ (HT5.out.below (below_new _ _))).mono ?_
        rintro e x6 ⟨v6, rfl, ho6, hb⟩
        have HX6 := Lib.hid (bel0 (bel0 HX5.out (below_new _ _)) hb)
        have ho6' := ho6
        unfold Hold at ho6'
        obtain ⟨B2, c2, rfl, hB2, hc2, hrow⟩ := own_some (n := 16) ho6' (by decide) (by unfold bsU; rw [List.length_map]; rfl)
        have HCELL : Hid (∀ t : Nat, t < 16 → x6.cell? ⟨B2, t, none⟩ = some (.int .u8 ((bOf (m / 10 ^ (15 - t))).toNat : Int))) := Lib.hid (fun t ht => by
          rw [hrow.cell t (by unfold bsU; rw [List.length_map]; exact ht), ← ed_gt m HMB.out (15 - t) (by omega), show 15 - (15 - t) = t from by omega]
          unfold bsU
          rw [List.getElem?_map, List.getElem?_eq_getElem (show t < (edT m).length from ht)]
          unfold gt
          rw [List.getD_eq_getElem?_getD, List.getElem?_eq_getElem (show t < (edT m).length from ht)]
          rfl)
        clear ho6 ho6' hB2 hc2 hrow hb HT5 HX5 h1 m0 w1
        go_wp2
        go_loop [12, 15] (fun n i => ∃ t : Nat, t ≤ 16 ∧ i = .int .i64 ((t : Int) - 1) ∧ n = .int .i64 ((m / 10 ^ (16 - t) : Nat) : Int)) (fun _ i => (intOf i + 1).toNat)
        case atStart => exact ⟨16, Nat.le_refl _, by rfl, by simp⟩
        case round =>
          obtain ⟨t, ht, rfl, rfl⟩ := hrel
          cases t with
          | zero =>
            have hge : ¬ (0 ≤ (((0 : Nat) : Int) - 1)) := by omega
            go_wp2_with fail
            refine (works_any x6 (HSG.out.below HX6.out)).mono ?_
            rintro e x7 ⟨rfl, hb⟩
            have HX7 := Lib.hid (bel0 HX6.out hb)
            clear hb
            go_wp2
            go_ret
            exact ⟨rfl, HX7.out⟩
          | succ t =>
            have e1 : ((t + 1 : Nat) : Int) - 1 = (t : Int) := by omega
            have e2 : 16 - (t + 1) = 15 - t := by omega
            have hcell := HCELL.out t (by omega)
            have HDIV := Lib.hid (show m / 10 ^ (16 - t) = m / 10 ^ (15 - t) / 10 by rw [show 16 - t = (15 - t) + 1 from by omega, Nat.pow_succ, Nat.div_div_eq_div_mul])
            rw [e1, e2]
            have hNb : m / 10 ^ (15 - t) ≤ 2147483648 := Nat.le_trans (Nat.div_le_self _ _) (by omega)
            generalize m / 10 ^ (15 - t) = N at hcell HDIV hNb ⊢
            have ht16 : (t : Int) < 16 := by omega
            have ht16' : t < 16 := by omega
            have ht0 : 0 ≤ (t : Int) := by omega
            clear e1 e2
            by_cases hN0 : N = 0
            · subst hN0
              have hcell : x6.cell? ⟨B2, t, none⟩ = some (.int .u8 64) := hcell
              go_wp2
              go_round
              case rel => exact ⟨t, by omega, by go_num, by rw [HDIV.out]; rfl⟩
              case measure => simp [intOf] <;> omega
            · have hpos : 0 < (N : Int) := by omega
              have hpos' : 0 < N := by omega
              have hb8 : ((bOf N).toNat : Int) = 240 + (N : Int) % 10 := by
                unfold bOf
                rw [if_neg hN0, UInt8.toNat_ofNat_of_lt' (by show 240 + N % 10 < 256; omega)]
                omega
              rw [hb8] at hcell
              have hq : IntKind.i64.wrap ((N : Int).tdiv 10) = ((N / 10 : Nat) : Int) := by
                rw [show (N : Int).tdiv 10 = ((N / 10 : Nat) : Int) from by rw [Int.tdiv_eq_ediv_of_nonneg (by omega)]; omega]
                unfold IntKind.wrap
                simp [IntKind.bits, IntKind.signed]
                omega
              have hw8 : IntKind.u8.wrap (240 + (N : Int) % 10) = 240 + (N : Int) % 10 := by
                unfold IntKind.wrap
                simp [IntKind.bits, IntKind.signed]
                omega
              clear hb8
              go_wp2
              go_round
              case rel => exact ⟨t, by omega, by go_num, by rw [HDIV.out]; exact congrArg (Value.int .i64) (by omega)⟩
              case measure => simp [intOf] <;> omega
      · obtain rfl : s = (m : Int) := by omega
        have h1 : ¬ ((m : Int) < 0) := by omega
        have hm0 : m = 0 := by omega
        have m0 : ((m : Int) == 0) = true := by simp; omega
        obtain rfl : cc = 0 := by rw [hcc, if_pos hm0]
        clear hcc hm sx hsg hm0
        go_wp2_with fail
        refine (HB1.out A g h _ (HT5.out.below (below_new _ _))).mono ?_
        rintro e x6 ⟨v6, rfl, ho6, hb⟩
        have HX6 := Lib.hid (bel0 (bel0 HX5.out (below_new _ _)) hb)
        have ho6' := ho6
        unfold Hold at ho6'
        obtain ⟨B2, c2, rfl, hB2, hc2, hrow⟩ := own_some (n := 16) ho6' (by decide) (by unfold bsU; rw [List.length_map]; rfl)
        have HCELL : Hid (∀ t : Nat, t < 16 → x6.cell? ⟨B2, t, none⟩ = some (.int .u8 ((bOf (m / 10 ^ (15 - t))).toNat : Int))) := Lib.hid (fun t ht => by
          rw [hrow.cell t (by unfold bsU; rw [List.length_map]; exact ht), ← ed_gt m HMB.out (15 - t) (by omega), show 15 - (15 - t) = t from by omega]
          unfold bsU
          rw [List.getElem?_map, List.getElem?_eq_getElem (show t < (edT m).length from ht)]
          unfold gt
          rw [List.getD_eq_getElem?_getD, List.getElem?_eq_getElem (show t < (edT m).length from ht)]
          rfl)
        clear ho6 ho6' hB2 hc2 hrow hb HT5 HX5 h1 m0 w1
        go_wp2
        go_loop [12, 15] (fun n i => ∃ t : Nat, t ≤ 16 ∧ i = .int .i64 ((t : Int) - 1) ∧ n = .int .i64 ((m / 10 ^ (16 - t) : Nat) : Int)) (fun _ i => (intOf i + 1).toNat)
        case atStart => exact ⟨16, Nat.le_refl _, by rfl, by simp⟩
        case round =>
          obtain ⟨t, ht, rfl, rfl⟩ := hrel
          cases t with
          | zero =>
            have hge : ¬ (0 ≤ (((0 : Nat) : Int) - 1)) := by omega
            go_wp2_with fail
            refine (works_any x6 (HSG.out.below HX6.out)).mono ?_
            rintro e x7 ⟨rfl, hb⟩
            have HX7 := Lib.hid (bel0 HX6.out hb)
            clear hb
            go_wp2
            go_ret
            exact ⟨rfl, HX7.out⟩
          | succ t =>
            have e1 : ((t + 1 : Nat) : Int) - 1 = (t : Int) := by omega
            have e2 : 16 - (t + 1) = 15 - t := by omega
            have hcell := HCELL.out t (by omega)
            have HDIV := Lib.hid (show m / 10 ^ (16 - t) = m / 10 ^ (15 - t) / 10 by rw [show 16 - t = (15 - t) + 1 from by omega, Nat.pow_succ, Nat.div_div_eq_div_mul])
            rw [e1, e2]
            have hNb : m / 10 ^ (15 - t) ≤ 2147483648 := Nat.le_trans (Nat.div_le_self _ _) (by omega)
            generalize m / 10 ^ (15 - t) = N at hcell HDIV hNb ⊢
            have ht16 : (t : Int) < 16 := by omega
            have ht16' : t < 16 := by omega
            have ht0 : 0 ≤ (t : Int) := by omega
            clear e1 e2
            by_cases hN0 : N = 0
            · subst hN0
              have hcell : x6.cell? ⟨B2, t, none⟩ = some (.int .u8 64) := hcell
              go_wp2
              go_round
              case rel => exact ⟨t, by omega, by go_num, by rw [HDIV.out]; rfl⟩
              case measure => simp [intOf] <;> omega
            · have hpos : 0 < (N : Int) := by omega
              have hpos' : 0 < N := by omega
              have hb8 : ((bOf N).toNat : Int) = 240 + (N : Int) % 10 := by
                unfold bOf
                rw [if_neg hN0, UInt8.toNat_ofNat_of_lt' (by show 240 + N % 10 < 256; omega)]
                omega
              rw [hb8] at hcell
              have hq : IntKind.i64.wrap ((N : Int).tdiv 10) = ((N / 10 : Nat) : Int) := by
                rw [show (N : Int).tdiv 10 = ((N / 10 : Nat) : Int) from by rw [Int.tdiv_eq_ediv_of_nonneg (by omega)]; omega]
                unfold IntKind.wrap
                simp [IntKind.bits, IntKind.signed]
                omega
              have hw8 : IntKind.u8.wrap (240 + (N : Int) % 10) = 240 + (N : Int) % 10 := by
                unfold IntKind.wrap
                simp [IntKind.bits, IntKind.signed]
                omega
              clear hb8
              go_wp2
              go_round
              case rel => exact ⟨t, by omega, by go_num, by rw [HDIV.out]; exact congrArg (Value.int .i64) (by omega)⟩
              case measure => simp [intOf] <;> omega
      · obtain rfl : s = (m : Int) := by omega
        have h1 : ¬ ((m : Int) < 0) := by omega
        have hm0 : m ≠ 0 := by omega
        have m0 : ((m : Int) == 0) = false := by simp; omega
        obtain rfl : cc = 2 := by rw [hcc, if_neg hm0, decide_eq_false h1, if_neg (by decide)]
        clear hcc hm sx hsg hm0
        go_wp2_with fail
        refine (HB1.out A g h _ (HT5.out.below (below_new _ _))).mono ?_
        rintro e x6 ⟨v6, rfl, ho6, hb⟩
        have HX6 := Lib.hid (bel0 (bel0 HX5.out (below_new _ _)) hb)
        have ho6' := ho6
        unfold Hold at ho6'
        obtain ⟨B2, c2, rfl, hB2, hc2, hrow⟩ := own_some (n := 16) ho6' (by decide) (by unfold bsU; rw [List.length_map]; rfl)
        have HCELL : Hid (∀ t : Nat, t < 16 → x6.cell? ⟨B2, t, none⟩ = some (.int .u8 ((bOf (m / 10 ^ (15 - t))).toNat : Int))) := Lib.hid (fun t ht => by
          rw [hrow.cell t (by unfold bsU; rw [List.length_map]; exact ht), ← ed_gt m HMB.out (15 - t) (by omega), show 15 - (15 - t) = t from by omega]
          unfold bsU
          rw [List.getElem?_map, List.getElem?_eq_getElem (show t < (edT m).length from ht)]
          unfold gt
          rw [List.getD_eq_getElem?_getD, List.getElem?_eq_getElem (show t < (edT m).length from ht)]
          rfl)
        clear ho6 ho6' hB2 hc2 hrow hb HT5 HX5 h1 m0 w1
        go_wp2
        go_loop [12, 15] (fun n i => ∃ t : Nat, t ≤ 16 ∧ i = .int .i64 ((t : Int) - 1) ∧ n = .int .i64 ((m / 10 ^ (16 - t) : Nat) : Int)) (fun _ i => (intOf i + 1).toNat)
        case atStart => exact ⟨16, Nat.le_refl _, by rfl, by simp⟩
        case round =>
          obtain ⟨t, ht, rfl, rfl⟩ := hrel
          cases t with
          | zero =>
            have hge : ¬ (0 ≤ (((0 : Nat) : Int) - 1)) := by omega
            go_wp2_with fail
            refine (works_any x6 (HSG.out.below HX6.out)).mono ?_
            rintro e x7 ⟨rfl, hb⟩
            have HX7 := Lib.hid (bel0 HX6.out hb)
            clear hb
            go_wp2
            go_ret
            exact ⟨rfl, HX7.out⟩
          | succ t =>
            have e1 : ((t + 1 : Nat) : Int) - 1 = (t : Int) := by omega
            have e2 : 16 - (t + 1) = 15 - t := by omega
            have hcell := HCELL.out t (by omega)
            have HDIV := Lib.hid (show m / 10 ^ (16 - t) = m / 10 ^ (15 - t) / 10 by rw [show 16 - t = (15 - t) + 1 from by omega, Nat.pow_succ, Nat.div_div_eq_div_mul])
            rw [e1, e2]
            have hNb : m / 10 ^ (15 - t) ≤ 2147483648 := Nat.le_trans (Nat.div_le_self _ _) (by omega)
            generalize m / 10 ^ (15 - t) = N at hcell HDIV hNb ⊢
            have ht16 : (t : Int) < 16 := by omega
            have ht16' : t < 16 := by omega
            have ht0 : 0 ≤ (t : Int) := by omega
            clear e1 e2
            by_cases hN0 : N = 0
            · subst hN0
              have hcell : x6.cell? ⟨B2, t, none⟩ = some (.int .u8 64) := hcell
              go_wp2
              go_round
              case rel => exact ⟨t, by omega, by go_num, by rw [HDIV.out]; rfl⟩
              case measure => simp [intOf] <;> omega
            · have hpos : 0 < (N : Int) := by omega
              have hpos' : 0 < N := by omega
              have hb8 : ((bOf N).toNat : Int) = 240 + (N : Int) % 10 := by
                unfold bOf
                rw [if_neg hN0, UInt8.toNat_ofNat_of_lt' (by show 240 + N % 10 < 256; omega)]
                omega
              rw [hb8] at hcell
              have hq : IntKind.i64.wrap ((N : Int).tdiv 10) = ((N / 10 : Nat) : Int) := by
                rw [show (N : Int).tdiv 10 = ((N / 10 : Nat) : Int) from by rw [Int.tdiv_eq_ediv_of_nonneg (by omega)]; omega]
                unfold IntKind.wrap
                simp [IntKind.bits, IntKind.signed]
                omega
              have hw8 : IntKind.u8.wrap (240 + (N : Int) % 10) = 240 + (N : Int) % 10 := by
                unfold IntKind.wrap
                simp [IntKind.bits, IntKind.signed]
                omega
              clear hb8
              go_wp2
              go_round
              case rel => exact ⟨t, by omega, by go_num, by rw [HDIV.out]; exact congrArg (Value.int .i64) (by omega)⟩
              case measure => simp [intOf] <;> omega
theorem wk_edits (a : Int) (w : World) (ha : 0 ≤ a ∧ a < 4294967296) (hsg : Sg w) : Calls Tryz.prog 10 #[.int .u32 a] w (New w (.bool true)) := by
  obtain ⟨x, rfl⟩ : ∃ x : Nat, a = x := ⟨a.toNat, by omega⟩
  exact edits_core x (by omega) w hsg

end M
end Go.Proofs.YtbcncohjjnmdcaaGreatDoor

/- The result field of the document's own answers: its contract. -/
import Derived.Test.YtlpekknhaaddcaaDoorDcNu
import Derived.Test.YtlpekknhaaddcaaDoorDcDvd
namespace Go.Proofs.YtlpekknhaaddcaaDoor
open Go.RowKit
set_option linter.unusedVariables false
namespace E

/-- The digits of a field, from left to right. -/
def rlD (v N : Nat) : List (Fin 16) := (List.range N).map fun t => dj v (N - 1 - t)
theorem rlD_len (v N : Nat) : (rlD v N).length = N := by simp [rlD]
theorem rlD_getD (v N t : Nat) (h : t < N) : (rlD v N).getD t 0 = dj v (N - 1 - t) := by simp [rlD, List.getD_eq_getElem?_getD, h]
theorem fld_bytL (neg : Bool) (v n : Nat) (h1 : 1 ≤ n) : bytL (rlD v (2 * n - 1) ++ [sgn neg]) n = fldL neg v n := by
  refine nib_ext (by rw [bytL_len, fldL_len]) fun p hp => ?_
  rw [bytL_len] at hp
  rw [nib_bytL _ _ _ hp, nib_fld _ _ _ _ h1 hp, getD_app, rlD_len]
  by_cases h0 : p = 0
  · subst h0
    rw [if_neg (by omega), if_pos (by omega), if_pos rfl]
  · rw [if_pos (by omega), if_neg h0, rlD_getD _ _ _ (by omega)]
    congr 1
    omega
theorem rdi_own {w : World} {base k c : Nat} {p : Option Addr} {L : List (Fin 16)} {d : Fin 16} (h : w.ownsRow base 3 1 (.slice p k c) k (bsI L ++ [.int .i64 (d.val : Int)])) (hk : k = (L ++ [d]).length) : RdI w p (L ++ [d]) := by
  rw [← bsI_snoc] at h
  subst hk
  obtain ⟨q, c2, he, hr, _⟩ := HoldI.rd (show HoldI w base (.slice p (L ++ [d]).length c) (L ++ [d]) from h)
  injection he with e1 _ _
  rw [e1]
  exact hr
theorem ApS.app1 {w0 wr w' : World} {o : Obj} {n : Nat} {sv : Value} {t : TypeId} {xs : List Value} (h : ApS w0 wr) (hown : wr.ownsRow w0.heap.size t 1 sv n xs) (hg : ((wr.alloc o).drew).grownBy w' sv.ownBlock) : ApS w0 w' :=
  ((Below.alloc h (Below.size h) o).drew).grown hg (by have := Below.size h; simp; omega) (fun r hr => (hown.lt r hr).1)
def FnPost (w : World) (neg : Bool) (v n : Nat) (e : Ending) (w' : World) : Prop := ∃ sv, e = .returned (.tuple #[sv, .bool (ovB v n)]) ∧ SvB w' sv (fldL neg v n) ∧ Below w.heap.size w w'
set_option maxRecDepth 100000 in
set_option maxHeartbeats 4000000 in
theorem rfield_core (neg : Bool) (p : Option Addr) (c v n lv : Nat) (d : Fin 16) (F : List UInt8) (ov : Bool) (w : World) (h1 : 1 ≤ n) (h2 : n ≤ 16) (hd : d = sgn neg) (HLV : Hid (lv = (dgs v).length)) (HOV : Hid (ov = decide (2 * (n : Int) - 1 < (lv : Int))))
    (HDG : Hid (∀ i : Nat, i ≤ 100000 → ∀ W, Below w.heap.size w W → Calls Tryd.prog 58 #[.slice p lv c, .int .i64 (i : Int)] W fun e w' => e = .returned (.int .i64 ((dj v i).val : Int)) ∧ W = w'))
    (HBY : Hid (∀ p3 c3 W, RdI W p3 (rlD v (2 * n - 1) ++ [d]) → Calls Tryd.prog 74 #[.slice p3 (2 * n - 1 + 1) c3] W (RuPost W F))) :
    Calls Tryd.prog 53 #[.agg #[.bool neg, .slice p lv c], .int .i64 (n : Int)] w (fun e w' => ∃ sv, e = .returned (.tuple #[sv, .bool ov]) ∧ Hold w' w.heap.size sv F ∧ Below w.heap.size w w') := by
  obtain ⟨i0, hi, hz0, hz1, hz2⟩ := info_parts info3
  obtain ⟨W1, hW1⟩ : ∃ W1, W1 = w.alloc (.cells #[.bool neg, .slice p lv c] 52) := ⟨_, rfl⟩
  have hb0 : Below w.heap.size w W1 := by rw [hW1]; exact below_new _ _
  have hD : Bx W1 w.heap.size 52 #[.bool neg, .slice p lv c] := by rw [hW1]; exact Bx.new w _ _
  have HB0 := Lib.hid hb0
  have HD := Lib.hid hD
  obtain ⟨N, hN⟩ : ∃ N, N = 2 * n - 1 := ⟨_, rfl⟩
  have HRL := Lib.hid (rlD_len v N)
  have HRG := Lib.hid (rlD_getD v N)
  have HTK := Lib.hid (fun t (h : t < N) => take_getD (l := rlD v N) (k := t) (by rw [rlD_len]; exact h))
  have hN2 : 2 * (n : Int) - 2 = (N : Int) - 1 := by omega
  have hN3 : 2 * (n : Int) - 1 = (N : Int) := by omega
  have hNb : N ≤ 31 := by omega
  have hwr : IntKind.i64.wrap (IntKind.i64.wrap (2 * (n : Int)) - 1) = 2 * (n : Int) - 1 := by
    rw [show IntKind.i64.wrap (2 * (n : Int)) = 2 * (n : Int) by rw [IntKind.wrap_i64]; omega, IntKind.wrap_i64]
    omega
  have HOV2 : Hid (ov = decide (IntKind.i64.wrap (IntKind.i64.wrap (2 * (n : Int)) - 1) < (lv : Int))) := Lib.hid (by rw [hwr]; exact HOV.out)
  clear hwr
  rw [← hN] at HBY
  rw [hN3] at HOV
  have HN := Lib.hid hN
  generalize rlD v N = R at *
  clear hb0 hD hN
  go_enter Tryd.func53, Tryd.ntmps53
  go_wp2
  rw [← hW1]
  clear hW1
  go_loopw [6, 7] (fun sv i wr => Below W1.heap.size W1 wr ∧ ∃ t k : Nat, t + k = N ∧ i = .int .i64 ((k : Int) - 1) ∧ wr.ownsRow W1.heap.size 3 1 sv t (bsI (R.take t))) (fun _ i _ => (intOf i + 1).toNat)
  case atStart => exact ⟨Below.refl _ _, 0, N, by omega, rfl, World.ownsRow_nil _ _ _ _⟩
  case round =>
    obtain ⟨hbw, t, k, htk, rfl, hown⟩ := hrel
    have HB := Lib.hid hbw
    have HO := Lib.hid hown
    have HBx := Lib.hid (HD.out.below hbw)
    obtain ⟨⟨d1, d2⟩, _⟩ := (HD.out.below hbw).two
    clear hbw hown
    cases k with
    | succ k =>
      have hk1 : (((k + 1 : Nat) : Int) - 1) = (k : Int) := by omega
      have HDG1 := Lib.hid (HDG.out k (by omega) wr (bel0 HB0.out HB.out))
      have hdk : R.getD t 0 = dj v k := by
        rw [HRG.out t (by omega)]
        congr 1
        omega
      have HDK := Lib.hid hdk
      have HT := Lib.hid (HTK.out t (by omega))
      have HMS : Hid (t + 1 + k = N) := Lib.hid (by omega)
      have HTT : Hid (t ≤ 31) := Lib.hid (by omega)
      have hk31 : k ≤ 31 := by omega
      rw [hk1]
      clear hdk htk hk1
      generalize dj v k = dd at *
      go_wp2_with fail
      refine (HDG1.out).mono ?_
      rintro e w' ⟨rfl, rfl⟩
      go_wp2_with (at_builtin; refine wpList_append_own _ rfl (.tmp 16) (.tmp 21) 50 rfl W1.heap.size 3 i0 (.int .i64 0) 1 8 Tryd.underlying50 hi hz0 hz1 hz2 rfl (by decide) _ t _ rfl (HO.out.alloc _) ⟨wr.heap.size, 0, none⟩ 1 1 [_] rfl rfl (cellNew _ _ _) (by intro u hu; simp at hu; subst hu; rfl) (by unfold maxLen; have := HTT.out; omega) (by have := HTT.out; omega) (by have := HB.out.size; simp; omega) ?_)
      intro v' w3 hown' hgrow _
      have hb1 := (HB.out.alloc HB.out.size _).grown hgrow (by have := HB.out.size; simp; omega) (fun r hr => (HO.out.lt r hr).1)
      clear hgrow
      go_wp2
      go_roundw
      case rel => exact ⟨hb1, t + 1, k, HMS.out, by go_num, by rw [HT.out, HDK.out, bsI_snoc]; exact hown'⟩
      case measure => simp [intOf]
    | zero =>
      obtain rfl : t = N := by omega
      have hown := HO.out
      rw [List.take_of_length_le (by rw [HRL.out]; exact Nat.le_refl _)] at hown
      have HW := Lib.hid hown
      have H0 : Hid (((fun W : World => W.cell? ⟨w.heap.size, 1, none⟩ = some (.slice p lv c) ∧ ApS W1 W) wr.drew)) := Lib.hid ⟨keepC d2 (Below.refl _ _).drew, HB.out.drew⟩
      have HD2 := Lib.hid HD.out.two.1.2
      have HLT := Lib.hid HD.out.lt
      have hdv := d.isLt
      clear hown HO htk
      cases neg
      · have hsg : ((sgn false).val : Int) = 12 := by decide
        subst hd
        rw [show sgn false = (12 : Fin 16) by decide] at HBY hdv
        go_wp2
        go_region_held3 (fun W => W.cell? ⟨w.heap.size, 1, none⟩ = some (.slice p lv c) ∧ ApS W1 W)
          (first | exact H0.out | exact ApS.mk HLT.out HD2.out (by assumption) | exact ApS.new HLT.out HD2.out (by assumption))
          (first
            | ((refine step_append_lies _ (by rfl) (.tmp 25) (.tmp 27) 50 (by rfl) W1.heap.size 3 i0 (.int .i64 0) 1 8 Tryd.underlying50 hi hz0 hz1 hz2 rfl (by decide) _ t (bsI R) (by rfl) (own_kept HW.out ((below_new wr _).drew)) ⟨wr.heap.size, 0, none⟩ 1 1 _ (by rfl) (by rfl) (World.news_of_block (heap_alloc_new _ _)) (by intro u hu; simp at hu; subst hu; rfl) (by omega) (by unfold maxLen; omega) (by omega) (by have := HB.out.size; simp; omega) _ rfl ?_); intro g cap w3 hown3 hgrow hat hlt1; have hb3 : ApS W1 w3 := ApS.app1 HB.out HW.out hgrow; clear hat hlt1 hgrow)
            | (go_at_call 74; refine (HBY.out _ _ _ (rdi_own (d := (12 : Fin 16)) hown3 (by rw [List.length_append, HRL.out, List.length_singleton]))).mono ?_; rintro e w4 ⟨sv4, rfl, ho4, hb4⟩; have hs4 : ApS W1 w4 := bel_app hb3 hb4))
        all_goals have HF : Hid (Hold w4 w.heap.size sv4 F ∧ Below w.heap.size w w4) := Lib.hid ⟨Hold.base ho4 (Nat.le_trans HB0.out.size (Below.size hb3)), bel0 HB0.out hs4⟩
        all_goals clear ho4 hb4 hs4 hb3 hown3
        all_goals go_wp2
        all_goals go_ret2
        all_goals exact ⟨_, by rw [HOV2.out]; rfl, HF.out.1, HF.out.2⟩
      · subst hd
        rw [show sgn true = (13 : Fin 16) by decide] at HBY hdv
        go_wp2
        go_region_held3 (fun W => W.cell? ⟨w.heap.size, 1, none⟩ = some (.slice p lv c) ∧ ApS W1 W)
          (first | exact H0.out | exact ApS.mk HLT.out HD2.out (by assumption) | exact ApS.new HLT.out HD2.out (by assumption))
          (first
            | ((refine step_append_lies _ (by rfl) (.tmp 25) (.tmp 27) 50 (by rfl) W1.heap.size 3 i0 (.int .i64 0) 1 8 Tryd.underlying50 hi hz0 hz1 hz2 rfl (by decide) _ t (bsI R) (by rfl) (own_kept HW.out ((below_new wr _).drew)) ⟨wr.heap.size, 0, none⟩ 1 1 _ (by rfl) (by rfl) (World.news_of_block (heap_alloc_new _ _)) (by intro u hu; simp at hu; subst hu; rfl) (by omega) (by unfold maxLen; omega) (by omega) (by have := HB.out.size; simp; omega) _ rfl ?_); intro g cap w3 hown3 hgrow hat hlt1; have hb3 : ApS W1 w3 := ApS.app1 HB.out HW.out hgrow; clear hat hlt1 hgrow)
            | (go_at_call 74; refine (HBY.out _ _ _ (rdi_own (d := (13 : Fin 16)) hown3 (by rw [List.length_append, HRL.out, List.length_singleton]))).mono ?_; rintro e w4 ⟨sv4, rfl, ho4, hb4⟩; have hs4 : ApS W1 w4 := bel_app hb3 hb4))
        all_goals have HF : Hid (Hold w4 w.heap.size sv4 F ∧ Below w.heap.size w w4) := Lib.hid ⟨Hold.base ho4 (Nat.le_trans HB0.out.size (Below.size hb3)), bel0 HB0.out hs4⟩
        all_goals clear ho4 hb4 hs4 hb3 hown3
        all_goals go_wp2
        all_goals go_ret2
        all_goals exact ⟨_, by rw [HOV2.out]; rfl, HF.out.1, HF.out.2⟩
def FhPost (w : World) (neg : Bool) (v n : Nat) (e : Ending) (w' : World) : Prop := ∃ sv, e = .returned (.tuple #[sv, .bool (ovB v n)]) ∧ Hold w' w.heap.size sv (fldL neg v n) ∧ Below w.heap.size w w'
theorem rfield_hold (neg : Bool) (p : Option Addr) (c v n : Nat) (w : World) (h1 : 1 ≤ n) (h2 : n ≤ 16) (hv : (dgs v).length ≤ 1000) (hs : SlI w p c (dgs v)) :
    Calls Tryd.prog 53 #[.agg #[.bool neg, .slice p (dgs v).length c], .int .i64 (n : Int)] w (FhPost w neg v n) := by
  refine rfield_core neg p c v n (dgs v).length (sgn neg) (fldL neg v n) (ovB v n) w h1 h2 rfl (Lib.hid rfl) (Lib.hid ?_) (Lib.hid fun i hi W hW => ?_) (Lib.hid fun p3 c3 W h => ?_)
  · unfold ovB
    refine decide_eq_decide.2 ?_
    have := dgs_len_le v (2 * n - 1)
    omega
  · have h := digit_any p c i (dgs v) W hv hi (hs.1.below hW)
    rw [dgs_getD] at h
    exact h
  · have hlen : (rlD v (2 * n - 1) ++ [sgn neg]).length = 2 * n := by rw [List.length_append, rlD_len, List.length_singleton]; omega
    have := Bytes_any p3 c3 n _ W hlen (by omega) h
    rw [hlen, fld_bytL _ _ _ h1] at this
    rw [show 2 * n - 1 + 1 = 2 * n by omega]
    exact this
theorem rfield_any (neg : Bool) (p : Option Addr) (c v n : Nat) (w : World) (h1 : 1 ≤ n) (h2 : n ≤ 16) (hv : (dgs v).length ≤ 1000) (hs : SlI w p c (dgs v)) :
    Calls Tryd.prog 53 #[.agg #[.bool neg, .slice p (dgs v).length c], .int .i64 (n : Int)] w (FnPost w neg v n) :=
  (rfield_hold neg p c v n w h1 h2 hv hs).mono fun e w' ⟨sv, h1, h2, h3⟩ => ⟨sv, h1, h2.svb, h3⟩

end E
end Go.Proofs.YtlpekknhaaddcaaDoor

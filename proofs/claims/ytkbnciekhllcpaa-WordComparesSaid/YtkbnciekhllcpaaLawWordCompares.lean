/- The comparisons are orders and agree with the differences, for any three words: the statement WordCompares, with no condition. -/
import Derived.Test.YtkbnciekhllcpaaRows
import Derived.WalkKit
import Derived.ProofKit
import Derived.OpenShut
import Derived.Lib.Hide
import Derived.Lib.SmallJoins
import Derived.Deep.QuietTactic
import Derived.BigQuiet
import Derived.Test.YtkbnciekhllcpaaCompares1
import Derived.Test.YtkbnciekhllcpaaCompares2
import Derived.Test.YtkbnciekhllcpaaCompares3
import Derived.Test.YtkbnciekhllcpaaCompares4
namespace Go.Proofs.Ytkbnciekhllcpaa.wordCompares
open Go.ChangeShapes Go.WideShapes Go.ChangeAt Go.RowKit Go.Joins W
set_option linter.unusedVariables false

theorem own : ownKnob Try.prog.godebug = none := by kernel_rfl


theorem ord_lt {x y : Int} (h : x < y) : ord x y = 1 ∧ ord y x = 2 := by unfold ord; constructor <;> (repeat' split) <;> omega
theorem ord_one {x y : Int} (h : ord x y = 1) : x < y := by unfold ord at h; (repeat' split at h) <;> omega
theorem ord_self (x : Int) : ord x x = 0 := by unfold ord; (repeat' split) <;> omega
theorem not_one {x y : Int} (h : ¬ ord x y = 1) : (ord x y == 1) = false := by simpa using h
theorem sub_lt {v : Int} {a b : Int} (h : a < b) : decide (lcc v (decide (b ≤ a)) < 2) = true := by
  have : ¬ b ≤ a := by omega
  simp [this, lcc]; split <;> omega
theorem sub_ge {v : Int} {a b : Int} (h : b ≤ a) : decide (lcc v (decide (b ≤ a)) < 2) = false := by
  simp [h, lcc]; split <;> omega
theorem in_neg {x : Int} (h : (!inR x) = false) (hx : x < 0) : ncc x = 1 := by
  unfold ncc; rw [if_pos (by simpa using h)]; exact (ord_lt hx).1
theorem in_pos {x : Int} (h : (!inR x) = false) (hx : 0 < x) : ncc x = 2 := by
  unfold ncc; rw [if_pos (by simpa using h)]; exact (ord_lt hx).2
theorem out_neg {x : Int} (h : (!inR x) = true) (hx : x < 0) (hb : -4294967296 < x) : ord (sg (x % 4294967296)) 0 = 2 := by
  simp [inR] at h
  have := sg_cases (x % 4294967296)
  exact (ord_lt (by omega)).2
theorem out_pos {x : Int} (h : (!inR x) = true) (hx : 0 < x) (hb : x < 4294967296) : ord (sg (x % 4294967296)) 0 = 1 := by
  simp [inR] at h
  have := sg_cases (x % 4294967296)
  exact (ord_lt (by omega)).1

theorem walk (a0 : Int) (w0 : (Lit.int .u32 a0).wf = true) (a1 : Int) (w1 : (Lit.int .u32 a1).wf = true) (a2 : Int) (w2 : (Lit.int .u32 a2).wf = true) (w : World) :
    Calls Try.prog 11 #[.int .u32 a0, .int .u32 a1, .int .u32 a2] w fun e w' => e = .returned (.bool true) ∧ Grown w w' := by
  obtain ⟨a0', a1'⟩ := u32_wf w0
  obtain ⟨b0', b1'⟩ := u32_wf w1
  obtain ⟨c0', c1'⟩ := u32_wf w2
  clear w0 w1 w2
  have ha := sg_bd a0' a1'
  have hb := sg_bd b0' b1'
  have ka := sg_cases a0
  have kb := sg_cases a1
  rcases Int.lt_trichotomy (sg a0) (sg a1) with hs | hs | hs
  · rcases Int.lt_or_gt_of_ne (show a0 ≠ a1 by omega) with hu | hu
    ·
      rcases Bool.eq_false_or_eq_true (!inR (sg a0 - sg a1)) with ho | ho
      ·
        by_cases hc1 : ord (sg a1) (sg a2) = 1
        ·
          by_cases hc2 : ord a1 a2 = 1
          · exact k11oyY a0 a1 a2 a0' a1' b0' b1' c0' c1' ((ord_lt hs).1) ((ord_lt hu).1) ((ord_lt hs).2) ((ord_lt hu).2) (by simp; omega) ho (out_neg ho (by omega) (by omega)) (sub_lt hu) rfl hc1 ((ord_lt (Int.lt_trans hs (ord_one hc1))).1) hc2 ((ord_lt (Int.lt_trans hu (ord_one hc2))).1) w
          · exact k11oyN a0 a1 a2 a0' a1' b0' b1' c0' c1' ((ord_lt hs).1) ((ord_lt hu).1) ((ord_lt hs).2) ((ord_lt hu).2) (by simp; omega) ho (out_neg ho (by omega) (by omega)) (sub_lt hu) rfl hc1 ((ord_lt (Int.lt_trans hs (ord_one hc1))).1) (not_one hc2) w
        ·
          by_cases hc2 : ord a1 a2 = 1
          · exact k11onY a0 a1 a2 a0' a1' b0' b1' c0' c1' ((ord_lt hs).1) ((ord_lt hu).1) ((ord_lt hs).2) ((ord_lt hu).2) (by simp; omega) ho (out_neg ho (by omega) (by omega)) (sub_lt hu) rfl (not_one hc1) hc2 ((ord_lt (Int.lt_trans hu (ord_one hc2))).1) w
          · exact k11onN a0 a1 a2 a0' a1' b0' b1' c0' c1' ((ord_lt hs).1) ((ord_lt hu).1) ((ord_lt hs).2) ((ord_lt hu).2) (by simp; omega) ho (out_neg ho (by omega) (by omega)) (sub_lt hu) rfl (not_one hc1) (not_one hc2) w
      ·
        by_cases hc1 : ord (sg a1) (sg a2) = 1
        ·
          by_cases hc2 : ord a1 a2 = 1
          · exact k11iyY a0 a1 a2 a0' a1' b0' b1' c0' c1' ((ord_lt hs).1) ((ord_lt hu).1) ((ord_lt hs).2) ((ord_lt hu).2) (by simp; omega) ho (in_neg ho (by omega)) (sub_lt hu) rfl hc1 ((ord_lt (Int.lt_trans hs (ord_one hc1))).1) hc2 ((ord_lt (Int.lt_trans hu (ord_one hc2))).1) w
          · exact k11iyN a0 a1 a2 a0' a1' b0' b1' c0' c1' ((ord_lt hs).1) ((ord_lt hu).1) ((ord_lt hs).2) ((ord_lt hu).2) (by simp; omega) ho (in_neg ho (by omega)) (sub_lt hu) rfl hc1 ((ord_lt (Int.lt_trans hs (ord_one hc1))).1) (not_one hc2) w
        ·
          by_cases hc2 : ord a1 a2 = 1
          · exact k11inY a0 a1 a2 a0' a1' b0' b1' c0' c1' ((ord_lt hs).1) ((ord_lt hu).1) ((ord_lt hs).2) ((ord_lt hu).2) (by simp; omega) ho (in_neg ho (by omega)) (sub_lt hu) rfl (not_one hc1) hc2 ((ord_lt (Int.lt_trans hu (ord_one hc2))).1) w
          · exact k11inN a0 a1 a2 a0' a1' b0' b1' c0' c1' ((ord_lt hs).1) ((ord_lt hu).1) ((ord_lt hs).2) ((ord_lt hu).2) (by simp; omega) ho (in_neg ho (by omega)) (sub_lt hu) rfl (not_one hc1) (not_one hc2) w
    ·
      rcases Bool.eq_false_or_eq_true (!inR (sg a0 - sg a1)) with ho | ho
      ·
        by_cases hc1 : ord (sg a1) (sg a2) = 1
        ·
          exact k12oy a0 a1 a2 a0' a1' b0' b1' c0' c1' ((ord_lt hs).1) ((ord_lt hu).2) ((ord_lt hs).2) ((ord_lt hu).1) (by simp; omega) ho (out_neg ho (by omega) (by omega)) (sub_ge (Int.le_of_lt hu)) rfl hc1 ((ord_lt (Int.lt_trans hs (ord_one hc1))).1) w
        ·
          exact k12on a0 a1 a2 a0' a1' b0' b1' c0' c1' ((ord_lt hs).1) ((ord_lt hu).2) ((ord_lt hs).2) ((ord_lt hu).1) (by simp; omega) ho (out_neg ho (by omega) (by omega)) (sub_ge (Int.le_of_lt hu)) rfl (not_one hc1) w
      ·
        by_cases hc1 : ord (sg a1) (sg a2) = 1
        ·
          exact k12iy a0 a1 a2 a0' a1' b0' b1' c0' c1' ((ord_lt hs).1) ((ord_lt hu).2) ((ord_lt hs).2) ((ord_lt hu).1) (by simp; omega) ho (in_neg ho (by omega)) (sub_ge (Int.le_of_lt hu)) rfl hc1 ((ord_lt (Int.lt_trans hs (ord_one hc1))).1) w
        ·
          exact k12in a0 a1 a2 a0' a1' b0' b1' c0' c1' ((ord_lt hs).1) ((ord_lt hu).2) ((ord_lt hs).2) ((ord_lt hu).1) (by simp; omega) ho (in_neg ho (by omega)) (sub_ge (Int.le_of_lt hu)) rfl (not_one hc1) w
  · obtain rfl : a0 = a1 := by omega
    exact k00i a0 a0 a2 a0' a1' a0' a1' c0' c1' (ord_self _) (ord_self _) (ord_self _) (ord_self _) (by simp) (by simp [inR]) (by simp [ncc, inR, ord]) (sub_ge (Int.le_refl _)) rfl w
  · rcases Int.lt_or_gt_of_ne (show a0 ≠ a1 by omega) with hu | hu
    ·
      rcases Bool.eq_false_or_eq_true (!inR (sg a0 - sg a1)) with ho | ho
      ·
        by_cases hc2 : ord a1 a2 = 1
        · exact k21oY a0 a1 a2 a0' a1' b0' b1' c0' c1' ((ord_lt hs).2) ((ord_lt hu).1) ((ord_lt hs).1) ((ord_lt hu).2) (by simp; omega) ho (out_pos ho (by omega) (by omega)) (sub_lt hu) rfl hc2 ((ord_lt (Int.lt_trans hu (ord_one hc2))).1) w
        · exact k21oN a0 a1 a2 a0' a1' b0' b1' c0' c1' ((ord_lt hs).2) ((ord_lt hu).1) ((ord_lt hs).1) ((ord_lt hu).2) (by simp; omega) ho (out_pos ho (by omega) (by omega)) (sub_lt hu) rfl (not_one hc2) w
      ·
        by_cases hc2 : ord a1 a2 = 1
        · exact k21iY a0 a1 a2 a0' a1' b0' b1' c0' c1' ((ord_lt hs).2) ((ord_lt hu).1) ((ord_lt hs).1) ((ord_lt hu).2) (by simp; omega) ho (in_pos ho (by omega)) (sub_lt hu) rfl hc2 ((ord_lt (Int.lt_trans hu (ord_one hc2))).1) w
        · exact k21iN a0 a1 a2 a0' a1' b0' b1' c0' c1' ((ord_lt hs).2) ((ord_lt hu).1) ((ord_lt hs).1) ((ord_lt hu).2) (by simp; omega) ho (in_pos ho (by omega)) (sub_lt hu) rfl (not_one hc2) w
    ·
      rcases Bool.eq_false_or_eq_true (!inR (sg a0 - sg a1)) with ho | ho
      ·
        exact k22o a0 a1 a2 a0' a1' b0' b1' c0' c1' ((ord_lt hs).2) ((ord_lt hu).2) ((ord_lt hs).1) ((ord_lt hu).1) (by simp; omega) ho (out_pos ho (by omega) (by omega)) (sub_ge (Int.le_of_lt hu)) rfl w
      ·
        exact k22i a0 a1 a2 a0' a1' b0' b1' c0' c1' ((ord_lt hs).2) ((ord_lt hu).2) ((ord_lt hs).1) ((ord_lt hu).1) (by simp; omega) ho (in_pos ho (by omega)) (sub_ge (Int.le_of_lt hu)) rfl w

set_option maxRecDepth 100000 in
theorem lifted (os : Os) (started : os.Started) (H : Type) (enc : TypeId × Value → H) :
    ReturnsInHanded {} Try.checked os 11 .any (Rows.wordComparesSpec.pre6 enc Try.prog Try.f11 Rows.wordComparesRow.domain false) (Rows.wordComparesSpec.post enc Try.prog Try.f11 false true false false) := by
  refine returnsInHanded_of_change (C := Try.checked) own started (by kernel_rfl) Try.func11
    (ChangeSpec.witness6 (enc := enc) (C := Try.checked) false ⟨#[], #[.int .u32 0, .int .u32 0, .int .u32 0], []⟩ 8 (by kernel_rfl) (by kernel_rfl) (by kernel_rfl) (by kernel_rfl)) ?_
  intro W base args ds gs before hval0 hW hcnd _
  have hval : ∀ (j : Nat) t v, Try.f11.params[j]? = some t → args[j]? = some v → Value.okWide Try.prog W .any base t v := hval0
  have hW' := hW
  obtain ⟨p, q, hA0, hV, rfl, hfz, hnd⟩ := hW
  have hA : DataW.TrodAll enc Try.prog W 0 (fun _ => true) true Try.f11.params.toList args.toList ds p := hA0
  rw [Try.params11] at hA hval
  obtain ⟨v0, vs0, d0, ds0, p0, q0, hargs, rfl, rfl, h0, r0⟩ := trodAll_cons hA
  obtain ⟨v1, vs1, d1, ds1, p1, q1, rfl, rfl, rfl, h1, r1⟩ := trodAll_cons r0
  obtain ⟨v2, vs2, d2, ds2, p2, q2, rfl, rfl, rfl, h2, r2⟩ := trodAll_cons r1
  obtain ⟨rfl, rfl, rfl⟩ := trodAll_nil r2
  obtain rfl : args = #[v0, v1, v2] := by cases args; simp_all
  obtain ⟨rfl, rfl⟩ := trodVars_none hV
  obtain ⟨a0, rfl, rfl, rfl, w0⟩ := open_int Try.underlying23 (hval 0 23 v0 rfl rfl) h0
  obtain ⟨a1, rfl, rfl, rfl, w1⟩ := open_int Try.underlying23 (hval 1 23 v1 rfl rfl) h1
  obtain ⟨a2, rfl, rfl, rfl, w2⟩ := open_int Try.underlying23 (hval 2 23 v2 rfl rfl) h2
  clear hA0 hval0
  simp only [List.append_nil] at hW'
  refine (walk a0 w0 a1 w1 a2 w2 W).mono fun e W' ⟨he, hg⟩ => ?_
  subst he
  exact ⟨_, rfl, post_of_same (pa := []) (pv := []) hW' (fun _ _ _ => (trodAll_cons_mk (shut_bool Try.underlying4 _) trodAll_mk0)) (fun sp _ => (trodAll_cons_mk (shut_int Try.underlying23 w0) (trodAll_cons_mk (shut_int Try.underlying23 w1) (trodAll_cons_mk (shut_int Try.underlying23 w2) trodAll_mk0)))) (fun _ _ => rfl) rfl
    (hg.frame _) hg.2.1 (ok_one (by kernel_rfl) rfl (okWide_bool_mk Try.underlying4 _))⟩

theorem over : Rows.wordComparesRow.holds Try.pinned (OpenSpec.ofChange Rows.wordComparesSpec) :=
  OpenClaim.holds_of_wide 11 Try.f11 rfl rfl rfl rfl rfl rfl rfl ⟨rfl, rfl, rfl, rfl, rfl⟩ rfl rfl rfl rfl rfl (by kernel_rfl) Try.func11 (by kernel_rfl)
    (of_decide_eq_true (by kernel_rfl)) (by unfold Func.isWrapper; first | (rw [if_pos (by decide +kernel)]; kernel_rfl) | (rw [if_neg (by decide +kernel)]; exact ⟨rfl, rfl⟩))
    (fun os started H enc _ => lifted os started H enc)

theorem proved : Rows.WordComparesSaid :=
  over
#print axioms proved
end Go.Proofs.Ytkbnciekhllcpaa.wordCompares

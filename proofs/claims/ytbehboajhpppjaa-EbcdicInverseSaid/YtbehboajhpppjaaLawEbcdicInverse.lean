/- Code and Char are inverse to each other: the statement EbcdicInverse, with no condition. -/
import Derived.Test.YtbehboajhpppjaaRows
import Derived.WalkKit
import Derived.ProofKit
import Derived.OpenShut
import Derived.ChangeMaps5
import Derived.Lib.Hide
import Derived.Deep.Cut
import Derived.Deep.DeepMust
import Derived.Deep.QuietTactic
import Derived.BigQuiet
import Derived.OwnWalk
import Derived.Laws.CopyOwn
import Derived.Laws.AppendOwn
import Derived.Laws.OwnMore
import Derived.Laws.AppendOwnNone
import Derived.Deep.Draws
import Derived.Laws.IdiomStrings
import Derived.Below
import Derived.Test.YtbehboajhpppjaaEbWorks
namespace Go.Proofs.Ytbehboajhpppjaa.ebcdicInverse
open Go.ChangeShapes Go.WideShapes Go.ChangeAt Go.RowKit Go.ChangeMaps E
set_option linter.unusedVariables false

theorem own : ownKnob Try.prog.godebug = none := by kernel_rfl

set_option maxRecDepth 100000 in
theorem walk (x y : UInt8) (w : World) :
    Calls Try.prog 7 #[.int .u8 (x.toNat : Int), .int .u8 (y.toNat : Int)] w (New w (.bool true)) := by
  have HX := Lib.hid (code_any x)
  have HY := Lib.hid (char_any y)
  have hlt := x.toNat_lt
  by_cases hx : isC x = true
  · have hr := (isC_iff x).1 hx
    have h1 := back_c x hx
    have HB := Lib.hid (char_any (codeV x))
    rw [h1.1, h1.2] at HB
    rw [hx] at HX
    obtain ⟨c, hc⟩ : ∃ c : Int, c = (x.toNat : Int) := ⟨_, rfl⟩
    have c0 : 32 ≤ c := by omega
    have c1 : c ≤ 126 := by omega
    rw [← hc] at HX HB ⊢
    clear h1 hx hr hlt hc
    by_cases hy : isX y = true
    · have h2 := back_x y hy
      rw [hy] at HY
      have HC2 := Lib.hid (code_any (charV y))
      rw [h2.1, h2.2] at HC2
      clear h2 hy
      go_enter Try.func7, Try.ntmps7
      go_wp2_with fail
      refine (HX.out _).mono ?_
      rintro e w' ⟨rfl, rfl⟩
      go_wp2_with fail
      refine (HB.out _).mono ?_
      rintro e w' ⟨rfl, rfl⟩
      go_wp2_with fail
      refine (HY.out _).mono ?_
      rintro e w' ⟨rfl, rfl⟩
      go_wp2_with fail
      refine (HC2.out _).mono ?_
      rintro e w' ⟨rfl, rfl⟩
      go_wp2_with fail
      refine (works_any _).mono ?_
      rintro e w9 ⟨rfl, hb9⟩
      have HBW := Lib.hid hb9; clear hb9
      go_wp2
      go_ret
      exact ⟨rfl, HBW.out⟩
    · have hy' : isX y = false := by simpa using hy
      rw [hy'] at HY
      clear hy hy'
      go_enter Try.func7, Try.ntmps7
      go_wp2_with fail
      refine (HX.out _).mono ?_
      rintro e w' ⟨rfl, rfl⟩
      go_wp2_with fail
      refine (HB.out _).mono ?_
      rintro e w' ⟨rfl, rfl⟩
      go_wp2_with fail
      refine (HY.out _).mono ?_
      rintro e w' ⟨rfl, rfl⟩
      go_wp2_with fail
      refine (works_any _).mono ?_
      rintro e w9 ⟨rfl, hb9⟩
      have HBW := Lib.hid hb9; clear hb9
      go_wp2
      go_ret
      exact ⟨rfl, HBW.out⟩

  · have hx' : isC x = false := by simpa using hx
    rw [hx'] at HX
    have hr : ¬ (32 ≤ x.toNat ∧ x.toNat ≤ 126) := fun h => hx ((isC_iff x).2 h)
    obtain ⟨c, hc⟩ : ∃ c : Int, c = (x.toNat : Int) := ⟨_, rfl⟩
    by_cases hl : x.toNat < 32
    · have c0 : c < 32 := by omega
      rw [← hc] at HX ⊢
      clear hx hx' hr hlt hc hl
      by_cases hy : isX y = true
      · have h2 := back_x y hy
        rw [hy] at HY
        have HC2 := Lib.hid (code_any (charV y))
        rw [h2.1, h2.2] at HC2
        clear h2 hy
        go_enter Try.func7, Try.ntmps7
        go_wp2_with fail
        refine (HX.out _).mono ?_
        rintro e w' ⟨rfl, rfl⟩
        go_wp2_with fail
        refine (HY.out _).mono ?_
        rintro e w' ⟨rfl, rfl⟩
        go_wp2_with fail
        refine (HC2.out _).mono ?_
        rintro e w' ⟨rfl, rfl⟩
        go_wp2_with fail
        refine (works_any _).mono ?_
        rintro e w9 ⟨rfl, hb9⟩
        have HBW := Lib.hid hb9; clear hb9
        go_wp2
        go_ret
        exact ⟨rfl, HBW.out⟩
      · have hy' : isX y = false := by simpa using hy
        rw [hy'] at HY
        clear hy hy'
        go_enter Try.func7, Try.ntmps7
        go_wp2_with fail
        refine (HX.out _).mono ?_
        rintro e w' ⟨rfl, rfl⟩
        go_wp2_with fail
        refine (HY.out _).mono ?_
        rintro e w' ⟨rfl, rfl⟩
        go_wp2_with fail
        refine (works_any _).mono ?_
        rintro e w9 ⟨rfl, hb9⟩
        have HBW := Lib.hid hb9; clear hb9
        go_wp2
        go_ret
        exact ⟨rfl, HBW.out⟩

    · have c0 : 127 ≤ c := by omega
      rw [← hc] at HX ⊢
      clear hx hx' hr hlt hc hl
      by_cases hy : isX y = true
      · have h2 := back_x y hy
        rw [hy] at HY
        have HC2 := Lib.hid (code_any (charV y))
        rw [h2.1, h2.2] at HC2
        clear h2 hy
        go_enter Try.func7, Try.ntmps7
        go_wp2_with fail
        refine (HX.out _).mono ?_
        rintro e w' ⟨rfl, rfl⟩
        go_wp2_with fail
        refine (HY.out _).mono ?_
        rintro e w' ⟨rfl, rfl⟩
        go_wp2_with fail
        refine (HC2.out _).mono ?_
        rintro e w' ⟨rfl, rfl⟩
        go_wp2_with fail
        refine (works_any _).mono ?_
        rintro e w9 ⟨rfl, hb9⟩
        have HBW := Lib.hid hb9; clear hb9
        go_wp2
        go_ret
        exact ⟨rfl, HBW.out⟩
      · have hy' : isX y = false := by simpa using hy
        rw [hy'] at HY
        clear hy hy'
        go_enter Try.func7, Try.ntmps7
        go_wp2_with fail
        refine (HX.out _).mono ?_
        rintro e w' ⟨rfl, rfl⟩
        go_wp2_with fail
        refine (HY.out _).mono ?_
        rintro e w' ⟨rfl, rfl⟩
        go_wp2_with fail
        refine (works_any _).mono ?_
        rintro e w9 ⟨rfl, hb9⟩
        have HBW := Lib.hid hb9; clear hb9
        go_wp2
        go_ret
        exact ⟨rfl, HBW.out⟩


set_option maxRecDepth 100000 in
theorem lifted (os : Os) (started : os.Started) (H : Type) (enc : TypeId × Value → H) :
    ReturnsInHanded {} Try.checked os 7 .any (Rows.ebcdicInverseSpec.pre6 enc Try.prog Try.f7 Rows.ebcdicInverseRow.domain false) (Rows.ebcdicInverseSpec.post enc Try.prog Try.f7 false true false false) := by
  refine returnsInHanded_of_change (C := Try.checked) own started (by kernel_rfl) Try.func7
    (ChangeSpec.witness6 (enc := enc) (C := Try.checked) false ⟨#[], #[.int .u8 0, .int .u8 0], []⟩ 8 (by kernel_rfl) (by kernel_rfl) (by kernel_rfl) (by kernel_rfl)) ?_
  intro W base args ds gs before hval0 hW hcnd _
  have hval : ∀ (j : Nat) t v, Try.f7.params[j]? = some t → args[j]? = some v → Value.okWide Try.prog W .any base t v := hval0
  have hW' := hW
  obtain ⟨p, q, hA0, hV, rfl, hfz, hnd⟩ := hW
  have hA : DataW.TrodAll enc Try.prog W 0 (fun _ => true) true Try.f7.params.toList args.toList ds p := hA0
  rw [Try.params7] at hA hval
  obtain ⟨v0, vs0, d0, ds0, p0, q0, hargs, rfl, rfl, h0, r0⟩ := trodAll_cons hA
  obtain ⟨v1, vs1, d1, ds1, p1, q1, rfl, rfl, rfl, h1, r1⟩ := trodAll_cons r0
  obtain ⟨rfl, rfl, rfl⟩ := trodAll_nil r1
  obtain rfl : args = #[v0, v1] := by cases args; simp_all
  obtain ⟨rfl, rfl⟩ := trodVars_none hV
  obtain ⟨a0, rfl, rfl, rfl, w0⟩ := open_int Try.underlying5 (hval 0 5 v0 rfl rfl) h0
  obtain ⟨x0, rfl⟩ := u8_of w0
  obtain ⟨a1, rfl, rfl, rfl, w1⟩ := open_int Try.underlying5 (hval 1 5 v1 rfl rfl) h1
  obtain ⟨x1, rfl⟩ := u8_of w1
  clear hA0 hval0
  simp only [List.append_nil] at hW'
  refine (walk x0 x1 W).mono fun e W' ⟨he, hn⟩ => ?_
  subst he
  exact ⟨_, rfl, _, _, _, [], [], [], hW', trodAll_cons_mk (shut_bool Try.underlying4 _) trodAll_mk0, (trodAll_cons_mk (shut_int Try.underlying5 w0) (trodAll_cons_mk (shut_int Try.underlying5 w1) trodAll_mk0)), rfl, hn.frame _, fun h => by cases h⟩

theorem over : Rows.ebcdicInverseRow.holds Try.pinned (OpenSpec.ofChange Rows.ebcdicInverseSpec) :=
  OpenClaim.holds_of_wide 7 Try.f7 rfl rfl rfl rfl rfl rfl rfl ⟨rfl, rfl, rfl, rfl, rfl⟩ rfl rfl rfl rfl rfl (by kernel_rfl) Try.func7 (by kernel_rfl)
    (of_decide_eq_true (by kernel_rfl)) (by unfold Func.isWrapper; first | (rw [if_pos (by decide +kernel)]; kernel_rfl) | (rw [if_neg (by decide +kernel)]; exact ⟨rfl, rfl⟩))
    (fun os started H enc _ => lifted os started H enc)

theorem proved : Rows.EbcdicInverseSaid :=
  over
#print axioms proved
end Go.Proofs.Ytbehboajhpppjaa.ebcdicInverse

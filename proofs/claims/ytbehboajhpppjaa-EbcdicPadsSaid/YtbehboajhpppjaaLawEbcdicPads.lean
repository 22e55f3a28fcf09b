/- Pad answers as the chapter says: the statement EbcdicPads, with no condition. -/
import Derived.Test.YtbehboajhpppjaaRows
import Derived.WalkKit
import Derived.ProofKit
import Derived.OpenShut
import Derived.ChangeMaps5
import Derived.Lib.Hide
import Derived.Deep.Cut
import Derived.Deep.DeepMust
import Derived.Deep.QuietTactic
import Derived.BigQuiet
import Derived.OwnWalk
import Derived.Laws.CopyOwn
import Derived.Laws.AppendOwn
import Derived.Laws.OwnMore
import Derived.Laws.AppendOwnNone
import Derived.Deep.Draws
import Derived.Laws.IdiomStrings
import Derived.Below
import Derived.Test.YtbehboajhpppjaaEbWorks
namespace Go.Proofs.Ytbehboajhpppjaa.ebcdicPads
open Go.ChangeShapes Go.WideShapes Go.ChangeAt Go.RowKit Go.ChangeMaps E
set_option linter.unusedVariables false

theorem own : ownKnob Try.prog.godebug = none := by kernel_rfl

set_option maxRecDepth 100000 in
theorem long (s : ByteArray) (n : Int) (hm : s.size ≤ 9223372036854775807) (hs : 3000 < s.size) (w : World) :
    Calls Try.prog 6 #[.string s, .int .i64 n] w (New w (.bool true)) := by
  go_enter Try.func6, Try.ntmps6
  go_wp2
  go_ret
  exact ⟨rfl, Below.refl _ _⟩

set_option maxRecDepth 100000 in
theorem wide (s : ByteArray) (n : Int) (hs : s.size ≤ 3000) (h0 : 3000 < n) (h1 : n ≤ 65536) (w : World) :
    Calls Try.prog 6 #[.string s, .int .i64 n] w (New w (.bool true)) := by
  go_enter Try.func6, Try.ntmps6
  go_wp2
  go_ret
  exact ⟨rfl, Below.refl _ _⟩

set_option maxRecDepth 100000 in
theorem ref_small (s : ByteArray) (n : Int) (hs : s.size ≤ 3000) (h0 : n ≤ 3000) (w : World) (x : Int)
    (hp : ∀ W, Calls Try.prog 23 #[.string s, .int .i64 n] W (New W (.tuple #[.slice none 0 0, .int .i64 x]))) (hr : ∀ W, Calls Try.prog 24 #[.string s, .int .i64 n] W (New W (.tuple #[.slice none 0 0, .int .i64 x]))) :
    Calls Try.prog 6 #[.string s, .int .i64 n] w (New w (.bool true)) := by
  have HP := Lib.hid hp
  have HR := Lib.hid hr
  clear hp hr
  go_enter Try.func6, Try.ntmps6
  go_wp2_with fail
  refine (HP.out _).mono ?_
  rintro e w1 ⟨rfl, hb1⟩
  have HB1 := Lib.hid hb1; clear hb1
  go_wp2_with fail
  refine (HR.out _).mono ?_
  rintro e w2 ⟨rfl, hb2⟩
  have HB2 := Lib.hid (HB1.out.trans (hb2.mono HB1.out.size)); clear hb2
  go_wp2_with fail
  refine (same_nil _).mono ?_
  rintro e w3 ⟨rfl, hb3⟩
  have HB3 := Lib.hid (HB2.out.trans (hb3.mono HB2.out.size)); clear hb3
  go_wp2_with fail
  refine (works_any _).mono ?_
  rintro e w9 ⟨rfl, hb9⟩
  have HBW := Lib.hid (HB3.out.trans (hb9.mono HB3.out.size)); clear hb9
  go_wp2
  go_ret
  exact ⟨rfl, HBW.out⟩

set_option maxRecDepth 100000 in
theorem ref_big (s : ByteArray) (n : Int) (hs : s.size ≤ 3000) (h0 : 65536 < n) (w : World) (x : Int)
    (hp : ∀ W, Calls Try.prog 23 #[.string s, .int .i64 n] W (New W (.tuple #[.slice none 0 0, .int .i64 x]))) (hr : ∀ W, Calls Try.prog 24 #[.string s, .int .i64 n] W (New W (.tuple #[.slice none 0 0, .int .i64 x]))) :
    Calls Try.prog 6 #[.string s, .int .i64 n] w (New w (.bool true)) := by
  have HP := Lib.hid hp
  have HR := Lib.hid hr
  clear hp hr
  go_enter Try.func6, Try.ntmps6
  go_wp2_with fail
  refine (HP.out _).mono ?_
  rintro e w1 ⟨rfl, hb1⟩
  have HB1 := Lib.hid hb1; clear hb1
  go_wp2_with fail
  refine (HR.out _).mono ?_
  rintro e w2 ⟨rfl, hb2⟩
  have HB2 := Lib.hid (HB1.out.trans (hb2.mono HB1.out.size)); clear hb2
  go_wp2_with fail
  refine (same_nil _).mono ?_
  rintro e w3 ⟨rfl, hb3⟩
  have HB3 := Lib.hid (HB2.out.trans (hb3.mono HB2.out.size)); clear hb3
  go_wp2_with fail
  refine (works_any _).mono ?_
  rintro e w9 ⟨rfl, hb9⟩
  have HBW := Lib.hid (HB3.out.trans (hb9.mono HB3.out.size)); clear hb9
  go_wp2
  go_ret
  exact ⟨rfl, HBW.out⟩

set_option maxRecDepth 100000 in
theorem yes (s : ByteArray) (n : Nat) (hs : s.size ≤ 3000) (h0 : n ≤ 3000) (h : s.size ≤ n) (ha : s.data.toList.all isC = true) (w : World) :
    Calls Try.prog 6 #[.string s, .int .i64 (n : Int)] w (New w (.bool true)) := by
  have HP := Lib.hid (fun W => pad_yes s n (by omega) (by omega) h ha W)
  have HR := Lib.hid (fun W => rpad_yes s n (by omega) h ha W)
  clear ha
  go_enter Try.func6, Try.ntmps6
  go_wp2_with fail
  refine (HP.out _).mono ?_
  rintro e w1 ⟨sv, rfl, ho1, hb1⟩
  have HB1 := Lib.hid hb1
  have HO1 := Lib.hid ho1
  clear hb1 ho1
  go_wp2_with fail
  refine (HR.out _).mono ?_
  rintro e w2 ⟨tv, rfl, ho2, hb2⟩
  have HB2 := Lib.hid (HB1.out.trans (hb2.mono HB1.out.size))
  have HP2 := Lib.hid (HO1.out.kept hb2)
  have HO2 := Lib.hid ho2
  clear hb2 ho2
  go_wp2_with fail
  refine (same_own HP2.out HO2.out).mono ?_
  rintro e w3 ⟨rfl, hb3⟩
  have HB3 := Lib.hid (HB2.out.trans (hb3.mono HB2.out.size)); clear hb3
  go_wp2_with fail
  refine (works_any _).mono ?_
  rintro e w9 ⟨rfl, hb9⟩
  have HBW := Lib.hid (HB3.out.trans (hb9.mono HB3.out.size)); clear hb9
  go_wp2
  go_ret
  exact ⟨rfl, HBW.out⟩
theorem walk (s : ByteArray) (hm : s.size ≤ 9223372036854775807) (n : Int) (n0 : -9223372036854775808 ≤ n) (n1 : n < 9223372036854775808) (w : World) :
    Calls Try.prog 6 #[.string s, .int .i64 n] w (New w (.bool true)) := by
  by_cases hs : s.size ≤ 3000
  · by_cases h1 : 65536 < n
    · exact ref_big s n hs h1 w 1 (pad_arg s n (.inr h1)) (rpad_arg s n (.inr h1))
    · by_cases h2 : 3000 < n
      · exact wide s n hs h2 (by omega) w
      · by_cases h3 : n < 0
        · exact ref_small s n hs (by omega) w 1 (pad_arg s n (.inl h3)) (rpad_arg s n (.inl h3))
        · by_cases h4 : n < s.size
          · exact ref_small s n hs (by omega) w 2 (pad_long s n (by omega) (by omega) h4 hm) (rpad_long s n (by omega) (by omega) h4 hm)
          · cases ha : s.data.toList.all isC
            · exact ref_small s n hs (by omega) w 20 (pad_char s n (by omega) (by omega) (by omega) ha) (rpad_char s n (by omega) (by omega) (by omega) ha)
            · obtain ⟨m, rfl⟩ := Int.eq_ofNat_of_zero_le (show 0 ≤ n by omega)
              exact yes s m hs (by omega) (by omega) ha w
  · exact long s n hm (by omega) w

set_option maxRecDepth 100000 in
theorem lifted (os : Os) (started : os.Started) (H : Type) (enc : TypeId × Value → H) :
    ReturnsInHanded {} Try.checked os 6 .any (Rows.ebcdicPadsSpec.pre6 enc Try.prog Try.f6 Rows.ebcdicPadsRow.domain false) (Rows.ebcdicPadsSpec.post enc Try.prog Try.f6 false true false false) := by
  refine returnsInHanded_of_change (C := Try.checked) own started (by kernel_rfl) Try.func6
    (ChangeSpec.witness6 (enc := enc) (C := Try.checked) false ⟨#[], #[.string ⟨#[]⟩, .int .i64 0], []⟩ 8 (by kernel_rfl) (by kernel_rfl) (by kernel_rfl) (by kernel_rfl)) ?_
  intro W base args ds gs before hval0 hW hcnd _
  have hval : ∀ (j : Nat) t v, Try.f6.params[j]? = some t → args[j]? = some v → Value.okWide Try.prog W .any base t v := hval0
  have hW' := hW
  obtain ⟨p, q, hA0, hV, rfl, hfz, hnd⟩ := hW
  have hA : DataW.TrodAll enc Try.prog W 0 (fun _ => true) true Try.f6.params.toList args.toList ds p := hA0
  rw [Try.params6] at hA hval
  obtain ⟨v0, vs0, d0, ds0, p0, q0, hargs, rfl, rfl, h0, r0⟩ := trodAll_cons hA
  obtain ⟨v1, vs1, d1, ds1, p1, q1, rfl, rfl, rfl, h1, r1⟩ := trodAll_cons r0
  obtain ⟨rfl, rfl, rfl⟩ := trodAll_nil r1
  obtain rfl : args = #[v0, v1] := by cases args; simp_all
  obtain ⟨rfl, rfl⟩ := trodVars_none hV
  obtain ⟨s0, rfl, rfl, rfl, w0⟩ := open_string Try.underlying9 (hval 0 9 v0 rfl rfl) h0
  obtain ⟨a1, rfl, rfl, rfl, w1⟩ := open_int Try.underlying3 (hval 1 3 v1 rfl rfl) h1
  clear hA0 hval0
  simp only [List.append_nil] at hW'
  refine (walk s0 (by unfold maxLen at w0; omega) a1 (i64_wf w1).1 (i64_wf w1).2 W).mono fun e W' ⟨he, hn⟩ => ?_
  subst he
  exact ⟨_, rfl, _, _, _, [], [], [], hW', trodAll_cons_mk (shut_bool Try.underlying4 _) trodAll_mk0, (trodAll_cons_mk (shut_string Try.underlying9 w0) (trodAll_cons_mk (shut_int Try.underlying3 w1) trodAll_mk0)), rfl, hn.frame _, fun h => by cases h⟩

theorem over : Rows.ebcdicPadsRow.holds Try.pinned (OpenSpec.ofChange Rows.ebcdicPadsSpec) :=
  OpenClaim.holds_of_wide 6 Try.f6 rfl rfl rfl rfl rfl rfl rfl ⟨rfl, rfl, rfl, rfl, rfl⟩ rfl rfl rfl rfl rfl (by kernel_rfl) Try.func6 (by kernel_rfl)
    (of_decide_eq_true (by kernel_rfl)) (by unfold Func.isWrapper; first | (rw [if_pos (by decide +kernel)]; kernel_rfl) | (rw [if_neg (by decide +kernel)]; exact ⟨rfl, rfl⟩))
    (fun os started H enc _ => lifted os started H enc)

theorem proved : Rows.EbcdicPadsSaid :=
  over
#print axioms proved
end Go.Proofs.Ytbehboajhpppjaa.ebcdicPads

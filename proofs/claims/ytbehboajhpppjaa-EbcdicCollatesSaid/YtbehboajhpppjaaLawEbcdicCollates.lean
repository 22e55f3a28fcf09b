/- Blanks, lower case letters, upper case letters and digits have ascending codes: the statement EbcdicCollates, with no condition. -/
import Derived.Test.YtbehboajhpppjaaRows
import Derived.WalkKit
import Derived.ProofKit
import Derived.OpenShut
import Derived.ChangeMaps5
import Derived.Lib.Hide
import Derived.Deep.Cut
import Derived.Deep.DeepMust
import Derived.Deep.QuietTactic
import Derived.BigQuiet
import Derived.OwnWalk
import Derived.Laws.CopyOwn
import Derived.Laws.AppendOwn
import Derived.Laws.OwnMore
import Derived.Laws.AppendOwnNone
import Derived.Deep.Draws
import Derived.Laws.IdiomStrings
import Derived.Below
import Derived.Test.YtbehboajhpppjaaEbWorks
namespace Go.Proofs.Ytbehboajhpppjaa.ebcdicCollates
open Go.ChangeShapes Go.WideShapes Go.ChangeAt Go.RowKit Go.ChangeMaps E
set_option linter.unusedVariables false

theorem own : ownKnob Try.prog.godebug = none := by kernel_rfl

/-- The group of a byte: 1 a blank, 2 a lower case letter, 3 an upper case letter, 4 a digit, 0 any other. -/
def grp (x : UInt8) : Nat := if x.toNat = 32 then 1 else if 97 ≤ x.toNat ∧ x.toNat ≤ 122 then 2 else if 65 ≤ x.toNat ∧ x.toNat ≤ 90 then 3 else if 48 ≤ x.toNat ∧ x.toNat ≤ 57 then 4 else 0
theorem group_any (x : UInt8) (w : World) :
    Calls Try.prog 25 #[.int .u8 (x.toNat : Int)] w fun e w' => e = .returned (.int .i64 (grp x : Int)) ∧ w = w' := by
  have hlt := x.toNat_lt
  unfold grp
  obtain ⟨c, hc⟩ : ∃ c : Nat, x.toNat = c := ⟨_, rfl⟩
  rw [hc] at hlt ⊢
  clear hc
  by_cases h1 : c = 32
  · subst h1
    go_enter Try.func25, Try.ntmps25
    go_wp2
    go_ret
    exact ⟨rfl, rfl⟩
  rw [if_neg h1]
  have n1 : ¬ (c : Int) = 32 := by omega
  clear h1
  by_cases h2 : 97 ≤ c ∧ c ≤ 122
  · rw [if_pos h2]
    go_enter Try.func25, Try.ntmps25
    go_wp2
    go_ret
    exact ⟨rfl, rfl⟩
  rw [if_neg h2]
  by_cases h3 : 65 ≤ c ∧ c ≤ 90
  · rw [if_pos h3]
    have n2 : ¬ (97 : Int) ≤ c := by omega
    clear h2
    go_enter Try.func25, Try.ntmps25
    go_wp2
    go_ret
    exact ⟨rfl, rfl⟩
  rw [if_neg h3]
  by_cases h4 : 48 ≤ c ∧ c ≤ 57
  · rw [if_pos h4]
    have n2 : ¬ (97 : Int) ≤ c := by omega
    have n3 : ¬ (65 : Int) ≤ c := by omega
    clear h2 h3
    go_enter Try.func25, Try.ntmps25
    go_wp2
    go_ret
    exact ⟨rfl, rfl⟩
  rw [if_neg h4]
  by_cases k2 : 97 ≤ c
  · have m2 : ¬ (c : Int) ≤ 122 := by omega
    clear h2 h3 h4
    go_enter Try.func25, Try.ntmps25
    go_wp2
    go_ret
    exact ⟨rfl, rfl⟩
  have n2 : ¬ (97 : Int) ≤ c := by omega
  by_cases k3 : 65 ≤ c
  · have m3 : ¬ (c : Int) ≤ 90 := by omega
    clear h2 h3 h4
    go_enter Try.func25, Try.ntmps25
    go_wp2
    go_ret
    exact ⟨rfl, rfl⟩
  have n3 : ¬ (65 : Int) ≤ c := by omega
  by_cases k4 : 48 ≤ c
  · have m4 : ¬ (c : Int) ≤ 57 := by omega
    clear h2 h3 h4
    go_enter Try.func25, Try.ntmps25
    go_wp2
    go_ret
    exact ⟨rfl, rfl⟩
  have n4 : ¬ (48 : Int) ≤ c := by omega
  clear h2 h3 h4
  go_enter Try.func25, Try.ntmps25
  go_wp2
  go_ret
  exact ⟨rfl, rfl⟩
theorem grp_c : ∀ x : UInt8, grp x ≠ 0 → isC x = true := all256 (p := fun x => grp x ≠ 0 → isC x = true) (by decide +kernel)
theorem grp_1 : ∀ x : UInt8, grp x = 1 → (codeV x).toNat = 64 := all256 (p := fun x => grp x = 1 → (codeV x).toNat = 64) (by decide +kernel)
theorem grp_2 : ∀ x : UInt8, grp x = 2 → 129 ≤ (codeV x).toNat ∧ (codeV x).toNat ≤ 169 := all256 (p := fun x => grp x = 2 → 129 ≤ (codeV x).toNat ∧ (codeV x).toNat ≤ 169) (by decide +kernel)
theorem grp_3 : ∀ x : UInt8, grp x = 3 → 193 ≤ (codeV x).toNat ∧ (codeV x).toNat ≤ 233 := all256 (p := fun x => grp x = 3 → 193 ≤ (codeV x).toNat ∧ (codeV x).toNat ≤ 233) (by decide +kernel)
theorem grp_4 : ∀ x : UInt8, grp x = 4 → 240 ≤ (codeV x).toNat := all256 (p := fun x => grp x = 4 → 240 ≤ (codeV x).toNat) (by decide +kernel)
theorem grp_r (x : UInt8) : (grp x = 1 → x.toNat = 32) ∧ (grp x = 2 → 97 ≤ x.toNat ∧ x.toNat ≤ 122) ∧ (grp x = 3 → 65 ≤ x.toNat ∧ x.toNat ≤ 90) ∧ (grp x = 4 → 48 ≤ x.toNat ∧ x.toNat ≤ 57) ∧ grp x ≤ 4 := by
  unfold grp
  split
  · omega
  · split
    · omega
    · split
      · omega
      · split <;> omega
/-- Behind a character of a group comes, at a distance of at most 25, one of a higher code. -/
theorem grp_next : ∀ n : Nat, n < 256 → ∀ d : Nat, d < 26 → n + d + 1 < 256 → grp (UInt8.ofNat n) ≠ 0 → grp (UInt8.ofNat (n + d + 1)) = grp (UInt8.ofNat n) → (codeV (UInt8.ofNat n)).toNat < (codeV (UInt8.ofNat (n + d + 1))).toNat := by decide +kernel
theorem grp_near (x y : UInt8) (h : grp x ≠ 0) (he : grp x = grp y) (hl : x.toNat < y.toNat) : y.toNat < x.toNat + 26 := by
  have h1 := grp_r x
  have h2 := grp_r y
  omega
theorem collate (x y : UInt8) (hx : grp x ≠ 0) (hy : grp y ≠ 0) (h : grp x < grp y ∨ (grp x = grp y ∧ x.toNat < y.toNat)) : (codeV x).toNat < (codeV y).toNat := by
  rcases h with h | ⟨h, hl⟩
  · have a1 := grp_1 x
    have a2 := grp_2 x
    have a3 := grp_3 x
    have b2 := grp_2 y
    have b3 := grp_3 y
    have b4 := grp_4 y
    have r1 := grp_r x
    have r2 := grp_r y
    omega
  · have hn := grp_near x y hx h hl
    have hy2 := y.toNat_lt
    have hx2 := x.toNat_lt
    have := grp_next x.toNat (by omega) (y.toNat - x.toNat - 1) (by omega) (by omega)
    rw [show x.toNat + (y.toNat - x.toNat - 1) + 1 = y.toNat by omega, UInt8.ofNat_toNat, UInt8.ofNat_toNat] at this
    exact this hx h.symm

set_option maxRecDepth 100000 in
theorem walk (x y : UInt8) (w : World) :
    Calls Try.prog 9 #[.int .u8 (x.toNat : Int), .int .u8 (y.toNat : Int)] w (New w (.bool true)) := by
  have HX := Lib.hid (group_any x)
  have HY := Lib.hid (group_any y)
  have HCX := Lib.hid (code_any x)
  have HCY := Lib.hid (code_any y)
  have hcol := collate x y
  have hgx := grp_c x
  have hgy := grp_c y
  obtain ⟨g, hg⟩ : ∃ g, grp x = g := ⟨_, rfl⟩
  obtain ⟨h, hh⟩ : ∃ h, grp y = h := ⟨_, rfl⟩
  obtain ⟨c, hc⟩ : ∃ c, x.toNat = c := ⟨_, rfl⟩
  obtain ⟨d, hd⟩ : ∃ d, y.toNat = d := ⟨_, rfl⟩
  rw [hg, hh, hc, hd] at hcol
  rw [hg] at HX hgx
  rw [hh] at HY hgy
  rw [hc] at HX HCX ⊢
  rw [hd] at HY HCY ⊢
  clear hg hh hc hd
  by_cases g0 : g = 0
  · subst g0
    clear hcol hgx hgy
    go_enter Try.func9, Try.ntmps9
    go_wp2_with fail
    refine (HX.out _).mono ?_
    rintro e w' ⟨rfl, rfl⟩
    go_wp2_with fail
    refine (HY.out _).mono ?_
    rintro e w' ⟨rfl, rfl⟩
    go_wp2_with fail
    refine (works_any _).mono ?_
    rintro e w9 ⟨rfl, hb9⟩
    have HBW := Lib.hid hb9; clear hb9
    go_wp2
    go_ret
    exact ⟨rfl, HBW.out⟩

  by_cases h0 : h = 0
  · subst h0
    have n0 : ((g : Int) == 0) = false := by simp; omega
    clear hcol hgx hgy
    go_enter Try.func9, Try.ntmps9
    go_wp2_with fail
    refine (HX.out _).mono ?_
    rintro e w' ⟨rfl, rfl⟩
    go_wp2_with fail
    refine (HY.out _).mono ?_
    rintro e w' ⟨rfl, rfl⟩
    go_wp2_with fail
    refine (works_any _).mono ?_
    rintro e w9 ⟨rfl, hb9⟩
    have HBW := Lib.hid hb9; clear hb9
    go_wp2
    go_ret
    exact ⟨rfl, HBW.out⟩

  have n0 : ((g : Int) == 0) = false := by simp; omega
  have n1 : ((h : Int) == 0) = false := by simp; omega
  by_cases hlt : h < g
  · clear hcol hgx hgy
    go_enter Try.func9, Try.ntmps9
    go_wp2_with fail
    refine (HX.out _).mono ?_
    rintro e w' ⟨rfl, rfl⟩
    go_wp2_with fail
    refine (HY.out _).mono ?_
    rintro e w' ⟨rfl, rfl⟩
    go_wp2_with fail
    refine (works_any _).mono ?_
    rintro e w9 ⟨rfl, hb9⟩
    have HBW := Lib.hid hb9; clear hb9
    go_wp2
    go_ret
    exact ⟨rfl, HBW.out⟩

  have n2 : ¬ (h : Int) < g := by omega
  by_cases heq : g = h
  · subst heq
    by_cases hcd : d ≤ c
    · clear hcol hgx hgy
      go_enter Try.func9, Try.ntmps9
      go_wp2_with fail
      refine (HX.out _).mono ?_
      rintro e w' ⟨rfl, rfl⟩
      go_wp2_with fail
      refine (HY.out _).mono ?_
      rintro e w' ⟨rfl, rfl⟩
      go_wp2_with fail
      refine (works_any _).mono ?_
      rintro e w9 ⟨rfl, hb9⟩
      have HBW := Lib.hid hb9; clear hb9
      go_wp2
      go_ret
      exact ⟨rfl, HBW.out⟩

    · have n3 : ¬ (d : Int) ≤ c := by omega
      have hres := hcol g0 h0 (.inr ⟨rfl, by omega⟩)
      rw [hgx g0] at HCX
      rw [hgy h0] at HCY
      have hi : ((codeV x).toNat : Int) < ((codeV y).toNat : Int) := by omega
      clear hcol hgx hgy hres
      go_enter Try.func9, Try.ntmps9
      go_wp2_with fail
      refine (HX.out _).mono ?_
      rintro e w' ⟨rfl, rfl⟩
      go_wp2_with fail
      refine (HY.out _).mono ?_
      rintro e w' ⟨rfl, rfl⟩
      go_wp2_with fail
      refine (HCX.out _).mono ?_
      rintro e w' ⟨rfl, rfl⟩
      go_wp2_with fail
      refine (HCY.out _).mono ?_
      rintro e w' ⟨rfl, rfl⟩
      go_wp2_with fail
      refine (works_any _).mono ?_
      rintro e w9 ⟨rfl, hb9⟩
      have HBW := Lib.hid hb9; clear hb9
      go_wp2
      go_ret
      exact ⟨rfl, HBW.out⟩

  · have n3 : ((g : Int) == (h : Int)) = false := by simp; omega
    have hres := hcol g0 h0 (.inl (by omega))
    rw [hgx g0] at HCX
    rw [hgy h0] at HCY
    have hi : ((codeV x).toNat : Int) < ((codeV y).toNat : Int) := by omega
    clear hcol hgx hgy hres
    go_enter Try.func9, Try.ntmps9
    go_wp2_with fail
    refine (HX.out _).mono ?_
    rintro e w' ⟨rfl, rfl⟩
    go_wp2_with fail
    refine (HY.out _).mono ?_
    rintro e w' ⟨rfl, rfl⟩
    go_wp2_with fail
    refine (HCX.out _).mono ?_
    rintro e w' ⟨rfl, rfl⟩
    go_wp2_with fail
    refine (HCY.out _).mono ?_
    rintro e w' ⟨rfl, rfl⟩
    go_wp2_with fail
    refine (works_any _).mono ?_
    rintro e w9 ⟨rfl, hb9⟩
    have HBW := Lib.hid hb9; clear hb9
    go_wp2
    go_ret
    exact ⟨rfl, HBW.out⟩


set_option maxRecDepth 100000 in
theorem lifted (os : Os) (started : os.Started) (H : Type) (enc : TypeId × Value → H) :
    ReturnsInHanded {} Try.checked os 9 .any (Rows.ebcdicCollatesSpec.pre6 enc Try.prog Try.f9 Rows.ebcdicCollatesRow.domain false) (Rows.ebcdicCollatesSpec.post enc Try.prog Try.f9 false true false false) := by
  refine returnsInHanded_of_change (C := Try.checked) own started (by kernel_rfl) Try.func9
    (ChangeSpec.witness6 (enc := enc) (C := Try.checked) false ⟨#[], #[.int .u8 0, .int .u8 0], []⟩ 8 (by kernel_rfl) (by kernel_rfl) (by kernel_rfl) (by kernel_rfl)) ?_
  intro W base args ds gs before hval0 hW hcnd _
  have hval : ∀ (j : Nat) t v, Try.f9.params[j]? = some t → args[j]? = some v → Value.okWide Try.prog W .any base t v := hval0
  have hW' := hW
  obtain ⟨p, q, hA0, hV, rfl, hfz, hnd⟩ := hW
  have hA : DataW.TrodAll enc Try.prog W 0 (fun _ => true) true Try.f9.params.toList args.toList ds p := hA0
  rw [Try.params9] at hA hval
  obtain ⟨v0, vs0, d0, ds0, p0, q0, hargs, rfl, rfl, h0, r0⟩ := trodAll_cons hA
  obtain ⟨v1, vs1, d1, ds1, p1, q1, rfl, rfl, rfl, h1, r1⟩ := trodAll_cons r0
  obtain ⟨rfl, rfl, rfl⟩ := trodAll_nil r1
  obtain rfl : args = #[v0, v1] := by cases args; simp_all
  obtain ⟨rfl, rfl⟩ := trodVars_none hV
  obtain ⟨a0, rfl, rfl, rfl, w0⟩ := open_int Try.underlying5 (hval 0 5 v0 rfl rfl) h0
  obtain ⟨x0, rfl⟩ := u8_of w0
  obtain ⟨a1, rfl, rfl, rfl, w1⟩ := open_int Try.underlying5 (hval 1 5 v1 rfl rfl) h1
  obtain ⟨x1, rfl⟩ := u8_of w1
  clear hA0 hval0
  simp only [List.append_nil] at hW'
  refine (walk x0 x1 W).mono fun e W' ⟨he, hn⟩ => ?_
  subst he
  exact ⟨_, rfl, _, _, _, [], [], [], hW', trodAll_cons_mk (shut_bool Try.underlying4 _) trodAll_mk0, (trodAll_cons_mk (shut_int Try.underlying5 w0) (trodAll_cons_mk (shut_int Try.underlying5 w1) trodAll_mk0)), rfl, hn.frame _, fun h => by cases h⟩

theorem over : Rows.ebcdicCollatesRow.holds Try.pinned (OpenSpec.ofChange Rows.ebcdicCollatesSpec) :=
  OpenClaim.holds_of_wide 9 Try.f9 rfl rfl rfl rfl rfl rfl rfl ⟨rfl, rfl, rfl, rfl, rfl⟩ rfl rfl rfl rfl rfl (by kernel_rfl) Try.func9 (by kernel_rfl)
    (of_decide_eq_true (by kernel_rfl)) (by unfold Func.isWrapper; first | (rw [if_pos (by decide +kernel)]; kernel_rfl) | (rw [if_neg (by decide +kernel)]; exact ⟨rfl, rfl⟩))
    (fun os started H enc _ => lifted os started H enc)

theorem proved : Rows.EbcdicCollatesSaid :=
  over
#print axioms proved
end Go.Proofs.Ytbehboajhpppjaa.ebcdicCollates

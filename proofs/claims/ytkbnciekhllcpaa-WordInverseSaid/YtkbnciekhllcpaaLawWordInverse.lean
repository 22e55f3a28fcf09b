/- Subtraction undoes addition, signed and logical results agree, and the codes are those of the exact results, for any two words: the statement WordInverse, with no condition. -/
import Derived.Test.YtkbnciekhllcpaaRows
import Derived.WalkKit
import Derived.ProofKit
import Derived.OpenShut
import Derived.Lib.Hide
import Derived.Lib.SmallJoins
import Derived.Deep.QuietTactic
import Derived.BigQuiet
import Derived.Test.YtkbnciekhllcpaaWordLaws
namespace Go.Proofs.Ytkbnciekhllcpaa.wordInverse
open Go.ChangeShapes Go.WideShapes Go.ChangeAt Go.RowKit Go.Joins W
set_option linter.unusedVariables false

theorem own : ownKnob Try.prog.godebug = none := by kernel_rfl


theorem sadd {a b : Int} : (sg a + sg b) % 4294967296 = (a + b) % 4294967296 := by have := sg_cases a; have := sg_cases b; omega
theorem ssub {a b : Int} : (sg a - sg b) % 4294967296 = (a - b) % 4294967296 := by have := sg_cases a; have := sg_cases b; omega
theorem over_of (x : Int) : (x != sg (x % 4294967296)) = !inR x := by
  rcases Bool.eq_false_or_eq_true (inR x) with h | h
  · rw [h, sg_low h]; simp
  · have := sg_low_ne h
    rw [h]; simp only [Bool.not_false, bne_iff_ne, ne_eq]; exact fun e => this e.symm
theorem ncc_in {x : Int} (h : (!inR x) = false) : ncc x = ord x 0 := by unfold ncc; rw [if_pos (by simpa using h)]
theorem ncc_out {x : Int} (h : (!inR x) = true) : ncc x = 3 := by unfold ncc; rw [if_neg (by simpa using h)]
theorem lcc_bd (v : Int) (c : Bool) : 0 ≤ lcc v c ∧ lcc v c ≤ 3 := by unfold lcc; (repeat' split) <;> omega
theorem lcc_odd (v : Int) (c : Bool) : (lcc v c % 2 == 1) = (v != 0) := by
  rw [Bool.eq_iff_iff]; simp only [beq_iff_eq, bne_iff_ne, ne_eq]; unfold lcc; (repeat' split) <;> omega
theorem lcc_high (v : Int) (p : Prop) [Decidable p] : decide (2 ≤ lcc v (decide p)) = decide p := by
  rw [decide_eq_decide]; unfold lcc; by_cases h : p <;> simp [h] <;> split <;> omega
theorem lcc_half (v x : Int) (h0 : 0 ≤ x) (h1 : x < 8589934592) : (lcc v (decide (4294967296 ≤ x)) / 2 == x / 4294967296) = true := by
  rw [beq_iff_eq]; unfold lcc; by_cases h : 4294967296 ≤ x <;> simp [h] <;> split <;> omega

set_option maxRecDepth 100000 in
theorem core (a b s d n cc dd ee ff : Int) (over less : Bool) (a0 : 0 ≤ a) (a1 : a < 4294967296) (b0 : 0 ≤ b) (b1 : b < 4294967296)
    (s0 : 0 ≤ s) (s1 : s < 4294967296) (d0 : 0 ≤ d) (d1 : d < 4294967296) (n0 : 0 ≤ n) (n1 : n < 4294967296)
    (HA : Hid (∀ w : World, Calls Try.prog 30 #[.int .u32 a, .int .u32 b] w fun e w' => e = .returned (.tuple #[.int .u32 s, .int .i64 cc, .bool over]) ∧ w = w'))
    (HL : Hid (∀ w : World, Calls Try.prog 36 #[.int .u32 a, .int .u32 b] w fun e w' => e = .returned (.tuple #[.int .u32 s, .int .i64 dd]) ∧ w = w'))
    (x2 : Int) (y2 : Bool)
    (HB : Hid (∀ w : World, Calls Try.prog 32 #[.int .u32 s, .int .u32 b] w fun e w' => e = .returned (.tuple #[.int .u32 a, .int .i64 x2, .bool y2]) ∧ w = w'))
    (HS : Hid (∀ w : World, Calls Try.prog 32 #[.int .u32 a, .int .u32 b] w fun e w' => e = .returned (.tuple #[.int .u32 d, .int .i64 ee, .bool less]) ∧ w = w'))
    (HT : Hid (∀ w : World, Calls Try.prog 38 #[.int .u32 a, .int .u32 b] w fun e w' => e = .returned (.tuple #[.int .u32 d, .int .i64 ff]) ∧ w = w'))
    (x3 : Int) (y3 : Bool)
    (HN : Hid (∀ w : World, Calls Try.prog 34 #[.int .u32 b] w fun e w' => e = .returned (.tuple #[.int .u32 n, .int .i64 x3, .bool y3]) ∧ w = w'))
    (x4 : Int)
    (HM : Hid (∀ w : World, Calls Try.prog 36 #[.int .u32 a, .int .u32 n] w fun e w' => e = .returned (.tuple #[.int .u32 d, .int .i64 x4]) ∧ w = w'))
    (hn : ((n + b) % 4294967296 != 0) = false)
    (ho : (sg a + sg b != sg s) = over) (hl : (sg a - sg b != sg d) = less)
    (hcc : over = false → cc = ord (sg a + sg b) 0) (hcc3 : over = true → cc = 3)
    (hee : less = false → ee = ord (sg a - sg b) 0) (hee3 : less = true → ee = 3)
    (hd0 : 0 ≤ dd) (hd3 : dd ≤ 3) (hf0 : 0 ≤ ff) (hf3 : ff ≤ 3)
    (k1 : (dd / 2 == (a + b) / 4294967296) = true) (k2 : (dd % 2 == 1) = (s != 0))
    (k3 : decide (2 ≤ ff) = decide (b ≤ a)) (k4 : (ff % 2 == 1) = (d != 0)) (w : World) :
    Calls Try.prog 10 #[.int .u32 a, .int .u32 b] w fun e w' => e = .returned (.bool true) ∧ Grown w w' := by
  have sa := sg_bd a0 a1
  have sb := sg_bd b0 b1
  have ss := sg_bd s0 s1
  have sd := sg_bd d0 d1
  cases over <;> cases less <;> (try have hcc := hcc rfl) <;> (try have hcc := hcc3 rfl) <;> (try have hee := hee rfl) <;> (try have hee := hee3 rfl) <;> subst hcc <;> subst hee <;> clear hcc3 hee3
  all_goals
    go_enter Try.func10, Try.ntmps10
    go_wp2_with fail
    refine (HA.out _).mono ?_
    rintro e w' ⟨rfl, rfl⟩
    go_wp2_with fail
    refine (HL.out _).mono ?_
    rintro e w' ⟨rfl, rfl⟩
    go_wp2_with fail
    refine (HB.out _).mono ?_
    rintro e w' ⟨rfl, rfl⟩
    go_wp2_with fail
    refine (HS.out _).mono ?_
    rintro e w' ⟨rfl, rfl⟩
    go_wp2_with fail
    refine (HT.out _).mono ?_
    rintro e w' ⟨rfl, rfl⟩
    go_wp2_with fail
    refine (HN.out _).mono ?_
    rintro e w' ⟨rfl, rfl⟩
    go_wp2_with fail
    refine (HM.out _).mono ?_
    rintro e w' ⟨rfl, rfl⟩
    clear HA HL HB HS HT HN HM
    go_wp2_with (first | (go_at_call 62; refine (lsigned_any _ (by omega) (by omega) _).mono ?_; rintro e w' ⟨rfl, rfl⟩) | (go_at_call 63; refine (lcode_any _ _).mono ?_; rintro e w' ⟨rfl, rfl⟩) | (go_at_call 18; refine (works_any _).mono ?_; rintro e w' ⟨rfl, hg, hb⟩; clear hb))

    go_ret
    exact ⟨rfl, hg⟩

theorem walk (a0 : Int) (w0 : (Lit.int .u32 a0).wf = true) (a1 : Int) (w1 : (Lit.int .u32 a1).wf = true) (w : World) :
    Calls Try.prog 10 #[.int .u32 a0, .int .u32 a1] w fun e w' => e = .returned (.bool true) ∧ Grown w w' := by
  have h0 := u32_wf w0
  have h1 := u32_wf w1
  clear w0 w1
  obtain ⟨a0', a1'⟩ := h0
  obtain ⟨b0', b1'⟩ := h1
  refine core a0 a1 ((a0 + a1) % 4294967296) ((a0 - a1) % 4294967296) ((sg 0 - sg a1) % 4294967296) (ncc (sg a0 + sg a1)) (lcc ((a0 + a1) % 4294967296) (decide (4294967296 ≤ a0 + a1))) (ncc (sg a0 - sg a1)) (lcc ((a0 - a1) % 4294967296) (decide (a1 ≤ a0)))
    (!inR (sg a0 + sg a1)) (!inR (sg a0 - sg a1)) a0' a1' b0' b1' (by omega) (by omega) (by omega) (by omega) (by omega) (by omega)
    (Lib.hid fun w => by have h := wAdd_any a0 a1 a0' a1' b0' b1' w; rw [sadd] at h; exact h)
    (Lib.hid fun w => wAddLogical_any a0 a1 a0' a1' b0' b1' w)
    (ncc (sg ((a0 + a1) % 4294967296) - sg a1)) (!inR (sg ((a0 + a1) % 4294967296) - sg a1))
    (Lib.hid fun w => by have h := wSub_any ((a0 + a1) % 4294967296) a1 (by omega) (by omega) b0' b1' w; rw [show (sg ((a0 + a1) % 4294967296) - sg a1) % 4294967296 = a0 by rw [ssub]; omega] at h; exact h)
    (Lib.hid fun w => by have h := wSub_any a0 a1 a0' a1' b0' b1' w; rw [ssub] at h; exact h)
    (Lib.hid fun w => wSubLogical_any a0 a1 a0' a1' b0' b1' w)
    (ncc (sg 0 - sg a1)) (!inR (sg 0 - sg a1))
    (Lib.hid fun w => wComplement_any a1 b0' b1' w)
    (lcc ((a0 - a1) % 4294967296) (decide (4294967296 ≤ a0 + (sg 0 - sg a1) % 4294967296)))
    (Lib.hid fun w => by have h := wAddLogical_any a0 ((sg 0 - sg a1) % 4294967296) a0' a1' (by omega) (by omega) w; rw [show (a0 + (sg 0 - sg a1) % 4294967296) % 4294967296 = (a0 - a1) % 4294967296 by rw [ssub]; omega] at h; exact h)
    ?_ ?_ ?_ (fun h => ncc_in h) (fun h => ncc_out h) (fun h => ncc_in h) (fun h => ncc_out h) (lcc_bd _ _).1 (lcc_bd _ _).2 (lcc_bd _ _).1 (lcc_bd _ _).2
    (lcc_half _ _ (by omega) (by omega)) (lcc_odd _ _) (lcc_high _ _) (lcc_odd _ _) w
  · rw [ssub]; simp only [bne_eq_false_iff_eq]; omega
  · rw [← over_of, sadd]
  · rw [← over_of, ssub]

set_option maxRecDepth 100000 in
theorem lifted (os : Os) (started : os.Started) (H : Type) (enc : TypeId × Value → H) :
    ReturnsInHanded {} Try.checked os 10 .any (Rows.wordInverseSpec.pre6 enc Try.prog Try.f10 Rows.wordInverseRow.domain false) (Rows.wordInverseSpec.post enc Try.prog Try.f10 false true false false) := by
  refine returnsInHanded_of_change (C := Try.checked) own started (by kernel_rfl) Try.func10
    (ChangeSpec.witness6 (enc := enc) (C := Try.checked) false ⟨#[], #[.int .u32 0, .int .u32 0], []⟩ 8 (by kernel_rfl) (by kernel_rfl) (by kernel_rfl) (by kernel_rfl)) ?_
  intro W base args ds gs before hval0 hW hcnd _
  have hval : ∀ (j : Nat) t v, Try.f10.params[j]? = some t → args[j]? = some v → Value.okWide Try.prog W .any base t v := hval0
  have hW' := hW
  obtain ⟨p, q, hA0, hV, rfl, hfz, hnd⟩ := hW
  have hA : DataW.TrodAll enc Try.prog W 0 (fun _ => true) true Try.f10.params.toList args.toList ds p := hA0
  rw [Try.params10] at hA hval
  obtain ⟨v0, vs0, d0, ds0, p0, q0, hargs, rfl, rfl, h0, r0⟩ := trodAll_cons hA
  obtain ⟨v1, vs1, d1, ds1, p1, q1, rfl, rfl, rfl, h1, r1⟩ := trodAll_cons r0
  obtain ⟨rfl, rfl, rfl⟩ := trodAll_nil r1
  obtain rfl : args = #[v0, v1] := by cases args; simp_all
  obtain ⟨rfl, rfl⟩ := trodVars_none hV
  obtain ⟨a0, rfl, rfl, rfl, w0⟩ := open_int Try.underlying23 (hval 0 23 v0 rfl rfl) h0
  obtain ⟨a1, rfl, rfl, rfl, w1⟩ := open_int Try.underlying23 (hval 1 23 v1 rfl rfl) h1
  clear hA0 hval0
  simp only [List.append_nil] at hW'
  refine (walk a0 w0 a1 w1 W).mono fun e W' ⟨he, hg⟩ => ?_
  subst he
  exact ⟨_, rfl, post_of_same (pa := []) (pv := []) hW' (fun _ _ _ => (trodAll_cons_mk (shut_bool Try.underlying4 _) trodAll_mk0)) (fun sp _ => (trodAll_cons_mk (shut_int Try.underlying23 w0) (trodAll_cons_mk (shut_int Try.underlying23 w1) trodAll_mk0))) (fun _ _ => rfl) rfl
    (hg.frame _) hg.2.1 (ok_one (by kernel_rfl) rfl (okWide_bool_mk Try.underlying4 _))⟩

theorem over : Rows.wordInverseRow.holds Try.pinned (OpenSpec.ofChange Rows.wordInverseSpec) :=
  OpenClaim.holds_of_wide 10 Try.f10 rfl rfl rfl rfl rfl rfl rfl ⟨rfl, rfl, rfl, rfl, rfl⟩ rfl rfl rfl rfl rfl (by kernel_rfl) Try.func10 (by kernel_rfl)
    (of_decide_eq_true (by kernel_rfl)) (by unfold Func.isWrapper; first | (rw [if_pos (by decide +kernel)]; kernel_rfl) | (rw [if_neg (by decide +kernel)]; exact ⟨rfl, rfl⟩))
    (fun os started H enc _ => lifted os started H enc)

theorem proved : Rows.WordInverseSaid :=
  over
#print axioms proved
end Go.Proofs.Ytkbnciekhllcpaa.wordInverse

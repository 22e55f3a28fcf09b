/- The shifts of a double word are as the document says, for any double word, any number of places and both directions: the statement WordLongShifts, with no condition. -/
import Derived.Test.YtkbnciekhllcpaaRows
import Derived.WalkKit
import Derived.ProofKit
import Derived.OpenShut
import Derived.Lib.SmallJoins
import Derived.Deep.QuietTactic
import Derived.BigQuiet
import Derived.Test.YtkbnciekhllcpaaWordRead
import Derived.Test.YtkbnciekhllcpaaWordRShifts
namespace Go.Proofs.Ytkbnciekhllcpaa.wordLongShifts
open Go.ChangeShapes Go.WideShapes Go.ChangeAt Go.RowKit Go.Joins W
set_option linter.unusedVariables false

theorem own : ownKnob Try.prog.godebug = none := by kernel_rfl

theorem walk (a0f0 : Int) (a0f1 : Int) (a0f2 : Int) (a0f3 : Bool) (w0f0 : (Lit.int .u32 a0f0).wf = true) (w0f1 : (Lit.int .u32 a0f1).wf = true) (w0f2 : (Lit.int .i64 a0f2).wf = true) (w : World) :
    Calls Try.prog 8 #[.agg #[.int .u32 a0f0, .int .u32 a0f1, .int .i64 a0f2, .bool a0f3]] w fun e w' => e = .returned (.bool true) ∧ Grown w w' := by
  have b0 := u32_wf w0f0
  have b1 := u32_wf w0f1
  have b2 := i64_wf w0f2
  clear w0f0 w0f1 w0f2
  go_enter Try.func8, Try.ntmps8
  go_wp2_with fail
  refine (works_any _).mono ?_
  rintro e w1 ⟨rfl, hg, hb⟩
  have hc0_0 : w1.cell? ⟨w.heap.size, 0, none⟩ = some (.int .u32 a0f0) := by rw [hb.cell (by simp)]; simp [go_sem]
  have hc0_1 : w1.cell? ⟨w.heap.size, 1, none⟩ = some (.int .u32 a0f1) := by rw [hb.cell (by simp)]; simp [go_sem]
  have hc0_2 : w1.cell? ⟨w.heap.size, 2, none⟩ = some (.int .i64 a0f2) := by rw [hb.cell (by simp)]; simp [go_sem]
  have hc0_3 : w1.cell? ⟨w.heap.size, 3, none⟩ = some (.bool a0f3) := by rw [hb.cell (by simp)]; simp [go_sem]
  have hg' := ((Grown.refl w).alloc #[.int .u32 a0f0, .int .u32 a0f1, .int .i64 a0f2, .bool a0f3] 50)
  have HG := Lib.hid (grownThen hg' hg); clear hg hg' hb
  go_wp2
  go_quiet (fail)
  go_wp2_with fail
  refine (wShiftLeftDouble_any _ _ _ b0.1 b0.2 b1.1 b1.2 b2.1 b2.2 _).mono ?_
  rintro e w' ⟨rfl, rfl⟩
  go_wp2_with fail
  refine (rShiftLeftDouble_any _ _ _ b0.1 b0.2 b1.1 b1.2 b2.1 b2.2 _).mono ?_
  rintro e w' ⟨rfl, rfl⟩
  go_wp2_with fail
  refine (wShiftRightDouble_any _ _ _ b0.1 b0.2 b1.1 b1.2 b2.1 b2.2 _).mono ?_
  rintro e w' ⟨rfl, rfl⟩
  go_wp2_with fail
  refine (rShiftRightDouble_any _ _ _ b0.1 b0.2 b1.1 b1.2 b2.1 b2.2 _).mono ?_
  rintro e w' ⟨rfl, rfl⟩
  go_wp2_with fail
  refine (wShiftLogicalDouble_any _ _ _ _ b0.1 b0.2 b1.1 b1.2 b2.1 b2.2 _).mono ?_
  rintro e w' ⟨rfl, rfl⟩
  go_wp2_with fail
  refine (rShiftLogicalDouble_any _ _ _ _ b0.1 b0.2 b1.1 b1.2 b2.1 b2.2 _).mono ?_
  rintro e w' ⟨rfl, rfl⟩
  go_wp2
  go_ret
  exact ⟨rfl, HG.out⟩

set_option maxRecDepth 100000 in
theorem lifted (os : Os) (started : os.Started) (H : Type) (enc : TypeId × Value → H) :
    ReturnsInHanded {} Try.checked os 8 .any (Rows.wordLongShiftsSpec.pre6 enc Try.prog Try.f8 Rows.wordLongShiftsRow.domain false) (Rows.wordLongShiftsSpec.post enc Try.prog Try.f8 false true false false) := by
  refine returnsInHanded_of_change (C := Try.checked) own started (by kernel_rfl) Try.func8
    (ChangeSpec.witness6 (enc := enc) (C := Try.checked) false ⟨#[], #[.agg #[.int .u32 0, .int .u32 0, .int .i64 0, .bool false]], []⟩ 8 (by kernel_rfl) (by kernel_rfl) (by kernel_rfl) (by kernel_rfl)) ?_
  intro W base args ds gs before hval0 hW hcnd _
  have hval : ∀ (j : Nat) t v, Try.f8.params[j]? = some t → args[j]? = some v → Value.okWide Try.prog W .any base t v := hval0
  have hW' := hW
  obtain ⟨p, q, hA0, hV, rfl, hfz, hnd⟩ := hW
  have hA : DataW.TrodAll enc Try.prog W 0 (fun _ => true) true Try.f8.params.toList args.toList ds p := hA0
  rw [Try.params8] at hA hval
  obtain ⟨v0, vs0, d0, ds0, p0, q0, hargs, rfl, rfl, h0, r0⟩ := trodAll_cons hA
  obtain ⟨rfl, rfl, rfl⟩ := trodAll_nil r0
  obtain rfl : args = #[v0] := by cases args; simp_all
  obtain ⟨rfl, rfl⟩ := trodVars_none hV
  obtain ⟨c0_0, c0_1, c0_2, c0_3, y0_0, y0_1, y0_2, y0_3, m0, rfl, rfl, rfl, hy0_0, hy0_1, hy0_2, hy0_3⟩ := open_agg4 Try.underlying50 (by kernel_rfl) (show Try.prog.cellsOf 50 = 4 by kernel_rfl) (hval 0 50 v0 rfl rfl) h0
  obtain ⟨a0f0, e0_0, rfl, w0f0⟩ := DataW.trod_int Try.underlying23 hy0_0
  obtain ⟨a0f1, e0_1, rfl, w0f1⟩ := DataW.trod_int Try.underlying23 hy0_1
  obtain ⟨a0f2, e0_2, rfl, w0f2⟩ := DataW.trod_int Try.underlying3 hy0_2
  obtain ⟨a0f3, e0_3, rfl⟩ := DataW.trod_bool Try.underlying4 hy0_3
  simp only [List.cons.injEq, and_true] at e0_0 e0_1 e0_2 e0_3
  subst e0_0 e0_1 e0_2 e0_3
  have reads0 : ∀ (W' : World) (sp : Nat → Bool), DataW.Trod enc Try.prog W' 0 sp true 50 (.agg #[.int .u32 a0f0, .int .u32 a0f1, .int .i64 a0f2, .bool a0f3]) (.agg [.lit (.int .u32 a0f0), .lit (.int .u32 a0f1), .lit (.int .i64 a0f2), .lit (.bool a0f3)]) [] := fun W' sp =>
    shut_agg4 (y0 := (.lit (.int .u32 a0f0), [])) (y1 := (.lit (.int .u32 a0f1), [])) (y2 := (.lit (.int .i64 a0f2), [])) (y3 := (.lit (.bool a0f3), [])) Try.underlying50 (by kernel_rfl) (show Try.prog.cellsOf 50 = 4 by kernel_rfl) ⟨1, by simp [DataW.trod, Try.underlying23, w0f0]⟩ ⟨1, by simp [DataW.trod, Try.underlying23, w0f1]⟩ ⟨1, by simp [DataW.trod, Try.underlying3, w0f2]⟩ ⟨1, by simp [DataW.trod, Try.underlying4]⟩
  clear hA0 hval0
  simp only [List.append_nil] at hW'
  refine (walk a0f0 a0f1 a0f2 a0f3 w0f0 w0f1 w0f2 W).mono fun e W' ⟨he, hg⟩ => ?_
  subst he
  exact ⟨_, rfl, post_of_same (pa := []) (pv := []) hW' (fun _ _ _ => (trodAll_cons_mk (shut_bool Try.underlying4 _) trodAll_mk0)) (fun sp _ => (trodAll_cons_mk (reads0 _ sp) trodAll_mk0)) (fun _ _ => rfl) rfl
    (hg.frame _) hg.2.1 (ok_one (by kernel_rfl) rfl (okWide_bool_mk Try.underlying4 _))⟩

theorem over : Rows.wordLongShiftsRow.holds Try.pinned (OpenSpec.ofChange Rows.wordLongShiftsSpec) :=
  OpenClaim.holds_of_wide 8 Try.f8 rfl rfl rfl rfl rfl rfl rfl ⟨rfl, rfl, rfl, rfl, rfl⟩ rfl rfl rfl rfl rfl (by kernel_rfl) Try.func8 (by kernel_rfl)
    (of_decide_eq_true (by kernel_rfl)) (by unfold Func.isWrapper; first | (rw [if_pos (by decide +kernel)]; kernel_rfl) | (rw [if_neg (by decide +kernel)]; exact ⟨rfl, rfl⟩))
    (fun os started H enc _ => lifted os started H enc)

theorem proved : Rows.WordLongShiftsSaid :=
  over
#print axioms proved
end Go.Proofs.Ytkbnciekhllcpaa.wordLongShifts

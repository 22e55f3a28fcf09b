/- Decode and Trim answer as the chapter says, and leave their argument as it is: the statement EbcdicDecodes, with no condition. -/
import Derived.Test.YtbehboajhpppjaaRows
import Derived.WalkKit
import Derived.ProofKit
import Derived.OpenShut
import Derived.Lib.Hide
import Derived.Deep.Cut
import Derived.Deep.DeepMust
import Derived.Deep.QuietTactic
import Derived.BigQuiet
import Derived.OwnWalk
import Derived.Laws.CopyOwn
import Derived.Laws.AppendOwn
import Derived.Laws.OwnMore
import Derived.Laws.AppendOwnNone
import Derived.Deep.Draws
import Derived.Laws.IdiomStrings
import Derived.Below
import Derived.Test.YtbehboajhpppjaaEbWorks
namespace Go.Proofs.Ytbehboajhpppjaa.ebcdicDecodes
open Go.ChangeShapes Go.WideShapes Go.ChangeAt Go.RowKit E
set_option linter.unusedVariables false

set_option maxRecDepth 100000 in
theorem long (p : Option Addr) (n c : Nat) (w : World) (hn : 1000 < n) (hm : n ≤ 9223372036854775807) :
    Calls Try.prog 5 #[.slice p n c] w (New w (.bool true)) := by
  go_enter Try.func5, Try.ntmps5
  go_wp2
  go_ret
  exact ⟨rfl, Below.refl _ _⟩
theorem ownsEmpty (w : World) : (w.alloc (.cells #[] 5)).ownsRow w.heap.size 5 1 (.slice (some ⟨w.heap.size, 0, none⟩) 0 0) 0 [] :=
  ⟨rfl, .inr ⟨w.heap.size, 0, #[], rfl, Nat.le_refl _, by show (w.heap.push _)[w.heap.size]? = _; simp, Nat.le_refl _, by unfold maxLen; omega, rfl, rfl⟩⟩
set_option maxRecDepth 100000 in
theorem walk_nil (w : World) : Calls Try.prog 5 #[.slice none 0 0] w (New w (.bool true)) := by
  obtain ⟨i0, hi, hz0, hz1, hz2⟩ := info_parts info5
  have HDQ := Lib.hid (fun q d W => (decode_any q d [] W (by decide) (.inl rfl) : Calls Try.prog 19 #[.slice q 0 d] W (New W (.string ⟨#[]⟩))))
  have HTQ := Lib.hid (fun q W => (trim_any (some q) 0 [] W (by decide) (by decide) (by decide) (fun h => by cases h) (.inl rfl) : Calls Try.prog 20 #[.slice (some q) 0 0] W (New W (.string ⟨#[]⟩))))
  have HDP := Lib.hid (fun W => (rdecode_any none 0 [] W (by decide) (.inl rfl) : Calls Try.prog 21 #[.slice none 0 0] W (New W (.string ⟨#[]⟩))))
  have HTP := Lib.hid (fun W => (rtrim_any none 0 [] W (by decide) (by decide) (by decide) (fun _ => rfl) (.inl rfl) : Calls Try.prog 22 #[.slice none 0 0] W (New W (.string ⟨#[]⟩))))
  have HSM := Lib.hid (fun q d W => (same_true q none d 0 [] W (by decide) (.inl rfl) (.inl rfl) : Calls Try.prog 18 #[.slice q 0 d, .slice none 0 0] W (New W (.bool true))))
  have HB1 := Lib.hid (below_new w (.cells #[] 5))
  go_enter Try.func5, Try.ntmps5
  go_wp2_with (at_builtin; refine wpList_append_own_none rfl (.tmp 9) (.tmp 10) 26 rfl w.heap.size 5 i0 1 Try.underlying26 hi _ 0 [] rfl (ownsEmpty w) rfl ?_)
  go_wp2_with fail
  refine (HDQ.out _ _ _).mono ?_
  rintro e w2 ⟨rfl, hb2⟩
  have HB2 := Lib.hid (HB1.out.trans (hb2.mono HB1.out.size)); clear hb2
  go_wp2_with fail
  refine (HTQ.out _ _).mono ?_
  rintro e w3 ⟨rfl, hb3⟩
  have HB3 := Lib.hid (HB2.out.trans (hb3.mono HB2.out.size)); clear hb3
  go_wp2_with fail
  refine (HSM.out _ _ _).mono ?_
  rintro e w4 ⟨rfl, hb4⟩
  have HB4 := Lib.hid (HB3.out.trans (hb4.mono HB3.out.size)); clear hb4
  go_wp2_with fail
  refine (HDP.out _).mono ?_
  rintro e w5 ⟨rfl, hb5⟩
  have HB5 := Lib.hid (HB4.out.trans (hb5.mono HB4.out.size)); clear hb5
  go_wp2_with fail
  refine (HTP.out _).mono ?_
  rintro e w6 ⟨rfl, hb6⟩
  have HB6 := Lib.hid (HB5.out.trans (hb6.mono HB5.out.size)); clear hb6
  go_wp2_with fail
  refine (works_any _).mono ?_
  rintro e w9 ⟨rfl, hb9⟩
  have HBV := Lib.hid (HB6.out.trans (hb9.mono HB6.out.size)); clear hb9
  go_wp2
  go_ret
  exact ⟨rfl, HBV.out⟩
set_option maxRecDepth 100000 in
theorem walk_some (a : Addr) (c : Nat) (l : List UInt8) (w : World) (hn : l.length ≤ 1000) (hc : l.length ≤ c) (hcc : c ≤ 9223372036854775807) (hp : Rd w (some a) l) :
    Calls Try.prog 5 #[.slice (some a) l.length c] w (New w (.bool true)) := by
  obtain ⟨i0, hi, hz0, hz1, hz2⟩ := info_parts info5
  obtain ⟨p, hpe⟩ : ∃ p, p = some a := ⟨_, rfl⟩
  have hsrc : ∀ j u, (bsU l)[j]? = some u → (w.alloc (.cells #[] 5)).cell? (a.add j) = some u := fun j u hu => by
    obtain ⟨hj, rfl⟩ := bsU_at hu
    rcases hp.below (below_new w (.cells #[] 5)) with h0 | ⟨B, off, he, hcell⟩
    · subst h0; simp at hj
    · injection he with he
      subst he
      rw [show ((⟨B, off, none⟩ : Addr).add j) = ⟨B, off + j, none⟩ from by simp [Addr.add]]
      exact hcell j hj
  rw [← hpe] at hp
  have HP := Lib.hid hp
  have HC := Lib.hid hc
  have HCC := Lib.hid hcc
  have HNIL : Hid (p = none → c = 0) := Lib.hid (fun h => by rw [hpe] at h; cases h)
  have HPE := Lib.hid hpe
  have H1 := Lib.hid hsrc
  have hlen : (bsU l).length = l.length * 1 := by rw [bsU_len, Nat.mul_one]
  have H3 := Lib.hid hlen
  clear hsrc hp hlen hpe
  go_enter Try.func5, Try.ntmps5
  go_wp2_with (at_builtin; refine wpList_append_own _ rfl (.tmp 9) (.tmp 10) 26 rfl w.heap.size 5 i0 (.int .u8 0) 1 1 Try.underlying26 hi hz0 hz1 hz2 rfl (by decide) _ 0 [] rfl (ownsEmpty w) a l.length c (bsU l) rfl H3.out H1.out (bsU_one l) ?e3 ?e4 ?e5 ?_)
  case e3 => unfold maxLen; omega
  case e4 => omega
  case e5 => simp
  intro sv0 w0 hown0 hgrow _
  have hbw : Below w.heap.size w w0 := (below_new w _).grown hgrow (by simp) (fun r hr => ((ownsEmpty w).lt r hr).1)
  clear hgrow
  have hown : Own w0 w.heap.size sv0 l := hown0
  clear hown0
  rw [← HPE.out]
  obtain ⟨q, d, rfl, hq, hd, hdd, hdn⟩ := hown.full
  have HQ := Lib.hid hq
  have HPW := Lib.hid (HP.out.below hbw)
  have HBW0 := Lib.hid hbw
  have HDQ := Lib.hid (fun W (h : Rd W q l) => decode_any q d l W (by omega) h)
  have HTQ := Lib.hid (fun W (h : Rd W q l) => trim_any q d l W (by omega) hd hdd hdn h)
  have HDP := Lib.hid (fun W (h : Rd W p l) => rdecode_any p c l W (by omega) h)
  have HTP := Lib.hid (fun W (h : Rd W p l) => rtrim_any p c l W (by omega) HC.out HCC.out HNIL.out h)
  have HSM := Lib.hid (fun W (h : Rd W q l) (h2 : Rd W p l) => same_true q p d c l W (by omega) h h2)
  generalize (⟨(l.map decV).toArray⟩ : ByteArray) = D at *
  generalize (⟨((trimL 64 l).map decV).toArray⟩ : ByteArray) = E at *
  generalize hN : l.length = N at *
  have HNN := Lib.hid hN
  clear hN hq hbw hown hd hdd hdn
  go_wp2_with fail
  refine (HDQ.out _ HQ.out).mono ?_
  rintro e w2 ⟨rfl, hb2⟩
  have HQ2 := Lib.hid (HQ.out.below hb2)
  have HP2 := Lib.hid (HPW.out.below hb2)
  have HB2 := Lib.hid (HBW0.out.trans (hb2.mono HBW0.out.size)); clear hb2
  go_wp2_with fail
  refine (HTQ.out _ HQ2.out).mono ?_
  rintro e w3 ⟨rfl, hb3⟩
  have HQ3 := Lib.hid (HQ2.out.below hb3)
  have HP3 := Lib.hid (HP2.out.below hb3)
  have HB3 := Lib.hid (HB2.out.trans (hb3.mono HB2.out.size)); clear hb3
  go_wp2_with fail
  refine (HSM.out _ HQ3.out HP3.out).mono ?_
  rintro e w4 ⟨rfl, hb4⟩
  have HP4 := Lib.hid (HP3.out.below hb4)
  have HB4 := Lib.hid (HB3.out.trans (hb4.mono HB3.out.size)); clear hb4
  go_wp2_with fail
  refine (HDP.out _ HP4.out).mono ?_
  rintro e w5 ⟨rfl, hb5⟩
  have HP5 := Lib.hid (HP4.out.below hb5)
  have HB5 := Lib.hid (HB4.out.trans (hb5.mono HB4.out.size)); clear hb5
  go_wp2_with fail
  refine (HTP.out _ HP5.out).mono ?_
  rintro e w6 ⟨rfl, hb6⟩
  have HB6 := Lib.hid (HB5.out.trans (hb6.mono HB5.out.size)); clear hb6
  go_wp2_with fail
  refine (works_any _).mono ?_
  rintro e w9 ⟨rfl, hb9⟩
  have HBV := Lib.hid (HB6.out.trans (hb9.mono HB6.out.size)); clear hb9
  go_wp2
  go_ret
  exact ⟨rfl, HBV.out⟩

theorem bytes_of (zs : List Int) (h : ∀ x ∈ zs, (Lit.int .u8 x).wf = true) : ∃ l : List UInt8, l.length = zs.length ∧ ∀ j, j < l.length → ((gt l j).toNat : Int) = zs.getD j 0 := by
  induction zs with
  | nil => exact ⟨[], rfl, fun j hj => by simp at hj⟩
  | cons z zs ih =>
    obtain ⟨l, hl, hg⟩ := ih (fun x hx => h x (List.mem_cons_of_mem _ hx))
    obtain ⟨x, hx⟩ := u8_of (h z (List.mem_cons_self ..))
    refine ⟨x :: l, by simp [hl], fun j hj => ?_⟩
    cases j with
    | zero => simp [gt, hx]
    | succ j =>
      have hj' : j < l.length := by simp at hj; omega
      have h2 := hg j hj'
      simp only [gt, List.getD_cons_succ] at h2 ⊢
      exact h2

theorem own : ownKnob Try.prog.godebug = none := by kernel_rfl
theorem laid : laidOutB Try.prog = true := by kernel_rfl
theorem cellsU : Try.prog.cellsOf 5 = 1 := by kernel_rfl

set_option maxRecDepth 100000 in
theorem lifted (os : Os) (started : os.Started) (H : Type) (enc : TypeId × Value → H) :
    ReturnsInHanded {} Try.checked os 5 .any (Rows.ebcdicDecodesSpec.pre6 enc Try.prog Try.f5 Rows.ebcdicDecodesRow.domain false) (Rows.ebcdicDecodesSpec.post enc Try.prog Try.f5 false true false false) := by
  refine returnsInHanded_of_change (C := Try.checked) own started (by kernel_rfl) Try.func5
    (ChangeSpec.witness6 (enc := enc) (C := Try.checked) false ⟨#[], #[.slice none 0 0], []⟩ 8 (by kernel_rfl) (by kernel_rfl) (by kernel_rfl) (by kernel_rfl)) ?_
  intro W base args ds gs before hval0 hW hcnd _
  have hval : ∀ (j : Nat) t v, Try.f5.params[j]? = some t → args[j]? = some v → Value.okWide Try.prog W .any base t v := hval0
  have hW' := hW
  obtain ⟨p, q, hA0, hV, rfl, hfz, hnd⟩ := hW
  have hA : DataW.TrodAll enc Try.prog W 0 (fun _ => true) true Try.f5.params.toList args.toList ds p := hA0
  rw [Try.params5] at hA hval
  obtain ⟨v0, vs0, d0, ds0, p0, q0, hargs, rfl, rfl, h0, r0⟩ := trodAll_cons hA
  obtain ⟨rfl, rfl, rfl⟩ := trodAll_nil r0
  obtain rfl : args = #[v0] := by cases args; simp_all
  obtain ⟨rfl, rfl⟩ := trodVars_none hV
  obtain ⟨a0, len, cap, rfl⟩ := okWide_slice Try.underlying26 (hval 0 26 v0 rfl rfl)
  have h0k := h0
  obtain ⟨fuel, hf⟩ := h0
  clear hA0 hval0
  simp only [List.append_nil] at hW'
  have hlt : ∀ x ∈ p0, x.block < W.heap.size := fun x hx => hW'.lt x (by simpa using hx)
  have fin : Calls Try.prog 5 #[.slice a0 len cap] W (New W (.bool true)) →
      Calls Try.checked.prog 5 #[.slice a0 len cap] W fun e W' => ∃ v, e = Ending.returned v ∧ Rows.ebcdicDecodesSpec.post enc Try.checked.prog Try.f5 false true false false W #[.slice a0 len cap] v W' := by
    intro hw
    refine hw.mono fun e W' ⟨he, hn⟩ => ?_
    subst he
    refine ⟨_, rfl, _, _, _, [], p0 ++ [], [], hW', ?_, ?_, rfl, hn.frame _, fun h => by cases h⟩
    · exact trodAll_cons_mk (shut_bool Try.underlying4 _) trodAll_mk0
    · exact trodAll_cons_mk (Below.trod laid (by kernel_rfl) (of_decide_eq_true (by kernel_rfl)) h0k hn hlt) trodAll_mk0
  rcases open_ints Try.underlying26 Try.underlying5 cellsU hf with ⟨hcs, hx⟩ | ⟨a, len', cap', zs, hcs, _, hl, hm, hz, hx, hcell, hwz⟩
  · simp [Value.cells] at hcs
    obtain ⟨rfl, rfl, rfl⟩ := hcs
    exact fin (walk_nil W)
  · simp [Value.cells] at hcs
    obtain ⟨rfl, rfl, rfl⟩ := hcs
    simp only [if_true] at hz
    have hm' : cap ≤ 9223372036854775807 := by unfold maxLen at hm; omega
    by_cases hn : 1000 < len
    · exact fin (long (some a) len cap W hn (by omega))
    obtain ⟨l, hll, hlc⟩ := bytes_of (zs.take len) (fun x hx => hwz x (List.mem_of_mem_take hx))
    have hlen : l.length = len := by rw [hll, List.length_take]; omega
    subst hlen
    refine fin (walk_some a cap l W (by omega) hl hm' ?_)
    by_cases h0 : l.length = 0
    · exact .inl (List.length_eq_zero_iff.1 h0)
    · obtain ⟨B, off, spot⟩ := a
      have hspot : spot = none := by simpa [Addr.add] using World.cell?_spot (hcell 0 (by omega))
      subst hspot
      refine .inr ⟨B, off, rfl, fun j hj => ?_⟩
      have hc := hcell j (by omega)
      rw [show ((⟨B, off, none⟩ : Addr).add j) = ⟨B, off + j, none⟩ from by simp [Addr.add]] at hc
      rw [hc, hlc j hj]
      simp [List.getD_eq_getElem?_getD, hj]

theorem over : Rows.ebcdicDecodesRow.holds Try.pinned (OpenSpec.ofChange Rows.ebcdicDecodesSpec) :=
  OpenClaim.holds_of_wide 5 Try.f5 rfl rfl rfl rfl rfl rfl rfl ⟨rfl, rfl, rfl, rfl, rfl⟩ rfl rfl rfl rfl rfl (by kernel_rfl) Try.func5 (by kernel_rfl)
    (of_decide_eq_true (by kernel_rfl)) (by unfold Func.isWrapper; first | (rw [if_pos (by decide +kernel)]; kernel_rfl) | (rw [if_neg (by decide +kernel)]; exact ⟨rfl, rfl⟩))
    (fun os started H enc _ => lifted os started H enc)

theorem proved : Rows.EbcdicDecodesSaid :=
  over
#print axioms proved
end Go.Proofs.Ytbehboajhpppjaa.ebcdicDecodes

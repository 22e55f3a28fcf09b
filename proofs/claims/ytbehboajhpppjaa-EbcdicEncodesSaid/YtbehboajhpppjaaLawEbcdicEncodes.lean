/- Encode answers as the chapter says, in new memory: the statement EbcdicEncodes, with no condition. -/
import Derived.Test.YtbehboajhpppjaaRows
import Derived.WalkKit
import Derived.ProofKit
import Derived.OpenShut
import Derived.ChangeMaps5
import Derived.Lib.Hide
import Derived.Deep.Cut
import Derived.Deep.DeepMust
import Derived.Deep.QuietTactic
import Derived.BigQuiet
import Derived.OwnWalk
import Derived.Laws.CopyOwn
import Derived.Laws.AppendOwn
import Derived.Laws.OwnMore
import Derived.Laws.AppendOwnNone
import Derived.Deep.Draws
import Derived.Laws.IdiomStrings
import Derived.Below
import Derived.Test.YtbehboajhpppjaaEbWorks
namespace Go.Proofs.Ytbehboajhpppjaa.ebcdicEncodes
open Go.ChangeShapes Go.WideShapes Go.ChangeAt Go.RowKit Go.ChangeMaps E
set_option linter.unusedVariables false

theorem own : ownKnob Try.prog.godebug = none := by kernel_rfl

set_option maxRecDepth 100000 in
theorem long (s : ByteArray) (hm : s.size ≤ 9223372036854775807) (hs : 3000 < s.size) (w : World) :
    Calls Try.prog 4 #[.string s] w (New w (.bool true)) := by
  go_enter Try.func4, Try.ntmps4
  go_wp2
  go_ret
  exact ⟨rfl, Below.refl _ _⟩
theorem kept_by_store {wr : World} {b1 b2 g n m c k : Nat} {xs ys : List Value} {tv v : Value} (h1 : wr.ownsRow b1 5 1 (.slice (some ⟨g, 0, none⟩) n c) n xs) (h2 : wr.ownsRow b2 5 1 tv m ys) (hg : g < b2) : (wr.setCell ⟨g, k, none⟩ v).ownsRow b2 5 1 tv m ys := by
  refine h2.kept (h1.stored k v).2 ?_
  cases ho : tv.ownBlock with
  | none => exact .inl rfl
  | some r =>
    refine .inr fun he => ?_
    have hr := (h2.lt r ho).1
    injection he with he
    omega
set_option maxRecDepth 100000 in
theorem no (s : ByteArray) (hs : s.size ≤ 3000) (ha : s.data.toList.all isC = false) (w : World) :
    Calls Try.prog 4 #[.string s] w (New w (.bool true)) := by
  obtain ⟨l, hl⟩ : ∃ l, l = s.data.toList := ⟨_, rfl⟩
  have hln : l.length = s.size := by rw [hl]; rfl
  have HE := Lib.hid (fun W => encode_any s W (by omega))
  have HR := Lib.hid (fun W => rencode_any s W (by omega))
  rw [← hl] at HE HR ha
  have HL := Lib.hid hln
  clear hl hln
  have HA := Lib.hid ha; clear ha
  go_enter Try.func4, Try.ntmps4
  go_wp2_with fail
  refine (HE.out _).mono ?_
  rintro e w1 (⟨hx, _⟩ | ⟨_, rfl, hb1⟩)
  · rw [HA.out] at hx; cases hx
  have HB1 := Lib.hid hb1; clear hb1
  go_wp2_with fail
  refine (HR.out _).mono ?_
  rintro e w2 (⟨hx, _⟩ | ⟨_, rfl, hb2⟩)
  · rw [HA.out] at hx; cases hx
  have HB2 := Lib.hid (HB1.out.trans (hb2.mono HB1.out.size)); clear hb2
  go_wp2_with fail
  refine (same_nil _).mono ?_
  rintro e w3 ⟨rfl, hb3⟩
  have HB3 := Lib.hid (HB2.out.trans (hb3.mono HB2.out.size)); clear hb3
  go_wp2
  go_loop [7] (fun i => i = .int .i64 0) (fun _ => 0)
  case atStart => rfl
  case round =>
    subst hrel
    go_wp2_with fail
    refine (HE.out _).mono ?_
    rintro e w4 (⟨hx, _⟩ | ⟨_, rfl, hb4⟩)
    · rw [HA.out] at hx; cases hx
    have HB4 := Lib.hid (HB3.out.trans (hb4.mono HB3.out.size)); clear hb4
    go_wp2_with fail
    refine (same_nil _).mono ?_
    rintro e w5 ⟨rfl, hb5⟩
    have HB5 := Lib.hid (HB4.out.trans (hb5.mono HB4.out.size)); clear hb5
    go_wp2_with fail
    refine (works_any _).mono ?_
    rintro e w9 ⟨rfl, hb9⟩
    have HBW := Lib.hid (HB5.out.trans (hb9.mono HB5.out.size)); clear hb9
    go_wp2
    go_ret
    exact ⟨rfl, HBW.out⟩
set_option maxRecDepth 100000 in
theorem yes (s : ByteArray) (hs : s.size ≤ 3000) (ha : s.data.toList.all isC = true) (w : World) :
    Calls Try.prog 4 #[.string s] w (New w (.bool true)) := by
  obtain ⟨l, hl⟩ : ∃ l, l = s.data.toList := ⟨_, rfl⟩
  have hln : l.length = s.size := by rw [hl]; rfl
  have HE := Lib.hid (fun W => encode_any s W (by omega))
  have HR := Lib.hid (fun W => rencode_any s W (by omega))
  rw [← hl] at HE HR ha
  have HL := Lib.hid hln
  clear hl hln
  have HA := Lib.hid ha; clear ha
  go_enter Try.func4, Try.ntmps4
  go_wp2_with fail
  refine (HE.out _).mono ?_
  rintro e w1 (⟨_, sv, rfl, ho1, hb1⟩ | ⟨hx, _⟩)
  case inr => rw [HA.out] at hx; cases hx
  have HB1 := Lib.hid hb1; clear hb1
  have HO1 := Lib.hid ho1; clear ho1
  go_wp2_with fail
  refine (HR.out _).mono ?_
  rintro e w2 (⟨_, tv, rfl, ho2, hb2⟩ | ⟨hx, _⟩)
  case inr => rw [HA.out] at hx; cases hx
  have HB2 := Lib.hid (HB1.out.trans (hb2.mono HB1.out.size))
  have HP2 := Lib.hid (HO1.out.kept hb2)
  have HO2 := Lib.hid ho2
  clear hb2 ho2
  go_wp2_with fail
  refine (same_own HP2.out HO2.out).mono ?_
  rintro e w3 ⟨rfl, hb3⟩
  have HB3 := Lib.hid (HB2.out.trans (hb3.mono HB2.out.size))
  have HP3 := Lib.hid (HP2.out.kept hb3)
  have HO3 := Lib.hid (HO2.out.kept hb3)
  clear hb3 HB2 HP2 HO2
  obtain ⟨p, c, rfl, _, _⟩ := HP3.out.rd
  have hlt1 : ∀ g, p = some g → g.block < w1.heap.size := fun g hg => (HO1.out.lt g.block (by rw [hg]; rfl)).2
  have H1 := Lib.hid hlt1
  clear hlt1 HO1
  obtain ⟨n, hn⟩ : ∃ n, (l.map codeV).length = n := ⟨_, rfl⟩
  have hn' : n ≤ 3000 := by rw [← hn, List.length_map, HL.out]; exact hs
  have HP4 := HP3.out
  have HO4 := HO3.out
  unfold Own at HP4
  rw [hn] at HP4 ⊢
  have HN := Lib.hid hn; clear hn
  have hin : ∃ xs, w3.ownsRow w.heap.size 5 1 (.slice p n c) n xs := ⟨_, HP4⟩
  have HI := Lib.hid hin
  have HT := Lib.hid HO4
  clear HP3 HO3 HP4 HO4 hin
  go_wp2
  go_loopw [7] (fun i wr => Below w.heap.size w wr ∧ (∃ xs, wr.ownsRow w.heap.size 5 1 (.slice p n c) n xs) ∧ Own wr w1.heap.size tv (l.map codeV) ∧ ∃ k : Nat, k ≤ n ∧ i = .int .i64 k) (fun i _ => n - (intOf i).toNat)
  case atStart => exact ⟨HB3.out, HI.out, HT.out, 0, Nat.zero_le _, rfl⟩
  case round =>
    clear HB3 HI HT
    obtain ⟨hbw, ⟨xs, hown⟩, hot, k, hk, rfl⟩ := hrel
    by_cases hlt : k < n
    · obtain ⟨g, hg⟩ : ∃ g, p = some ⟨g, 0, none⟩ := by
        obtain ⟨_, h1 | ⟨g, cap, cur, hv, _⟩⟩ := hown
        · exact absurd h1.2 (by omega)
        · injection hv with hv; exact ⟨g, hv⟩
      subst hg
      have hg1 : g < w1.heap.size := H1.out _ rfl
      have hg0 : w.heap.size ≤ g := (hown.lt g rfl).1
      have hfz := hown.frozenAt k
      have hcell := hown.cellAt k (by omega)
      obtain ⟨v, hv⟩ : ∃ v, xs[k]? = some v := ⟨xs[k]'(by have := hown.1; omega), List.getElem?_eq_getElem _⟩
      rw [hv] at hcell
      have HST := Lib.hid (hown.stored k (.int .u8 0)).1
      have HTT := Lib.hid (kept_by_store (k := k) (v := .int .u8 0) hown hot hg1)
      have HBW := Lib.hid (hbw.setCell (p := ⟨g, k, none⟩) hg0 (.int .u8 0))
      clear hown hot hbw hv
      go_wp2
      go_roundw
      case rel => exact ⟨HBW.out, ⟨_, HST.out⟩, HTT.out, k + 1, by omega, by go_num⟩
      case measure => simp [intOf]; omega
    · obtain rfl : k = n := by omega
      have HB3 := Lib.hid hbw
      have HO3 := Lib.hid hot
      clear hbw hot hown
      go_wp2_with fail
      refine (HE.out _).mono ?_
      rintro e w4 (⟨_, uv, rfl, ho4, hb4⟩ | ⟨hx, _⟩)
      case inr => rw [HA.out] at hx; cases hx
      have HB4 := Lib.hid (HB3.out.trans (hb4.mono HB3.out.size))
      have HP4 := Lib.hid ho4
      have HO4 := Lib.hid (HO3.out.kept hb4)
      clear hb4 ho4 HB3 HO3
      go_wp2_with fail
      refine (same_own HP4.out HO4.out).mono ?_
      rintro e w5 ⟨rfl, hb5⟩
      have HB5 := Lib.hid (HB4.out.trans (hb5.mono HB4.out.size)); clear hb5
      go_wp2_with fail
      refine (works_any _).mono ?_
      rintro e w9 ⟨rfl, hb9⟩
      have HBV := Lib.hid (HB5.out.trans (hb9.mono HB5.out.size)); clear hb9
      go_wp2
      go_ret
      exact ⟨rfl, HBV.out⟩
theorem walk (s : ByteArray) (hm : s.size ≤ 9223372036854775807) (w : World) :
    Calls Try.prog 4 #[.string s] w (New w (.bool true)) := by
  by_cases hs : s.size ≤ 3000
  · cases ha : s.data.toList.all isC
    · exact no s hs ha w
    · exact yes s hs ha w
  · exact long s hm (by omega) w

set_option maxRecDepth 100000 in
theorem lifted (os : Os) (started : os.Started) (H : Type) (enc : TypeId × Value → H) :
    ReturnsInHanded {} Try.checked os 4 .any (Rows.ebcdicEncodesSpec.pre6 enc Try.prog Try.f4 Rows.ebcdicEncodesRow.domain false) (Rows.ebcdicEncodesSpec.post enc Try.prog Try.f4 false true false false) := by
  refine returnsInHanded_of_change (C := Try.checked) own started (by kernel_rfl) Try.func4
    (ChangeSpec.witness6 (enc := enc) (C := Try.checked) false ⟨#[], #[.string ⟨#[]⟩], []⟩ 8 (by kernel_rfl) (by kernel_rfl) (by kernel_rfl) (by kernel_rfl)) ?_
  intro W base args ds gs before hval0 hW hcnd _
  have hval : ∀ (j : Nat) t v, Try.f4.params[j]? = some t → args[j]? = some v → Value.okWide Try.prog W .any base t v := hval0
  have hW' := hW
  obtain ⟨p, q, hA0, hV, rfl, hfz, hnd⟩ := hW
  have hA : DataW.TrodAll enc Try.prog W 0 (fun _ => true) true Try.f4.params.toList args.toList ds p := hA0
  rw [Try.params4] at hA hval
  obtain ⟨v0, vs0, d0, ds0, p0, q0, hargs, rfl, rfl, h0, r0⟩ := trodAll_cons hA
  obtain ⟨rfl, rfl, rfl⟩ := trodAll_nil r0
  obtain rfl : args = #[v0] := by cases args; simp_all
  obtain ⟨rfl, rfl⟩ := trodVars_none hV
  obtain ⟨s0, rfl, rfl, rfl, w0⟩ := open_string Try.underlying9 (hval 0 9 v0 rfl rfl) h0
  clear hA0 hval0
  simp only [List.append_nil] at hW'
  refine (walk s0 (by unfold maxLen at w0; omega) W).mono fun e W' ⟨he, hn⟩ => ?_
  subst he
  exact ⟨_, rfl, _, _, _, [], [], [], hW', trodAll_cons_mk (shut_bool Try.underlying4 _) trodAll_mk0, (trodAll_cons_mk (shut_string Try.underlying9 w0) trodAll_mk0), rfl, hn.frame _, fun h => by cases h⟩

theorem over : Rows.ebcdicEncodesRow.holds Try.pinned (OpenSpec.ofChange Rows.ebcdicEncodesSpec) :=
  OpenClaim.holds_of_wide 4 Try.f4 rfl rfl rfl rfl rfl rfl rfl ⟨rfl, rfl, rfl, rfl, rfl⟩ rfl rfl rfl rfl rfl (by kernel_rfl) Try.func4 (by kernel_rfl)
    (of_decide_eq_true (by kernel_rfl)) (by unfold Func.isWrapper; first | (rw [if_pos (by decide +kernel)]; kernel_rfl) | (rw [if_neg (by decide +kernel)]; exact ⟨rfl, rfl⟩))
    (fun os started H enc _ => lifted os started H enc)

theorem proved : Rows.EbcdicEncodesSaid :=
  over
#print axioms proved
end Go.Proofs.Ytbehboajhpppjaa.ebcdicEncodes

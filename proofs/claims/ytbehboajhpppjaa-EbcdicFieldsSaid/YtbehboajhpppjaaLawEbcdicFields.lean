/- A padded field has its length, and trimming undoes padding: the statement EbcdicFields, with no condition. -/
import Derived.Test.YtbehboajhpppjaaRows
import Derived.WalkKit
import Derived.ProofKit
import Derived.OpenShut
import Derived.ChangeMaps5
import Derived.Lib.Hide
import Derived.Deep.Cut
import Derived.Deep.DeepMust
import Derived.Deep.QuietTactic
import Derived.BigQuiet
import Derived.OwnWalk
import Derived.Laws.CopyOwn
import Derived.Laws.AppendOwn
import Derived.Laws.OwnMore
import Derived.Laws.AppendOwnNone
import Derived.Deep.Draws
import Derived.Laws.IdiomStrings
import Derived.Below
import Derived.Lib.Strings
import Derived.Deep.RegionHeld3
import Derived.Test.YtbehboajhpppjaaEbWorks
namespace Go.Proofs.Ytbehboajhpppjaa.ebcdicFields
open Go.ChangeShapes Go.WideShapes Go.ChangeAt Go.RowKit Go.ChangeMaps E
set_option linter.unusedVariables false

theorem own : ownKnob Try.prog.godebug = none := by kernel_rfl

theorem part_of (k : Int) : ∃ m : Nat, m ≤ 1000 ∧ wrap64 ((IntKind.u64.wrap k).tmod 1001) = (m : Int) := by
  have h0 := wrap_u64_nonneg k
  have h1 := Int.tmod_nonneg (a := IntKind.u64.wrap k) 1001 h0
  have h2 := Int.tmod_lt_of_pos (IntKind.u64.wrap k) (show 0 < (1001 : Int) by omega)
  obtain ⟨m, hm⟩ := Int.eq_ofNat_of_zero_le h1
  refine ⟨m, by omega, ?_⟩
  rw [hm]
  unfold wrap64
  omega
set_option maxRecDepth 100000 in
theorem long (s : ByteArray) (k : Int) (hm : s.size ≤ 9223372036854775807) (hs : 1000 < s.size) (w : World) :
    Calls Try.prog 10 #[.string s, .int .i64 k] w (New w (.bool true)) := by
  go_enter Try.func10, Try.ntmps10
  go_wp2
  go_ret
  exact ⟨rfl, Below.refl _ _⟩
set_option maxRecDepth 100000 in
theorem no (s : ByteArray) (k : Int) (m : Nat) (hs : s.size ≤ 1000) (hmn : m ≤ 1000) (hM : wrap64 ((IntKind.u64.wrap k).tmod 1001) = (m : Int)) (w : World)
    (hp : ∀ W, Calls Try.prog 23 #[.string s, .int .i64 ((s.size : Int) + m)] W (New W (.tuple #[.slice none 0 0, .int .i64 20]))) :
    Calls Try.prog 10 #[.string s, .int .i64 k] w (New w (.bool true)) := by
  have HP := Lib.hid hp; clear hp
  go_enter Try.func10, Try.ntmps10
  go_wp2_with fail
  refine (HP.out _).mono ?_
  rintro e w1 ⟨rfl, hb1⟩
  have HB1 := Lib.hid hb1; clear hb1
  go_wp2_with fail
  refine (works_any _).mono ?_
  rintro e w9 ⟨rfl, hb9⟩
  have HBW := Lib.hid (HB1.out.trans (hb9.mono HB1.out.size)); clear hb9
  go_wp2
  go_ret
  exact ⟨rfl, HBW.out⟩
/-- Blanks at the end of an encoded text are the codes of those at the end of the text. -/
theorem drop_map (l : List UInt8) : (l.map codeV).dropWhile (· == 64) = (l.dropWhile (· == 32)).map codeV := by
  induction l with
  | nil => rfl
  | cons x l ih =>
    by_cases h : x = 32
    · subst h
      have h2 : codeV 32 = 64 := (blank_x 32).2 rfl
      simp [h2, ih]
    · have h2 : ¬ codeV x = 64 := fun hh => h ((blank_x x).1 hh)
      simp [h, h2]
theorem trim_map (l : List UInt8) : trimL 64 (l.map codeV) = (trimL 32 l).map codeV := by
  unfold trimL
  rw [← List.map_reverse, drop_map, List.map_reverse]
theorem trim_rep (x : UInt8) (l : List UInt8) (r : Nat) : trimL x (l ++ List.replicate r x) = trimL x l := by
  induction r with
  | zero => simp
  | succ r ih => rw [List.replicate_succ', ← List.append_assoc, trim_step, ih]
theorem dec_back {l : List UInt8} (h : l.all isC = true) : (l.map codeV).map decV = l := by
  induction l with
  | nil => rfl
  | cons x l ih =>
    simp only [List.all_cons, Bool.and_eq_true] at h
    have hx := back_c x h.1
    have hd : decV (codeV x) = x := by unfold decV; rw [if_pos hx.1]; exact hx.2
    simp only [List.map_cons, hd, ih h.2]
theorem trim_own {w : World} {base n j : Nat} {p : Option Addr} {c : Nat} {l : List UInt8} {s : ByteArray} (h : Own w base (.slice p n c) (padL l n)) (hn : l.length ≤ n) (ha : l.all isC = true) (hl : s.data.toList = l) (hj : trimL 32 l = l.take j) (hs : n ≤ 140737488355328) :
    Calls Try.prog 20 #[.slice p n c] w (New w (.string (s.extract 0 j))) := by
  obtain ⟨p', c', he, hr, h1, h2, h3⟩ := h.full
  rw [padL_len l n hn] at he h1
  injection he with e1 e2 e3
  subst e1 e3
  have hd := trim_any p c (padL l n) w (by rw [padL_len l n hn]; exact hs) (by rw [padL_len l n hn]; exact h1) h2 h3 hr
  rw [padL_len l n hn] at hd
  have ht : (l.take j).all isC = true := by
    rw [List.all_eq_true] at ha ⊢
    exact fun x hx => ha x (List.mem_of_mem_take hx)
  have e : (⟨((trimL 64 (padL l n)).map decV).toArray⟩ : ByteArray) = s.extract 0 j := by
    unfold padL
    rw [trim_rep, trim_map, hj, dec_back ht, Lib.extract_eq, hl, List.drop_zero, Nat.sub_zero]
  rw [e] at hd
  exact hd
/-- What holds of each world of the last statement. -/
def Held (w0 : World) (B : Nat) (p : Option Addr) (n c : Nat) (l : List UInt8) (W : World) : Prop := Below w0.heap.size w0 W ∧ Own W B (.slice p n c) l
theorem held_below {w0 : World} {B n c : Nat} {p : Option Addr} {l : List UInt8} {W : World} (h : Held w0 B p n c l W) : Below w0.heap.size w0 W := h.1
theorem held_next {w0 : World} {B n c : Nat} {p : Option Addr} {l : List UInt8} {W W' : World} (h : Held w0 B p n c l W) (hb : Below W.heap.size W W') : Held w0 B p n c l W' := ⟨h.1.trans (hb.mono h.1.size), h.2.kept hb⟩
set_option maxRecDepth 100000 in
theorem yes (s : ByteArray) (k : Int) (m : Nat) (hs : s.size ≤ 1000) (hmn : m ≤ 1000) (hM : wrap64 ((IntKind.u64.wrap k).tmod 1001) = (m : Int)) (l : List UInt8) (hl : s.data.toList = l) (hall : l.all isC = true) (w : World)
    (hp : ∀ W, Calls Try.prog 23 #[.string s, .int .i64 ((s.size : Int) + m)] W (PadPost W l (s.size + m))) :
    Calls Try.prog 10 #[.string s, .int .i64 k] w (New w (.bool true)) := by
  have HP := Lib.hid hp
  have HL := Lib.hid hl
  have HALL := Lib.hid hall
  have HN := Lib.hid (show l.length = s.size by rw [← hl]; rfl)
  have hstr : ∀ j (h : j < s.size), s[j] = gt l j := fun j h => by rw [← hl]; exact str_at s j h
  have HS := Lib.hid hstr
  clear hp hl hall hstr
  go_enter Try.func10, Try.ntmps10
  go_wp2_with fail
  refine (HP.out _).mono ?_
  rintro e w1 ⟨sv, rfl, ho1, hb1⟩
  have HB1 := Lib.hid hb1
  obtain ⟨p, c, rfl, _⟩ := ho1.full
  rw [padL_len l _ (by rw [HN.out]; omega)] at ho1 ⊢
  have hh : Held w w.heap.size p (s.size + m) c (padL l (s.size + m)) w1.drew := ⟨hb1.drew, ho1.kept (Below.refl _ _).drew⟩
  have HH := Lib.hid hh
  clear hb1 ho1 hh
  go_wp2
  go_loop [8] (fun i => ∃ j : Nat, j ≤ s.size ∧ i = .int .i64 j ∧ trimL 32 l = trimL 32 (l.take j)) (fun i => (intOf i).toNat)
  case atStart => exact ⟨s.size, Nat.le_refl _, rfl, by rw [← HN.out, List.take_length]⟩
  case round =>
    obtain ⟨j, hj, rfl, ht⟩ := hrel
    have HT := Lib.hid ht; clear ht
    have htr := fun (hd : trimL 32 (l.take j) = l.take j) (W : World) (ho : Held w w.heap.size p (s.size + m) c (padL l (s.size + m)) W) => trim_own (j := j) ho.2 (by rw [HN.out]; omega) HALL.out HL.out (HT.out.trans hd) (by omega)
    have HR := Lib.hid htr; clear htr
    by_cases h0 : j = 0
    · subst h0
      have htr := fun W ho => HR.out rfl W ho
      have HX := Lib.hid htr; clear htr
      go_wp2
      go_region_held3 (fun w' => Held w w.heap.size p (s.size + m) c (padL l (s.size + m)) w') (first | exact HH.out | exact held_next (by assumption) (by assumption)) (first
        | (go_at_call 20; refine (HX.out _ ?_).mono ?_; assumption; rintro e w2 ⟨rfl, hb2⟩)
        | (go_at_call 15; refine (works_any _).mono ?_; rintro e w3 ⟨rfl, hb3⟩))
      go_wp2
      go_ret
      exact ⟨rfl, held_below (by assumption)⟩
    · obtain ⟨q, rfl⟩ : ∃ q, j = q + 1 := ⟨j - 1, by omega⟩
      have hq : q < s.size := by omega
      have hsq := HS.out q hq
      by_cases he : gt l q = 32
      · have hi : s[q] = 32 := hsq.trans he
        have HE := Lib.hid he
        clear he hsq
        go_wp2
        go_round
        case rel => exact ⟨q, by omega, by go_num, by rw [HT.out, trim_end (by rw [HN.out]; omega) HE.out]⟩
        case measure => simp [intOf]
      · have hi : ¬ ((gt l q).toNat : Int) = 32 := fun hh => he (UInt8.toNat_inj.1 (by show (gt l q).toNat = 32; omega))
        have htr := fun W ho => HR.out (trim_done (by rw [HN.out]; omega) he) W ho
        have HX := Lib.hid htr; clear htr he
        have q0 : (0 : Int) ≤ (q : Int) + 1 := by omega
        have q1 : (q : Int) + 1 ≤ (s.size : Int) := by omega
        go_wp2
        go_region_held3 (fun w' => Held w w.heap.size p (s.size + m) c (padL l (s.size + m)) w') (first | exact HH.out | exact held_next (by assumption) (by assumption)) (first
          | (go_at_call 20; refine (HX.out _ ?_).mono ?_; assumption; rintro e w2 ⟨rfl, hb2⟩)
          | (go_at_call 15; refine (works_any _).mono ?_; rintro e w3 ⟨rfl, hb3⟩))
        go_wp2
        go_ret
        exact ⟨rfl, held_below (by assumption)⟩
theorem walk (s : ByteArray) (hm : s.size ≤ 9223372036854775807) (k : Int) (n0 : -9223372036854775808 ≤ k) (n1 : k < 9223372036854775808) (w : World) :
    Calls Try.prog 10 #[.string s, .int .i64 k] w (New w (.bool true)) := by
  by_cases hs : s.size ≤ 1000
  · obtain ⟨m, hmn, hM⟩ := part_of k
    cases ha : s.data.toList.all isC
    · exact no s k m hs hmn hM w (fun W => pad_char s _ (by omega) (by omega) (by omega) ha W)
    · refine yes s k m hs hmn hM _ rfl ha w (fun W => ?_)
      have h := pad_yes s (s.size + m) (by omega) (by omega) (by omega) ha W
      rw [Int.natCast_add] at h
      exact h
  · exact long s k hm (by omega) w

set_option maxRecDepth 100000 in
theorem lifted (os : Os) (started : os.Started) (H : Type) (enc : TypeId × Value → H) :
    ReturnsInHanded {} Try.checked os 10 .any (Rows.ebcdicFieldsSpec.pre6 enc Try.prog Try.f10 Rows.ebcdicFieldsRow.domain false) (Rows.ebcdicFieldsSpec.post enc Try.prog Try.f10 false true false false) := by
  refine returnsInHanded_of_change (C := Try.checked) own started (by kernel_rfl) Try.func10
    (ChangeSpec.witness6 (enc := enc) (C := Try.checked) false ⟨#[], #[.string ⟨#[]⟩, .int .i64 0], []⟩ 8 (by kernel_rfl) (by kernel_rfl) (by kernel_rfl) (by kernel_rfl)) ?_
  intro W base args ds gs before hval0 hW hcnd _
  have hval : ∀ (j : Nat) t v, Try.f10.params[j]? = some t → args[j]? = some v → Value.okWide Try.prog W .any base t v := hval0
  have hW' := hW
  obtain ⟨p, q, hA0, hV, rfl, hfz, hnd⟩ := hW
  have hA : DataW.TrodAll enc Try.prog W 0 (fun _ => true) true Try.f10.params.toList args.toList ds p := hA0
  rw [Try.params10] at hA hval
  obtain ⟨v0, vs0, d0, ds0, p0, q0, hargs, rfl, rfl, h0, r0⟩ := trodAll_cons hA
  obtain ⟨v1, vs1, d1, ds1, p1, q1, rfl, rfl, rfl, h1, r1⟩ := trodAll_cons r0
  obtain ⟨rfl, rfl, rfl⟩ := trodAll_nil r1
  obtain rfl : args = #[v0, v1] := by cases args; simp_all
  obtain ⟨rfl, rfl⟩ := trodVars_none hV
  obtain ⟨s0, rfl, rfl, rfl, w0⟩ := open_string Try.underlying9 (hval 0 9 v0 rfl rfl) h0
  obtain ⟨a1, rfl, rfl, rfl, w1⟩ := open_int Try.underlying3 (hval 1 3 v1 rfl rfl) h1
  clear hA0 hval0
  simp only [List.append_nil] at hW'
  refine (walk s0 (by unfold maxLen at w0; omega) a1 (i64_wf w1).1 (i64_wf w1).2 W).mono fun e W' ⟨he, hn⟩ => ?_
  subst he
  exact ⟨_, rfl, _, _, _, [], [], [], hW', trodAll_cons_mk (shut_bool Try.underlying4 _) trodAll_mk0, (trodAll_cons_mk (shut_string Try.underlying9 w0) (trodAll_cons_mk (shut_int Try.underlying3 w1) trodAll_mk0)), rfl, hn.frame _, fun h => by cases h⟩

theorem over : Rows.ebcdicFieldsRow.holds Try.pinned (OpenSpec.ofChange Rows.ebcdicFieldsSpec) :=
  OpenClaim.holds_of_wide 10 Try.f10 rfl rfl rfl rfl rfl rfl rfl ⟨rfl, rfl, rfl, rfl, rfl⟩ rfl rfl rfl rfl rfl (by kernel_rfl) Try.func10 (by kernel_rfl)
    (of_decide_eq_true (by kernel_rfl)) (by unfold Func.isWrapper; first | (rw [if_pos (by decide +kernel)]; kernel_rfl) | (rw [if_neg (by decide +kernel)]; exact ⟨rfl, rfl⟩))
    (fun os started H enc _ => lifted os started H enc)

theorem proved : Rows.EbcdicFieldsSaid :=
  over
#print axioms proved
end Go.Proofs.Ytbehboajhpppjaa.ebcdicFields

/- Encoding works piece by piece, and decoding undoes it: the statement EbcdicPieces, with no condition. -/
import Derived.Test.YtbehboajhpppjaaRows
import Derived.WalkKit
import Derived.ProofKit
import Derived.OpenShut
import Derived.ChangeMaps5
import Derived.Lib.Hide
import Derived.Deep.Cut
import Derived.Deep.DeepMust
import Derived.Deep.QuietTactic
import Derived.BigQuiet
import Derived.OwnWalk
import Derived.Laws.CopyOwn
import Derived.Laws.AppendOwn
import Derived.Laws.OwnMore
import Derived.Laws.AppendOwnNone
import Derived.Deep.Draws
import Derived.Laws.IdiomStrings
import Derived.Below
import Derived.Lib.Strings
import Derived.Test.YtbehboajhpppjaaEbWorks
namespace Go.Proofs.Ytbehboajhpppjaa.ebcdicPieces
open Go.ChangeShapes Go.WideShapes Go.ChangeAt Go.RowKit Go.ChangeMaps E
set_option linter.unusedVariables false

theorem own : ownKnob Try.prog.godebug = none := by kernel_rfl

/-- What Encode leaves where every byte is a character. -/
def EncOk (w : World) (l : List UInt8) (e : Ending) (w' : World) : Prop :=
  ∃ sv, e = .returned (.tuple #[sv, .int .i64 0]) ∧ Own w' w.heap.size sv (l.map codeV) ∧ Below w.heap.size w w'
theorem enc_ok (s : ByteArray) (l : List UInt8) (hs : s.size ≤ 140737488355328) (hl : s.data.toList = l) (h : l.all isC = true) (W : World) : Calls Try.prog 16 #[.string s] W (EncOk W l) :=
  (encode_any s W hs).mono fun e w' hp => by
    rw [hl] at hp
    rcases hp with ⟨_, h1⟩ | ⟨h1, _⟩
    · exact h1
    · rw [h] at h1; cases h1
theorem enc_no (s : ByteArray) (l : List UInt8) (hs : s.size ≤ 140737488355328) (hl : s.data.toList = l) (h : l.all isC = false) (W : World) : Calls Try.prog 16 #[.string s] W (New W (.tuple #[.slice none 0 0, .int .i64 20])) :=
  (encode_any s W hs).mono fun e w' hp => by
    rw [hl] at hp
    rcases hp with ⟨h1, _⟩ | ⟨_, h1⟩
    · rw [h] at h1; cases h1
    · exact h1
/-- A row below B is kept by what writes above B alone. -/
theorem own_kept_at {w w' : World} {base B : Nat} {sv : Value} {l : List UInt8} (h : Own w base sv l) (hB : ∀ r, sv.ownBlock = some r → r < B) (hb : Below B w w') : Own w' base sv l := by
  obtain ⟨h0, h1 | ⟨g, cap, cur, hv, hg, hh, hle, hm, hsz, ht⟩⟩ := h
  · exact ⟨h0, .inl h1⟩
  · refine ⟨h0, .inr ⟨g, cap, cur, hv, hg, ?_, hle, hm, hsz, ht⟩⟩
    rw [hb.block g (hB g (by rw [hv]; rfl))]
    exact hh
theorem dec_back {l : List UInt8} (h : l.all isC = true) : (l.map codeV).map decV = l := by
  induction l with
  | nil => rfl
  | cons x l ih =>
    simp only [List.all_cons, Bool.and_eq_true] at h
    have hx := back_c x h.1
    have hd : decV (codeV x) = x := by unfold decV; rw [if_pos hx.1]; exact hx.2
    simp only [List.map_cons, hd, ih h.2]
theorem own_cases {w : World} {base : Nat} {sv : Value} {l : List UInt8} (h : Own w base sv l) : (sv = .slice none 0 0 ∧ l = []) ∨ ∃ g c, sv = .slice (some ⟨g, 0, none⟩) l.length c ∧ ∀ j v, (bsU l)[j]? = some v → w.cell? ((⟨g, 0, none⟩ : Addr).add j) = some v := by
  have h' := h
  obtain ⟨_, h1 | ⟨g, cap, cur, hv, _⟩⟩ := h
  · exact .inl ⟨h1.1, List.length_eq_zero_iff.1 h1.2⟩
  · subst hv
    exact .inr ⟨g, cap, rfl, fun j v hj => h'.cells rfl j v hj⟩
theorem dec_own {w : World} {base : Nat} {sv : Value} {l : List UInt8} {s : ByteArray} (h : Own w base sv (l.map codeV)) (ha : l.all isC = true) (hl : s.data.toList = l) (hs : s.size ≤ 140737488355328) :
    Calls Try.prog 19 #[sv] w (New w (.string s)) := by
  have hb : ((l.map codeV).length : Nat) ≤ 140737488355328 := by rw [List.length_map, ← hl]; exact hs
  obtain ⟨p, c, rfl, hr, _⟩ := h.rd
  have hd := decode_any p c (l.map codeV) w hb hr
  have e : (⟨l.toArray⟩ : ByteArray) = s := by rw [← hl, Array.toArray_toList]
  rw [dec_back ha, e] at hd
  exact hd
theorem part_of (k : Int) (n : Nat) (hn : n ≤ 3000) : ∃ m : Nat, m ≤ n ∧ wrap64 ((IntKind.u64.wrap k).tmod ((n : Int) + 1)) = (m : Int) := by
  have h0 := wrap_u64_nonneg k
  have h1 := Int.tmod_nonneg (a := IntKind.u64.wrap k) ((n : Int) + 1) h0
  have h2 := Int.tmod_lt_of_pos (IntKind.u64.wrap k) (show 0 < (n : Int) + 1 by omega)
  obtain ⟨m, hm⟩ := Int.eq_ofNat_of_zero_le h1
  refine ⟨m, by omega, ?_⟩
  rw [hm]
  unfold wrap64
  omega
set_option maxRecDepth 100000 in
theorem long (s : ByteArray) (k : Int) (hm : s.size ≤ 9223372036854775807) (hs : 3000 < s.size) (w : World) :
    Calls Try.prog 8 #[.string s, .int .i64 k] w (New w (.bool true)) := by
  go_enter Try.func8, Try.ntmps8
  go_wp2
  go_ret
  exact ⟨rfl, Below.refl _ _⟩
set_option maxRecDepth 100000 in
theorem no1 (s : ByteArray) (k : Int) (m : Nat) (hs : s.size ≤ 3000) (hmn : m ≤ s.size) (hM : wrap64 ((IntKind.u64.wrap k).tmod ((s.size : Int) + 1)) = (m : Int)) (w : World)
    (hw : ∀ W, Calls Try.prog 16 #[.string s] W (New W (.tuple #[.slice none 0 0, .int .i64 20]))) (ha : ∀ W, Calls Try.prog 16 #[.string (s.extract 0 m)] W (New W (.tuple #[.slice none 0 0, .int .i64 20]))) (lb : List UInt8) (hb : ∀ W, Calls Try.prog 16 #[.string (s.extract m s.size)] W (EncOk W lb)) :
    Calls Try.prog 8 #[.string s, .int .i64 k] w (New w (.bool true)) := by
  have HW := Lib.hid hw
  have HA := Lib.hid ha
  have HB := Lib.hid hb
  clear hw ha hb
  go_enter Try.func8, Try.ntmps8
  go_wp2_with fail
  refine (HW.out _).mono ?_
  rintro e w1 ⟨rfl, hb1⟩
  have HB1 := Lib.hid (hb1); clear hb1
  go_wp2_with fail
  refine (HA.out _).mono ?_
  rintro e w2 ⟨rfl, hb2⟩
  have HB2 := Lib.hid (HB1.out.trans (hb2.mono HB1.out.size)); clear hb2
  go_wp2_with fail
  refine (HB.out _).mono ?_
  rintro e w3 ⟨sv3, rfl, ho3, hb3⟩
  have HB3 := Lib.hid (HB2.out.trans (hb3.mono HB2.out.size))
  go_wp2_with fail
  refine (works_any _).mono ?_
  rintro e w9 ⟨rfl, hb9⟩
  have HBW := Lib.hid (HB3.out.trans (hb9.mono HB3.out.size)); clear hb9
  go_wp2
  go_ret
  exact ⟨rfl, HBW.out⟩

set_option maxRecDepth 100000 in
theorem no2 (s : ByteArray) (k : Int) (m : Nat) (hs : s.size ≤ 3000) (hmn : m ≤ s.size) (hM : wrap64 ((IntKind.u64.wrap k).tmod ((s.size : Int) + 1)) = (m : Int)) (w : World)
    (hw : ∀ W, Calls Try.prog 16 #[.string s] W (New W (.tuple #[.slice none 0 0, .int .i64 20]))) (la : List UInt8) (ha : ∀ W, Calls Try.prog 16 #[.string (s.extract 0 m)] W (EncOk W la)) (hb : ∀ W, Calls Try.prog 16 #[.string (s.extract m s.size)] W (New W (.tuple #[.slice none 0 0, .int .i64 20]))) :
    Calls Try.prog 8 #[.string s, .int .i64 k] w (New w (.bool true)) := by
  have HW := Lib.hid hw
  have HA := Lib.hid ha
  have HB := Lib.hid hb
  clear hw ha hb
  go_enter Try.func8, Try.ntmps8
  go_wp2_with fail
  refine (HW.out _).mono ?_
  rintro e w1 ⟨rfl, hb1⟩
  have HB1 := Lib.hid (hb1); clear hb1
  go_wp2_with fail
  refine (HA.out _).mono ?_
  rintro e w2 ⟨sv2, rfl, ho2, hb2⟩
  have HB2 := Lib.hid (HB1.out.trans (hb2.mono HB1.out.size))
  go_wp2_with fail
  refine (HB.out _).mono ?_
  rintro e w3 ⟨rfl, hb3⟩
  have HB3 := Lib.hid (HB2.out.trans (hb3.mono HB2.out.size)); clear hb3
  go_wp2_with fail
  refine (works_any _).mono ?_
  rintro e w9 ⟨rfl, hb9⟩
  have HBW := Lib.hid (HB3.out.trans (hb9.mono HB3.out.size)); clear hb9
  go_wp2
  go_ret
  exact ⟨rfl, HBW.out⟩

set_option maxRecDepth 100000 in
theorem no3 (s : ByteArray) (k : Int) (m : Nat) (hs : s.size ≤ 3000) (hmn : m ≤ s.size) (hM : wrap64 ((IntKind.u64.wrap k).tmod ((s.size : Int) + 1)) = (m : Int)) (w : World)
    (hw : ∀ W, Calls Try.prog 16 #[.string s] W (New W (.tuple #[.slice none 0 0, .int .i64 20]))) (ha : ∀ W, Calls Try.prog 16 #[.string (s.extract 0 m)] W (New W (.tuple #[.slice none 0 0, .int .i64 20]))) (hb : ∀ W, Calls Try.prog 16 #[.string (s.extract m s.size)] W (New W (.tuple #[.slice none 0 0, .int .i64 20]))) :
    Calls Try.prog 8 #[.string s, .int .i64 k] w (New w (.bool true)) := by
  have HW := Lib.hid hw
  have HA := Lib.hid ha
  have HB := Lib.hid hb
  clear hw ha hb
  go_enter Try.func8, Try.ntmps8
  go_wp2_with fail
  refine (HW.out _).mono ?_
  rintro e w1 ⟨rfl, hb1⟩
  have HB1 := Lib.hid (hb1); clear hb1
  go_wp2_with fail
  refine (HA.out _).mono ?_
  rintro e w2 ⟨rfl, hb2⟩
  have HB2 := Lib.hid (HB1.out.trans (hb2.mono HB1.out.size)); clear hb2
  go_wp2_with fail
  refine (HB.out _).mono ?_
  rintro e w3 ⟨rfl, hb3⟩
  have HB3 := Lib.hid (HB2.out.trans (hb3.mono HB2.out.size)); clear hb3
  go_wp2_with fail
  refine (works_any _).mono ?_
  rintro e w9 ⟨rfl, hb9⟩
  have HBW := Lib.hid (HB3.out.trans (hb9.mono HB3.out.size)); clear hb9
  go_wp2
  go_ret
  exact ⟨rfl, HBW.out⟩

set_option maxRecDepth 100000 in
theorem yes (s : ByteArray) (k : Int) (m : Nat) (hs : s.size ≤ 3000) (hmn : m ≤ s.size) (hM : wrap64 ((IntKind.u64.wrap k).tmod ((s.size : Int) + 1)) = (m : Int)) (l : List UInt8) (hl : s.data.toList = l) (hall : l.all isC = true) (w : World)
    (hw : ∀ W, Calls Try.prog 16 #[.string s] W (EncOk W l)) (ha : ∀ W, Calls Try.prog 16 #[.string (s.extract 0 m)] W (EncOk W (l.take m))) (hb : ∀ W, Calls Try.prog 16 #[.string (s.extract m s.size)] W (EncOk W (l.drop m))) :
    Calls Try.prog 8 #[.string s, .int .i64 k] w (New w (.bool true)) := by
  obtain ⟨i0, hi, hz0, hz1, hz2⟩ := info_parts info5
  have HW := Lib.hid hw
  have HA := Lib.hid ha
  have HB := Lib.hid hb
  have HL := Lib.hid hl
  have HALL := Lib.hid hall
  have HN := Lib.hid (show l.length = s.size by rw [← hl]; rfl)
  clear hw ha hb hl hall
  go_enter Try.func8, Try.ntmps8
  go_wp2_with fail
  refine (HW.out _).mono ?_
  rintro e w1 ⟨sv1, rfl, ho1, hb1⟩
  have HB1 := Lib.hid (hb1)
  have HO1 := Lib.hid ho1
  have HR1 := Lib.hid (fun r hr => (ho1.lt r hr).2)
  clear ho1 hb1
  go_wp2_with fail
  refine (HA.out _).mono ?_
  rintro e w2 ⟨sv2, rfl, ho2, hb2⟩
  have HB2 := Lib.hid (HB1.out.trans (hb2.mono HB1.out.size))
  have HO2 := Lib.hid ho2
  have HP2 := Lib.hid (HO1.out.kept hb2)
  have HG2 := Lib.hid (hb2.size)
  clear ho2 hb2 HO1
  go_wp2_with fail
  refine (HB.out _).mono ?_
  rintro e w3 ⟨sv3, rfl, ho3, hb3⟩
  have HB3 := Lib.hid (HB2.out.trans (hb3.mono HB2.out.size))
  have HO3 := Lib.hid ho3
  have HP3 := Lib.hid (HP2.out.kept hb3)
  have HQ3 := Lib.hid (HO2.out.kept hb3)
  have HG3 := Lib.hid (Nat.le_trans HG2.out hb3.size)
  clear ho3 hb3 HP2 HO2 HG2
  have hlen2 : ((l.take m).map codeV).length = m := by rw [List.length_map, List.length_take, HN.out]; omega
  have hown := HQ3.out
  unfold Own at hown
  rw [hlen2] at hown
  rcases own_cases HO3.out with ⟨rfl, hnil⟩ | ⟨g, d, rfl, hsrc⟩
  · have HNIL := Lib.hid hnil
    clear hlen2 hnil
    go_wp2_with (at_builtin; refine wpList_append_own_none rfl (.tmp 58) (.tmp 59) 26 rfl w1.heap.size 5 i0 1 Try.underlying26 hi _ m _ rfl hown rfl ?_)
    clear hown
    have hQ4 : Own w3 w1.heap.size sv2 (l.map codeV) := by
      have h1 := HQ3.out
      rw [← List.take_append_drop m l, List.map_append, HNIL.out, List.append_nil]
      exact h1
    have HQ4 := Lib.hid hQ4; clear hQ4
    go_wp2_with fail
    refine (same_own HP3.out HQ4.out).mono ?_
    rintro e w5 ⟨rfl, hb5⟩
    have HB5 := Lib.hid (HB3.out.trans (hb5.mono HB3.out.size))
    have HP5 := Lib.hid (HP3.out.kept hb5)
    clear hb5
    go_wp2_with fail
    refine (dec_own HP5.out HALL.out HL.out (by omega)).mono ?_
    rintro e w6 ⟨rfl, hb6⟩
    have HB6 := Lib.hid (HB5.out.trans (hb6.mono HB5.out.size)); clear hb6
    go_wp2_with fail
    refine (works_any _).mono ?_
    rintro e w9 ⟨rfl, hb9⟩
    have HBW := Lib.hid (HB6.out.trans (hb9.mono HB6.out.size)); clear hb9
    go_wp2
    go_ret
    exact ⟨rfl, HBW.out⟩
  · rw [show ((l.drop m).map codeV).length = s.size - m from by rw [List.length_map, List.length_drop, HN.out]]
    have HS := Lib.hid hsrc
    clear hlen2 hsrc
    have hl1 : (bsU ((l.drop m).map codeV)).length = (s.size - m) * 1 := by rw [bsU_len, List.length_map, List.length_drop, HN.out, Nat.mul_one]
    have HL1 := Lib.hid hl1; clear hl1
    obtain ⟨N, hN⟩ : ∃ N, N = (l.drop m).map codeV := ⟨_, rfl⟩
    rw [← hN] at HS HL1
    have HNN := Lib.hid hN; clear hN
    obtain ⟨M, hMM⟩ : ∃ M, M = bsU ((l.take m).map codeV) := ⟨_, rfl⟩
    rw [← hMM] at hown
    have HMM := Lib.hid hMM; clear hMM
    go_wp2_with (at_builtin; refine wpList_append_own _ rfl (.tmp 58) (.tmp 59) 26 rfl w1.heap.size 5 i0 (.int .u8 0) 1 1 Try.underlying26 hi hz0 hz1 hz2 rfl (by decide) _ m _ rfl hown ⟨g, 0, none⟩ (s.size - m) d (bsU N) rfl HL1.out HS.out (bsU_one _) ?c3 ?c4 ?c5 ?_)
    case c3 => unfold maxLen; omega
    case c4 => omega
    case c5 => exact HG3.out
    intro v' w4 hown' hgrow _
    have hb4 : Below w1.heap.size w3 w4 := (Below.refl _ _).grown hgrow HG3.out (fun r hr => (hown.lt r hr).1)
    have HP4 := Lib.hid (own_kept_at HP3.out HR1.out hb4)
    have HB4 := Lib.hid (HB3.out.trans (hb4.mono HB1.out.size))
    have hQ4 : Own w4 w1.heap.size v' (l.map codeV) := by
      unfold Own
      rw [List.length_map, HN.out]
      have h1 := hown'
      rw [HMM.out, HNN.out] at h1
      rw [show l.map codeV = (l.take m).map codeV ++ (l.drop m).map codeV from by rw [← List.map_append, List.take_append_drop]]
      rw [show bsU ((l.take m).map codeV ++ (l.drop m).map codeV) = bsU ((l.take m).map codeV) ++ bsU ((l.drop m).map codeV) from by simp [bsU]]
      exact h1
    have HQ4 := Lib.hid hQ4
    clear hQ4 hown' hgrow hb4 hown
    go_wp2_with fail
    refine (same_own HP4.out HQ4.out).mono ?_
    rintro e w5 ⟨rfl, hb5⟩
    have HB5 := Lib.hid (HB4.out.trans (hb5.mono HB4.out.size))
    have HP5 := Lib.hid (HP4.out.kept hb5)
    clear hb5
    go_wp2_with fail
    refine (dec_own HP5.out HALL.out HL.out (by omega)).mono ?_
    rintro e w6 ⟨rfl, hb6⟩
    have HB6 := Lib.hid (HB5.out.trans (hb6.mono HB5.out.size)); clear hb6
    go_wp2_with fail
    refine (works_any _).mono ?_
    rintro e w9 ⟨rfl, hb9⟩
    have HBW := Lib.hid (HB6.out.trans (hb9.mono HB6.out.size)); clear hb9
    go_wp2
    go_ret
    exact ⟨rfl, HBW.out⟩
theorem walk (s : ByteArray) (hm : s.size ≤ 9223372036854775807) (k : Int) (n0 : -9223372036854775808 ≤ k) (n1 : k < 9223372036854775808) (w : World) :
    Calls Try.prog 8 #[.string s, .int .i64 k] w (New w (.bool true)) := by
  by_cases hs : s.size ≤ 3000
  · obtain ⟨m, hmn, hM⟩ := part_of k s.size hs
    obtain ⟨l, hl⟩ : ∃ l, s.data.toList = l := ⟨_, rfl⟩
    have hN : l.length = s.size := by rw [← hl]; rfl
    have h1 : (s.extract 0 m).data.toList = l.take m := by rw [Lib.extract_data, hl, List.drop_zero, Nat.sub_zero]
    have h2 : (s.extract m s.size).data.toList = l.drop m := by
      rw [Lib.extract_data, hl, List.take_of_length_le (by rw [List.length_drop, hN]; exact Nat.le_refl _)]
    have z1 : (s.extract 0 m).size ≤ 140737488355328 := by
      have : (s.extract 0 m).data.toList.length = (s.extract 0 m).size := rfl
      rw [← this, h1, List.length_take]; omega
    have z2 : (s.extract m s.size).size ≤ 140737488355328 := by
      have : (s.extract m s.size).data.toList.length = (s.extract m s.size).size := rfl
      rw [← this, h2, List.length_drop]; omega
    have hsp : l.all isC = ((l.take m).all isC && (l.drop m).all isC) := by
      rw [← List.all_append, List.take_append_drop]
    cases ha : (l.take m).all isC
    · have hw := enc_no s l (by omega) hl (by rw [hsp, ha]; rfl)
      cases hb : (l.drop m).all isC
      · exact no3 s k m hs hmn hM w hw (enc_no _ _ z1 h1 ha) (enc_no _ _ z2 h2 hb)
      · exact no1 s k m hs hmn hM w hw (enc_no _ _ z1 h1 ha) _ (enc_ok _ _ z2 h2 hb)
    · cases hb : (l.drop m).all isC
      · have hw := enc_no s l (by omega) hl (by rw [hsp, ha, hb]; rfl)
        exact no2 s k m hs hmn hM w hw _ (enc_ok _ _ z1 h1 ha) (enc_no _ _ z2 h2 hb)
      · have hall : l.all isC = true := by rw [hsp, ha, hb]; rfl
        exact yes s k m hs hmn hM l hl hall w (enc_ok s l (by omega) hl hall) (enc_ok _ _ z1 h1 ha) (enc_ok _ _ z2 h2 hb)
  · exact long s k hm (by omega) w

set_option maxRecDepth 100000 in
theorem lifted (os : Os) (started : os.Started) (H : Type) (enc : TypeId × Value → H) :
    ReturnsInHanded {} Try.checked os 8 .any (Rows.ebcdicPiecesSpec.pre6 enc Try.prog Try.f8 Rows.ebcdicPiecesRow.domain false) (Rows.ebcdicPiecesSpec.post enc Try.prog Try.f8 false true false false) := by
  refine returnsInHanded_of_change (C := Try.checked) own started (by kernel_rfl) Try.func8
    (ChangeSpec.witness6 (enc := enc) (C := Try.checked) false ⟨#[], #[.string ⟨#[]⟩, .int .i64 0], []⟩ 8 (by kernel_rfl) (by kernel_rfl) (by kernel_rfl) (by kernel_rfl)) ?_
  intro W base args ds gs before hval0 hW hcnd _
  have hval : ∀ (j : Nat) t v, Try.f8.params[j]? = some t → args[j]? = some v → Value.okWide Try.prog W .any base t v := hval0
  have hW' := hW
  obtain ⟨p, q, hA0, hV, rfl, hfz, hnd⟩ := hW
  have hA : DataW.TrodAll enc Try.prog W 0 (fun _ => true) true Try.f8.params.toList args.toList ds p := hA0
  rw [Try.params8] at hA hval
  obtain ⟨v0, vs0, d0, ds0, p0, q0, hargs, rfl, rfl, h0, r0⟩ := trodAll_cons hA
  obtain ⟨v1, vs1, d1, ds1, p1, q1, rfl, rfl, rfl, h1, r1⟩ := trodAll_cons r0
  obtain ⟨rfl, rfl, rfl⟩ := trodAll_nil r1
  obtain rfl : args = #[v0, v1] := by cases args; simp_all
  obtain ⟨rfl, rfl⟩ := trodVars_none hV
  obtain ⟨s0, rfl, rfl, rfl, w0⟩ := open_string Try.underlying9 (hval 0 9 v0 rfl rfl) h0
  obtain ⟨a1, rfl, rfl, rfl, w1⟩ := open_int Try.underlying3 (hval 1 3 v1 rfl rfl) h1
  clear hA0 hval0
  simp only [List.append_nil] at hW'
  refine (walk s0 (by unfold maxLen at w0; omega) a1 (i64_wf w1).1 (i64_wf w1).2 W).mono fun e W' ⟨he, hn⟩ => ?_
  subst he
  exact ⟨_, rfl, _, _, _, [], [], [], hW', trodAll_cons_mk (shut_bool Try.underlying4 _) trodAll_mk0, (trodAll_cons_mk (shut_string Try.underlying9 w0) (trodAll_cons_mk (shut_int Try.underlying3 w1) trodAll_mk0)), rfl, hn.frame _, fun h => by cases h⟩

theorem over : Rows.ebcdicPiecesRow.holds Try.pinned (OpenSpec.ofChange Rows.ebcdicPiecesSpec) :=
  OpenClaim.holds_of_wide 8 Try.f8 rfl rfl rfl rfl rfl rfl rfl ⟨rfl, rfl, rfl, rfl, rfl⟩ rfl rfl rfl rfl rfl (by kernel_rfl) Try.func8 (by kernel_rfl)
    (of_decide_eq_true (by kernel_rfl)) (by unfold Func.isWrapper; first | (rw [if_pos (by decide +kernel)]; kernel_rfl) | (rw [if_neg (by decide +kernel)]; exact ⟨rfl, rfl⟩))
    (fun os started H enc _ => lifted os started H enc)

theorem proved : Rows.EbcdicPiecesSaid :=
  over
#print axioms proved
end Go.Proofs.Ytbehboajhpppjaa.ebcdicPieces

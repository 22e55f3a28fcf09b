/- The contracts of same and Encode; rows of bytes. -/
import Derived.Test.YtbehboajhpppjaaRows
import Derived.WalkKit
import Derived.ProofKit
import Derived.Lib.Hide
import Derived.Deep.Cut
import Derived.Deep.DeepMust
import Derived.Deep.QuietTactic
import Derived.BigQuiet
import Derived.OwnWalk
import Derived.Laws.CopyOwn
import Derived.Laws.AppendOwn
import Derived.Laws.OwnMore
import Derived.Laws.AppendOwnNone
import Derived.Deep.Draws
import Derived.Laws.IdiomStrings
import Derived.Below
import Derived.Test.YtbehboajhpppjaaEbSmall
namespace Go.Proofs.Ytbehboajhpppjaa
open Go.RowKit
set_option linter.unusedVariables false
namespace E

/-- A slice that starts at p and has the length of l reads as the bytes l. -/
def Rd (w : World) (p : Option Addr) (l : List UInt8) : Prop := l = [] ∨ ∃ B off, p = some ⟨B, off, none⟩ ∧ ∀ j, j < l.length → w.cell? ⟨B, off + j, none⟩ = some (.int .u8 ((gt l j).toNat : Int))
theorem Rd.below {w w' : World} {p : Option Addr} {l : List UInt8} (h : Rd w p l) (hb : Below w.heap.size w w') : Rd w' p l := by
  rcases h with h | ⟨B, off, hp, hc⟩
  · exact .inl h
  · refine .inr ⟨B, off, hp, fun j hj => ?_⟩
    have hj' := hc j hj
    rw [hb.cell (World.block_lt_of_cell? w _ hj')]; exact hj'
theorem rd_new (w : World) (l : List UInt8) (t : TypeId) : Rd (w.alloc (.cells (bsU l).toArray t)) (some ⟨w.heap.size, 0, none⟩) l :=
  .inr ⟨_, _, rfl, fun j hj => by rw [Nat.zero_add]; exact cell_new w l t j hj⟩
theorem belowDraw (w : World) (m : Nat) : Below w.heap.size w (w.drewN m) := by
  induction m with
  | zero => exact Below.refl _ _
  | succ m ih => exact ih.drew
/-- A row of the call's own that holds bytes. -/
def Own (w : World) (base : Nat) (sv : Value) (l : List UInt8) : Prop := w.ownsRow base 5 1 sv l.length (bsU l)
theorem Own.rd {w : World} {base : Nat} {sv : Value} {l : List UInt8} (h : Own w base sv l) : ∃ p c, sv = .slice p l.length c ∧ Rd w p l ∧ (l.length ≤ 9223372036854775807) := by
  have h' := h
  obtain ⟨_, h1 | ⟨g, cap, cur, hv, _, hh, hle, hm, hsz, ht⟩⟩ := h
  · obtain ⟨h2, h3⟩ := h1
    have hl : l.length = 0 := h3
    exact ⟨none, 0, by rw [h2, hl], .inl (List.length_eq_zero_iff.1 hl), by omega⟩
  · subst hv
    refine ⟨_, _, rfl, .inr ⟨_, _, rfl, fun j hj => ?_⟩, by unfold maxLen at hm; omega⟩
    rw [Nat.zero_add, h'.cellAt j (by omega), bsU_get l j hj]
theorem Own.full {w : World} {base : Nat} {sv : Value} {l : List UInt8} (h : Own w base sv l) : ∃ p c, sv = .slice p l.length c ∧ Rd w p l ∧ l.length ≤ c ∧ c ≤ 9223372036854775807 ∧ (p = none → c = 0) := by
  have h' := h.rd
  obtain ⟨_, h1 | ⟨g, cap, cur, hv, _, hh, hle, hm, hsz, ht⟩⟩ := h
  · obtain ⟨h2, h3⟩ := h1
    have hl : l.length = 0 := h3
    exact ⟨none, 0, by rw [h2, hl], .inl (List.length_eq_zero_iff.1 hl), by omega, by omega, fun _ => rfl⟩
  · subst hv
    obtain ⟨p, c, he, hr, _⟩ := h'
    injection he with e1 e2 e3
    subst e1 e3
    exact ⟨_, _, rfl, hr, hle, by unfold maxLen at hm; omega, fun hn => by cases hn⟩
theorem own_kept {w w' : World} {base n : Nat} {sv : Value} {xs : List Value} (h : w.ownsRow base 5 1 sv n xs) (hb : Below w.heap.size w w') : w'.ownsRow base 5 1 sv n xs := by
  obtain ⟨h0, h1 | ⟨g, cap, cur, hv, hg, hh, hle, hm, hsz, ht⟩⟩ := h
  · exact ⟨h0, .inl h1⟩
  · refine ⟨h0, .inr ⟨g, cap, cur, hv, hg, ?_, hle, hm, hsz, ht⟩⟩
    have hlt : g < w.heap.size := by
      rcases Nat.lt_or_ge g w.heap.size with h' | h'
      · exact h'
      · simp [Array.getElem?_eq_none h'] at hh
    rw [hb.block g hlt]
    exact hh
theorem Own.kept {w w' : World} {base : Nat} {sv : Value} {l : List UInt8} (h : Own w base sv l) (hb : Below w.heap.size w w') : Own w' base sv l := own_kept h hb

/-- same, of two slices of the same bytes. -/
theorem same_true (p q : Option Addr) (c d : Nat) (l : List UInt8) (w : World) (hn : l.length ≤ 9223372036854775807) (hp : Rd w p l) (hq : Rd w q l) :
    Calls Try.prog 18 #[.slice p l.length c, .slice q l.length d] w (New w (.bool true)) := by
  rcases hp with h0 | ⟨B, off, rfl, hc⟩
  · subst h0
    clear hq
    go_enter Try.func18, Try.ntmps18
    go_wp2
    go_loop [5] (fun i => i = .int .i64 0) (fun _ => 0)
    case atStart => rfl
    case round =>
      subst hrel
      go_wp2
      go_ret
      exact ⟨rfl, Below.refl _ _⟩
  rcases hq with h0 | ⟨B2, off2, rfl, hd⟩
  · subst h0
    clear hc
    go_enter Try.func18, Try.ntmps18
    go_wp2
    go_loop [5] (fun i => i = .int .i64 0) (fun _ => 0)
    case atStart => rfl
    case round =>
      subst hrel
      go_wp2
      go_ret
      exact ⟨rfl, Below.refl _ _⟩
  generalize hln : l.length = n at *
  have HL := Lib.hid hln; clear hln
  go_enter Try.func18, Try.ntmps18
  go_wp2
  go_loopw [5] (fun i wr => (∃ m, wr = w.drewN m) ∧ ∃ k : Nat, k ≤ n ∧ i = .int .i64 k) (fun i _ => n - (intOf i).toNat)
  case atStart => exact ⟨⟨0, rfl⟩, 0, Nat.zero_le _, rfl⟩
  case round =>
    obtain ⟨⟨m, rfl⟩, k, hk, rfl⟩ := hrel
    by_cases hlt : k < n
    · have hcell := hc k hlt
      have hcell2 := hd k hlt
      clear hc hd
      go_wp2
      go_quiet (fail)
      go_wp2
      go_roundw
      case rel => exact ⟨⟨_, rfl⟩, k + 1, by omega, by go_num⟩
      case measure => simp [intOf]; omega
    · obtain rfl : k = n := by omega
      clear hc hd
      go_wp2
      go_ret
      exact ⟨rfl, belowDraw _ _⟩
theorem same_own {w : World} {b1 b2 : Nat} {sv tv : Value} {l : List UInt8} (h1 : Own w b1 sv l) (h2 : Own w b2 tv l) :
    Calls Try.prog 18 #[sv, tv] w (New w (.bool true)) := by
  obtain ⟨p, c, rfl, hr, hn⟩ := h1.rd
  obtain ⟨q, d, rfl, hr2, _⟩ := h2.rd
  exact same_true p q c d l w hn hr hr2
/-- The nil slices are the same. -/
theorem same_nil (w : World) : Calls Try.prog 18 #[.slice none 0 0, .slice none 0 0] w (New w (.bool true)) :=
  same_true none none 0 0 [] w (by decide) (.inl rfl) (.inl rfl)
theorem info5 : (Try.prog.info? 5).map (fun i => (i.zero, i.size, i.bytes)) = some (some (.int .u8 0), 1, 1) := by kernel_rfl
/-- The bytes of a string. -/
theorem str_at (s : ByteArray) (k : Nat) (h : k < s.size) : s[k] = gt s.data.toList k := by
  have h' : k < s.data.toList.length := h
  rw [gt_lt h']
  rfl
/-- What Encode leaves. -/
def EncPost (w : World) (l : List UInt8) (e : Ending) (w' : World) : Prop :=
  (l.all isC = true ∧ ∃ sv, e = .returned (.tuple #[sv, .int .i64 0]) ∧ Own w' w.heap.size sv (l.map codeV) ∧ Below w.heap.size w w') ∨
  (l.all isC = false ∧ New w (.tuple #[.slice none 0 0, .int .i64 20]) e w')
theorem all_of {l : List UInt8} (h : ∀ j, j < l.length → isC (gt l j) = true) : l.all isC = true := by
  rw [List.all_eq_true]
  intro x hx
  obtain ⟨j, hj, rfl⟩ := List.getElem_of_mem hx
  rw [← gt_lt hj]; exact h j hj
theorem not_all {l : List UInt8} {j : Nat} (hj : j < l.length) (h : isC (gt l j) = false) : l.all isC = false := by
  rw [List.all_eq_false]
  refine ⟨gt l j, ?_, by simp [h]⟩
  rw [gt_lt hj]; exact List.getElem_mem hj
/-- The row that Encode fills: the codes of the first k bytes, zeros behind. -/
def fillL (f : UInt8 → UInt8) (l : List UInt8) (k : Nat) : List UInt8 := (l.take k).map f ++ List.replicate (l.length - k) 0
theorem fill_len (f : UInt8 → UInt8) (l : List UInt8) (k : Nat) (h : k ≤ l.length) : (fillL f l k).length = l.length := by simp [fillL]; omega
theorem fill_set (f : UInt8 → UInt8) (l : List UInt8) (k : Nat) (h : k < l.length) : (bsU (fillL f l k)).set k (.int .u8 ((f (gt l k)).toNat : Int)) = bsU (fillL f l (k + 1)) := by
  have hz : l.length - k = (l.length - (k + 1)) + 1 := by omega
  have hk : ((l.take k).map f).length = k := by simp; omega
  rw [fillL, fillL, hz, List.replicate_succ, List.take_succ_eq_append_getElem h]
  simp only [bsU, List.map_append, List.map_cons, List.map_nil, List.append_assoc, List.singleton_append]
  rw [List.set_append_right _ _ (by simp; omega)]
  simp [gt_lt h, Nat.min_eq_left (Nat.le_of_lt h)]
theorem fill_zero (f : UInt8 → UInt8) (l : List UInt8) : fillL f l 0 = List.replicate l.length 0 := by simp [fillL]
theorem fill_all (f : UInt8 → UInt8) (l : List UInt8) : fillL f l l.length = l.map f := by simp [fillL]
theorem made_bs (n : Nat) : (madeCells (Value.cells (.int .u8 0)) (n * 1)).toList = bsU (List.replicate n 0) := by
  rw [Nat.mul_one]
  exact (toList_madeCells_one _ n).trans (by simp [bsU])

theorem take_one {l : List UInt8} {k : Nat} (h : k < l.length) : l.take (k + 1) = l.take k ++ [gt l k] := by
  rw [List.take_succ_eq_append_getElem h, gt_lt h]
set_option maxRecDepth 100000 in
theorem encode_any (s : ByteArray) (w : World) (hs : s.size ≤ 140737488355328) :
    Calls Try.prog 16 #[.string s] w (EncPost w s.data.toList) := by
  obtain ⟨i0, hi, hz0, hz1, hz2⟩ := info_parts info5
  obtain ⟨l, hl⟩ : ∃ l, l = s.data.toList := ⟨_, rfl⟩
  have hstr : ∀ k (h : k < s.size), s[k] = gt l k := fun k h => by rw [hl]; exact str_at s k h
  have hln : l.length = s.size := by rw [hl]; rfl
  rw [← hl]
  have HL := Lib.hid hln
  have HS := Lib.hid hstr
  clear hl hln hstr
  go_enter Try.func16, Try.ntmps16
  go_wp2_with (at_make; refine wpList_make_full _ rfl _ _ 26 rfl w.heap.size 5 i0 (.int .u8 0) 1 Try.underlying26 hi hz0 hz1 .i64 .i64 s.size s.size s.size rfl rfl rfl rfl (by rw [hz2]; omega) (by unfold maxLen; omega) (Nat.le_refl _) ?_; intro w1 hown hgrow)
  have hb1 : Below w.heap.size w w1 := (Below.refl _ _).grown hgrow (Nat.le_refl _) (by simp)
  rw [made_bs, ← HL.out, ← fill_zero codeV l, HL.out] at hown
  clear hgrow
  go_loopw [13] (fun i wr => Below w.heap.size w wr ∧ ∃ k : Nat, k ≤ s.size ∧ i = .int .i64 k ∧ (∀ j, j < k → isC (gt l j) = true) ∧ wr.ownsRow w.heap.size 5 1 (.slice (some ⟨w.heap.size, 0, none⟩) s.size s.size) s.size (bsU (fillL codeV l k))) (fun i _ => s.size - (intOf i).toNat)
  case atStart => exact ⟨hb1, 0, Nat.zero_le _, rfl, fun j hj => by omega, hown⟩
  case round =>
    clear hb1 hown
    obtain ⟨hbw, k, hk, rfl, hall, hown⟩ := hrel
    have HA := Lib.hid hall; clear hall
    by_cases hlt : k < s.size
    · have HO := Lib.hid hown; clear hown
      have HB := Lib.hid hbw; clear hbw
      obtain ⟨b, hb⟩ : ∃ b, isC (gt l k) = b := ⟨_, rfl⟩
      have H := Lib.hid (code_any (gt l k)); rw [hb] at H
      have hfz := HO.out.frozenAt k
      have hcell := HO.out.cellAt k (by omega)
      rw [bsU_get _ k (by rw [fill_len _ _ _ (by rw [HL.out]; omega), HL.out]; exact hlt)] at hcell
      have HX := Lib.hid hb; clear hb
      cases b
      · go_wp2_with fail
        rw [HS.out k hlt]
        refine (H.out _).mono ?_
        rintro e w' ⟨rfl, rfl⟩
        go_wp2
        go_ret2
        exact .inr ⟨not_all (by rw [HL.out]; exact hlt) HX.out, rfl, HB.out⟩
      · go_wp2_with fail
        rw [HS.out k hlt]
        refine (H.out _).mono ?_
        rintro e w' ⟨rfl, rfl⟩
        go_wp2
        go_roundw
        case rel =>
          obtain ⟨h1, h2⟩ := HO.out.stored k (.int .u8 ((codeV (gt l k)).toNat : Int))
          rw [fill_set codeV l k (by rw [HL.out]; exact hlt)] at h1
          exact ⟨HB.out.grown h2 HB.out.size (fun r hr => by cases hr; exact Nat.le_refl _), k + 1, by omega, by go_num, fun j hj => by
            rcases Nat.lt_succ_iff_lt_or_eq.1 hj with h | h
            · exact HA.out j h
            · subst h; exact HX.out, h1⟩
        case measure => simp [intOf]; omega
    · obtain rfl : k = s.size := by omega
      rw [← HL.out, fill_all, HL.out] at hown
      have HO := Lib.hid hown; clear hown
      have HB := Lib.hid hbw; clear hbw
      go_wp2
      go_ret2
      exact .inl ⟨all_of (fun j hj => HA.out j (by rw [← HL.out]; exact hj)), _, rfl, by unfold Own; rw [List.length_map, HL.out]; exact HO.out, HB.out⟩

theorem cellNew (w : World) (v : Value) (t : TypeId) : ∀ j u, [v][j]? = some u → (w.alloc (.cells #[v] t)).cell? ((⟨w.heap.size, 0, none⟩ : Addr).add j) = some u := by
  intro j u h
  match j, h with
  | 0, h => simp at h; subst h; simp [Addr.add, go_sem]
theorem bsU_snoc (l : List UInt8) (x : UInt8) : bsU (l ++ [x]) = bsU l ++ [.int .u8 (x.toNat : Int)] := by simp [bsU]
set_option maxRecDepth 100000 in
theorem rencode_any (s : ByteArray) (w : World) (hs : s.size ≤ 70368744177664) :
    Calls Try.prog 17 #[.string s] w (EncPost w s.data.toList) := by
  obtain ⟨i0, hi, hz0, hz1, hz2⟩ := info_parts info5
  obtain ⟨l, hl⟩ : ∃ l, l = s.data.toList := ⟨_, rfl⟩
  have hstr : ∀ k (h : k < s.size), s[k] = gt l k := fun k h => by rw [hl]; exact str_at s k h
  have hln : l.length = s.size := by rw [hl]; rfl
  rw [← hl]
  have HL := Lib.hid hln
  have HS := Lib.hid hstr
  clear hl hln hstr
  go_enter Try.func17, Try.ntmps17
  go_wp2
  go_loopw [4, 5] (fun sv i wr => Below w.heap.size w wr ∧ ∃ k : Nat, k ≤ s.size ∧ i = .int .i64 k ∧ (∀ j, j < k → isC (gt l j) = true) ∧ wr.ownsRow w.heap.size 5 1 sv k (bsU ((l.take k).map codeV))) (fun _ i _ => s.size - (intOf i).toNat)
  case atStart => exact ⟨Below.refl _ _, 0, Nat.zero_le _, rfl, fun j hj => by omega, ⟨rfl, .inl ⟨rfl, rfl⟩⟩⟩
  case round =>
    obtain ⟨hbw, k, hk, rfl, hall, hown⟩ := hrel
    have HA := Lib.hid hall; clear hall
    by_cases hlt : k < s.size
    · have HO := Lib.hid hown; clear hown
      have HB := Lib.hid hbw; clear hbw
      obtain ⟨b, hb⟩ : ∃ b, isC (gt l k) = b := ⟨_, rfl⟩
      have H := Lib.hid (rcode_any (gt l k)); rw [hb] at H
      have HX := Lib.hid hb; clear hb
      cases b
      · go_wp2_with fail
        rw [HS.out k hlt]
        refine (H.out _).mono ?_
        rintro e w' ⟨rfl, hb2⟩
        have HB2 := Lib.hid (HB.out.trans (hb2.mono HB.out.size)); clear hb2
        go_wp2
        go_ret2
        exact .inr ⟨not_all (by rw [HL.out]; exact hlt) HX.out, rfl, HB2.out⟩
      · go_wp2_with fail
        rw [HS.out k hlt]
        refine (H.out _).mono ?_
        rintro e w2 ⟨rfl, hb2⟩
        have hbw := HB.out.trans (hb2.mono HB.out.size)
        have hown := own_kept HO.out hb2
        clear hb2 HB HO
        go_wp2_with (at_builtin; refine wpList_append_own _ rfl (.tmp 23) (.tmp 25) 26 rfl (w.heap.size) 5 i0 (.int .u8 0) 1 1 Try.underlying26 hi hz0 hz1 hz2 rfl (by decide) _ (k) _ rfl (hown.alloc _) ⟨w2.heap.size, 0, none⟩ 1 1 [.int .u8 ((codeV (gt l k)).toNat : Int)] rfl rfl ?c1 ?c2 ?c3 ?c4 ?c5 ?_)
        case c1 => exact cellNew _ _ _
        case c2 => intro u hu; simp at hu; subst hu; rfl
        case c3 => unfold maxLen; omega
        case c4 => omega
        case c5 => have := hbw.size; simp; omega
        intro v' w3 hown' hgrow _
        have hb1 := (hbw.alloc hbw.size _).grown hgrow (by have := hbw.size; simp; omega) (fun r hr => (hown.lt r hr).1)
        clear hgrow hown hbw
        go_wp2
        go_roundw
        case rel => exact ⟨hb1, k + 1, by omega, by go_num, fun j hj => by
            rcases Nat.lt_succ_iff_lt_or_eq.1 hj with h | h
            · exact HA.out j h
            · subst h; exact HX.out, by rw [take_one (by rw [HL.out]; exact hlt), List.map_append, List.map_cons, List.map_nil, bsU_snoc, List.map_take]; exact hown'⟩
        case measure => simp [intOf]; omega
    · obtain rfl : k = s.size := by omega
      rw [← HL.out, List.take_length, HL.out] at hown
      have HO := Lib.hid hown; clear hown
      have HB := Lib.hid hbw; clear hbw
      go_wp2
      go_ret2
      exact .inl ⟨all_of (fun j hj => HA.out j (by rw [← HL.out]; exact hj)), _, rfl, by unfold Own; rw [List.length_map, HL.out]; exact HO.out, HB.out⟩

end E
end Go.Proofs.Ytbehboajhpppjaa

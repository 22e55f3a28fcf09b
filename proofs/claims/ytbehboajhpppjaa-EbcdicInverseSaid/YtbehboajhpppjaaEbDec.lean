/- The contracts of Decode and Trim. -/
import Derived.Test.YtbehboajhpppjaaRows
import Derived.WalkKit
import Derived.ProofKit
import Derived.Lib.Hide
import Derived.Deep.Cut
import Derived.Deep.DeepMust
import Derived.Deep.QuietTactic
import Derived.BigQuiet
import Derived.OwnWalk
import Derived.Laws.CopyOwn
import Derived.Laws.AppendOwn
import Derived.Laws.OwnMore
import Derived.Laws.AppendOwnNone
import Derived.Deep.Draws
import Derived.Laws.IdiomStrings
import Derived.Below
import Derived.Test.YtbehboajhpppjaaEbMem
namespace Go.Proofs.Ytbehboajhpppjaa
open Go.RowKit
set_option linter.unusedVariables false
namespace E

theorem conv_rd {w : World} {p : Option Addr} {c : Nat} {l : List UInt8} (h : Rd w p l) :
    (Go.convert 26 9 (.slice p l.length c)).run Try.prog w = .ok (.string ⟨l.toArray⟩) w := by
  rcases h with h0 | ⟨B, off, rfl, hc⟩
  · subst h0
    cases p with
    | none =>
      rw [run_convert_bytes_string w 26 9 5 none _ _ Try.underlying26 Try.underlying5 Try.underlying9]
      simp [Conv.bytesToString]
      rfl
    | some a => exact run_convert_bytes_back w 26 9 5 _ _ [] Try.underlying26 Try.underlying5 Try.underlying9 (fun j hj => by simp at hj)
  · refine run_convert_bytes_back w 26 9 5 _ _ _ Try.underlying26 Try.underlying5 Try.underlying9 (fun j hj => ?_)
    have h2 := hc j hj
    rw [gt_lt hj] at h2
    by_cases h0 : j = 0
    · subst h0; simpa [Addr.add] using h2
    · simpa [Addr.add, h0] using h2
theorem conv_any {w : World} {base n : Nat} {l : List UInt8} {sv : Value} (h : w.ownsRow base 5 1 sv n (bsU l)) (hl : l.length = n) :
    ∃ p c, sv = .slice p n c ∧ (Go.convert 26 9 (.slice p n c)).run Try.prog w = .ok (.string ⟨l.toArray⟩) w := by
  subst hl
  obtain ⟨p, c, rfl, hr, _⟩ := Own.rd h
  exact ⟨p, c, rfl, conv_rd hr⟩
theorem conv_own {w : World} {base n : Nat} {l : List UInt8} {f : UInt8 → UInt8} {g : Nat} (h : w.ownsRow base 5 1 (.slice (some ⟨g, 0, none⟩) n n) n (bsU (l.map f))) (hl : n = l.length) :
    (Go.convert 26 9 (.slice (some ⟨g, 0, none⟩) n n)).run Try.prog w = .ok (.string ⟨(l.map f).toArray⟩) w := by
  have hl' : n = (l.map f).length := by rw [List.length_map, hl]
  rw [hl'] at h ⊢
  refine run_convert_bytes_back w 26 9 5 _ _ _ Try.underlying26 Try.underlying5 Try.underlying9 (fun j hj => ?_)
  have h2 := h.cellAt j (by omega)
  rw [bsU_get _ j hj, gt_lt hj] at h2
  by_cases h0 : j = 0
  · subst h0; simpa [Addr.add] using h2
  · simpa [Addr.add, h0] using h2

set_option maxRecDepth 100000 in
theorem decode_any (p : Option Addr) (c : Nat) (l : List UInt8) (w : World) (hn : l.length ≤ 140737488355328) (hp : Rd w p l) :
    Calls Try.prog 19 #[.slice p l.length c] w (New w (.string ⟨(l.map decV).toArray⟩)) := by
  obtain ⟨i0, hi, hz0, hz1, hz2⟩ := info_parts info5
  obtain ⟨n, hln⟩ : ∃ n, n = l.length := ⟨_, rfl⟩
  have HL := Lib.hid hln
  rw [← hln] at hn ⊢
  have hcl : ∀ j, j < n → ∃ B off, p = some ⟨B, off, none⟩ ∧ B < w.heap.size ∧ w.cell? ⟨B, off + j, none⟩ = some (.int .u8 ((gt l j).toNat : Int)) := fun j hj => by
    rw [hln] at hj
    rcases hp with h0 | ⟨B, off, rfl, hc⟩
    · subst h0; simp at hj
    · exact ⟨_, _, rfl, World.block_lt_of_cell? w _ (hc j hj), hc j hj⟩
  have HC := Lib.hid hcl
  clear hp hln hcl
  go_enter Try.func19, Try.ntmps19
  go_wp2_with (at_make; refine wpList_make_full _ rfl _ _ 26 rfl w.heap.size 5 i0 (.int .u8 0) 1 Try.underlying26 hi hz0 hz1 .i64 .i64 n n n rfl rfl rfl rfl (by rw [hz2]; omega) (by unfold maxLen; omega) (Nat.le_refl _) ?_; intro w1 hown hgrow)
  have hb1 : Below w.heap.size w w1 := (Below.refl _ _).grown hgrow (Nat.le_refl _) (by simp)
  rw [made_bs, HL.out, ← fill_zero decV l, ← HL.out] at hown
  clear hgrow
  go_loopw [13] (fun i wr => Below w.heap.size w wr ∧ ∃ k : Nat, k ≤ n ∧ i = .int .i64 k ∧ wr.ownsRow w.heap.size 5 1 (.slice (some ⟨w.heap.size, 0, none⟩) n n) n (bsU (fillL decV l k))) (fun i _ => n - (intOf i).toNat)
  case atStart => exact ⟨hb1, 0, Nat.zero_le _, rfl, hown⟩
  case round =>
    clear hb1 hown
    obtain ⟨hbw, k, hk, rfl, hown⟩ := hrel
    by_cases hlt : k < n
    · obtain ⟨B, off, rfl, hB, hce⟩ := HC.out k hlt
      have hce1 := hce
      rw [← hbw.cell hB] at hce1
      clear hce
      have HB := Lib.hid hbw; clear hbw
      have HO := Lib.hid hown; clear hown
      have hfz := HO.out.frozenAt k
      have hcell := HO.out.cellAt k (by omega)
      rw [bsU_get _ k (by rw [fill_len _ _ _ (by rw [← HL.out]; omega), ← HL.out]; exact hlt)] at hcell
      obtain ⟨b, hb⟩ : ∃ b, isX (gt l k) = b := ⟨_, rfl⟩
      have H := Lib.hid (char_any (gt l k)); rw [hb] at H
      have HX := Lib.hid hb; clear hb
      have hst := fun (x : UInt8) (hx : decV (gt l k) = x) => (by
        obtain ⟨h1, h2⟩ := HO.out.stored k (.int .u8 (x.toNat : Int))
        rw [← hx, fill_set decV l k (by rw [← HL.out]; exact hlt)] at h1
        rw [hx] at h1
        exact ⟨h1, HB.out.grown h2 HB.out.size (fun r hr => by cases hr; exact Nat.le_refl _)⟩ : (wr.setCell ⟨w.heap.size, k, none⟩ (.int .u8 (x.toNat : Int))).ownsRow w.heap.size 5 1 (.slice (some ⟨w.heap.size, 0, none⟩) n n) n (bsU (fillL decV l (k + 1))) ∧ Below w.heap.size w (wr.setCell ⟨w.heap.size, k, none⟩ (.int .u8 (x.toNat : Int))))
      have HS := Lib.hid hst; clear hst
      cases b
      · have hd : decV (gt l k) = 46 := by unfold decV; rw [HX.out]; rfl
        have HD := Lib.hid hd; clear hd
        go_wp2_with fail
        refine (H.out _).mono ?_
        rintro e w' ⟨rfl, rfl⟩
        go_wp2
        go_roundw
        case rel => exact ⟨(HS.out 46 HD.out).2, k + 1, by omega, by go_num, (HS.out 46 HD.out).1⟩
        case measure => simp [intOf]; omega
      · have hd : decV (gt l k) = charV (gt l k) := by unfold decV; rw [HX.out]; rfl
        have HD := Lib.hid hd; clear hd
        go_wp2_with fail
        refine (H.out _).mono ?_
        rintro e w' ⟨rfl, rfl⟩
        go_wp2
        go_roundw
        case rel => exact ⟨(HS.out _ HD.out).2, k + 1, by omega, by go_num, (HS.out _ HD.out).1⟩
        case measure => simp [intOf]; omega
    · obtain rfl : k = n := by omega
      rw [HL.out, fill_all, ← HL.out] at hown
      have HB := Lib.hid hbw; clear hbw
      have hconv := conv_own hown HL.out
      clear hown
      go_wp2
      go_ret
      exact ⟨rfl, HB.out⟩

/-- A list without the bytes x at its end. -/
def trimL (x : UInt8) (l : List UInt8) : List UInt8 := (l.reverse.dropWhile (· == x)).reverse
theorem trim_nil (x : UInt8) : trimL x [] = [] := rfl
theorem trim_step (x : UInt8) (l : List UInt8) : trimL x (l ++ [x]) = trimL x l := by simp [trimL]
theorem trim_stop {x y : UInt8} (l : List UInt8) (h : y ≠ x) : trimL x (l ++ [y]) = l ++ [y] := by simp [trimL, h]
theorem trim_end {x : UInt8} {l : List UInt8} {k : Nat} (h : k < l.length) (he : gt l k = x) : trimL x (l.take (k + 1)) = trimL x (l.take k) := by
  rw [take_one h, he, trim_step]
theorem trim_done {x : UInt8} {l : List UInt8} {k : Nat} (h : k < l.length) (he : gt l k ≠ x) : trimL x (l.take (k + 1)) = l.take (k + 1) := by
  rw [take_one h, trim_stop _ he]
theorem Rd.take {w : World} {p : Option Addr} {l : List UInt8} (h : Rd w p l) (k : Nat) : Rd w p (l.take k) := by
  rcases h with h | ⟨B, off, rfl, hc⟩
  · subst h; exact .inl (by simp)
  · refine .inr ⟨B, off, rfl, fun j hj => ?_⟩
    have hj' : j < l.length := by simp at hj; omega
    rw [hc j hj', gt_lt hj', gt_lt hj, List.getElem_take]

set_option maxRecDepth 100000 in
theorem trim_any (p : Option Addr) (c : Nat) (l : List UInt8) (w : World) (hn : l.length ≤ 140737488355328) (hc : l.length ≤ c) (hcc : c ≤ 9223372036854775807) (hnil : p = none → c = 0) (hp : Rd w p l) :
    Calls Try.prog 20 #[.slice p l.length c] w (New w (.string ⟨((trimL 64 l).map decV).toArray⟩)) := by
  obtain ⟨n, hln⟩ : ∃ n, n = l.length := ⟨_, rfl⟩
  have HL := Lib.hid hln
  have HP := Lib.hid hp
  rw [← hln] at hn hc ⊢
  have hcl : ∀ j, j < n → ∃ B off, p = some ⟨B, off, none⟩ ∧ B < w.heap.size ∧ w.cell? ⟨B, off + j, none⟩ = some (.int .u8 ((gt l j).toNat : Int)) := fun j hj => by
    rw [hln] at hj
    rcases hp with h0 | ⟨B, off, rfl, hc⟩
    · subst h0; simp at hj
    · exact ⟨_, _, rfl, World.block_lt_of_cell? w _ (hc j hj), hc j hj⟩
  have HC := Lib.hid hcl
  have HN := Lib.hid hnil
  clear hp hln hcl hnil
  go_enter Try.func20, Try.ntmps20
  go_wp2
  go_loop [3] (fun i => ∃ k : Nat, k ≤ n ∧ i = .int .i64 k ∧ trimL 64 l = trimL 64 (l.take k)) (fun i => (intOf i).toNat)
  case atStart => exact ⟨n, Nat.le_refl _, rfl, by rw [HL.out, List.take_length]⟩
  case round =>
    obtain ⟨k, hk, rfl, hl⟩ := hrel
    have HT := Lib.hid hl; clear hl
    have hend := fun (hd : trimL 64 (l.take k) = l.take k) => (by
      have h1 := decode_any p c (l.take k) w (by simp; omega) (HP.out.take k)
      rw [List.length_take, Nat.min_eq_left (by rw [← HL.out]; exact hk), ← hd, ← HT.out] at h1
      exact h1 : Calls Try.prog 19 #[.slice p k c] w (New w (.string ⟨((trimL 64 l).map decV).toArray⟩)))
    have HE := Lib.hid hend; clear hend
    by_cases h0 : k = 0
    · subst h0
      cases p with
      | none =>
        obtain rfl : c = 0 := HN.out rfl
        obtain rfl : n = 0 := by omega
        go_wp2_with fail
        refine (HE.out rfl).mono ?_
        rintro e w' ⟨rfl, hb⟩
        go_wp2
        go_ret
        exact ⟨rfl, hb⟩
      | some a =>
        go_wp2_with fail
        refine (HE.out rfl).mono ?_
        rintro e w' ⟨rfl, hb⟩
        go_wp2
        go_ret
        exact ⟨rfl, hb⟩
    · obtain ⟨m, rfl⟩ : ∃ m, k = m + 1 := ⟨k - 1, by omega⟩
      obtain ⟨B, off, rfl, hB, hce⟩ := HC.out m (by omega)
      by_cases he : gt l m = 64
      · have hi : ((gt l m).toNat : Int) = 64 := by rw [he]; rfl
        have HX := Lib.hid he; clear he
        go_wp2
        go_round
        case rel => exact ⟨m, by omega, by go_num, by rw [HT.out, trim_end (by rw [← HL.out]; omega) HX.out]⟩
        case measure => simp [intOf]
      · have hi : ¬ ((gt l m).toNat : Int) = 64 := fun hh => he (UInt8.toNat_inj.1 (by show (gt l m).toNat = 64; omega))
        have HX := Lib.hid he; clear he
        go_wp2_with fail
        refine (HE.out (trim_done (by rw [← HL.out]; omega) HX.out)).mono ?_
        rintro e w' ⟨rfl, hb⟩
        go_wp2
        go_ret
        exact ⟨rfl, hb⟩

set_option maxRecDepth 100000 in
theorem rdecode_any (p : Option Addr) (c : Nat) (l : List UInt8) (w : World) (hn : l.length ≤ 70368744177664) (hp : Rd w p l) :
    Calls Try.prog 21 #[.slice p l.length c] w (New w (.string ⟨(l.map decV).toArray⟩)) := by
  obtain ⟨i0, hi, hz0, hz1, hz2⟩ := info_parts info5
  obtain ⟨n, hln⟩ : ∃ n, n = l.length := ⟨_, rfl⟩
  have HL := Lib.hid hln
  rw [← hln] at hn ⊢
  have hcl : ∀ j, j < n → ∃ B off, p = some ⟨B, off, none⟩ ∧ B < w.heap.size ∧ w.cell? ⟨B, off + j, none⟩ = some (.int .u8 ((gt l j).toNat : Int)) := fun j hj => by
    rw [hln] at hj
    rcases hp with h0 | ⟨B, off, rfl, hc⟩
    · subst h0; simp at hj
    · exact ⟨_, _, rfl, World.block_lt_of_cell? w _ (hc j hj), hc j hj⟩
  have HC := Lib.hid hcl
  clear hp hln hcl
  go_enter Try.func21, Try.ntmps21
  go_wp2
  go_loopw [3, 4] (fun sv i wr => Below w.heap.size w wr ∧ ∃ k : Nat, k ≤ n ∧ i = .int .i64 k ∧ wr.ownsRow w.heap.size 5 1 sv k (bsU ((l.take k).map decV))) (fun _ i _ => n - (intOf i).toNat)
  case atStart => exact ⟨Below.refl _ _, 0, Nat.zero_le _, rfl, ⟨rfl, .inl ⟨rfl, rfl⟩⟩⟩
  case round =>
    obtain ⟨hbw, k, hk, rfl, hown⟩ := hrel
    by_cases hlt : k < n
    · obtain ⟨B, off, rfl, hB, hce⟩ := HC.out k hlt
      have hce1 := hce
      rw [← hbw.cell hB] at hce1
      clear hce
      have HB := Lib.hid hbw; clear hbw
      have HO := Lib.hid hown; clear hown
      obtain ⟨b, hb⟩ : ∃ b, isX (gt l k) = b := ⟨_, rfl⟩
      have H := Lib.hid (rchar_any (gt l k)); rw [hb] at H
      have HX := Lib.hid hb; clear hb
      cases b
      · have hd : decV (gt l k) = 46 := by unfold decV; rw [HX.out]; rfl
        have HD := Lib.hid hd; clear hd
        go_wp2_with fail
        refine (H.out _).mono ?_
        rintro e w2 ⟨rfl, hb2⟩
        have hbw := HB.out.trans (hb2.mono HB.out.size)
        have hown := own_kept HO.out hb2
        clear hb2 HB HO
        go_wp2_with (at_builtin; refine wpList_append_own _ rfl (.tmp 23) (.tmp 25) 26 rfl (w.heap.size) 5 i0 (.int .u8 0) 1 1 Try.underlying26 hi hz0 hz1 hz2 rfl (by decide) _ (k) _ rfl (hown.alloc _) ⟨w2.heap.size, 0, none⟩ 1 1 [.int .u8 46] rfl rfl ?c1 ?c2 ?c3 ?c4 ?c5 ?_)
        case c1 => exact cellNew _ _ _
        case c2 => intro u hu; simp at hu; subst hu; rfl
        case c3 => unfold maxLen; omega
        case c4 => omega
        case c5 => have := hbw.size; simp; omega
        intro v' w3 hown' hgrow _
        have hb1 := (hbw.alloc hbw.size _).grown hgrow (by have := hbw.size; simp; omega) (fun r hr => (hown.lt r hr).1)
        clear hgrow hown hbw
        go_wp2
        go_roundw
        case rel => exact ⟨hb1, k + 1, by omega, by go_num, by rw [take_one (by rw [← HL.out]; exact hlt), List.map_append, List.map_cons, List.map_nil, bsU_snoc, HD.out, List.map_take]; exact hown'⟩
        case measure => simp [intOf]; omega
      · have hd : decV (gt l k) = charV (gt l k) := by unfold decV; rw [HX.out]; rfl
        have HD := Lib.hid hd; clear hd
        go_wp2_with fail
        refine (H.out _).mono ?_
        rintro e w2 ⟨rfl, hb2⟩
        have hbw := HB.out.trans (hb2.mono HB.out.size)
        have hown := own_kept HO.out hb2
        clear hb2 HB HO
        go_wp2_with (at_builtin; refine wpList_append_own _ rfl (.tmp 23) (.tmp 25) 26 rfl (w.heap.size) 5 i0 (.int .u8 0) 1 1 Try.underlying26 hi hz0 hz1 hz2 rfl (by decide) _ (k) _ rfl (hown.alloc _) ⟨w2.heap.size, 0, none⟩ 1 1 [.int .u8 ((charV (gt l k)).toNat : Int)] rfl rfl ?c1 ?c2 ?c3 ?c4 ?c5 ?_)
        case c1 => exact cellNew _ _ _
        case c2 => intro u hu; simp at hu; subst hu; rfl
        case c3 => unfold maxLen; omega
        case c4 => omega
        case c5 => have := hbw.size; simp; omega
        intro v' w3 hown' hgrow _
        have hb1 := (hbw.alloc hbw.size _).grown hgrow (by have := hbw.size; simp; omega) (fun r hr => (hown.lt r hr).1)
        clear hgrow hown hbw
        go_wp2
        go_roundw
        case rel => exact ⟨hb1, k + 1, by omega, by go_num, by rw [take_one (by rw [← HL.out]; exact hlt), List.map_append, List.map_cons, List.map_nil, bsU_snoc, HD.out, List.map_take]; exact hown'⟩
        case measure => simp [intOf]; omega
    · obtain rfl : k = n := by omega
      have HB := Lib.hid hbw; clear hbw
      rw [HL.out, List.take_length, ← HL.out] at hown
      obtain ⟨p2, c2, rfl, hconv⟩ := conv_any hown (by rw [List.length_map]; exact HL.out.symm)
      clear hown
      go_wp2
      go_ret
      exact ⟨rfl, HB.out⟩

set_option maxRecDepth 100000 in
theorem rtrim_any (p : Option Addr) (c : Nat) (l : List UInt8) (w : World) (hn : l.length ≤ 70368744177664) (hc : l.length ≤ c) (hcc : c ≤ 9223372036854775807) (hnil : p = none → c = 0) (hp : Rd w p l) :
    Calls Try.prog 22 #[.slice p l.length c] w (New w (.string ⟨((trimL 64 l).map decV).toArray⟩)) := by
  obtain ⟨n, hln⟩ : ∃ n, n = l.length := ⟨_, rfl⟩
  have HL := Lib.hid hln
  have HP := Lib.hid hp
  rw [← hln] at hn hc ⊢
  have hcl : ∀ j, j < n → ∃ B off, p = some ⟨B, off, none⟩ ∧ B < w.heap.size ∧ w.cell? ⟨B, off + j, none⟩ = some (.int .u8 ((gt l j).toNat : Int)) := fun j hj => by
    rw [hln] at hj
    rcases hp with h0 | ⟨B, off, rfl, hc⟩
    · subst h0; simp at hj
    · exact ⟨_, _, rfl, World.block_lt_of_cell? w _ (hc j hj), hc j hj⟩
  have HC := Lib.hid hcl
  have HN := Lib.hid hnil
  clear hp hln hcl hnil
  go_enter Try.func22, Try.ntmps22
  go_wp2
  go_loop [3] (fun i => ∃ k : Nat, k ≤ n ∧ i = .int .i64 k ∧ trimL 64 l = trimL 64 (l.take k)) (fun i => (intOf i).toNat)
  case atStart => exact ⟨n, Nat.le_refl _, rfl, by rw [HL.out, List.take_length]⟩
  case round =>
    obtain ⟨k, hk, rfl, hl⟩ := hrel
    have HT := Lib.hid hl; clear hl
    have hend := fun (hd : trimL 64 (l.take k) = l.take k) => (by
      have h1 := rdecode_any p c (l.take k) w (by simp; omega) (HP.out.take k)
      rw [List.length_take, Nat.min_eq_left (by rw [← HL.out]; exact hk), ← hd, ← HT.out] at h1
      exact h1 : Calls Try.prog 21 #[.slice p k c] w (New w (.string ⟨((trimL 64 l).map decV).toArray⟩)))
    have HE := Lib.hid hend; clear hend
    by_cases h0 : k = 0
    · subst h0
      cases p with
      | none =>
        obtain rfl : c = 0 := HN.out rfl
        obtain rfl : n = 0 := by omega
        go_wp2_with fail
        refine (HE.out rfl).mono ?_
        rintro e w' ⟨rfl, hb⟩
        go_wp2
        go_ret
        exact ⟨rfl, hb⟩
      | some a =>
        go_wp2_with fail
        refine (HE.out rfl).mono ?_
        rintro e w' ⟨rfl, hb⟩
        go_wp2
        go_ret
        exact ⟨rfl, hb⟩
    · obtain ⟨m, rfl⟩ : ∃ m, k = m + 1 := ⟨k - 1, by omega⟩
      obtain ⟨B, off, rfl, hB, hce⟩ := HC.out m (by omega)
      by_cases he : gt l m = 64
      · have hi : ((gt l m).toNat : Int) = 64 := by rw [he]; rfl
        have HX := Lib.hid he; clear he
        go_wp2
        go_round
        case rel => exact ⟨m, by omega, by go_num, by rw [HT.out, trim_end (by rw [← HL.out]; omega) HX.out]⟩
        case measure => simp [intOf]
      · have hi : ¬ ((gt l m).toNat : Int) = 64 := fun hh => he (UInt8.toNat_inj.1 (by show (gt l m).toNat = 64; omega))
        have HX := Lib.hid he; clear he
        go_wp2_with fail
        refine (HE.out (trim_done (by rw [← HL.out]; omega) HX.out)).mono ?_
        rintro e w' ⟨rfl, hb⟩
        go_wp2
        go_ret
        exact ⟨rfl, hb⟩

end E
end Go.Proofs.Ytbehboajhpppjaa

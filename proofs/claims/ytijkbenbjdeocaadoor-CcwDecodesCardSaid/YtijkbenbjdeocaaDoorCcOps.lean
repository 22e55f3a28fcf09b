/- The small functions: upTo, Direction, pack, unpack, unpackKey; the given in, Direction, flag. -/
import Derived.Test.YtijkbenbjdeocaaDoorCcMath
import Derived.Deep.CutRange
namespace Go.Proofs.YtijkbenbjdeocaaDoor
open Go.RowKit
set_option linter.unusedVariables false
namespace E

/-- Ints from the start of a block. -/
def Is (w : World) (B : Nat) (xs : List Int) : Prop := ∀ j, j < xs.length → w.cell? ⟨B, j, none⟩ = some (.int .i64 (xs.getD j 0))
theorem keepC {w w' : World} {a : Addr} {v : Value} (h : w.cell? a = some v) (hb : Below w.heap.size w w') : w'.cell? a = some v := by
  rw [hb.cell (World.block_lt_of_cell? w _ h)]; exact h
theorem ret_int {k : IntKind} {a b : Int} (h : a = b) : Ending.returned (.int k a) = .returned (.int k b) := by rw [h]
theorem ret_ii {a b c d : Int} (h : a = b) (h2 : c = d) : Ending.returned (.tuple #[.int .i64 a, .int .i64 c]) = .returned (.tuple #[.int .i64 b, .int .i64 d]) := by rw [h, h2]
theorem ret_iib {a b c d : Int} {p q : Bool} (h : a = b) (h2 : c = d) (h3 : p = q) : Ending.returned (.tuple #[.int .i64 a, .int .i64 c, .bool p]) = .returned (.tuple #[.int .i64 b, .int .i64 d, .bool q]) := by rw [h, h2, h3]
theorem ret_bool {a b : Bool} (h : a = b) : Ending.returned (.bool a) = .returned (.bool b) := by rw [h]
theorem upTo_any (m : Int) (xs : List Int) (B n : Nat) (w : World) (hn : xs.length = n) (hn8 : n ≤ 8) (h : Is w B xs) :
    Calls Tryd.prog 25 #[.int .i64 m, .slice (some ⟨B, 0, none⟩) n n] w fun e w' => e = .returned (.bool (xs.all (inr · m))) ∧ w = w' := by
  have HN := Lib.hid hn
  have HI := Lib.hid h
  clear hn h
  go_enter Tryd.func25, Tryd.ntmps25
  go_wp2
  go_loop [6, 9] (fun _ i => ∃ k : Nat, k ≤ n ∧ i = .int .i64 k ∧ Hid ((xs.take k).all (inr · m) = true)) (fun _ i => n - (intOf i).toNat)
  case atStart => exact ⟨0, Nat.zero_le _, rfl, Lib.hid rfl⟩
  case round =>
    obtain ⟨k, hk, rfl, ha⟩ := hrel
    by_cases hlt : k < n
    · have hcell := HI.out k (by rw [HN.out]; exact hlt)
      have hx : xs[k]? = some (xs.getD k 0) := by rw [List.getD_eq_getElem?_getD, List.getElem?_eq_getElem (by rw [HN.out]; exact hlt)]; rfl
      have HX := Lib.hid hx
      clear hx
      generalize xs.getD k 0 = x at *
      have hno : inr x m = false → xs.all (inr · m) = false := fun hf => by
        rw [Bool.eq_false_iff]
        intro hall
        rw [List.all_eq_true] at hall
        have := hall x (List.mem_of_getElem? HX.out)
        rw [hf] at this
        cases this
      have HNo := Lib.hid hno
      clear hno
      by_cases h0 : x < 0
      · go_wp2
        go_ret
        exact ⟨ret_bool (HNo.out (by rw [inr_no]; omega)).symm, rfl⟩
      · by_cases h1 : x > m
        · go_wp2
          go_ret
          exact ⟨ret_bool (HNo.out (by rw [inr_no]; omega)).symm, rfl⟩
        · go_wp2
          go_round
          case rel => exact ⟨k + 1, by omega, by go_num, Lib.hid (by rw [List.take_add_one, HX.out, Option.toList_some, List.all_append, ha.out]; simp only [List.all_cons, List.all_nil, Bool.and_true, Bool.true_and]; exact inr_iff.2 ⟨by omega, by omega⟩)⟩
          case measure => simp [intOf]; omega
    · obtain rfl : k = n := by omega
      go_wp2
      go_ret
      exact ⟨ret_bool (by rw [← ha.out, List.take_of_length_le (by rw [HN.out]; exact Nat.le_refl _)]), rfl⟩
theorem upTo1 (m x : Int) (B : Nat) (w : World) (h : w.cell? ⟨B, 0, none⟩ = some (.int .i64 x)) :
    Calls Tryd.prog 25 #[.int .i64 m, .slice (some ⟨B, 0, none⟩) 1 1] w fun e w' => e = .returned (.bool (inr x m)) ∧ w = w' :=
  (upTo_any m [x] B 1 w rfl (by decide) (fun j hj => by
    obtain rfl : j = 0 := Nat.lt_one_iff.1 hj
    exact h)).mono fun e w' ⟨he, hw⟩ => ⟨he.trans (by simp), hw⟩
theorem upTo2 (m x y : Int) (B : Nat) (w : World) (h : w.cell? ⟨B, 0, none⟩ = some (.int .i64 x)) (h2 : w.cell? ⟨B, 1, none⟩ = some (.int .i64 y)) :
    Calls Tryd.prog 25 #[.int .i64 m, .slice (some ⟨B, 0, none⟩) 2 2] w fun e w' => e = .returned (.bool (inr x m && inr y m)) ∧ w = w' :=
  (upTo_any m [x, y] B 2 w rfl (by decide) (fun j hj => by
    match j, hj with
    | 0, _ => exact h
    | 1, _ => exact h2)).mono fun e w' ⟨he, hw⟩ => ⟨he.trans (by simp), hw⟩
theorem bx1 (w : World) (t : TypeId) (x : Value) : (w.alloc (.cells #[x] t)).cell? ⟨w.heap.size, 0, none⟩ = some x := (Bx.new w t #[x]).cell 0
theorem bx2 (w : World) (t : TypeId) (x y : Value) : (w.alloc (.cells #[x, y] t)).cell? ⟨w.heap.size, 0, none⟩ = some x ∧ (w.alloc (.cells #[x, y] t)).cell? ⟨w.heap.size, 1, none⟩ = some y := ⟨(Bx.new w t #[x, y]).cell 0, (Bx.new w t #[x, y]).cell 1⟩
set_option maxRecDepth 100000 in
theorem dir_any (o : Int) (w : World) : Calls Tryd.prog 9 #[.int .i64 o] w (New w (.int .i64 (dirI o))) := by
  obtain ⟨b, hb⟩ : ∃ b, inr o 255 = b := ⟨_, rfl⟩
  obtain ⟨x, hx⟩ : ∃ x, o % 16 = x := ⟨_, rfl⟩
  obtain ⟨y, hy⟩ : ∃ y, o % 4 = y := ⟨_, rfl⟩
  obtain ⟨d, hd⟩ : ∃ d, dirI o = d := ⟨_, rfl⟩
  have H15 : bits .and .i64 o 15 = x := (andF o).trans hx
  have H3 : bits .and .i64 o 3 = y := (and3 o).trans hy
  have HU := Lib.hid (upTo1 255 o w.heap.size (w.alloc (.cells #[.int .i64 o] 3)) (bx1 w _ _))
  have HB := Lib.hid (below_new w (.cells #[.int .i64 o] 3))
  rw [hb] at HU
  have HD : Hid (d = if b = true then dirM x y else 0) := Lib.hid (by rw [← hd, ← hb, ← hx, ← hy]; rfl)
  rw [hd]
  clear hb hx hy hd
  go_enter Tryd.func9, Tryd.ntmps9
  go_wp2_with fail
  refine HU.out.mono ?_
  rintro e w' ⟨rfl, rfl⟩
  cases b with
  | false =>
    go_wp2
    go_ret
    exact ⟨ret_int (by rw [HD.out]; rfl), HB.out⟩
  | true =>
    have HM : Hid (d = dirM x y) := Lib.hid (by rw [HD.out, if_pos rfl])
    clear HD HU
    by_cases x0 : x = 0
    · subst x0
      go_wp2
      go_ret
      exact ⟨ret_int (by rw [HM.out]; simp [dirM, *]), HB.out⟩
    by_cases x1 : x = 4
    · subst x1
      go_wp2
      go_ret
      exact ⟨ret_int (by rw [HM.out]; simp [dirM, *]), HB.out⟩
    by_cases x2 : x = 8
    · subst x2
      go_wp2
      go_ret
      exact ⟨ret_int (by rw [HM.out]; simp [dirM, *]), HB.out⟩
    by_cases x3 : x = 12
    · subst x3
      go_wp2
      go_ret
      exact ⟨ret_int (by rw [HM.out]; simp [dirM, *]), HB.out⟩
    by_cases y0 : y = 1
    · subst y0
      go_wp2
      go_ret
      exact ⟨ret_int (by rw [HM.out]; simp [dirM, *]), HB.out⟩
    by_cases y1 : y = 2
    · subst y1
      go_wp2
      go_ret
      exact ⟨ret_int (by rw [HM.out]; simp [dirM, *]), HB.out⟩
    go_wp2
    go_ret
    exact ⟨ret_int (by rw [HM.out]; simp [dirM, *]), HB.out⟩
theorem tm16 {o : Int} (h : 0 ≤ o) : o.tmod 16 = o % 16 := Int.tmod_eq_emod_of_nonneg h
theorem tm4 {o : Int} (h : 0 ≤ o) : o.tmod 4 = o % 4 := Int.tmod_eq_emod_of_nonneg h
set_option maxRecDepth 100000 in
theorem rdir_any (o : Int) (w : World) : Calls Tryd.prog 10 #[.int .i64 o] w fun e w' => e = .returned (.int .i64 (dirI o)) ∧ w = w' := by
  by_cases h0 : o < 0
  · have e0 : dirI o = 0 := by unfold dirI; rw [if_neg (by rw [inr_iff]; omega)]
    rw [e0]
    go_enter Tryd.func10, Tryd.ntmps10
    go_wp2
    go_ret
    exact ⟨rfl, rfl⟩
  by_cases h1 : o > 255
  · have e0 : dirI o = 0 := by unfold dirI; rw [if_neg (by rw [inr_iff]; omega)]
    rw [e0]
    go_enter Tryd.func10, Tryd.ntmps10
    go_wp2
    go_ret
    exact ⟨rfl, rfl⟩
  obtain ⟨x, hx⟩ : ∃ x, o % 16 = x := ⟨_, rfl⟩
  obtain ⟨y, hy⟩ : ∃ y, o % 4 = y := ⟨_, rfl⟩
  obtain ⟨d, hd⟩ : ∃ d, dirI o = d := ⟨_, rfl⟩
  have H15 : o.tmod 16 = x := (tm16 (by omega)).trans hx
  have H3 : o.tmod 4 = y := (tm4 (by omega)).trans hy
  have HM : Hid (d = dirM x y) := Lib.hid (by rw [← hd, ← hx, ← hy]; unfold dirI; rw [if_pos (by rw [inr_iff]; omega)])
  rw [hd]
  clear hx hy hd
  go_enter Tryd.func10, Tryd.ntmps10
  by_cases x0 : x = 0
  · subst x0
    go_wp2
    go_ret
    exact ⟨ret_int (by rw [HM.out]; simp [dirM, *]), rfl⟩
  by_cases x1 : x = 4
  · subst x1
    go_wp2
    go_ret
    exact ⟨ret_int (by rw [HM.out]; simp [dirM, *]), rfl⟩
  by_cases x2 : x = 8
  · subst x2
    go_wp2
    go_ret
    exact ⟨ret_int (by rw [HM.out]; simp [dirM, *]), rfl⟩
  by_cases x3 : x = 12
  · subst x3
    go_wp2
    go_ret
    exact ⟨ret_int (by rw [HM.out]; simp [dirM, *]), rfl⟩
  by_cases y0 : y = 1
  · subst y0
    go_wp2
    go_ret
    exact ⟨ret_int (by rw [HM.out]; simp [dirM, *]), rfl⟩
  by_cases y1 : y = 2
  · subst y1
    go_wp2
    go_ret
    exact ⟨ret_int (by rw [HM.out]; simp [dirM, *]), rfl⟩
  go_wp2
  go_ret
  exact ⟨ret_int (by rw [HM.out]; simp [dirM, *]), rfl⟩
theorem in_any (v m : Int) (w : World) : Calls Tryd.prog 30 #[.int .i64 v, .int .i64 m] w fun e w' => e = .returned (.bool (inr v m)) ∧ w = w' := by
  by_cases h : 0 ≤ v
  · have e1 : inr v m = decide (v ≤ m) := by simp [inr, h]
    rw [e1]
    have h' : v ≥ 0 := h
    go_enter Tryd.func30, Tryd.ntmps30
    go_wp2
    go_ret
    exact ⟨rfl, rfl⟩
  · have e1 : inr v m = false := by rw [inr_no]; omega
    rw [e1]
    go_enter Tryd.func30, Tryd.ntmps30
    go_wp2
    go_ret
    exact ⟨rfl, rfl⟩
theorem flag_any (b : Bool) (v : Int) (w : World) : Calls Tryd.prog 39 #[.bool b, .int .i64 v] w fun e w' => e = .returned (.int .i64 (fl b v)) ∧ w = w' := by
  cases b
  · go_enter Tryd.func39, Tryd.ntmps39
    go_wp2
    go_ret
    exact ⟨rfl, rfl⟩
  · go_enter Tryd.func39, Tryd.ntmps39
    go_wp2
    go_ret
    exact ⟨rfl, rfl⟩
theorem pack_any (b r : Int) (w : World) (hb : 0 ≤ b ∧ b ≤ 255) (hr : 0 ≤ r ∧ r ≤ 16777215) : Calls Tryd.prog 28 #[.int .i64 b, .int .i64 r] w fun e w' => e = .returned (.int .u32 (b * 16777216 + r)) ∧ w = w' := by
  have e1 : bits .or .i64 (wrap64 (b * 16777216)) r % 4294967296 = b * 16777216 + r := by
    rw [W.wrap64_id (by omega) (by omega), or24 hb.1 hb.2 hr.1 hr.2]
    omega
  have H := Lib.hid e1
  clear e1 hb hr
  go_enter Tryd.func28, Tryd.ntmps28
  go_wp2
  go_ret
  exact ⟨ret_int H.out, rfl⟩
/-- The bytes of a slice, as the contracts of word read them. -/
theorem full_of {w : World} {sv : Value} {l : List UInt8} (h : SvB w sv l) (k : Nat) (hk : k + 4 ≤ l.length) : Calls Tryd.prog 40 #[sv, .int .i64 (k : Int)] w fun e w' => e = .returned (.tuple #[.int .u32 (b1 l k * 16777216 + n3 l (k + 1)), .bool true]) ∧ w = w' := by
  obtain ⟨p, c, rfl, hr, h1, h2, _⟩ := h
  rcases hr with h0 | ⟨B, off, rfl, hc⟩
  · subst h0
    simp at hk
  refine (W.wFull_yes B off l.length c k (fun j => ((gt l j).toNat : Int)) w (by omega) h1 (fun j hj => hc j hj) (fun j hj => ⟨Int.natCast_nonneg _, lt256 _⟩) hk).mono ?_
  rintro e w' ⟨rfl, rfl⟩
  refine ⟨?_, rfl⟩
  have i0 := lt256 (gt l k); have i1 := lt256 (gt l (k + 1)); have i2 := lt256 (gt l (k + 2)); have i3 := lt256 (gt l (k + 3))
  have e1 : W.jn (W.sh (fun j => ((gt l j).toNat : Int)) k) 4 = b1 l k * 16777216 + n3 l (k + 1) := by
    simp only [W.jn, W.sh, Nat.add_zero, b1, n3]
    rw [show k + 1 + 1 = k + 2 from rfl, show k + 1 + 2 = k + 3 from rfl]
    omega
  rw [e1]
theorem unpack_any {w : World} {sv : Value} {l : List UInt8} (h : SvB w sv l) (k : Nat) (hk : k + 4 ≤ l.length) : Calls Tryd.prog 33 #[sv, .int .i64 (k : Int)] w fun e w' => e = .returned (.tuple #[.int .i64 (b1 l k), .int .i64 (n3 l (k + 1))]) ∧ w = w' := by
  have HC := Lib.hid (full_of h k hk)
  have i0 := b1_bd l k
  have i1 := n3_bd l (k + 1)
  clear h
  generalize b1 l k = b at *
  generalize n3 l (k + 1) = r at *
  have e1 : wrap64 ((b * 16777216 + r) / 16777216) = b := by rw [W.wrap64_id (by omega) (by omega)]; omega
  have e2 : wrap64 (bits .and .u32 (b * 16777216 + r) 16777215) = r := by rw [and24u (by omega), W.wrap64_id (by omega) (by omega)]; omega
  have H1 := Lib.hid e1
  have H2 := Lib.hid e2
  clear e1 e2 i0 i1
  go_enter Tryd.func33, Tryd.ntmps33
  go_wp2_with fail
  refine HC.out.mono ?_
  rintro e w' ⟨rfl, rfl⟩
  go_wp2
  go_ret2
  exact ⟨ret_ii H1.out H2.out, rfl⟩
theorem unpackKey_any {w : World} {sv : Value} {l : List UInt8} (h : SvB w sv l) (hk : 4 ≤ l.length) : Calls Tryd.prog 36 #[sv] w fun e w' => e = .returned (.tuple #[.int .i64 (b1 l 0 / 16), .int .i64 (n3 l 1), .bool (b1 l 0 % 16 == 0)]) ∧ w = w' := by
  have HC := Lib.hid (unpack_any h 0 (by omega))
  have H1 := Lib.hid (andF (b1 l 0))
  clear h
  go_enter Tryd.func36, Tryd.ntmps36
  go_wp2_with fail
  refine HC.out.mono ?_
  rintro e w' ⟨rfl, rfl⟩
  go_wp2
  go_ret3
  exact ⟨ret_iib rfl rfl (by rw [H1.out]), rfl⟩
end E
end Go.Proofs.YtijkbenbjdeocaaDoor

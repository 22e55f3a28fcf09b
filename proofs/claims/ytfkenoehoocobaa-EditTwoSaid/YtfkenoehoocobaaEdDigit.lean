/- The program's take: the next digit of a source. -/
import Derived.Test.YtfkenoehoocobaaEdTake
namespace Go.Proofs.Ytfkenoehoocobaa
open Go.RowKit
set_option linter.unusedVariables false
namespace E

/-- The digits that are still to come. -/
def edRem (rem : List UInt8) (r : Bool) : List ED := if r then (match rem with | [] => [] | x :: l => ⟨x.toNat % 16, 0, false⟩ :: edL l) else edL rem
theorem edL_c (x : UInt8) (l : List UInt8) : edL (x :: l) = if 9 < x.toNat / 16 then edB x else edB x ++ edL l := rfl
theorem rem_false (l : List UInt8) : edRem l false = edL l := rfl
theorem rem_bad {x : UInt8} {l : List UInt8} (h : 9 < x.toNat / 16) : edRem (x :: l) false = [⟨0, 0, true⟩] := by
  rw [rem_false, edL_c, if_pos h]
  unfold edB
  rw [if_pos h]
theorem rem_sign {x : UInt8} {l : List UInt8} (h : ¬ 9 < x.toNat / 16) (h2 : ¬ x.toNat % 16 ≤ 9) : edRem (x :: l) false = ⟨x.toNat / 16, if x.toNat % 16 = 11 ∨ x.toNat % 16 = 13 then 2 else 1, false⟩ :: edL l := by
  rw [rem_false, edL_c, if_neg h]
  unfold edB
  rw [if_neg h, if_neg h2]
  rfl
theorem rem_two {x : UInt8} {l : List UInt8} (h : ¬ 9 < x.toNat / 16) (h2 : x.toNat % 16 ≤ 9) : edRem (x :: l) false = ⟨x.toNat / 16, 0, false⟩ :: ⟨x.toNat % 16, 0, false⟩ :: edL l := by
  rw [rem_false, edL_c, if_neg h]
  unfold edB
  rw [if_neg h, if_pos h2]
  rfl
theorem rem_right (x : UInt8) (l : List UInt8) : edRem (x :: l) true = ⟨x.toNat % 16, 0, false⟩ :: edL l := rfl
def Rok (rem : List UInt8) (r : Bool) : Prop := r = true → ∃ x l, rem = x :: l ∧ x.toNat % 16 ≤ 9
theorem and15n (x : UInt8) : bits .and .u8 (x.toNat : Int) 15 = ((x.toNat % 16 : Nat) : Int) := all256 (p := fun x => bits .and .u8 (x.toNat : Int) 15 = ((x.toNat % 16 : Nat) : Int)) (by decide +kernel) x
theorem EdM.bel {w w' : World} {G : Nat} {sl : Value} {r : Bool} {fill : UInt8} {on nz : Bool} {mk : Int} {text : List UInt8} (h : EdM w G sl r fill on nz mk text) (hb : Below w.heap.size w w') : EdM w' G sl r fill on nz mk text := by
  obtain ⟨tv, h1, h2⟩ := h
  exact ⟨tv, h1.below hb, own_kept h2 hb⟩
theorem EdM.lt {w : World} {G : Nat} {sl : Value} {r : Bool} {fill : UInt8} {on nz : Bool} {mk : Int} {text : List UInt8} (h : EdM w G sl r fill on nz mk text) : G < w.heap.size := by
  obtain ⟨tv, h1, h2⟩ := h
  exact h1.lt
/-- What take answers: of the digits D. -/
def TkPost (w : World) (G : Nat) (fill : UInt8) (on nz : Bool) (mk : Int) (text : List UInt8) (D : List ED) (e : Ending) (w' : World) : Prop :=
  BelM G w w' ∧ ((D = [] ∧ e = .returned (.tuple #[.int .u8 0, .bool false, .int .i64 5])) ∨
   (∃ d D', D = d :: D' ∧ d.bad = true ∧ e = .returned (.tuple #[.int .u8 0, .bool false, .int .i64 7])) ∨
   (∃ d D', D = d :: D' ∧ d.bad = false ∧ d.n ≤ 15 ∧ e = .returned (.tuple #[.int .u8 (d.n : Int), .bool (d.sign == 1), .int .i64 0]) ∧ ∃ sl r rem, EdM w' G sl r fill on nz mk text ∧ Src w' G sl rem ∧ Rok rem r ∧ edRem rem r = D'))
theorem src_mem {w : World} {G : Nat} {sv : Value} {x : UInt8} {l : List UInt8} (h : Src w G sv (x :: l)) : ∃ B off c, sv = .slice (some ⟨B, off, none⟩) (l.length + 1) c ∧ B < G ∧ w.cell? ⟨B, off, none⟩ = some (.int .u8 (x.toNat : Int)) := by
  obtain ⟨p, c, rfl, h2, h3, h4, h5⟩ := h
  rcases h5 with h5 | ⟨B, off, rfl, e2, e3⟩
  · cases h5
  · exact ⟨B, off, c, rfl, e2, by have := e3 0 (by simp); rw [Nat.add_zero] at this; exact this⟩
theorem EdM.store1 {w : World} {G : Nat} {sl : Value} {r : Bool} {fill : UInt8} {on nz : Bool} {mk : Int} {text : List UInt8} (h : EdM w G sl r fill on nz mk text) (b : Bool) : EdM (w.setCell ⟨G, 1, none⟩ (.bool b)) G sl b fill on nz mk text := by
  obtain ⟨tv, h1, h2⟩ := h
  exact ⟨tv, h1.set 1 _, own_set h2 (by omega)⟩
theorem EdM.store01 {w : World} {G : Nat} {sl : Value} {r : Bool} {fill : UInt8} {on nz : Bool} {mk : Int} {text : List UInt8} (h : EdM w G sl r fill on nz mk text) (sl' : Value) (b : Bool) : EdM ((w.setCell ⟨G, 0, none⟩ sl').setCell ⟨G, 1, none⟩ (.bool b)) G sl' b fill on nz mk text := by
  obtain ⟨tv, h1, h2⟩ := h
  exact ⟨tv, (h1.set 0 _).set 1 _, own_set (own_set h2 (by omega)) (by omega)⟩
theorem set2_bel {w W : World} {G : Nat} (h : BelM G w W) (u v : Value) : BelM G w ((W.setCell ⟨G, 0, none⟩ u).setCell ⟨G, 1, none⟩ v) := (h.set _).set _
/-- next, on an editor. -/
def NxPost (w : World) (G : Nat) (fill : UInt8) (on nz : Bool) (mk : Int) (text : List UInt8) (l : List UInt8) (e : Ending) (w' : World) : Prop := e = .returned (.tuple #[]) ∧ BelM G w w' ∧ ∃ sv', EdM w' G sv' false fill on nz mk text ∧ Src w' G sv' l
theorem enext_any (G : Nat) (sl : Value) (r : Bool) (fill : UInt8) (on nz : Bool) (mk : Int) (text : List UInt8) (x : UInt8) (l : List UInt8) (w : World) (h : EdM w G sl r fill on nz mk text) (hs : Src w G sl (x :: l)) :
    Calls Try.prog 34 #[.pointer (some ⟨G, 0, none⟩)] w (NxPost w G fill on nz mk text l) := by
  have h' := h
  obtain ⟨tv, hB, hO⟩ := h'
  refine (next_any G _ _ sl r x l w ⟨hB, rfl, rfl⟩ hs).mono ?_
  rintro e w' ⟨sv', rfl, rfl, hs', _⟩
  have hb := set2_bel (BelM.refl G w) sv' (.bool false)
  exact ⟨rfl, hb, sv', h.store01 sv' false, hs'.bel hb.1⟩
set_option maxRecDepth 100000 in
set_option maxHeartbeats 1000000 in
theorem take_any (G : Nat) (sl : Value) (r : Bool) (fill : UInt8) (on nz : Bool) (mk : Int) (text rem : List UInt8) (w : World) (h : EdM w G sl r fill on nz mk text) (hs : Src w G sl rem) (hr : Rok rem r) :
    Calls Try.prog 32 #[.pointer (some ⟨G, 0, none⟩)] w (TkPost w G fill on nz mk text (edRem rem r)) := by
  have HE := Lib.hid h
  have HS := Lib.hid hs
  obtain ⟨tv, hB, hO⟩ := h
  obtain ⟨⟨c0, c1, _⟩, fz⟩ := hB.seven
  have f1 := fz 1
  clear hB hO fz
  cases rem with
  | nil =>
    have hrf : r = false := by
      cases r
      · rfl
      · obtain ⟨x, l, e, _⟩ := hr rfl
        cases e
    subst hrf
    obtain ⟨p, c, rfl, _⟩ := hs
    clear hr
    go_enter Try.func32, Try.ntmps32
    go_wp2
    go_ret3
    exact ⟨BelM.refl _ _, .inl ⟨rfl, rfl⟩⟩
  | cons x l =>
    obtain ⟨B, off, c, rfl, hBG, hc⟩ := src_mem hs
    have e2 := and15n x
    obtain ⟨h, hh⟩ : ∃ h : Nat, h = x.toNat / 16 := ⟨_, rfl⟩
    obtain ⟨lo, hlo⟩ : ∃ lo : Nat, lo = x.toNat % 16 := ⟨_, rfl⟩
    have e1 : (x.toNat : Int) / 16 = (h : Int) := by omega
    rw [← hlo] at e2
    have i1 : ¬ (((l.length + 1 : Nat) : Int) = 0) := by omega
    have i2 : (0 : Int) < ((l.length + 1 : Nat) : Int) := by omega
    have HN := Lib.hid (fun W (hb : BelM G w W) (hE : EdM W G (.slice (some ⟨B, off, none⟩) (l.length + 1) c) r fill on nz mk text) => enext_any G _ r fill on nz mk text x l W hE (hs.bel hb.1))
    have HX : Hid (h = x.toNat / 16 ∧ lo = x.toNat % 16) := Lib.hid ⟨hh, hlo⟩
    have HR := Lib.hid hr
    have hx16 : h ≤ 15 := by have := x.toNat_lt; omega
    have hl16 : lo ≤ 15 := by omega
    have HH := Lib.hid hx16
    have HLL := Lib.hid hl16
    have HBG := Lib.hid hBG
    clear hs hr hBG hh hlo hx16 hl16
    have HDR : Hid (∀ m, BelM G w (w.drewN m)) := Lib.hid (fun m => BelM.bel (belowDraw w m) (Nat.le_of_lt HE.out.lt))
    have HED : Hid (∀ m, EdM (w.drewN m) G (.slice (some ⟨B, off, none⟩) (l.length + 1) c) r fill on nz mk text) := Lib.hid (fun m => HE.out.bel (belowDraw w m))
    generalize l.length + 1 = n0 at *
    cases r
    · by_cases h9 : 9 < h
      · have i3 : (9 : Int) < (h : Int) := by omega
        go_enter Try.func32, Try.ntmps32
        go_wp2
        go_quiet (fail)
        go_wp2
        go_ret3
        refine ⟨HDR.out _, .inr (.inl ⟨⟨0, 0, true⟩, [], ?_, rfl, rfl⟩)⟩
        have h9' : 9 < x.toNat / 16 := by rw [← HX.out.1]; exact h9
        exact rem_bad h9'
      · by_cases hl9 : 9 < lo
        · have i3 : ¬ ((9 : Int) < (h : Int)) := by omega
          have i4 : (9 : Int) < (lo : Int) := by omega
          go_enter Try.func32, Try.ntmps32
          go_wp2
          go_quiet (fail)
          go_wp2_with fail
          refine (HN.out _ (HDR.out _) (HED.out _)).mono ?_
          rintro e w1 ⟨rfl, hb1, sv', hE1, hS1⟩
          have HE1 := Lib.hid hE1
          have HS1 := Lib.hid hS1
          have HB1 := Lib.hid ((HDR.out _).trans hb1)
          clear hE1 hS1 hb1
          go_wp2_with fail
          refine (isPlus_any lo w1).mono ?_
          rintro e w2 ⟨rfl, rfl⟩
          go_wp2
          go_ret3
          refine ⟨HB1.out, .inr (.inr ⟨⟨h, if lo = 11 ∨ lo = 13 then 2 else 1, false⟩, edL l, ?_, rfl, HH.out, ?_, sv', false, l, HE1.out, HS1.out, (fun h => by cases h), rfl⟩)⟩
          · have h9' : ¬ 9 < x.toNat / 16 := by rw [← HX.out.1]; exact h9
            have hl9' : ¬ x.toNat % 16 ≤ 9 := by rw [← HX.out.2]; omega
            rw [rem_sign h9' hl9', ← HX.out.1, ← HX.out.2]
          · congr 4
            by_cases h11 : lo = 11
            · simp [h11]
            · by_cases h13 : lo = 13
              · simp [h13]
              · simp [h11, h13]
        · have i3 : ¬ ((9 : Int) < (h : Int)) := by omega
          have i4 : ¬ ((9 : Int) < (lo : Int)) := by omega
          go_enter Try.func32, Try.ntmps32
          go_wp2
          go_quiet (fail)
          go_wp2
          go_ret3
          have hb1 := (HDR.out 0)
          refine ⟨(HDR.out _).set _, .inr (.inr ⟨⟨h, 0, false⟩, ⟨lo, 0, false⟩ :: edL l, ?_, rfl, HH.out, rfl, _, true, x :: l, (HED.out _).store1 true, HS.out.bel ((HDR.out _).set _).1, fun _ => ⟨x, l, rfl, ?_⟩, ?_⟩)⟩
          · have h9' : ¬ 9 < x.toNat / 16 := by rw [← HX.out.1]; exact h9
            have hl9' : x.toNat % 16 ≤ 9 := by rw [← HX.out.2]; omega
            rw [rem_two h9' hl9', ← HX.out.1, ← HX.out.2]
          · rw [← HX.out.2]; omega
          · rw [rem_right, ← HX.out.2]
    · go_enter Try.func32, Try.ntmps32
      go_wp2
      go_quiet (fail)
      go_wp2_with fail
      refine (HN.out _ (HDR.out _) (HED.out _)).mono ?_
      rintro e w1 ⟨rfl, hb1, sv', hE1, hS1⟩
      have HE1 := Lib.hid hE1
      have HS1 := Lib.hid hS1
      have HB1 := Lib.hid ((HDR.out _).trans hb1)
      clear hE1 hS1 hb1
      go_wp2
      go_ret3
      refine ⟨HB1.out, .inr (.inr ⟨⟨lo, 0, false⟩, edL l, ?_, rfl, HLL.out, rfl, sv', false, l, HE1.out, HS1.out, (fun h => by cases h), rfl⟩)⟩
      rw [rem_right, ← HX.out.2]

end E
end Go.Proofs.Ytfkenoehoocobaa

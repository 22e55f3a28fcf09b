/- The program's digit, selectDigit and startSignificance. -/
import Derived.Test.YtfkenoehoocobaaEdDigit
namespace Go.Proofs.Ytfkenoehoocobaa
open Go.RowKit
set_option linter.unusedVariables false
namespace E

/-- What a control byte that takes a digit leaves of the editor. -/
def DgPost (w : World) (G : Nat) (fill : UInt8) (on nz : Bool) (mk : Int) (text : List UInt8) (D : List ED) (st : Bool) (e : Ending) (w' : World) : Prop :=
  BelM G w w' ∧ ((D = [] ∧ e = .returned (.int .i64 5)) ∨ (∃ d D', D = d :: D' ∧ d.bad = true ∧ e = .returned (.int .i64 7)) ∨
   (∃ d D', D = d :: D' ∧ d.bad = false ∧ e = .returned (.int .i64 0) ∧ ∃ sl r rem, EdM w' G sl r fill ((on || decide (0 < d.n) || st) && d.sign != 1) (nz || decide (0 < d.n)) (if !on && decide (0 < d.n) then (text.length : Int) else mk) (text ++ [if on || decide (0 < d.n) then UInt8.ofNat (240 + d.n) else fill]) ∧ Src w' G sl rem ∧ Rok rem r ∧ edRem rem r = D'))
theorem EdM.sig {w : World} {G : Nat} {sl : Value} {r : Bool} {fill : UInt8} {on nz : Bool} {mk : Int} {text : List UInt8} (h : EdM w G sl r fill on nz mk text) (b : Bool) : EdM (w.setCell ⟨G, 4, none⟩ (.bool b)) G sl r fill b nz mk text := by
  obtain ⟨tv, h1, h2⟩ := h
  exact ⟨tv, h1.set 4 _, own_set h2 (by omega)⟩
theorem EdM.c4 {w : World} {G : Nat} {sl : Value} {r : Bool} {fill : UInt8} {on nz : Bool} {mk : Int} {text : List UInt8} (h : EdM w G sl r fill on nz mk text) : w.cell? ⟨G, 4, none⟩ = some (.bool on) ∧ w.frozen? ⟨G, 4, none⟩ = false := by
  obtain ⟨tv, h1, h2⟩ := h
  exact ⟨h1.cell 4, h1.frozen 4⟩
theorem zone_add (n : Nat) (h : n ≤ 15) : IntKind.u8.wrap (240 + (n : Int)) = ((UInt8.ofNat (240 + n)).toNat : Int) := by
  rw [show (UInt8.ofNat (240 + n)).toNat = 240 + n from by rw [UInt8.toNat_ofNat']; exact Nat.mod_eq_of_lt (by show 240 + n < 256; omega)]
  unfold IntKind.wrap
  simp [IntKind.bits, IntKind.signed]
  omega
set_option maxRecDepth 100000 in
set_option maxHeartbeats 1000000 in
theorem digit_any (G : Nat) (sl : Value) (r : Bool) (fill : UInt8) (on nz : Bool) (mk : Int) (text rem : List UInt8) (st : Bool) (w : World) (hl : text.length ≤ 1000) (h : EdM w G sl r fill on nz mk text) (hs : Src w G sl rem) (hr : Rok rem r) :
    Calls Try.prog 31 #[.pointer (some ⟨G, 0, none⟩), .bool st] w (DgPost w G fill on nz mk text (edRem rem r) st) := by
  have HT := Lib.hid (take_any G sl r fill on nz mk text rem w h hs hr)
  have HL := Lib.hid hl
  clear h hs hr hl
  generalize edRem rem r = D at *
  go_enter Try.func31, Try.ntmps31
  go_wp2_with fail
  refine (HT.out).mono ?_
  rintro e w1 ⟨hb1, h1⟩
  have HB1 := Lib.hid hb1
  clear hb1 HT
  rcases h1 with ⟨rfl, rfl⟩ | ⟨d, D', rfl, hbad, rfl⟩ | ⟨d, D', rfl, hbad, hn, rfl, sl1, r1, rem1, hE, hS, hR, hD⟩
  · go_wp2
    go_ret
    exact ⟨HB1.out, .inl ⟨rfl, rfl⟩⟩
  · go_wp2
    go_ret
    exact ⟨HB1.out, .inr (.inl ⟨d, D', rfl, hbad, rfl⟩)⟩
  · have HE := Lib.hid hE
    have HS := Lib.hid hS
    have HR := Lib.hid hR
    have HD := Lib.hid hD
    have HBD := Lib.hid hbad
    have hz := zone_add d.n hn
    clear hE hS hR hD hbad hn
    have HGOAL : Hid (∀ (e : Ending) (w' : World), e = .returned (.int .i64 0) → BelM G w w' → (∃ sl r rem, EdM w' G sl r fill ((on || decide (0 < d.n) || st) && !(d.sign == 1)) (nz || decide (0 < d.n)) (if !on && decide (0 < d.n) then (text.length : Int) else mk) (text ++ [if on || decide (0 < d.n) then UInt8.ofNat (240 + d.n) else fill]) ∧ Src w' G sl rem ∧ Rok rem r ∧ edRem rem r = D') → DgPost w G fill on nz mk text (d :: D') st e w') := Lib.hid (fun e w' h1 h2 h3 => ⟨h2, .inr (.inr ⟨d, D', rfl, HBD.out, h1, h3⟩)⟩)
    generalize DgPost w G fill on nz mk text (d :: D') st = Q at *
    generalize d.n = n at *
    generalize (d.sign == 1) = pl at *
    have HBG := Lib.hid (Nat.le_refl G)
    have HSH := Lib.hid (fun (o z : Bool) (m : Int) (b : UInt8) W (h : EdM W G sl1 r1 fill o z m text) => show_any G sl1 r1 fill o z m text b W HL.out h)
    by_cases h0 : n = 0
    · subst h0
      have HS0 := Lib.hid (fun W (h : EdM W G sl1 r1 fill on nz mk text) => show_any G sl1 r1 fill on nz mk text 240 W HL.out h)
      rw [show (((240 : UInt8)).toNat : Int) = 240 from rfl] at HS0
      clear hz HSH
      cases on <;> cases st <;> cases pl
      all_goals
        go_wp2_with fail
        refine (HS0.out _ HE.out).mono ?_
        rintro e w2 ⟨rfl, hE2, hb2⟩
        obtain ⟨c4, f4⟩ := hE2.c4
        have HE2 := Lib.hid hE2
        have HB2 := Lib.hid (HB1.out.trans hb2)
        have HS2 := Lib.hid (HS.out.bel hb2.1)
        clear hE2 hb2 HS0
        go_wp2
        exact HGOAL.out _ _ rfl (HB2.out.set _) ⟨sl1, r1, rem1, by simpa using HE2.out.sig _, HS2.out.bel ((BelM.refl G _).set _).1, HR.out, HD.out⟩
    · have hnz : ((n : Int) != 0) = true := by simp; omega
      have hp : decide (0 < n) = true := by simp; omega
      have HP := Lib.hid hp
      have HN := Lib.hid h0
      have HBE := Lib.hid (begin_any G sl1 r1 fill on nz mk text w1 HE.out)
      generalize UInt8.ofNat (240 + n) = ch at *
      clear h0 hp
      cases on <;> cases st <;> cases pl
      all_goals
        go_wp2_with fail
        refine (HBE.out).mono ?_
        rintro e w2 ⟨rfl, hE2, hb2⟩
        have HE2 := Lib.hid hE2
        have HB2 := Lib.hid (HB1.out.trans hb2)
        have HS2 := Lib.hid (HS.out.bel hb2.1)
        clear hE2 hb2
        go_wp2_with fail
        refine (HSH.out _ _ _ _ _ HE2.out).mono ?_
        rintro e w3 ⟨rfl, hE3, hb3⟩
        obtain ⟨c4, f4⟩ := hE3.c4
        have HE3 := Lib.hid hE3
        have HB3 := Lib.hid (HB2.out.trans hb3)
        have HS3 := Lib.hid (HS2.out.bel hb3.1)
        clear hE3 hb3
        go_wp2
        refine HGOAL.out _ _ rfl (HB3.out.set _) ⟨sl1, r1, rem1, ?_, HS3.out.bel ((BelM.refl G _).set _).1, HR.out, HD.out⟩
        rw [HP.out]
        simpa using HE3.out.sig _
/-- A digit that is taken at a Select, or at a Start. -/
theorem select_any (G : Nat) (sl : Value) (r : Bool) (fill : UInt8) (on nz : Bool) (mk : Int) (text rem : List UInt8) (w : World) (hl : text.length ≤ 1000) (h : EdM w G sl r fill on nz mk text) (hs : Src w G sl rem) (hr : Rok rem r) :
    Calls Try.prog 28 #[.pointer (some ⟨G, 0, none⟩)] w (DgPost w G fill on nz mk text (edRem rem r) false) := by
  have HD := Lib.hid (digit_any G sl r fill on nz mk text rem false w hl h hs hr)
  clear h hs hr hl
  obtain ⟨Q, hQ⟩ : ∃ Q, Q = DgPost w G fill on nz mk text (edRem rem r) false := ⟨_, rfl⟩
  rw [← hQ] at HD ⊢
  have HQ := Lib.hid hQ
  clear hQ
  go_enter Try.func28, Try.ntmps28
  go_wp2_with fail
  refine (HD.out).mono ?_
  intro e w1 hq
  obtain ⟨code, rfl⟩ : ∃ code : Int, e = .returned (.int .i64 code) := by
    rw [HQ.out] at hq
    rcases hq with ⟨_, ⟨_, h⟩ | ⟨_, _, _, _, h⟩ | ⟨_, _, _, _, h, _⟩⟩ <;> exact ⟨_, h⟩
  have HH := Lib.hid hq
  clear hq
  go_wp2
  exact HH.out
theorem start_any (G : Nat) (sl : Value) (r : Bool) (fill : UInt8) (on nz : Bool) (mk : Int) (text rem : List UInt8) (w : World) (hl : text.length ≤ 1000) (h : EdM w G sl r fill on nz mk text) (hs : Src w G sl rem) (hr : Rok rem r) :
    Calls Try.prog 29 #[.pointer (some ⟨G, 0, none⟩)] w (DgPost w G fill on nz mk text (edRem rem r) true) := by
  have HD := Lib.hid (digit_any G sl r fill on nz mk text rem true w hl h hs hr)
  clear h hs hr hl
  obtain ⟨Q, hQ⟩ : ∃ Q, Q = DgPost w G fill on nz mk text (edRem rem r) true := ⟨_, rfl⟩
  rw [← hQ] at HD ⊢
  have HQ := Lib.hid hQ
  clear hQ
  go_enter Try.func29, Try.ntmps29
  go_wp2_with fail
  refine (HD.out).mono ?_
  intro e w1 hq
  obtain ⟨code, rfl⟩ : ∃ code : Int, e = .returned (.int .i64 code) := by
    rw [HQ.out] at hq
    rcases hq with ⟨_, ⟨_, h⟩ | ⟨_, _, _, _, h⟩ | ⟨_, _, _, _, h, _⟩⟩ <;> exact ⟨_, h⟩
  have HH := Lib.hid hq
  clear hq
  go_wp2
  exact HH.out

end E
end Go.Proofs.Ytfkenoehoocobaa

/- The statements' numbers: the condition codes that are asked for. -/
import Derived.Test.YtfkenoehoocobaaEdPk
namespace Go.Proofs.Ytfkenoehoocobaa
open Go.RowKit
set_option linter.unusedVariables false
namespace E

/-- A block of three cells, and all that lay below. -/
theorem cd_mk {w W : World} {g : Nat} {a b c : Value} (h : W.cell? ⟨g, 0, none⟩ = some a ∧ W.cell? ⟨g, 1, none⟩ = some b ∧ W.cell? ⟨g, 2, none⟩ = some c) (hb : ApS w W) : W.cell? ⟨g, 0, none⟩ = some a ∧ W.cell? ⟨g, 1, none⟩ = some b ∧ W.cell? ⟨g, 2, none⟩ = some c ∧ ApS w W := ⟨h.1, h.2.1, h.2.2, hb⟩
theorem cd_bel {w W : World} {g : Nat} {a b c : Value} (h : W.cell? ⟨g, 0, none⟩ = some a ∧ W.cell? ⟨g, 1, none⟩ = some b ∧ W.cell? ⟨g, 2, none⟩ = some c ∧ ApS w W) : Below w.heap.size w W := h.2.2.2
theorem cd_next {w W W' : World} {g : Nat} {a b c : Value} (h : W.cell? ⟨g, 0, none⟩ = some a ∧ W.cell? ⟨g, 1, none⟩ = some b ∧ W.cell? ⟨g, 2, none⟩ = some c ∧ ApS w W) (hb : Below W.heap.size W W') :
    W'.cell? ⟨g, 0, none⟩ = some a ∧ W'.cell? ⟨g, 1, none⟩ = some b ∧ W'.cell? ⟨g, 2, none⟩ = some c ∧ ApS w W' := ⟨keepC h.1 hb, keepC h.2.1 hb, keepC h.2.2.1 hb, bel0 h.2.2.2 hb⟩
theorem cd_id {w W : World} {g : Nat} {a b c : Value} (h : W.cell? ⟨g, 0, none⟩ = some a ∧ W.cell? ⟨g, 1, none⟩ = some b ∧ W.cell? ⟨g, 2, none⟩ = some c ∧ ApS w W) : W.cell? ⟨g, 0, none⟩ = some a ∧ W.cell? ⟨g, 1, none⟩ = some b ∧ W.cell? ⟨g, 2, none⟩ = some c ∧ ApS w W := h
set_option maxRecDepth 100000 in
set_option maxHeartbeats 2000000 in
theorem code_any (v : Value) (l m : List UInt8) (neg : Bool) (w : World) (h : NumV w v l neg m) :
    Calls Try.prog 19 #[v] w (New w (.int .i64 (cdN neg (dgN l) : Int))) := by
  have HD := Lib.hid (fun W (hb : Below w.heap.size w W) => digits_any v l m neg W (h.below hb))
  have HZ := Lib.hid (fun W (hb : Below w.heap.size w W) => zeros_any v l m neg W (h.below hb))
  obtain ⟨d, tv, rfl, hd, ht⟩ := h
  obtain ⟨p, c0, rfl, _⟩ := hd
  obtain ⟨q, cq, rfl, _⟩ := ht
  have hbw := (below_new w (.cells #[.slice p l.length c0, .bool neg, .slice q m.length cq] 37))
  have hbx := (Bx.new w 37 #[.slice p l.length c0, .bool neg, .slice q m.length cq])
  have h0 := cd_mk hbx.three.1 (show ApS w _ from hbw)
  have HB0 := Lib.hid (cd_next h0 (Below.refl _ _).drew)
  have hz : ((zN (dgN l) : Int) == ((dgN l).length : Int)) = decide (zN (dgN l) = (dgN l).length) := by
    by_cases h : zN (dgN l) = (dgN l).length
    · rw [h]; simp
    · rw [decide_eq_false h]
      simp only [beq_eq_false_iff_ne, ne_eq]
      omega
  have hcd : cdN neg (dgN l) = if decide (zN (dgN l) = (dgN l).length) = true then 0 else if neg then 1 else 2 := by
    unfold cdN
    by_cases h : zN (dgN l) = (dgN l).length
    · rw [if_pos h, decide_eq_true h]; rfl
    · rw [if_neg h, decide_eq_false h]; rfl
  rw [hcd]
  clear hcd hbw hbx h0
  generalize decide (zN (dgN l) = (dgN l).length) = bz at *
  generalize dgN l = dg at *
  generalize zN dg = z at *
  have H2 := Lib.hid (fun W (hb : Below w.heap.size w W) => (HD.out W hb).mono (fun e W' (h : IPost W dg e W') => (by
    obtain ⟨sv, h1, h2, h3⟩ := h
    obtain ⟨p, c, rfl⟩ := h2.slice
    exact ⟨p, c, h1, h3⟩ : ∃ p c, e = .returned (.slice p dg.length c) ∧ Below W.heap.size W W')))
  clear HD
  generalize dg.length = n at *
  obtain ⟨r, hr⟩ : ∃ r : Nat, r = if bz = true then 0 else if neg then 1 else 2 := ⟨_, rfl⟩
  rw [← hr]
  have HR := Lib.hid hr
  clear hr
  cases bz
  · go_enter Try.func19, Try.ntmps19
    go_wp2
    go_region_held3 (fun W => W.cell? ⟨w.heap.size, 0, none⟩ = some (.slice p l.length c0) ∧ W.cell? ⟨w.heap.size, 1, none⟩ = some (.bool neg) ∧ W.cell? ⟨w.heap.size, 2, none⟩ = some (.slice q m.length cq) ∧ ApS w W)
      (first | exact HB0.out | exact cd_next (by assumption) (by assumption))
      (first
        | (go_at_call 20; refine (HZ.out _ ?_).mono ?_; exact cd_bel (by assumption); rintro e w5 ⟨rfl, hb5⟩)
        | (go_at_call 22; refine (H2.out _ ?_).mono ?_; exact cd_bel (by assumption); rintro e w6 ⟨p6, c6, rfl, hb6⟩))
    all_goals obtain ⟨b0, b1, b2, hb9⟩ := cd_id (by assumption)
    all_goals have HB9 := Lib.hid (show Below w.heap.size w _ from hb9)
    all_goals clear hb5 hb6 hb9
    all_goals cases neg
    all_goals go_wp2
    all_goals go_ret
    all_goals exact ⟨by rw [HR.out]; rfl, HB9.out⟩
  · go_enter Try.func19, Try.ntmps19
    go_wp2
    go_region_held3 (fun W => W.cell? ⟨w.heap.size, 0, none⟩ = some (.slice p l.length c0) ∧ W.cell? ⟨w.heap.size, 1, none⟩ = some (.bool neg) ∧ W.cell? ⟨w.heap.size, 2, none⟩ = some (.slice q m.length cq) ∧ ApS w W)
      (first | exact HB0.out | exact cd_next (by assumption) (by assumption))
      (first
        | (go_at_call 20; refine (HZ.out _ ?_).mono ?_; exact cd_bel (by assumption); rintro e w5 ⟨rfl, hb5⟩)
        | (go_at_call 22; refine (H2.out _ ?_).mono ?_; exact cd_bel (by assumption); rintro e w6 ⟨p6, c6, rfl, hb6⟩))
    all_goals obtain ⟨b0, b1, b2, hb9⟩ := cd_id (by assumption)
    all_goals have HB9 := Lib.hid (show Below w.heap.size w _ from hb9)
    all_goals clear hb5 hb6 hb9
    all_goals cases neg
    all_goals go_wp2
    all_goals go_ret
    all_goals exact ⟨by rw [HR.out]; rfl, HB9.out⟩

end E
end Go.Proofs.Ytfkenoehoocobaa

/- The law's own encodes: it answers true. -/
import Derived.Test.YtgnaiolbleadbaaDoorPkRef9
namespace Go.Proofs.YtgnaiolbleadbaaDoor
open Go.RowKit Go.Shelf
set_option linter.unusedVariables false
namespace E

/-- What both sides' Encode and Zoned answer: a slice that reads as the list, and a word. -/
def SzPost (w : World) (l : List UInt8) (over : Bool) (e : Ending) (w' : World) : Prop := ∃ sv, e = .returned (.tuple #[sv, .bool over]) ∧ SvRd w' sv l ∧ Below w.heap.size w w'
theorem EnPost.sz {f : Nat} {args : Array Value} {w : World} {n : Int} {l : List UInt8} {ok over : Bool} (h : Calls Tryd.prog f args w (EnPost w ok n l over)) (hl : l.length = n.toNat) : Calls Tryd.prog f args w (SzPost w (if ok then l else []) (if ok then over else false)) :=
  h.mono fun e w' h => by
    rcases h with ⟨ho, g, h1, h2, h3⟩ | ⟨ho, h1, h2⟩
    · rw [ho, if_pos rfl, if_pos rfl]
      exact ⟨_, h1, ⟨_, _, by rw [hl], h2.rd⟩, h3⟩
    · rw [ho, if_neg (by simp), if_neg (by simp)]
      exact ⟨_, h1, ⟨none, 0, rfl, .inl rfl⟩, h2⟩
theorem RzmPost.sz {f : Nat} {args : Array Value} {w : World} {l : List UInt8} {ok over : Bool} (h : Calls Tryd.prog f args w (RzmPost w ok l over)) : Calls Tryd.prog f args w (SzPost w (if ok then l else []) (if ok then over else false)) :=
  h.mono fun e w' h => by
    rcases h with ⟨ho, sv, h1, h2, h3⟩ | ⟨ho, h1, h2⟩
    · rw [ho, if_pos rfl, if_pos rfl]
      obtain ⟨p, c, e1, e2, _⟩ := h2.rd
      exact ⟨_, h1, ⟨p, c, e1, e2⟩, h3⟩
    · rw [ho, if_neg (by simp), if_neg (by simp)]
      exact ⟨_, h1, ⟨none, 0, rfl, .inl rfl⟩, h2⟩
set_option maxRecDepth 100000 in
set_option maxHeartbeats 2000000 in
theorem encodes_any (neg : Bool) (s : ByteArray) (n : Int) (w : World) :
    Calls Tryd.prog 16 #[.agg #[.bool neg, .string s], .int .i64 n] w (New w (.bool true)) := by
  obtain ⟨bs, hs⟩ : ∃ bs, s.data.toList = bs := ⟨_, rfl⟩
  have HE := Lib.hid (fun W => EnPost.sz (penc_any neg s n bs W hs) (encL_len _ _ _))
  have HRE := Lib.hid (fun W => RzmPost.sz (rencode_any neg s n bs W hs))
  have HZ := Lib.hid (fun W => EnPost.sz (pzon_any neg s n bs W hs) (zonL_len _ _ _))
  have HRZ := Lib.hid (fun W => RzmPost.sz (rzoned_any neg s n bs W hs))
  have HV := Lib.hid (fun W => valid_any neg s W)
  have HRV := Lib.hid (fun W => rvalid_any neg s W)
  generalize (if enB bs n = true then encL neg bs n.toNat else []) = l1 at *
  generalize (if enB bs n = true then zonL neg bs n.toNat else []) = l2 at *
  generalize (if enB bs n = true then decide (2 * n.toNat - 1 < bs.length) else false) = o1 at *
  generalize (if enB bs n = true then decide (n.toNat < bs.length) else false) = o2 at *
  generalize okL s.data.toList = vb at *
  clear hs
  have HB := Lib.hid (below_new w (.cells #[.bool neg, .string s] 26))
  have HD := Lib.hid (DecB.new w neg s)
  obtain ⟨⟨c1, c2⟩, _⟩ := HD.out.cells
  go_enter Tryd.func16, Tryd.ntmps16
  go_wp2_with fail
  refine (HE.out _).mono ?_
  rintro e w1 ⟨sv1, rfl, hr, hb⟩
  have HB1 := Lib.hid (bel0 HB.out hb)
  have HD1 := Lib.hid (HD.out.below hb)
  have HR1 := Lib.hid hr
  clear hr hb c1 c2
  obtain ⟨⟨c1, c2⟩, _⟩ := HD1.out.cells
  go_wp2_with fail
  refine (HRE.out _).mono ?_
  rintro e w2 ⟨sv2, rfl, hr, hb⟩
  have HB2 := Lib.hid (bel0 HB1.out hb)
  have HD2 := Lib.hid (HD1.out.below hb)
  have HR2 := Lib.hid (HR1.out.below hb)
  have HS2 := Lib.hid hr
  clear hr hb c1 c2
  obtain ⟨⟨c1, c2⟩, _⟩ := HD2.out.cells
  go_wp2_with fail
  refine (HZ.out _).mono ?_
  rintro e w3 ⟨sv3, rfl, hr, hb⟩
  have HB3 := Lib.hid (bel0 HB2.out hb)
  have HD3 := Lib.hid (HD2.out.below hb)
  have HR3 := Lib.hid (HR2.out.below hb)
  have HS3 := Lib.hid (HS2.out.below hb)
  have HT3 := Lib.hid hr
  clear hr hb c1 c2
  obtain ⟨⟨c1, c2⟩, _⟩ := HD3.out.cells
  go_wp2_with fail
  refine (HRZ.out _).mono ?_
  rintro e w4 ⟨sv4, rfl, hr, hb⟩
  have HB4 := Lib.hid (bel0 HB3.out hb)
  have HD4 := Lib.hid (HD3.out.below hb)
  have HR4 := Lib.hid (HR3.out.below hb)
  have HS4 := Lib.hid (HS3.out.below hb)
  have HT4 := Lib.hid (HT3.out.below hb)
  have HU4 := Lib.hid hr
  clear hr hb c1 c2
  obtain ⟨⟨c1, c2⟩, _⟩ := HD4.out.cells
  have hlt : w.heap.size < w4.heap.size := HD4.out.lt
  have HLT := Lib.hid hlt
  have C1 := Lib.hid c1
  have C2 := Lib.hid c2
  have H0 : Hid ((fun W : World => W.cell? ⟨w.heap.size, 0, none⟩ = some (.bool neg) ∧ W.cell? ⟨w.heap.size, 1, none⟩ = some (.string s) ∧ ApS w4 W) w4.drew) := Lib.hid ⟨keepC c1 (Below.refl _ _).drew, keepC c2 (Below.refl _ _).drew, (Below.refl _ _).drew⟩
  clear hlt c1 c2
  go_wp2
  go_region_held3 (fun W => W.cell? ⟨w.heap.size, 0, none⟩ = some (.bool neg) ∧ W.cell? ⟨w.heap.size, 1, none⟩ = some (.string s) ∧ ApS w4 W)
    (first | assumption | exact H0.out | exact ApS.mk2 HLT.out C1.out C2.out (by assumption) | exact ApS.new2 HLT.out C1.out C2.out (by assumption))
    (first
      | (go_at_call 29; refine (HV.out _).mono ?_; rintro e w5 ⟨rfl, hb5⟩; have hs5 : ApS w4 w5 := bel_app (And.right (And.right (b := _ ∧ ApS w4 _) (by assumption))) hb5)
      | (go_at_call 31; refine (HRV.out _).mono ?_; rintro e w6 ⟨rfl, hb6⟩; have hs6 : ApS w4 w6 := bel_app hs5 hb6)
      | (go_at_call 17; refine (same_sv (SvRd.below HR4.out hs6) (SvRd.below HS4.out hs6)).mono ?_; rintro e w7 ⟨rfl, rfl⟩)
      | (go_at_call 17; refine (same_sv (SvRd.below HT4.out hs6) (SvRd.below HU4.out hs6)).mono ?_; rintro e w7 ⟨rfl, rfl⟩))
  all_goals have HF : Hid (Below w.heap.size w w6) := Lib.hid (bel0 HB4.out hs6)
  all_goals clear hs6 hs5 hb5 hb6
  all_goals go_wp2
  all_goals go_ret
  all_goals exact ⟨rfl, HF.out⟩

end E
end Go.Proofs.YtgnaiolbleadbaaDoor

/- The contracts of the helpers of the statements: same, dec, is, not, field. -/
import Derived.Test.YtgnaiolbleadbaaDoorPkDecode
import Derived.Test.YtgnaiolbleadbaaDoorPkEnc2
namespace Go.Proofs.YtgnaiolbleadbaaDoor
open Go.RowKit Go.Shelf
set_option linter.unusedVariables false
namespace E

theorem decode_any (p : Option Addr) (c : Nat) (bs : List UInt8) (w : World) (hr : Rd w p bs) (hg : Sg w) :
    Calls Tryd.prog 25 #[.slice p bs.length c] w (DecPost w bs) := by
  by_cases hl : 1 ≤ bs.length ∧ bs.length ≤ 16
  · exact decode_yes p c bs w hl.1 hl.2 hr hg
  · have ho : dOk bs = false := by unfold dOk; rw [decide_eq_false hl]; rfl
    refine (decode_no p bs.length c w hl).mono ?_
    rintro e w' ⟨rfl, hb⟩
    refine ⟨?_, hb⟩
    unfold dNeg dDig
    rw [ho]
    rfl
theorem same_true (p q : Option Addr) (c d : Nat) (l : List UInt8) (w : World) (hp : Rd w p l) (hq : Rd w q l) :
    Calls Tryd.prog 26 #[.slice p l.length c, .slice q l.length d] w fun e w' => e = .returned (.bool true) ∧ w = w' := by
  have h1 := conv_rd (c := c) hp
  have h2 := conv_rd (c := d) hq
  clear hp hq
  generalize (⟨l.toArray⟩ : ByteArray) = s at *
  generalize l.length = n at *
  go_enter Tryd.func26, Tryd.ntmps26
  go_wp2
  go_ret
  exact ⟨by simp, rfl⟩
theorem rsame_true (p q : Option Addr) (c d : Nat) (l : List UInt8) (w : World) (hp : Rd w p l) (hq : Rd w q l) :
    Calls Tryd.prog 17 #[.slice p l.length c, .slice q l.length d] w fun e w' => e = .returned (.bool true) ∧ w = w' := by
  have h1 := conv_rd (c := c) hp
  have h2 := conv_rd (c := d) hq
  clear hp hq
  generalize (⟨l.toArray⟩ : ByteArray) = s at *
  generalize l.length = n at *
  go_enter Tryd.func17, Tryd.ntmps17
  go_wp2
  go_ret
  exact ⟨by simp, rfl⟩
theorem dec_any (neg : Bool) (s : ByteArray) (w : World) : Calls Tryd.prog 28 #[.bool neg, .string s] w (New w (.agg #[.bool neg, .string s])) := by
  go_enter Tryd.func28, Tryd.ntmps28
  go_wp2
  refine bodyPost_ret (results_cell_row rfl _ _ w.heap.size _ _ _ _ rfl (heap_alloc_new w _) Tryd.underlying26 rfl (by kernel_rfl)) rfl ?_
  exact ⟨rfl, below_new _ _⟩
set_option maxRecDepth 100000 in
theorem is_any (p : Option Addr) (c : Nat) (bs : List UInt8) (neg : Bool) (s : ByteArray) (w : World) (hr : Rd w p bs) (hg : Sg w) (ho : dOk bs = true) (hn : dNeg bs = neg) (hs : (⟨(dDig bs).toArray⟩ : ByteArray) = s) :
    Calls Tryd.prog 38 #[.slice p bs.length c, .bool neg, .string s] w (New w (.bool true)) := by
  have hd : Calls Tryd.prog 25 #[.slice p bs.length c] w (New w (.tuple #[.agg #[.bool neg, .string s], .bool true])) := (decode_any p c bs w hr hg).mono fun e w' ⟨he, hb⟩ => ⟨by rw [he, ho, hn, hs], hb⟩
  have HD := Lib.hid hd
  clear hd ho hn hs hr hg
  go_enter Tryd.func38, Tryd.ntmps38
  go_wp2_with fail
  refine (HD.out).mono ?_
  rintro e w1 ⟨rfl, hb1⟩
  have hc := cell2_new w1 (.bool neg) (.string s) 26
  have h00 : PenC w w1.heap.size neg s (w1.alloc (.cells #[.bool neg, .string s] 26)).drew := ⟨⟨keepC hc.1 (Below.refl _ _).drew, keepC hc.2 (Below.refl _ _).drew⟩, hb1.trans (((below_new w1 _).drew).mono hb1.size), .inl rfl⟩
  have H00 := Lib.hid h00
  clear hc hb1 h00
  go_wp2
  go_region_held3 (fun W => (W.cell? ⟨w1.heap.size, 0, none⟩ = some (.bool neg) ∧ W.cell? ⟨w1.heap.size, 1, none⟩ = some (.string s)) ∧ CvS w none [] W)
    (first | exact H00.out | exact PenC.next (w0 := w) (D := w1.heap.size) (by assumption) (by assumption))
    (first
      | (go_at_call 28; refine (dec_any _ _ _).mono ?_; rintro e w2 ⟨rfl, hbel⟩))
  have hfin := PenC.below (D := w1.heap.size) (w0 := w) (neg := neg) (s := s) (by assumption)
  go_wp2
  go_ret
  exact ⟨rfl, hfin⟩
set_option maxRecDepth 100000 in
theorem not_any (p : Option Addr) (c : Nat) (bs : List UInt8) (w : World) (hr : Rd w p bs) (hg : Sg w) (ho : dOk bs = false) :
    Calls Tryd.prog 30 #[.slice p bs.length c] w (New w (.bool true)) := by
  have hd : Calls Tryd.prog 25 #[.slice p bs.length c] w (New w (.tuple #[.agg #[.bool false, .string ⟨#[]⟩], .bool false])) := (decode_any p c bs w hr hg).mono fun e w' ⟨he, hb⟩ => ⟨by rw [he]; unfold dNeg dDig; rw [ho]; rfl, hb⟩
  have HD := Lib.hid hd
  clear hd ho hr hg
  go_enter Tryd.func30, Tryd.ntmps30
  go_wp2_with fail
  refine (HD.out).mono ?_
  rintro e w1 ⟨rfl, hb1⟩
  have HB := Lib.hid (hb1.trans ((below_new w1 (.cells #[.bool false, .string ⟨#[]⟩] 26)).mono hb1.size))
  clear hb1
  go_wp2
  go_ret
  exact ⟨rfl, HB.out⟩
set_option maxRecDepth 100000 in
theorem field_yes (neg : Bool) (s : ByteArray) (bs l : List UInt8) (n : Nat) (over : Bool) (p : Option Addr) (c : Nat) (w : World) (hs : s.data.toList = bs) (ho : enB bs n = true) (hl : encL neg bs n = l) (hov : decide (2 * n - 1 < bs.length) = over) (hr : Rd w p l) :
    Calls Tryd.prog 39 #[.agg #[.bool neg, .string s], .int .i64 (n : Int), .slice p l.length c, .bool over] w (New w (.bool true)) := by
  have hlen : l.length = n := by rw [← hl, encL_len]
  have hd := fun W => penc_any neg s (n : Int) bs W hs
  rw [ho] at hd
  have he : ∀ W, Calls Tryd.prog 24 #[.agg #[.bool neg, .string s], .int .i64 (n : Int)] W fun e w' => ∃ g, e = .returned (.tuple #[.slice (some ⟨g, 0, none⟩) n n, .bool over]) ∧ Rd w' (some ⟨g, 0, none⟩) l ∧ Below W.heap.size W w' :=
    fun W => (EnPost.yes (hd W)).mono fun e w' ⟨g, he, hbk, hb⟩ => by
      rw [Int.toNat_natCast] at he hbk
      rw [hov] at he
      rw [hl] at hbk
      exact ⟨g, he, hbk.rd, hb⟩
  have HE := Lib.hid he
  have hsm := fun q W hq hp => same_true q p n c l W hq hp
  rw [hlen] at hsm ⊢
  have HSM := Lib.hid hsm
  have HR := Lib.hid hr
  have HB := Lib.hid (below_new w (.cells #[.bool neg, .string s] 26))
  clear hd he hsm hr hs ho hl hov hlen
  go_enter Tryd.func39, Tryd.ntmps39
  go_wp2_with fail
  refine (HE.out _).mono ?_
  rintro e w1 ⟨g, rfl, hq, hb1⟩
  have HB1 := Lib.hid (HB.out.trans (hb1.mono HB.out.size))
  have HQ := Lib.hid hq
  clear hb1 hq
  go_wp2_with fail
  refine (HSM.out _ _ HQ.out (HR.out.below HB1.out)).mono ?_
  rintro e w2 ⟨rfl, rfl⟩
  go_wp2
  go_ret
  exact ⟨by simp, HB1.out⟩
set_option maxRecDepth 100000 in
theorem field_no (neg : Bool) (s : ByteArray) (n : Int) (w : World) (ho : enB s.data.toList n = false) :
    Calls Tryd.prog 39 #[.agg #[.bool neg, .string s], .int .i64 n, .slice none 0 0, .bool false] w (New w (.bool true)) := by
  have hd := fun W => penc_any neg s n _ W rfl
  rw [ho] at hd
  have HE := Lib.hid (fun W => EnPost.no (hd W))
  have hsm : ∀ W, Calls Tryd.prog 26 #[.slice none 0 0, .slice none 0 0] W fun e w' => e = .returned (.bool true) ∧ W = w' := fun W => same_true none none 0 0 [] W (.inl rfl) (.inl rfl)
  have HSM := Lib.hid hsm
  have HB := Lib.hid (below_new w (.cells #[.bool neg, .string s] 26))
  clear hd hsm ho
  go_enter Tryd.func39, Tryd.ntmps39
  go_wp2_with fail
  refine (HE.out _).mono ?_
  rintro e w1 ⟨rfl, hb1⟩
  have HB1 := Lib.hid (HB.out.trans (hb1.mono HB.out.size))
  clear hb1
  go_wp2_with fail
  refine (HSM.out _).mono ?_
  rintro e w2 ⟨rfl, rfl⟩
  go_wp2
  go_ret
  exact ⟨rfl, HB1.out⟩

end E
end Go.Proofs.YtgnaiolbleadbaaDoor

/- The contract of Decode. -/
import Derived.Test.YtlpekknhaaddcaaDoorPkMoves
import Derived.Test.YtlpekknhaaddcaaDoorPkJoin
import Derived.Laws.ResultCell
namespace Go.Proofs.YtlpekknhaaddcaaDoor
open Go.RowKit Go.Shelf
set_option linter.unusedVariables false
namespace E

/-- What a digit means at the place of the sign: 0 none, 1 plus, 2 minus. -/
def signV (d : Fin 16) : Nat := if d.val < 10 then 0 else if d.val = 11 ∨ d.val = 13 then 2 else 1
theorem signV_le (d : Fin 16) : signV d ≤ 2 := by
  unfold signV
  split
  · omega
  · split <;> omega
/-- The table of the signs lies as the program's text lays it. -/
def Sg (w : World) : Prop := ∀ d : Fin 16, w.cell? ⟨0, d.val, none⟩ = some (.int .i64 (signV d : Int))
theorem Sg.below {w w' : World} (h : Sg w) (hb : Below w.heap.size w w') : Sg w' := fun d => keepC (h d) hb
/-- Is the field valid? -/
def dOk (bs : List UInt8) : Bool := decide (1 ≤ bs.length ∧ bs.length ≤ 16) && (decide (signV (nib bs 0) ≠ 0) && okD (dg bs 1 1 (2 * bs.length - 1)))
/-- The sign of the number in a field. -/
def dNeg (bs : List UInt8) : Bool := dOk bs && decide (signV (nib bs 0) = 2)
/-- The digits of the number in a field. -/
def dDig (bs : List UInt8) : List UInt8 := if dOk bs then numL (dg bs 1 1 (2 * bs.length - 1)) else []
/-- What Decode leaves. -/
def DecPost (w : World) (bs : List UInt8) (e : Ending) (w' : World) : Prop :=
  e = .returned (.tuple #[.agg #[.bool (dNeg bs), .string ⟨(dDig bs).toArray⟩], .bool (dOk bs)]) ∧ Below w.heap.size w w'
theorem join_digits (p : Option Addr) (c : Nat) (bs : List UInt8) (W : World) (B0 B1 B2 : Nat) (hl : 1 ≤ bs.length) (hl2 : bs.length ≤ 16)
    (q1 : Boxed W B0 22 (.slice p bs.length c)) (q2 : Boxed W B1 3 (.int .i64 1)) (q3 : Boxed W B2 3 (.int .i64 1)) (hr : Rd W p bs) :
    Calls Tryd.prog 85 #[.func (.func 96) #[] #[.pointer (some ⟨B1, 0, none⟩), .pointer (some ⟨B0, 0, none⟩), .pointer (some ⟨B2, 0, none⟩)]] W
      (JoinPost W (dg bs 1 1 (2 * bs.length - 1))) :=
  join_any 96 _ (enters_of Tryd.func96 (by kernel_rfl) rfl) _ W (2 * bs.length - 1) (by rw [dg_len]; omega) (by rw [dg_len]; omega) (by omega) (fun m hm => digits_stops m hm _ _ _ p c 1 1 _ bs W (by omega) (by omega) (by omega) (by omega) (by intro i; omega) q2 q1 q3 hr)
/-- A number that lies in a block. -/
def DecB (w : World) (D : Nat) (neg : Bool) (s : ByteArray) : Prop := w.heap[D]? = some (.cells #[.bool neg, .string s] 78 (0, 0))
theorem DecB.new (w : World) (neg : Bool) (s : ByteArray) : DecB (w.alloc (.cells #[.bool neg, .string s] 78)) w.heap.size neg s := World.alloc_heap_new w _
theorem DecB.lt {w : World} {D : Nat} {neg : Bool} {s : ByteArray} (h : DecB w D neg s) : D < w.heap.size := (Array.getElem?_eq_some_iff.1 h).1
theorem DecB.below {w w' : World} {D : Nat} {neg : Bool} {s : ByteArray} (h : DecB w D neg s) (hb : Below w.heap.size w w') : DecB w' D neg s := (hb.block D h.lt).trans h
theorem DecB.cells {w : World} {D : Nat} {neg : Bool} {s : ByteArray} (h : DecB w D neg s) : (w.cell? ⟨D, 0, none⟩ = some (.bool neg) ∧ w.cell? ⟨D, 1, none⟩ = some (.string s)) ∧ w.frozen? ⟨D, 0, none⟩ = false ∧ w.frozen? ⟨D, 1, none⟩ = false := by
  have h' : w.heap[D]? = _ := h
  refine ⟨⟨?_, ?_⟩, ?_, ?_⟩ <;> simp [World.cell?, World.frozen?, h']
set_option maxRecDepth 100000 in
theorem decode_no (p : Option Addr) (n c : Nat) (w : World) (hl : ¬ (1 ≤ n ∧ n ≤ 16)) :
    Calls Tryd.prog 67 #[.slice p n c] w (New w (.tuple #[.agg #[.bool false, .string ⟨#[]⟩], .bool false])) := by
  have hs1 := fun W => isSize_any (n : Int) W
  rw [decide_eq_false (by omega)] at hs1
  have S1 := Lib.hid hs1
  clear hs1
  go_enter Tryd.func67, Tryd.ntmps67
  go_wp2_with fail
  refine (S1.out _).mono ?_
  rintro e w' ⟨rfl, rfl⟩
  go_wp2
  refine bodyPost_ret (v := .tuple #[.agg #[.bool false, .string ⟨#[]⟩], .bool false]) ?_ rfl ⟨rfl, ?_⟩
  · rw [results_cell_tmp rfl]
    go_simp
  · exact below_new _ _
set_option maxRecDepth 100000 in
theorem decode_yes (p : Option Addr) (c : Nat) (bs : List UInt8) (w : World) (hl : 1 ≤ bs.length) (hl2 : bs.length ≤ 16) (hr : Rd w p bs) (hg : Sg w) :
    Calls Tryd.prog 67 #[.slice p bs.length c] w (DecPost w bs) := by
  have hs1 := fun W => isSize_any (bs.length : Int) W
  rw [decide_eq_true (by omega)] at hs1
  have S1 := Lib.hid hs1
  have HR := Lib.hid hr
  have HG := Lib.hid hg
  have hda : ∀ W, Rd W p bs → Calls Tryd.prog 84 #[.slice p bs.length c, .int .i64 0] W fun e w' => e = .returned (.int .u8 ((nib bs 0).val : Int)) ∧ W = w' := fun W hr => digitAt_any p c 0 bs W (by omega) (by omega) hr
  have HDA := Lib.hid hda
  clear hs1 hr hg hda
  go_enter Tryd.func67, Tryd.ntmps67
  go_wp2_with fail
  refine (S1.out _).mono ?_
  rintro e w' ⟨rfl, rfl⟩
  have HB0 := Lib.hid (below_new w (.cells #[.bool false, .string ⟨#[]⟩] 78))
  go_wp2_with fail
  refine (packedLayout_any _).mono ?_
  rintro e w1 ⟨rfl, hb1⟩
  have hbw1 := HB0.out.trans (hb1.mono HB0.out.size)
  have hd1 := (DecB.new w false ⟨#[]⟩).below hb1
  have hbl := below_new w1 (.cells #[.int .i64 0, .int .i64 1, .int .i64 1, .int .u8 0] 98)
  have hbw2 := hbw1.trans (hbl.mono hbw1.size)
  have hd2 := hd1.below hbl
  have hsg := (HG.out.below hbw2) (nib bs 0)
  have HB2 := Lib.hid hbw2
  have HD2 := Lib.hid hd2
  clear hb1 hbw1 hd1 hbl hbw2 hd2 HB0
  have e1 : layV 0 1 1 0 = .agg #[.int .i64 0, .int .i64 1, .int .i64 1, .int .u8 0] := rfl
  rw [e1]
  clear e1
  have hnl := (nib bs 0).isLt
  go_wp2_with fail
  refine (HDA.out _ (HR.out.below HB2.out)).mono ?_
  rintro e w' ⟨rfl, rfl⟩
  go_wp2_with fail
  refine (digits_ex p bs.length c 1 1 _).mono ?_
  rintro e w2 ⟨B0, B1, B2, rfl, q1, q2, q3, hb2⟩
  have hj := join_digits p c bs w2 B0 B1 B2 hl hl2 q1 q2 q3 (HR.out.below (HB2.out.trans (hb2.mono HB2.out.size)))
  have HJ := Lib.hid hj
  have HB2' := Lib.hid (HB2.out.trans (hb2.mono HB2.out.size))
  have HD2' := Lib.hid (HD2.out.below hb2)
  clear hj q1 q2 q3 hb2 HB2 HD2 hsg HG HDA S1 hnl
  obtain ⟨sv, hsv⟩ : ∃ sv, sv = signV (nib bs 0) := ⟨_, rfl⟩
  obtain ⟨ok, hok⟩ : ∃ ok, ok = okD (dg bs 1 1 (2 * bs.length - 1)) := ⟨_, rfl⟩
  have hsv2 : sv ≤ 2 := by rw [hsv]; exact signV_le _
  have HSV := Lib.hid hsv
  have HOK := Lib.hid hok
  rw [← hsv]
  clear hsv hok
  go_wp2_with fail
  refine (HJ.out).mono ?_
  rintro e w3 ⟨rfl, hb3⟩
  rw [← HOK.out]
  have HB3 := Lib.hid (HB2'.out.trans (hb3.mono HB2'.out.size))
  obtain ⟨⟨c1, c2⟩, f1, f2⟩ := (HD2'.out.below hb3).cells
  clear hb3 HB2' HD2' HJ HR
  have hlen : decide (1 ≤ bs.length ∧ bs.length ≤ 16) = true := decide_eq_true ⟨hl, hl2⟩
  have HLN := Lib.hid hlen
  clear hlen
  by_cases h0 : sv = 0
  · subst h0
    have hv : dNeg bs = false ∧ dDig bs = [] ∧ dOk bs = false := by
      have : dOk bs = false := by unfold dOk; rw [← HSV.out]; simp
      exact ⟨by unfold dNeg; rw [this]; rfl, by unfold dDig; rw [this]; rfl, this⟩
    have HV := Lib.hid hv
    clear hv
    cases ok
    · go_wp2
      refine bodyPost_ret (v := .tuple #[.agg #[.bool false, .string ⟨#[]⟩], .bool false]) ?_ rfl ⟨?_, ?_⟩
      · rw [results_cell_tmp rfl]
        go_simp
      · rw [HV.out.1, HV.out.2.1, HV.out.2.2]
      · exact (HB3.out.setCell (p := ⟨w.heap.size, 0, none⟩) (Nat.le_refl _) _).setCell (p := ⟨w.heap.size, 1, none⟩) (Nat.le_refl _) _
    · go_wp2
      refine bodyPost_ret (v := .tuple #[.agg #[.bool false, .string ⟨#[]⟩], .bool false]) ?_ rfl ⟨?_, ?_⟩
      · rw [results_cell_tmp rfl]
        go_simp
      · rw [HV.out.1, HV.out.2.1, HV.out.2.2]
      · exact (HB3.out.setCell (p := ⟨w.heap.size, 0, none⟩) (Nat.le_refl _) _).setCell (p := ⟨w.heap.size, 1, none⟩) (Nat.le_refl _) _
  have hz : ((sv : Int) == 0) = false := by simpa using h0
  cases ok
  · have hv : dNeg bs = false ∧ dDig bs = [] ∧ dOk bs = false := by
      have : dOk bs = false := by unfold dOk; rw [← HOK.out]; simp
      exact ⟨by unfold dNeg; rw [this]; rfl, by unfold dDig; rw [this]; rfl, this⟩
    have HV := Lib.hid hv
    clear hv
    · go_wp2
      refine bodyPost_ret (v := .tuple #[.agg #[.bool false, .string ⟨#[]⟩], .bool false]) ?_ rfl ⟨?_, ?_⟩
      · rw [results_cell_tmp rfl]
        go_simp
      · rw [HV.out.1, HV.out.2.1, HV.out.2.2]
      · exact (HB3.out.setCell (p := ⟨w.heap.size, 0, none⟩) (Nat.le_refl _) _).setCell (p := ⟨w.heap.size, 1, none⟩) (Nat.le_refl _) _
  · have hokb : dOk bs = true := by unfold dOk; rw [HLN.out, ← HOK.out, ← HSV.out]; simp [h0]
    have hdig : dDig bs = numL (dg bs 1 1 (2 * bs.length - 1)) := by unfold dDig; rw [hokb]; rfl
    obtain ⟨t, ht⟩ : ∃ t : ByteArray, t = ⟨(numL (dg bs 1 1 (2 * bs.length - 1))).toArray⟩ := ⟨_, rfl⟩
    simp only [if_true]
    rw [← ht]
    by_cases h2 : sv = 2
    · have hv : dNeg bs = true ∧ (⟨(dDig bs).toArray⟩ : ByteArray) = t ∧ dOk bs = true := ⟨by unfold dNeg; rw [hokb, ← HSV.out, decide_eq_true h2]; rfl, by rw [hdig, ht], hokb⟩
      have HV := Lib.hid hv
      subst h2
      clear hv hokb hdig ht
      go_wp2
      refine bodyPost_ret (v := .tuple #[.agg #[.bool true, .string t], .bool true]) ?_ rfl ⟨?_, ?_⟩
      · rw [results_cell_tmp rfl]
        go_simp
      · rw [HV.out.1, HV.out.2.1, HV.out.2.2]
      · exact (HB3.out.setCell (p := ⟨w.heap.size, 0, none⟩) (Nat.le_refl _) _).setCell (p := ⟨w.heap.size, 1, none⟩) (Nat.le_refl _) _
    · have hv : dNeg bs = false ∧ (⟨(dDig bs).toArray⟩ : ByteArray) = t ∧ dOk bs = true := ⟨by unfold dNeg; rw [hokb, ← HSV.out, decide_eq_false h2]; rfl, by rw [hdig, ht], hokb⟩
      have HV := Lib.hid hv
      have hz2 : ((sv : Int) == 2) = false := by simp; omega
      clear hv hokb hdig ht h2
      go_wp2
      refine bodyPost_ret (v := .tuple #[.agg #[.bool false, .string t], .bool true]) ?_ rfl ⟨?_, ?_⟩
      · rw [results_cell_tmp rfl]
        go_simp
      · rw [HV.out.1, HV.out.2.1, HV.out.2.2]
      · exact (HB3.out.setCell (p := ⟨w.heap.size, 0, none⟩) (Nat.le_refl _) _).setCell (p := ⟨w.heap.size, 1, none⟩) (Nat.le_refl _) _

end E
end Go.Proofs.YtlpekknhaaddcaaDoor

/- The contracts of encode, Encode and Zoned. -/
import Derived.Test.YtlpekknhaaddcaaDoorPkEnc
namespace Go.Proofs.YtlpekknhaaddcaaDoor
open Go.RowKit Go.Shelf
set_option linter.unusedVariables false
namespace E

/-- The sign that is stored. -/
def sgn (neg : Bool) : Fin 16 := if neg then 13 else 12
/-- What figures leaves. -/
def FigPost (w : World) (s : ByteArray) (e : Ending) (w' : World) : Prop :=
  ∃ B, e = .returned (.func (.func 108) #[] #[.pointer (some ⟨B, 0, none⟩)]) ∧ Boxed w' B 9 (.string s) ∧ Below w.heap.size w w'
theorem figures_ex (s : ByteArray) (w : World) : Calls Tryd.prog 100 #[.string s] w (FigPost w s) :=
  (figures_any s w).mono fun e w' ⟨he, q1, hg⟩ => ⟨_, he, q1, grown_below hg⟩
theorem build_figures (n K2 b1 b2 b3 : Nat) (b4 : UInt8) (sg : Fin 16) (s : ByteArray) (bs : List UInt8) (W : World) (B : Nat) (hs : s.data.toList = bs) (hok : okL bs = true) (hn : 1 ≤ n) (hn2 : n ≤ 16)
    (hb : b1 < 2 * n) (hb2 : b2 ≤ 4) (hb3 : 1 ≤ b3) (hb4 : b3 ≤ 2) (hne : ∀ j, b1 ≠ b2 + b3 * j) (hK2 : ∀ i, i < K2 ↔ b2 + b3 * i < 2 * n) (q1 : Boxed W B 9 (.string s)) :
    Calls Tryd.prog 99 #[.agg #[.int .i64 (b1 : Int), .int .i64 (b2 : Int), .int .i64 (b3 : Int), .int .u8 (b4.toNat : Int)], .int .u8 (sg.val : Int), .func (.func 108) #[] #[.pointer (some ⟨B, 0, none⟩)], .int .i64 (n : Int)] W
      (BuildPost W n K2 b1 b2 b3 b4 sg (fg bs)) := by
  have h := (okL_iff bs).1 hok
  exact build_any 108 _ (enters_of Tryd.func108 (by kernel_rfl) rfl) n K2 b1 b2 b3 b4 sg (fg bs) W bs.length hn hn2 hb4 hb3 hb2 hb hne hK2 (fun m hm => figures_stops m hm B s bs W hs (by omega) h.2 q1)
/-- What Encode and Zoned leave. -/
def EnPost (w : World) (ok : Bool) (n : Int) (l : List UInt8) (over : Bool) (e : Ending) (w' : World) : Prop :=
  (ok = true ∧ ∃ g, e = .returned (.tuple #[.slice (some ⟨g, 0, none⟩) n.toNat n.toNat, .bool over]) ∧ Blk w' w.heap.size g l ∧ Below w.heap.size w w') ∨ (ok = false ∧ New w (.tuple #[.slice none 0 0, .bool false]) e w')
theorem EnPost.from {w0 w w' : World} {ok over : Bool} {n : Int} {l : List UInt8} {e : Ending} (h : EnPost w ok n l over e w') (hb : Below w0.heap.size w0 w) : EnPost w0 ok n l over e w' := by
  rcases h with ⟨h1, g, h2, h3, h4⟩ | ⟨h1, h2, h3⟩
  · exact .inl ⟨h1, g, h2, h3.base' hb.size, hb.trans (h4.mono hb.size)⟩
  · exact .inr ⟨h1, h2, hb.trans (h3.mono hb.size)⟩
/-- The cells of the number and of the layout, and what is held. -/
abbrev EnC (w0 : World) (D : Nat) (neg : Bool) (s : ByteArray) (b1 b2 b3 : Nat) (b4 : UInt8) (W : World) : Prop :=
  (W.cell? ⟨D, 0, none⟩ = some (.bool neg) ∧ W.cell? ⟨D, 1, none⟩ = some (.string s)) ∧
  (W.cell? ⟨D + 1, 0, none⟩ = some (.int .i64 (b1 : Int)) ∧ W.cell? ⟨D + 1, 1, none⟩ = some (.int .i64 (b2 : Int)) ∧ W.cell? ⟨D + 1, 2, none⟩ = some (.int .i64 (b3 : Int)) ∧ W.cell? ⟨D + 1, 3, none⟩ = some (.int .u8 (b4.toNat : Int))) ∧ CvS w0 none [] W
theorem EnC.next {w0 W W' : World} {D : Nat} {neg : Bool} {s : ByteArray} {b1 b2 b3 : Nat} {b4 : UInt8} (h : EnC w0 D neg s b1 b2 b3 b4 W) (hb : Below W.heap.size W W') : EnC w0 D neg s b1 b2 b3 b4 W' :=
  ⟨⟨keepC h.1.1 hb, keepC h.1.2 hb⟩, ⟨keepC h.2.1.1 hb, keepC h.2.1.2.1 hb, keepC h.2.1.2.2.1 hb, keepC h.2.1.2.2.2 hb⟩, h.2.2.next hb⟩
theorem EnC.below {w0 W : World} {D : Nat} {neg : Bool} {s : ByteArray} {b1 b2 b3 : Nat} {b4 : UInt8} (h : EnC w0 D neg s b1 b2 b3 b4 W) : Below w0.heap.size w0 W := h.2.2.1
theorem cell2_new (w : World) (v x : Value) (t : TypeId) : (w.alloc (.cells #[v, x] t)).cell? ⟨w.heap.size, 0, none⟩ = some v ∧ (w.alloc (.cells #[v, x] t)).cell? ⟨w.heap.size, 1, none⟩ = some x := by
  constructor <;> simp [go_sem]
set_option maxRecDepth 100000 in
theorem encode_yes (neg : Bool) (s : ByteArray) (n K2 b1 b2 b3 : Nat) (b4 : UInt8) (bs : List UInt8) (w : World) (hs : s.data.toList = bs) (hok : okL bs = true) (hn : 1 ≤ n) (hn2 : n ≤ 16)
    (hb : b1 < 2 * n) (hb2 : b2 ≤ 4) (hb3 : 1 ≤ b3) (hb4 : b3 ≤ 2) (hne : ∀ j, b1 ≠ b2 + b3 * j) (hK2 : ∀ i, i < K2 ↔ b2 + b3 * i < 2 * n) :
    Calls Tryd.prog 90 #[.agg #[.bool neg, .string s], layV b1 b2 b3 b4, .int .i64 (n : Int)] w fun e w' =>
      ∃ g, e = .returned (.tuple #[.slice (some ⟨g, 0, none⟩) n n, .bool (decide (K2 < bs.length))]) ∧ Blk w' w.heap.size g (outL n b1 b2 b3 b4 (sgn neg) (fg bs)) ∧ Below w.heap.size w w' := by
  have hv := fun W => valid_any neg s W
  rw [hs, hok] at hv
  have HV := Lib.hid hv
  have hs2 := fun W => isSize_any (n : Int) W
  rw [decide_eq_true (by omega)] at hs2
  have S2 := Lib.hid hs2
  have HF := Lib.hid (fun W => figures_ex s W)
  have HBD := Lib.hid (fun sg W B q1 => build_figures n K2 b1 b2 b3 b4 sg s bs W B hs hok hn hn2 hb hb2 hb3 hb4 hne hK2 q1)
  have HLen := Lib.hid (fg_len bs)
  clear hv hs2 hs hok hne hK2
  have hl := (layB_new (w.alloc (.cells #[.bool neg, .string s] 78)) b1 b2 b3 b4).cells
  rw [World.size_alloc] at hl
  have hc := cell2_new w (.bool neg) (.string s) 78
  have h00 : EnC w w.heap.size neg s b1 b2 b3 b4 ((w.alloc (.cells #[.bool neg, .string s] 78)).alloc (.cells #[.int .i64 (b1 : Int), .int .i64 (b2 : Int), .int .i64 (b3 : Int), .int .u8 (b4.toNat : Int)] 98)) :=
    ⟨⟨keepC hc.1 (below_new _ _), keepC hc.2 (below_new _ _)⟩, hl, ((Below.refl _ w).alloc (Nat.le_refl _) _).alloc (by simp) _, .inl rfl⟩
  have H00 := Lib.hid h00
  clear hl hc h00
  unfold layV
  cases neg
  · have hbd : ∀ (W : World) (B : Nat), Boxed W B 9 (.string s) → Calls Tryd.prog 99 #[.agg #[.int .i64 (b1 : Int), .int .i64 (b2 : Int), .int .i64 (b3 : Int), .int .u8 (b4.toNat : Int)], .int .u8 12, .func (.func 108) #[] #[.pointer (some ⟨B, 0, none⟩)], .int .i64 (n : Int)] W
        (BuildPost W n K2 b1 b2 b3 b4 (sgn false) (fg bs)) := fun W B q => HBD.out (sgn false) W B q
    have HB2 := Lib.hid hbd
    clear hbd HBD
    go_enter Tryd.func90, Tryd.ntmps90
    go_wp2_with fail
    refine (HV.out _).mono ?_
    rintro e w1 ⟨rfl, hb1⟩
    have h1 := EnC.next H00.out hb1
    have H1 := Lib.hid h1
    have HC := Lib.hid (EnC.next h1 (Below.refl _ _).drew)
    have hc1 := h1.1.1
    clear hb1 h1
    go_wp2_with fail
    refine (S2.out _).mono ?_
    rintro e w' ⟨rfl, rfl⟩
    go_wp2
    have hz0 := H1.out.2.2.1.size
    go_region_held3 (fun W => (W.cell? ⟨w.heap.size, 0, none⟩ = some (.bool false) ∧ W.cell? ⟨w.heap.size, 1, none⟩ = some (.string s)) ∧ (W.cell? ⟨w.heap.size + 1, 0, none⟩ = some (.int .i64 (b1 : Int)) ∧ W.cell? ⟨w.heap.size + 1, 1, none⟩ = some (.int .i64 (b2 : Int)) ∧ W.cell? ⟨w.heap.size + 1, 2, none⟩ = some (.int .i64 (b3 : Int)) ∧ W.cell? ⟨w.heap.size + 1, 3, none⟩ = some (.int .u8 (b4.toNat : Int))) ∧ CvS w none [] W)
      (first | exact HC.out | exact EnC.next (w0 := w) (D := w.heap.size) (by assumption) (by assumption))
      (first
        | (go_at_call 100; refine (HF.out _).mono ?_; rintro e w2 ⟨B, rfl, q1, hbel⟩)
        | (go_at_call 99; refine (HB2.out _ _ q1).mono ?_; rintro e w3 ⟨g, rfl, hbk, hb3⟩))
    have hz2 := hbel.size
    simp at hz2
    have hfin := EnC.below (D := w.heap.size) (w0 := w) (neg := false) (s := s) (b1 := b1) (b2 := b2) (b3 := b3) (b4 := b4) (by assumption)
    go_wp2
    go_ret2
    exact ⟨g, by rw [HLen.out]; rfl, hbk.base' (by omega), hfin⟩
  · have hbd : ∀ (W : World) (B : Nat), Boxed W B 9 (.string s) → Calls Tryd.prog 99 #[.agg #[.int .i64 (b1 : Int), .int .i64 (b2 : Int), .int .i64 (b3 : Int), .int .u8 (b4.toNat : Int)], .int .u8 13, .func (.func 108) #[] #[.pointer (some ⟨B, 0, none⟩)], .int .i64 (n : Int)] W
        (BuildPost W n K2 b1 b2 b3 b4 (sgn true) (fg bs)) := fun W B q => HBD.out (sgn true) W B q
    have HB2 := Lib.hid hbd
    clear hbd HBD
    go_enter Tryd.func90, Tryd.ntmps90
    go_wp2_with fail
    refine (HV.out _).mono ?_
    rintro e w1 ⟨rfl, hb1⟩
    have h1 := EnC.next H00.out hb1
    have H1 := Lib.hid h1
    have HC := Lib.hid (EnC.next h1 (Below.refl _ _).drew)
    have hc1 := h1.1.1
    clear hb1 h1
    go_wp2_with fail
    refine (S2.out _).mono ?_
    rintro e w' ⟨rfl, rfl⟩
    go_wp2
    have hz0 := H1.out.2.2.1.size
    go_region_held3 (fun W => (W.cell? ⟨w.heap.size, 0, none⟩ = some (.bool true) ∧ W.cell? ⟨w.heap.size, 1, none⟩ = some (.string s)) ∧ (W.cell? ⟨w.heap.size + 1, 0, none⟩ = some (.int .i64 (b1 : Int)) ∧ W.cell? ⟨w.heap.size + 1, 1, none⟩ = some (.int .i64 (b2 : Int)) ∧ W.cell? ⟨w.heap.size + 1, 2, none⟩ = some (.int .i64 (b3 : Int)) ∧ W.cell? ⟨w.heap.size + 1, 3, none⟩ = some (.int .u8 (b4.toNat : Int))) ∧ CvS w none [] W)
      (first | exact HC.out | exact EnC.next (w0 := w) (D := w.heap.size) (by assumption) (by assumption))
      (first
        | (go_at_call 100; refine (HF.out _).mono ?_; rintro e w2 ⟨B, rfl, q1, hbel⟩)
        | (go_at_call 99; refine (HB2.out _ _ q1).mono ?_; rintro e w3 ⟨g, rfl, hbk, hb3⟩))
    have hz2 := hbel.size
    simp at hz2
    have hfin := EnC.below (D := w.heap.size) (w0 := w) (neg := true) (s := s) (b1 := b1) (b2 := b2) (b3 := b3) (b4 := b4) (by assumption)
    go_wp2
    go_ret2
    exact ⟨g, by rw [HLen.out]; rfl, hbk.base' (by omega), hfin⟩
theorem encode_no1 (neg : Bool) (s : ByteArray) (n : Int) (b1 b2 b3 : Nat) (b4 : UInt8) (w : World) (hok : okL s.data.toList = false) :
    Calls Tryd.prog 90 #[.agg #[.bool neg, .string s], layV b1 b2 b3 b4, .int .i64 n] w (New w (.tuple #[.slice none 0 0, .bool false])) := by
  have hv := fun W => valid_any neg s W
  rw [hok] at hv
  have HV := Lib.hid hv
  have HB := Lib.hid (((Below.refl _ w).alloc (Nat.le_refl _) (.cells #[.bool neg, .string s] 78)).alloc (by simp) (.cells #[.int .i64 (b1 : Int), .int .i64 (b2 : Int), .int .i64 (b3 : Int), .int .u8 (b4.toNat : Int)] 98))
  clear hv hok
  unfold layV
  go_enter Tryd.func90, Tryd.ntmps90
  go_wp2_with fail
  refine (HV.out _).mono ?_
  rintro e w1 ⟨rfl, hb1⟩
  have HB1 := Lib.hid (HB.out.trans (hb1.mono HB.out.size))
  clear hb1
  go_wp2
  go_ret2
  exact ⟨rfl, HB1.out⟩
theorem encode_no2 (neg : Bool) (s : ByteArray) (n : Int) (b1 b2 b3 : Nat) (b4 : UInt8) (w : World) (hok : okL s.data.toList = true) (hn : ¬ (1 ≤ n ∧ n ≤ 16)) :
    Calls Tryd.prog 90 #[.agg #[.bool neg, .string s], layV b1 b2 b3 b4, .int .i64 n] w (New w (.tuple #[.slice none 0 0, .bool false])) := by
  have hv := fun W => valid_any neg s W
  rw [hok] at hv
  have HV := Lib.hid hv
  have hs2 := fun W => isSize_any n W
  rw [decide_eq_false (by omega)] at hs2
  have S2 := Lib.hid hs2
  have HB := Lib.hid (((Below.refl _ w).alloc (Nat.le_refl _) (.cells #[.bool neg, .string s] 78)).alloc (by simp) (.cells #[.int .i64 (b1 : Int), .int .i64 (b2 : Int), .int .i64 (b3 : Int), .int .u8 (b4.toNat : Int)] 98))
  clear hv hok hs2
  unfold layV
  go_enter Tryd.func90, Tryd.ntmps90
  go_wp2_with fail
  refine (HV.out _).mono ?_
  rintro e w1 ⟨rfl, hb1⟩
  have HB1 := Lib.hid (HB.out.trans (hb1.mono HB.out.size))
  clear hb1
  go_wp2_with fail
  refine (S2.out _).mono ?_
  rintro e w' ⟨rfl, rfl⟩
  go_wp2
  go_ret2
  exact ⟨rfl, HB1.out⟩
/-- Is there such a field? -/
def enB (l : List UInt8) (n : Int) : Bool := okL l && decide (1 ≤ n ∧ n ≤ 16)
theorem encode_any (neg : Bool) (s : ByteArray) (n : Int) (K2 : Nat → Nat) (b1 b2 b3 : Nat) (b4 : UInt8) (bs : List UInt8) (w : World) (hs : s.data.toList = bs)
    (hb : b1 ≤ 1) (hb2 : b2 ≤ 4) (hb3 : 1 ≤ b3) (hb4 : b3 ≤ 2) (hne : ∀ j, b1 ≠ b2 + b3 * j) (hK2 : ∀ m i, 1 ≤ m → (i < K2 m ↔ b2 + b3 * i < 2 * m)) :
    Calls Tryd.prog 90 #[.agg #[.bool neg, .string s], layV b1 b2 b3 b4, .int .i64 n] w (EnPost w (enB bs n) n (outL n.toNat b1 b2 b3 b4 (sgn neg) (fg bs)) (decide (K2 n.toNat < bs.length))) := by
  cases hok : okL bs
  · subst hs
    exact (encode_no1 neg s n b1 b2 b3 b4 w hok).mono fun e w' h => .inr ⟨by unfold enB; rw [hok]; rfl, h⟩
  by_cases h2 : 1 ≤ n ∧ n ≤ 16
  · obtain ⟨m, rfl⟩ := Int.eq_ofNat_of_zero_le (show 0 ≤ n by omega)
    exact (encode_yes neg s m (K2 m) b1 b2 b3 b4 bs w hs hok (by omega) (by omega) (by omega) hb2 hb3 hb4 hne (fun i => hK2 m i (by omega))).mono fun e w' h => .inl ⟨by unfold enB; rw [hok, decide_eq_true h2]; rfl, h⟩
  · subst hs
    exact (encode_no2 neg s n b1 b2 b3 b4 w hok h2).mono fun e w' h => .inr ⟨by unfold enB; rw [decide_eq_false h2]; simp, h⟩
/-- What Encode returns. -/
def encL (neg : Bool) (dl : List UInt8) (n : Nat) : List UInt8 := outL n 0 1 1 0 (sgn neg) (fg dl)
/-- What Zoned returns. -/
def zonL (neg : Bool) (dl : List UInt8) (n : Nat) : List UInt8 := outL n 1 0 2 240 (sgn neg) (fg dl)
theorem encL_len (neg : Bool) (dl : List UInt8) (n : Nat) : (encL neg dl n).length = n := outL_len _ _ _ _ _ _ _
theorem zonL_len (neg : Bool) (dl : List UInt8) (n : Nat) : (zonL neg dl n).length = n := outL_len _ _ _ _ _ _ _
/-- The cells of the number, and what is held. -/
abbrev PenC (w0 : World) (D : Nat) (neg : Bool) (s : ByteArray) (W : World) : Prop :=
  (W.cell? ⟨D, 0, none⟩ = some (.bool neg) ∧ W.cell? ⟨D, 1, none⟩ = some (.string s)) ∧ CvS w0 none [] W
theorem PenC.next {w0 W W' : World} {D : Nat} {neg : Bool} {s : ByteArray} (h : PenC w0 D neg s W) (hb : Below W.heap.size W W') : PenC w0 D neg s W' := ⟨⟨keepC h.1.1 hb, keepC h.1.2 hb⟩, h.2.next hb⟩
theorem PenC.below {w0 W : World} {D : Nat} {neg : Bool} {s : ByteArray} (h : PenC w0 D neg s W) : Below w0.heap.size w0 W := h.2.1
theorem EnPost.yes {f : Nat} {args : Array Value} {w : World} {n : Int} {l : List UInt8} {over : Bool} (h : Calls Tryd.prog f args w (EnPost w true n l over)) :
    Calls Tryd.prog f args w fun e w' => ∃ g, e = .returned (.tuple #[.slice (some ⟨g, 0, none⟩) n.toNat n.toNat, .bool over]) ∧ Blk w' w.heap.size g l ∧ Below w.heap.size w w' :=
  h.mono fun e w' h => by
    rcases h with ⟨_, h⟩ | ⟨h, _⟩
    · exact h
    · cases h
theorem EnPost.no {f : Nat} {args : Array Value} {w : World} {n : Int} {l : List UInt8} {over : Bool} (h : Calls Tryd.prog f args w (EnPost w false n l over)) :
    Calls Tryd.prog f args w (New w (.tuple #[.slice none 0 0, .bool false])) :=
  h.mono fun e w' h => by
    rcases h with ⟨h, _⟩ | ⟨_, h⟩
    · cases h
    · exact h
theorem penc_any (neg : Bool) (s : ByteArray) (n : Int) (bs : List UInt8) (w : World) (hs : s.data.toList = bs) :
    Calls Tryd.prog 72 #[.agg #[.bool neg, .string s], .int .i64 n] w (EnPost w (enB bs n) n (encL neg bs n.toNat) (decide (2 * n.toNat - 1 < bs.length))) := by
  have hce := fun W => encode_any neg s n (fun m => 2 * m - 1) 0 1 1 0 bs W hs (by omega) (by omega) (by omega) (by omega) (by intro j; omega) (by intro m i hm; omega)
  have hc := cell2_new w (.bool neg) (.string s) 78
  have hb0 := below_new w (.cells #[.bool neg, .string s] 78)
  have h00 : PenC w w.heap.size neg s (w.alloc (.cells #[.bool neg, .string s] 78)).drew := ⟨⟨keepC hc.1 (Below.refl _ _).drew, keepC hc.2 (Below.refl _ _).drew⟩, hb0.drew, .inl rfl⟩
  have H00 := Lib.hid h00
  clear hc hb0 h00
  cases ho : enB bs n
  · rw [ho] at hce
    have HC := Lib.hid (fun W => EnPost.no (hce W))
    clear hce
    go_enter Tryd.func72, Tryd.ntmps72
    go_wp2
    go_region_held3 (fun W => (W.cell? ⟨w.heap.size, 0, none⟩ = some (.bool neg) ∧ W.cell? ⟨w.heap.size, 1, none⟩ = some (.string s)) ∧ CvS w none [] W)
      (first | exact H00.out | exact PenC.next (w0 := w) (D := w.heap.size) (by assumption) (by assumption))
      (first
        | (go_at_call 83; refine (packedLayout_any _).mono ?_; rintro e w2 ⟨rfl, hbel⟩)
        | (go_at_call 90; refine (HC.out _).mono ?_; rintro e w3 ⟨rfl, hbel3⟩))
    have hfin := PenC.below (D := w.heap.size) (w0 := w) (neg := neg) (s := s) (by assumption)
    go_wp2
    go_ret2
    exact .inr ⟨rfl, rfl, hfin⟩
  · rw [ho] at hce
    have HC := Lib.hid (fun W => EnPost.yes (hce W))
    clear hce
    go_enter Tryd.func72, Tryd.ntmps72
    go_wp2
    go_region_held3 (fun W => (W.cell? ⟨w.heap.size, 0, none⟩ = some (.bool neg) ∧ W.cell? ⟨w.heap.size, 1, none⟩ = some (.string s)) ∧ CvS w none [] W)
      (first | exact H00.out | exact PenC.next (w0 := w) (D := w.heap.size) (by assumption) (by assumption))
      (first
        | (go_at_call 83; refine (packedLayout_any _).mono ?_; rintro e w2 ⟨rfl, hbel⟩)
        | (go_at_call 90; refine (HC.out _).mono ?_; rintro e w3 ⟨g, rfl, hbk, hbel3⟩))
    have hz2 := hbel.size
    simp at hz2
    have hfin := PenC.below (D := w.heap.size) (w0 := w) (neg := neg) (s := s) (by assumption)
    go_wp2
    go_ret2
    exact .inl ⟨rfl, g, rfl, hbk.base' (by omega), hfin⟩
end E
end Go.Proofs.YtlpekknhaaddcaaDoor

/- The contracts of convert, Pack, Unpack and Offset. -/
import Derived.Test.YtgnaiolbleadbaaDoorPkBuild
import Derived.Deep.RegionHeld3
namespace Go.Proofs.YtgnaiolbleadbaaDoor
open Go.RowKit Go.Shelf
set_option linter.unusedVariables false
namespace E

theorem grown_below {w w' : World} (h : w.grownBy w' none) : Below w.heap.size w w' := (Below.refl _ _).grown h (Nat.le_refl _) (fun j ej => by cases ej)
/-- What is held of each world of the last statement. -/
def CvS (w0 : World) (p : Option Addr) (bs : List UInt8) (W : World) : Prop := Below w0.heap.size w0 W ∧ Rd W p bs
theorem CvS.next {w0 : World} {p : Option Addr} {bs : List UInt8} {W W' : World} (h : CvS w0 p bs W) (hb : Below W.heap.size W W') : CvS w0 p bs W' := ⟨h.1.trans (hb.mono h.1.size), h.2.below hb⟩
/-- The cells of the two layouts, and what is held. -/
abbrev CvC (w0 : World) (D : Nat) (p : Option Addr) (bs : List UInt8) (a1 a2 a3 b1 b2 b3 : Nat) (a4 b4 : UInt8) (W : World) : Prop :=
  (W.cell? ⟨D, 0, none⟩ = some (.int .i64 (a1 : Int)) ∧ W.cell? ⟨D, 1, none⟩ = some (.int .i64 (a2 : Int)) ∧ W.cell? ⟨D, 2, none⟩ = some (.int .i64 (a3 : Int)) ∧ W.cell? ⟨D, 3, none⟩ = some (.int .u8 (a4.toNat : Int))) ∧
  (W.cell? ⟨D + 1, 0, none⟩ = some (.int .i64 (b1 : Int)) ∧ W.cell? ⟨D + 1, 1, none⟩ = some (.int .i64 (b2 : Int)) ∧ W.cell? ⟨D + 1, 2, none⟩ = some (.int .i64 (b3 : Int)) ∧ W.cell? ⟨D + 1, 3, none⟩ = some (.int .u8 (b4.toNat : Int))) ∧ CvS w0 p bs W
theorem keepC {W W' : World} {D j : Nat} {v : Value} (h : W.cell? ⟨D, j, none⟩ = some v) (hb : Below W.heap.size W W') : W'.cell? ⟨D, j, none⟩ = some v := (hb.cell (p := ⟨D, j, none⟩) (World.block_lt_of_cell? W _ h)).trans h
theorem CvC.next {w0 W W' : World} {D : Nat} {p : Option Addr} {bs : List UInt8} {a1 a2 a3 b1 b2 b3 : Nat} {a4 b4 : UInt8} (h : CvC w0 D p bs a1 a2 a3 b1 b2 b3 a4 b4 W) (hb : Below W.heap.size W W') : CvC w0 D p bs a1 a2 a3 b1 b2 b3 a4 b4 W' :=
  ⟨⟨keepC h.1.1 hb, keepC h.1.2.1 hb, keepC h.1.2.2.1 hb, keepC h.1.2.2.2 hb⟩, ⟨keepC h.2.1.1 hb, keepC h.2.1.2.1 hb, keepC h.2.1.2.2.1 hb, keepC h.2.1.2.2.2 hb⟩, h.2.2.next hb⟩
theorem CvC.rd {w0 W : World} {D : Nat} {p : Option Addr} {bs : List UInt8} {a1 a2 a3 b1 b2 b3 : Nat} {a4 b4 : UInt8} (h : CvC w0 D p bs a1 a2 a3 b1 b2 b3 a4 b4 W) : Rd W p bs := h.2.2.2
theorem CvC.below {w0 W : World} {D : Nat} {p : Option Addr} {bs : List UInt8} {a1 a2 a3 b1 b2 b3 : Nat} {a4 b4 : UInt8} (h : CvC w0 D p bs a1 a2 a3 b1 b2 b3 a4 b4 W) : Below w0.heap.size w0 W := h.2.2.1
/-- What digits leaves. -/
def DigPost (w : World) (p : Option Addr) (n c la st : Nat) (e : Ending) (w' : World) : Prop :=
  ∃ B0 B1 B2, e = .returned (.func (.func 55) #[] #[.pointer (some ⟨B1, 0, none⟩), .pointer (some ⟨B0, 0, none⟩), .pointer (some ⟨B2, 0, none⟩)]) ∧
    Boxed w' B0 22 (.slice p n c) ∧ Boxed w' B1 3 (.int .i64 (la : Int)) ∧ Boxed w' B2 3 (.int .i64 (st : Int)) ∧ Below w.heap.size w w'
theorem digits_ex (p : Option Addr) (n c la st : Nat) (w : World) : Calls Tryd.prog 48 #[.slice p n c, .int .i64 (la : Int), .int .i64 (st : Int)] w (DigPost w p n c la st) :=
  (digits_any p n c la st w).mono fun e w' ⟨he, q1, q2, q3, hg⟩ => ⟨_, _, _, he, q1, q2, q3, grown_below hg⟩
theorem build_digits (p : Option Addr) (c n K1 a2 a3 K2 b1 b2 b3 : Nat) (b4 : UInt8) (s : Fin 16) (bs : List UInt8) (W : World) (B0 B1 B2 : Nat) (hl2 : bs.length ≤ 16) (hn : 1 ≤ n) (hn2 : n ≤ 16)
    (ha2 : a2 ≤ 4) (ha3 : 1 ≤ a3) (ha4 : a3 ≤ 2) (hK1 : ∀ i, i < K1 ↔ a2 + a3 * i < 2 * bs.length)
    (hb : b1 < 2 * n) (hb2 : b2 ≤ 4) (hb3 : 1 ≤ b3) (hb4 : b3 ≤ 2) (hne : ∀ j, b1 ≠ b2 + b3 * j) (hK2 : ∀ i, i < K2 ↔ b2 + b3 * i < 2 * n)
    (q1 : Boxed W B0 22 (.slice p bs.length c)) (q2 : Boxed W B1 3 (.int .i64 (a2 : Int))) (q3 : Boxed W B2 3 (.int .i64 (a3 : Int))) (hr : Rd W p bs) :
    Calls Tryd.prog 46 #[.agg #[.int .i64 (b1 : Int), .int .i64 (b2 : Int), .int .i64 (b3 : Int), .int .u8 (b4.toNat : Int)], .int .u8 (s.val : Int), .func (.func 55) #[] #[.pointer (some ⟨B1, 0, none⟩), .pointer (some ⟨B0, 0, none⟩), .pointer (some ⟨B2, 0, none⟩)], .int .i64 (n : Int)] W
      (BuildPost W n K2 b1 b2 b3 b4 s (dg bs a2 a3 K1)) :=
  build_any 55 _ (enters_of Tryd.func55 (by kernel_rfl) rfl) n K2 b1 b2 b3 b4 s (dg bs a2 a3 K1) W K1 hn hn2 hb4 hb3 hb2 hb hne hK2 (fun m hm => digits_stops m hm _ _ _ p c a2 a3 K1 bs W (by omega) ha2 ha4 ha3 hK1 q2 q1 q3 hr)
set_option maxRecDepth 100000 in
theorem convert_yes (p : Option Addr) (c n a1 a2 a3 K1 b1 b2 b3 K2 : Nat) (a4 b4 : UInt8) (bs : List UInt8) (w : World) (hl : 1 ≤ bs.length) (hl2 : bs.length ≤ 16) (hn : 1 ≤ n) (hn2 : n ≤ 16) (hr : Rd w p bs)
    (ha : a1 < 2 * bs.length) (ha2 : a2 ≤ 4) (ha3 : 1 ≤ a3) (ha4 : a3 ≤ 2) (hK1 : ∀ i, i < K1 ↔ a2 + a3 * i < 2 * bs.length)
    (hb : b1 < 2 * n) (hb2 : b2 ≤ 4) (hb3 : 1 ≤ b3) (hb4 : b3 ≤ 2) (hne : ∀ j, b1 ≠ b2 + b3 * j) (hK2 : ∀ i, i < K2 ↔ b2 + b3 * i < 2 * n) :
    Calls Tryd.prog 41 #[.slice p bs.length c, layV a1 a2 a3 a4, layV b1 b2 b3 b4, .int .i64 (n : Int)] w fun e w' =>
      ∃ g, e = .returned (.slice (some ⟨g, 0, none⟩) n n) ∧ Blk w' w.heap.size g (outL n b1 b2 b3 b4 (nib bs a1) (dg bs a2 a3 K1)) ∧ Below w.heap.size w w' := by
  have HR := Lib.hid hr
  clear hr
  have hs1 := fun W => isSize_any (bs.length : Int) W
  have hs2 := fun W => isSize_any (n : Int) W
  rw [decide_eq_true (by omega)] at hs1 hs2
  have S1 := Lib.hid hs1
  have S2 := Lib.hid hs2
  clear hs1 hs2
  unfold layV
  go_enter Tryd.func41, Tryd.ntmps41
  go_wp2_with fail
  refine (S1.out _).mono ?_
  rintro e w' ⟨rfl, rfl⟩
  go_wp2_with fail
  refine (S2.out _).mono ?_
  rintro e w' ⟨rfl, rfl⟩
  go_wp2_with fail
  have h0 : (fun W : World => (W.cell? ⟨w.heap.size, 0, none⟩ = some (.int .i64 (a1 : Int)) ∧ W.cell? ⟨w.heap.size, 1, none⟩ = some (.int .i64 (a2 : Int)) ∧ W.cell? ⟨w.heap.size, 2, none⟩ = some (.int .i64 (a3 : Int)) ∧ W.cell? ⟨w.heap.size, 3, none⟩ = some (.int .u8 (a4.toNat : Int))) ∧
    (W.cell? ⟨w.heap.size + 1, 0, none⟩ = some (.int .i64 (b1 : Int)) ∧ W.cell? ⟨w.heap.size + 1, 1, none⟩ = some (.int .i64 (b2 : Int)) ∧ W.cell? ⟨w.heap.size + 1, 2, none⟩ = some (.int .i64 (b3 : Int)) ∧ W.cell? ⟨w.heap.size + 1, 3, none⟩ = some (.int .u8 (b4.toNat : Int))) ∧ CvS w p bs W)
      ((w.alloc (.cells #[.int .i64 (a1 : Int), .int .i64 (a2 : Int), .int .i64 (a3 : Int), .int .u8 (a4.toNat : Int)] 58)).alloc (.cells #[.int .i64 (b1 : Int), .int .i64 (b2 : Int), .int .i64 (b3 : Int), .int .u8 (b4.toNat : Int)] 58)).drew := by
    refine ⟨((layB_new w a1 a2 a3 a4).alloc _).cells, ?_, (((Below.refl _ w).alloc (Nat.le_refl _) _).alloc (by simp) _).drew, HR.out.below (((Below.refl _ w).alloc (Nat.le_refl _) _).alloc (by simp) _).drew⟩
    have := (layB_new (w.alloc (.cells #[.int .i64 (a1 : Int), .int .i64 (a2 : Int), .int .i64 (a3 : Int), .int .u8 (a4.toNat : Int)] 58)) b1 b2 b3 b4).cells
    rw [World.size_alloc] at this
    exact this
  have H0 := Lib.hid h0
  clear h0
  have HBD := Lib.hid (fun W B0 B1 B2 q1 q2 q3 hr => build_digits p c n K1 a2 a3 K2 b1 b2 b3 b4 (nib bs a1) bs W B0 B1 B2 hl2 hn hn2 ha2 ha3 ha4 hK1 hb hb2 hb3 hb4 hne hK2 q1 q2 q3 hr)
  have HDA := Lib.hid (fun W hr => digitAt_any p c a1 bs W (by omega) ha hr)
  clear hK1 hK2 hne
  go_region_held3 (fun W => (W.cell? ⟨w.heap.size, 0, none⟩ = some (.int .i64 (a1 : Int)) ∧ W.cell? ⟨w.heap.size, 1, none⟩ = some (.int .i64 (a2 : Int)) ∧ W.cell? ⟨w.heap.size, 2, none⟩ = some (.int .i64 (a3 : Int)) ∧ W.cell? ⟨w.heap.size, 3, none⟩ = some (.int .u8 (a4.toNat : Int))) ∧
    (W.cell? ⟨w.heap.size + 1, 0, none⟩ = some (.int .i64 (b1 : Int)) ∧ W.cell? ⟨w.heap.size + 1, 1, none⟩ = some (.int .i64 (b2 : Int)) ∧ W.cell? ⟨w.heap.size + 1, 2, none⟩ = some (.int .i64 (b3 : Int)) ∧ W.cell? ⟨w.heap.size + 1, 3, none⟩ = some (.int .u8 (b4.toNat : Int))) ∧ CvS w p bs W)
    (first | exact H0.out | exact CvC.next (w0 := w) (D := w.heap.size) (p := p) (bs := bs) (by assumption) (by assumption))
    (first
      | (go_at_call 47; refine (HDA.out _ (CvC.rd (w0 := w) (D := w.heap.size) (by assumption))).mono ?_; rintro e w' ⟨rfl, rfl⟩)
      | (go_at_call 48; refine (digits_ex p bs.length c a2 a3 _).mono ?_; rintro e w' ⟨B0, B1, B2, rfl, q1, q2, q3, hbel⟩)
      | (go_at_call 46; refine (HBD.out _ _ _ _ q1 q2 q3 (CvC.rd (w0 := w) (D := w.heap.size) (by assumption))).mono ?_; rintro e w2 ⟨g, rfl, hbk, hb2⟩))
  go_wp2
  go_ret
  have hz := hbel.size
  simp at hz
  exact ⟨g, rfl, hbk.base' (by omega), CvC.below (D := w.heap.size) (by assumption)⟩
theorem convert_no1 (p : Option Addr) (c m a1 a2 a3 b1 b2 b3 : Nat) (n : Int) (a4 b4 : UInt8) (w : World) (hl : ¬ (1 ≤ m ∧ m ≤ 16)) :
    Calls Tryd.prog 41 #[.slice p m c, layV a1 a2 a3 a4, layV b1 b2 b3 b4, .int .i64 n] w (New w (.slice none 0 0)) := by
  have hs1 := fun W => isSize_any (m : Int) W
  rw [decide_eq_false (by omega)] at hs1
  have S1 := Lib.hid hs1
  clear hs1
  unfold layV
  go_enter Tryd.func41, Tryd.ntmps41
  go_wp2_with fail
  refine (S1.out _).mono ?_
  rintro e w' ⟨rfl, rfl⟩
  go_wp2
  go_ret
  exact ⟨rfl, ((Below.refl _ w).alloc (Nat.le_refl _) _).alloc (by simp) _⟩
theorem convert_no2 (p : Option Addr) (c m a1 a2 a3 b1 b2 b3 : Nat) (n : Int) (a4 b4 : UInt8) (w : World) (hl : 1 ≤ m ∧ m ≤ 16) (hn : ¬ (1 ≤ n ∧ n ≤ 16)) :
    Calls Tryd.prog 41 #[.slice p m c, layV a1 a2 a3 a4, layV b1 b2 b3 b4, .int .i64 n] w (New w (.slice none 0 0)) := by
  have hs1 := fun W => isSize_any (m : Int) W
  have hs2 := fun W => isSize_any n W
  rw [decide_eq_true (by omega)] at hs1
  rw [decide_eq_false (by omega)] at hs2
  have S1 := Lib.hid hs1
  have S2 := Lib.hid hs2
  clear hs1 hs2
  unfold layV
  go_enter Tryd.func41, Tryd.ntmps41
  go_wp2_with fail
  refine (S1.out _).mono ?_
  rintro e w' ⟨rfl, rfl⟩
  go_wp2_with fail
  refine (S2.out _).mono ?_
  rintro e w' ⟨rfl, rfl⟩
  go_wp2
  go_ret
  exact ⟨rfl, ((Below.refl _ w).alloc (Nat.le_refl _) _).alloc (by simp) _⟩
/-- Are the sizes of both fields valid? -/
def szB (m : Nat) (n : Int) : Bool := decide (1 ≤ m ∧ m ≤ 16) && decide (1 ≤ n ∧ n ≤ 16)
/-- What a move leaves: a new field; nil, where a size is invalid. -/
def MvPost (w : World) (ok : Bool) (n : Int) (l : List UInt8) (e : Ending) (w' : World) : Prop :=
  (ok = true ∧ ∃ g, e = .returned (.slice (some ⟨g, 0, none⟩) n.toNat n.toNat) ∧ Blk w' w.heap.size g l ∧ Below w.heap.size w w') ∨ (ok = false ∧ New w (.slice none 0 0) e w')
theorem convert_any (p : Option Addr) (c a1 a2 a3 K1 b1 b2 b3 : Nat) (K2 : Nat → Nat) (n : Int) (a4 b4 : UInt8) (bs : List UInt8) (w : World) (hr : Rd w p bs)
    (ha : 1 ≤ bs.length → a1 < 2 * bs.length) (ha2 : a2 ≤ 4) (ha3 : 1 ≤ a3) (ha4 : a3 ≤ 2) (hK1 : ∀ i, i < K1 ↔ a2 + a3 * i < 2 * bs.length)
    (hb : b1 ≤ 1) (hb2 : b2 ≤ 4) (hb3 : 1 ≤ b3) (hb4 : b3 ≤ 2) (hne : ∀ j, b1 ≠ b2 + b3 * j) (hK2 : ∀ m i, 1 ≤ m → (i < K2 m ↔ b2 + b3 * i < 2 * m)) :
    Calls Tryd.prog 41 #[.slice p bs.length c, layV a1 a2 a3 a4, layV b1 b2 b3 b4, .int .i64 n] w (MvPost w (szB bs.length n) n (outL n.toNat b1 b2 b3 b4 (nib bs a1) (dg bs a2 a3 K1))) := by
  by_cases h1 : 1 ≤ bs.length ∧ bs.length ≤ 16
  · by_cases h2 : 1 ≤ n ∧ n ≤ 16
    · obtain ⟨m, rfl⟩ := Int.eq_ofNat_of_zero_le (show 0 ≤ n by omega)
      refine (convert_yes p c m a1 a2 a3 K1 b1 b2 b3 (K2 m) a4 b4 bs w h1.1 h1.2 (by omega) (by omega) hr (ha h1.1) ha2 ha3 ha4 hK1 (by omega) hb2 hb3 hb4 hne (fun i => hK2 m i (by omega))).mono ?_
      intro e w' h
      exact .inl ⟨by unfold szB; rw [decide_eq_true h1, decide_eq_true h2]; rfl, h⟩
    · refine (convert_no2 p c bs.length a1 a2 a3 b1 b2 b3 n a4 b4 w h1 h2).mono fun e w' h => .inr ⟨by unfold szB; rw [decide_eq_false h2]; simp, h⟩
  · refine (convert_no1 p c bs.length a1 a2 a3 b1 b2 b3 n a4 b4 w h1).mono fun e w' h => .inr ⟨by unfold szB; rw [decide_eq_false h1]; rfl, h⟩
theorem MvPost.from {w0 w w' : World} {ok : Bool} {n : Int} {l : List UInt8} {e : Ending} (h : MvPost w ok n l e w') (hb : Below w0.heap.size w0 w) : MvPost w0 ok n l e w' := by
  rcases h with ⟨h1, g, h2, h3, h4⟩ | ⟨h1, h2, h3⟩
  · exact .inl ⟨h1, g, h2, h3.base' hb.size, hb.trans (h4.mono hb.size)⟩
  · exact .inr ⟨h1, h2, hb.trans (h3.mono hb.size)⟩
/-- What Pack returns. -/
def packL (bs : List UInt8) (n : Nat) : List UInt8 := outL n 0 1 1 0 (nib bs 1) (dg bs 0 2 bs.length)
/-- What Unpack returns. -/
def unpackL (bs : List UInt8) (n : Nat) : List UInt8 := outL n 1 0 2 240 (nib bs 0) (dg bs 1 1 (2 * bs.length - 1))
/-- What Offset returns. -/
def offL (ds bs : List UInt8) : List UInt8 := outL ds.length 0 1 1 0 (nib ds 0) (dg bs 0 1 (2 * bs.length))
theorem packL_len (bs : List UInt8) (n : Nat) : (packL bs n).length = n := outL_len _ _ _ _ _ _ _
theorem unpackL_len (bs : List UInt8) (n : Nat) : (unpackL bs n).length = n := outL_len _ _ _ _ _ _ _
theorem offL_len (ds bs : List UInt8) : (offL ds bs).length = ds.length := outL_len _ _ _ _ _ _ _
theorem pack_any (p : Option Addr) (c : Nat) (n : Int) (bs : List UInt8) (w : World) (hr : Rd w p bs) :
    Calls Tryd.prog 18 #[.slice p bs.length c, .int .i64 n] w (MvPost w (szB bs.length n) n (packL bs n.toNat)) := by
  have HC := Lib.hid (fun W (h : Rd W p bs) => convert_any p c 1 0 2 bs.length 0 1 1 (fun m => 2 * m - 1) n 240 0 bs W h (by omega) (by omega) (by omega) (by omega) (by intro i; omega) (by omega) (by omega) (by omega) (by omega) (by intro j; omega) (by intro m i hm; omega))
  have HR := Lib.hid hr
  clear hr
  go_enter Tryd.func18, Tryd.ntmps18
  go_wp2_with fail
  refine (zonedLayout_any _).mono ?_
  rintro e w1 ⟨rfl, hb1⟩
  have HB1 := Lib.hid hb1
  clear hb1
  go_wp2_with fail
  refine (packedLayout_any _).mono ?_
  rintro e w2 ⟨rfl, hb2⟩
  have HB2 := Lib.hid (HB1.out.trans (hb2.mono HB1.out.size))
  clear hb2 HB1
  go_wp2_with fail
  refine (HC.out _ (HR.out.below HB2.out)).mono ?_
  intro e w3 h
  have h' := h.from HB2.out
  rcases id h with ⟨_, g, rfl, _⟩ | ⟨_, rfl, _⟩
  · go_wp2
    go_ret
    exact h'
  · go_wp2
    go_ret
    exact h'
theorem unpack_any (p : Option Addr) (c : Nat) (n : Int) (bs : List UInt8) (w : World) (hr : Rd w p bs) :
    Calls Tryd.prog 20 #[.slice p bs.length c, .int .i64 n] w (MvPost w (szB bs.length n) n (unpackL bs n.toNat)) := by
  have HC := Lib.hid (fun W (h : Rd W p bs) => convert_any p c 0 1 1 (2 * bs.length - 1) 1 0 2 (fun m => m) n 0 240 bs W h (by omega) (by omega) (by omega) (by omega) (by intro i; omega) (by omega) (by omega) (by omega) (by omega) (by intro j; omega) (by intro m i hm; omega))
  have HR := Lib.hid hr
  clear hr
  go_enter Tryd.func20, Tryd.ntmps20
  go_wp2_with fail
  refine (packedLayout_any _).mono ?_
  rintro e w1 ⟨rfl, hb1⟩
  have HB1 := Lib.hid hb1
  clear hb1
  go_wp2_with fail
  refine (zonedLayout_any _).mono ?_
  rintro e w2 ⟨rfl, hb2⟩
  have HB2 := Lib.hid (HB1.out.trans (hb2.mono HB1.out.size))
  clear hb2 HB1
  go_wp2_with fail
  refine (HC.out _ (HR.out.below HB2.out)).mono ?_
  intro e w3 h
  have h' := h.from HB2.out
  rcases id h with ⟨_, g, rfl, _⟩ | ⟨_, rfl, _⟩
  · go_wp2
    go_ret
    exact h'
  · go_wp2
    go_ret
    exact h'

/-- The cells of the layout, and what is held. -/
abbrev OfC (w0 : World) (D : Nat) (p q : Option Addr) (ds bs : List UInt8) (W : World) : Prop :=
  (W.cell? ⟨D, 0, none⟩ = some (.int .i64 0) ∧ W.cell? ⟨D, 1, none⟩ = some (.int .i64 1) ∧ W.cell? ⟨D, 2, none⟩ = some (.int .i64 1) ∧ W.cell? ⟨D, 3, none⟩ = some (.int .u8 0)) ∧ CvS w0 p ds W ∧ CvS w0 q bs W
theorem OfC.next {w0 W W' : World} {D : Nat} {p q : Option Addr} {ds bs : List UInt8} (h : OfC w0 D p q ds bs W) (hb : Below W.heap.size W W') : OfC w0 D p q ds bs W' :=
  ⟨⟨keepC h.1.1 hb, keepC h.1.2.1 hb, keepC h.1.2.2.1 hb, keepC h.1.2.2.2 hb⟩, h.2.1.next hb, h.2.2.next hb⟩
theorem OfC.rd1 {w0 W : World} {D : Nat} {p q : Option Addr} {ds bs : List UInt8} (h : OfC w0 D p q ds bs W) : Rd W p ds := h.2.1.2
theorem OfC.rd2 {w0 W : World} {D : Nat} {p q : Option Addr} {ds bs : List UInt8} (h : OfC w0 D p q ds bs W) : Rd W q bs := h.2.2.2
theorem OfC.below {w0 W : World} {D : Nat} {p q : Option Addr} {ds bs : List UInt8} (h : OfC w0 D p q ds bs W) : Below w0.heap.size w0 W := h.2.1.1
set_option maxRecDepth 100000 in
theorem offset_yes (p q : Option Addr) (c d : Nat) (ds bs : List UInt8) (w : World) (hl : 1 ≤ ds.length) (hl2 : ds.length ≤ 16) (hn : 1 ≤ bs.length) (hn2 : bs.length ≤ 16) (hr : Rd w p ds) (hq : Rd w q bs) :
    Calls Tryd.prog 22 #[.slice p ds.length c, .slice q bs.length d] w fun e w' =>
      ∃ g, e = .returned (.slice (some ⟨g, 0, none⟩) ds.length ds.length) ∧ Blk w' w.heap.size g (offL ds bs) ∧ Below w.heap.size w w' := by
  have HR := Lib.hid hr
  have HQ := Lib.hid hq
  clear hr hq
  have hs1 := fun W => isSize_any (ds.length : Int) W
  have hs2 := fun W => isSize_any (bs.length : Int) W
  rw [decide_eq_true (by omega)] at hs1 hs2
  have S1 := Lib.hid hs1
  have S2 := Lib.hid hs2
  clear hs1 hs2
  have hbd : ∀ (W : World) (B0 B1 B2 : Nat), Boxed W B0 22 (.slice q bs.length d) → Boxed W B1 3 (.int .i64 0) → Boxed W B2 3 (.int .i64 1) → Rd W q bs →
      Calls Tryd.prog 46 #[.agg #[.int .i64 0, .int .i64 1, .int .i64 1, .int .u8 0], .int .u8 ((nib ds 0).val : Int), .func (.func 55) #[] #[.pointer (some ⟨B1, 0, none⟩), .pointer (some ⟨B0, 0, none⟩), .pointer (some ⟨B2, 0, none⟩)], .int .i64 (ds.length : Int)] W
        (BuildPost W ds.length (2 * ds.length - 1) 0 1 1 0 (nib ds 0) (dg bs 0 1 (2 * bs.length))) :=
    fun W B0 B1 B2 q1 q2 q3 hr => build_digits q d ds.length (2 * bs.length) 0 1 (2 * ds.length - 1) 0 1 1 0 (nib ds 0) bs W B0 B1 B2 hn2 hl hl2 (by omega) (by omega) (by omega) (by intro i; omega) (by omega) (by omega) (by omega) (by omega) (by intro j; omega) (by intro i; omega) q1 q2 q3 hr
  have hda : ∀ W, Rd W p ds → Calls Tryd.prog 47 #[.slice p ds.length c, .int .i64 0] W fun e w' => e = .returned (.int .u8 ((nib ds 0).val : Int)) ∧ W = w' := fun W hr => digitAt_any p c 0 ds W (by omega) (by omega) hr
  have hdg : ∀ W, Calls Tryd.prog 48 #[.slice q bs.length d, .int .i64 0, .int .i64 1] W (DigPost W q bs.length d 0 1) := fun W => digits_ex q bs.length d 0 1 W
  have HBD := Lib.hid hbd
  have HDA := Lib.hid hda
  have HDG := Lib.hid hdg
  clear hbd hda hdg
  go_enter Tryd.func22, Tryd.ntmps22
  go_wp2_with fail
  refine (S1.out _).mono ?_
  rintro e w' ⟨rfl, rfl⟩
  go_wp2_with fail
  refine (S2.out _).mono ?_
  rintro e w' ⟨rfl, rfl⟩
  go_wp2_with fail
  refine (packedLayout_any _).mono ?_
  rintro e w1 ⟨rfl, hb1⟩
  unfold layV
  have HB1 := Lib.hid hb1
  clear hb1
  go_wp2_with fail
  have h0 : (fun W : World => (W.cell? ⟨w1.heap.size, 0, none⟩ = some (.int .i64 0) ∧ W.cell? ⟨w1.heap.size, 1, none⟩ = some (.int .i64 1) ∧ W.cell? ⟨w1.heap.size, 2, none⟩ = some (.int .i64 1) ∧ W.cell? ⟨w1.heap.size, 3, none⟩ = some (.int .u8 0)) ∧ CvS w p ds W ∧ CvS w q bs W)
      (w1.alloc (.cells #[.int .i64 0, .int .i64 1, .int .i64 1, .int .u8 0] 58)).drew := by
    have hb2 := HB1.out.trans (((below_new w1 (.cells #[.int .i64 0, .int .i64 1, .int .i64 1, .int .u8 0] 58)).drew).mono HB1.out.size)
    exact ⟨(layB_new w1 0 1 1 0).cells, ⟨hb2, HR.out.below hb2⟩, ⟨hb2, HQ.out.below hb2⟩⟩
  have H0 := Lib.hid h0
  clear h0
  go_region_held3 (fun W => (W.cell? ⟨w1.heap.size, 0, none⟩ = some (.int .i64 0) ∧ W.cell? ⟨w1.heap.size, 1, none⟩ = some (.int .i64 1) ∧ W.cell? ⟨w1.heap.size, 2, none⟩ = some (.int .i64 1) ∧ W.cell? ⟨w1.heap.size, 3, none⟩ = some (.int .u8 0)) ∧ CvS w p ds W ∧ CvS w q bs W)
    (first | exact H0.out | exact OfC.next (w0 := w) (D := w1.heap.size) (by assumption) (by assumption))
    (first
      | (go_at_call 47; refine (HDA.out _ (OfC.rd1 (w0 := w) (D := w1.heap.size) (q := q) (bs := bs) (by assumption))).mono ?_; rintro e w' ⟨rfl, rfl⟩)
      | (go_at_call 48; refine (HDG.out _).mono ?_; rintro e w' ⟨B0, B1, B2, rfl, q1, q2, q3, hbel⟩)
      | (go_at_call 46; refine (HBD.out _ _ _ _ q1 q2 q3 (OfC.rd2 (w0 := w) (D := w1.heap.size) (p := p) (ds := ds) (by assumption))).mono ?_; rintro e w2 ⟨g, rfl, hbk, hb2⟩))
  have hz := HB1.out.size
  have hz2 := hbel.size
  simp at hz2
  have hfin := OfC.below (D := w1.heap.size) (w0 := w) (p := p) (q := q) (ds := ds) (bs := bs) (by assumption)
  go_wp2
  go_ret
  exact ⟨g, rfl, hbk.base' (by omega), hfin⟩
theorem offset_no1 (p q : Option Addr) (m k c d : Nat) (w : World) (hl : ¬ (1 ≤ m ∧ m ≤ 16)) :
    Calls Tryd.prog 22 #[.slice p m c, .slice q k d] w (New w (.slice none 0 0)) := by
  have hs1 := fun W => isSize_any (m : Int) W
  rw [decide_eq_false (by omega)] at hs1
  have S1 := Lib.hid hs1
  clear hs1
  go_enter Tryd.func22, Tryd.ntmps22
  go_wp2_with fail
  refine (S1.out _).mono ?_
  rintro e w' ⟨rfl, rfl⟩
  go_wp2
  go_ret
  exact ⟨rfl, Below.refl _ _⟩
theorem offset_no2 (p q : Option Addr) (m k c d : Nat) (w : World) (hl : 1 ≤ m ∧ m ≤ 16) (hk : ¬ (1 ≤ k ∧ k ≤ 16)) :
    Calls Tryd.prog 22 #[.slice p m c, .slice q k d] w (New w (.slice none 0 0)) := by
  have hs1 := fun W => isSize_any (m : Int) W
  have hs2 := fun W => isSize_any (k : Int) W
  rw [decide_eq_true (by omega)] at hs1
  rw [decide_eq_false (by omega)] at hs2
  have S1 := Lib.hid hs1
  have S2 := Lib.hid hs2
  clear hs1 hs2
  go_enter Tryd.func22, Tryd.ntmps22
  go_wp2_with fail
  refine (S1.out _).mono ?_
  rintro e w' ⟨rfl, rfl⟩
  go_wp2_with fail
  refine (S2.out _).mono ?_
  rintro e w' ⟨rfl, rfl⟩
  go_wp2
  go_ret
  exact ⟨rfl, Below.refl _ _⟩
theorem offset_any (p q : Option Addr) (c d : Nat) (ds bs : List UInt8) (w : World) (hr : Rd w p ds) (hq : Rd w q bs) :
    Calls Tryd.prog 22 #[.slice p ds.length c, .slice q bs.length d] w (MvPost w (szB ds.length bs.length) ds.length (offL ds bs)) := by
  by_cases h1 : 1 ≤ ds.length ∧ ds.length ≤ 16
  · by_cases h2 : 1 ≤ bs.length ∧ bs.length ≤ 16
    · exact (offset_yes p q c d ds bs w h1.1 h1.2 h2.1 h2.2 hr hq).mono fun e w' h => .inl ⟨by unfold szB; rw [decide_eq_true h1, decide_eq_true (by omega)]; rfl, h⟩
    · exact (offset_no2 p q ds.length bs.length c d w h1 h2).mono fun e w' h => .inr ⟨by unfold szB; rw [decide_eq_false (p := 1 ≤ (bs.length : Int) ∧ (bs.length : Int) ≤ 16) (by omega)]; simp, h⟩
  · exact (offset_no1 p q ds.length bs.length c d w h1).mono fun e w' h => .inr ⟨by unfold szB; rw [decide_eq_false h1]; rfl, h⟩

end E
end Go.Proofs.YtgnaiolbleadbaaDoor

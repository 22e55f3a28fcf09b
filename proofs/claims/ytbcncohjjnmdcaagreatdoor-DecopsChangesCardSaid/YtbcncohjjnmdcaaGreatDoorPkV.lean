/- The contracts of the makers of closures: writer, digits, figures; of the layouts and of isSize; what the closures of digits and figures yield. -/
import Derived.Test.YtbcncohjjnmdcaaGreatDoorRows
import Derived.Test.YtbcncohjjnmdcaaGreatDoorPkC
namespace Go.Proofs.YtbcncohjjnmdcaaGreatDoor
open Go.RowKit Go.Shelf
set_option linter.unusedVariables false
namespace E
attribute [local go_sem] Oper.semAt_some

theorem zonedLayout_any (w : World) : Calls Tryz.prog 154 #[] w (New w (layV 1 0 2 240)) := by
  go_enter Tryz.func154, Tryz.ntmps154
  go_wp2
  refine bodyPost_ret (results_cell_row rfl _ _ w.heap.size _ _ _ _ rfl (heap_alloc_new w _) Tryz.underlying174 rfl (by kernel_rfl)) rfl ?_
  exact ⟨rfl, below_new _ _⟩
end E
end Go.Proofs.YtbcncohjjnmdcaaGreatDoor
namespace Go.Proofs.YtbcncohjjnmdcaaGreatDoor
open Go.RowKit Go.Shelf
set_option linter.unusedVariables false
namespace E

set_option maxRecDepth 100000 in
theorem convert_yes (p : Option Addr) (c n a1 a2 a3 K1 b1 b2 b3 K2 : Nat) (a4 b4 : UInt8) (bs : List UInt8) (w : World) (hl : 1 ≤ bs.length) (hl2 : bs.length ≤ 16) (hn : 1 ≤ n) (hn2 : n ≤ 16) (hr : Rd w p bs)
    (ha : a1 < 2 * bs.length) (ha2 : a2 ≤ 4) (ha3 : 1 ≤ a3) (ha4 : a3 ≤ 2) (hK1 : ∀ i, i < K1 ↔ a2 + a3 * i < 2 * bs.length)
    (hb : b1 < 2 * n) (hb2 : b2 ≤ 4) (hb3 : 1 ≤ b3) (hb4 : b3 ≤ 2) (hne : ∀ j, b1 ≠ b2 + b3 * j) (hK2 : ∀ i, i < K2 ↔ b2 + b3 * i < 2 * n) :
    Calls Tryz.prog 153 #[.slice p bs.length c, layV a1 a2 a3 a4, layV b1 b2 b3 b4, .int .i64 (n : Int)] w fun e w' =>
      ∃ g, e = .returned (.slice (some ⟨g, 0, none⟩) n n) ∧ Blk w' w.heap.size g (outL n b1 b2 b3 b4 (nib bs a1) (dg bs a2 a3 K1)) ∧ Below w.heap.size w w' := by
  have HR := Lib.hid hr
  clear hr
  have hs1 := fun W => isSize_any (bs.length : Int) W
  have hs2 := fun W => isSize_any (n : Int) W
  rw [decide_eq_true (by omega)] at hs1 hs2
  have S1 := Lib.hid hs1
  have S2 := Lib.hid hs2
  clear hs1 hs2
  unfold layV
  go_enter Tryz.func153, Tryz.ntmps153
  go_wp2_with fail
  refine (S1.out _).mono ?_
  rintro e w' ⟨rfl, rfl⟩
  go_wp2_with fail
  refine (S2.out _).mono ?_
  rintro e w' ⟨rfl, rfl⟩
  go_wp2_with fail
  have h0 : (fun W : World => (W.cell? ⟨w.heap.size, 0, none⟩ = some (.int .i64 (a1 : Int)) ∧ W.cell? ⟨w.heap.size, 1, none⟩ = some (.int .i64 (a2 : Int)) ∧ W.cell? ⟨w.heap.size, 2, none⟩ = some (.int .i64 (a3 : Int)) ∧ W.cell? ⟨w.heap.size, 3, none⟩ = some (.int .u8 (a4.toNat : Int))) ∧
    (W.cell? ⟨w.heap.size + 1, 0, none⟩ = some (.int .i64 (b1 : Int)) ∧ W.cell? ⟨w.heap.size + 1, 1, none⟩ = some (.int .i64 (b2 : Int)) ∧ W.cell? ⟨w.heap.size + 1, 2, none⟩ = some (.int .i64 (b3 : Int)) ∧ W.cell? ⟨w.heap.size + 1, 3, none⟩ = some (.int .u8 (b4.toNat : Int))) ∧ CvS w p bs W)
      ((w.alloc (.cells #[.int .i64 (a1 : Int), .int .i64 (a2 : Int), .int .i64 (a3 : Int), .int .u8 (a4.toNat : Int)] 174)).alloc (.cells #[.int .i64 (b1 : Int), .int .i64 (b2 : Int), .int .i64 (b3 : Int), .int .u8 (b4.toNat : Int)] 174)).drew := by
    refine ⟨((layB_new w a1 a2 a3 a4).alloc _).cells, ?_, (((Below.refl _ w).alloc (Nat.le_refl _) _).alloc (by simp) _).drew, HR.out.below (((Below.refl _ w).alloc (Nat.le_refl _) _).alloc (by simp) _).drew⟩
    have := (layB_new (w.alloc (.cells #[.int .i64 (a1 : Int), .int .i64 (a2 : Int), .int .i64 (a3 : Int), .int .u8 (a4.toNat : Int)] 174)) b1 b2 b3 b4).cells
    rw [World.size_alloc] at this
    exact this
  have H0 := Lib.hid h0
  clear h0
  have HBD := Lib.hid (fun W B0 B1 B2 q1 q2 q3 hr => build_digits p c n K1 a2 a3 K2 b1 b2 b3 b4 (nib bs a1) bs W B0 B1 B2 hl2 hn hn2 ha2 ha3 ha4 hK1 hb hb2 hb3 hb4 hne hK2 q1 q2 q3 hr)
  have HDA := Lib.hid (fun W hr => digitAt_any p c a1 bs W (by omega) ha hr)
  clear hK1 hK2 hne
  go_region_held3 (fun W => (W.cell? ⟨w.heap.size, 0, none⟩ = some (.int .i64 (a1 : Int)) ∧ W.cell? ⟨w.heap.size, 1, none⟩ = some (.int .i64 (a2 : Int)) ∧ W.cell? ⟨w.heap.size, 2, none⟩ = some (.int .i64 (a3 : Int)) ∧ W.cell? ⟨w.heap.size, 3, none⟩ = some (.int .u8 (a4.toNat : Int))) ∧
    (W.cell? ⟨w.heap.size + 1, 0, none⟩ = some (.int .i64 (b1 : Int)) ∧ W.cell? ⟨w.heap.size + 1, 1, none⟩ = some (.int .i64 (b2 : Int)) ∧ W.cell? ⟨w.heap.size + 1, 2, none⟩ = some (.int .i64 (b3 : Int)) ∧ W.cell? ⟨w.heap.size + 1, 3, none⟩ = some (.int .u8 (b4.toNat : Int))) ∧ CvS w p bs W)
    (first | exact H0.out | exact CvC.next (w0 := w) (D := w.heap.size) (p := p) (bs := bs) (by assumption) (by assumption))
    (first
      | (go_at_call 158; refine (HDA.out _ (CvC.rd (w0 := w) (D := w.heap.size) (by assumption))).mono ?_; rintro e w' ⟨rfl, rfl⟩)
      | (go_at_call 159; refine (digits_ex p bs.length c a2 a3 _).mono ?_; rintro e w' ⟨B0, B1, B2, rfl, q1, q2, q3, hbel⟩)
      | (go_at_call 157; refine (HBD.out _ _ _ _ q1 q2 q3 (CvC.rd (w0 := w) (D := w.heap.size) (by assumption))).mono ?_; rintro e w2 ⟨g, rfl, hbk, hb2⟩))
  go_wp2
  go_ret
  have hz := hbel.size
  simp at hz
  exact ⟨g, rfl, hbk.base' (by omega), CvC.below (D := w.heap.size) (by assumption)⟩
theorem convert_no1 (p : Option Addr) (c m a1 a2 a3 b1 b2 b3 : Nat) (n : Int) (a4 b4 : UInt8) (w : World) (hl : ¬ (1 ≤ m ∧ m ≤ 16)) :
    Calls Tryz.prog 153 #[.slice p m c, layV a1 a2 a3 a4, layV b1 b2 b3 b4, .int .i64 n] w (New w (.slice none 0 0)) := by
  have hs1 := fun W => isSize_any (m : Int) W
  rw [decide_eq_false (by omega)] at hs1
  have S1 := Lib.hid hs1
  clear hs1
  unfold layV
  go_enter Tryz.func153, Tryz.ntmps153
  go_wp2_with fail
  refine (S1.out _).mono ?_
  rintro e w' ⟨rfl, rfl⟩
  go_wp2
  go_ret
  exact ⟨rfl, ((Below.refl _ w).alloc (Nat.le_refl _) _).alloc (by simp) _⟩
theorem convert_no2 (p : Option Addr) (c m a1 a2 a3 b1 b2 b3 : Nat) (n : Int) (a4 b4 : UInt8) (w : World) (hl : 1 ≤ m ∧ m ≤ 16) (hn : ¬ (1 ≤ n ∧ n ≤ 16)) :
    Calls Tryz.prog 153 #[.slice p m c, layV a1 a2 a3 a4, layV b1 b2 b3 b4, .int .i64 n] w (New w (.slice none 0 0)) := by
  have hs1 := fun W => isSize_any (m : Int) W
  have hs2 := fun W => isSize_any n W
  rw [decide_eq_true (by omega)] at hs1
  rw [decide_eq_false (by omega)] at hs2
  have S1 := Lib.hid hs1
  have S2 := Lib.hid hs2
  clear hs1 hs2
  unfold layV
  go_enter Tryz.func153, Tryz.ntmps153
  go_wp2_with fail
  refine (S1.out _).mono ?_
  rintro e w' ⟨rfl, rfl⟩
  go_wp2_with fail
  refine (S2.out _).mono ?_
  rintro e w' ⟨rfl, rfl⟩
  go_wp2
  go_ret
  exact ⟨rfl, ((Below.refl _ w).alloc (Nat.le_refl _) _).alloc (by simp) _⟩
theorem convert_any (p : Option Addr) (c a1 a2 a3 K1 b1 b2 b3 : Nat) (K2 : Nat → Nat) (n : Int) (a4 b4 : UInt8) (bs : List UInt8) (w : World) (hr : Rd w p bs)
    (ha : 1 ≤ bs.length → a1 < 2 * bs.length) (ha2 : a2 ≤ 4) (ha3 : 1 ≤ a3) (ha4 : a3 ≤ 2) (hK1 : ∀ i, i < K1 ↔ a2 + a3 * i < 2 * bs.length)
    (hb : b1 ≤ 1) (hb2 : b2 ≤ 4) (hb3 : 1 ≤ b3) (hb4 : b3 ≤ 2) (hne : ∀ j, b1 ≠ b2 + b3 * j) (hK2 : ∀ m i, 1 ≤ m → (i < K2 m ↔ b2 + b3 * i < 2 * m)) :
    Calls Tryz.prog 153 #[.slice p bs.length c, layV a1 a2 a3 a4, layV b1 b2 b3 b4, .int .i64 n] w (MvPost w (szB bs.length n) n (outL n.toNat b1 b2 b3 b4 (nib bs a1) (dg bs a2 a3 K1))) := by
  by_cases h1 : 1 ≤ bs.length ∧ bs.length ≤ 16
  · by_cases h2 : 1 ≤ n ∧ n ≤ 16
    · obtain ⟨m, rfl⟩ := Int.eq_ofNat_of_zero_le (show 0 ≤ n by omega)
      refine (convert_yes p c m a1 a2 a3 K1 b1 b2 b3 (K2 m) a4 b4 bs w h1.1 h1.2 (by omega) (by omega) hr (ha h1.1) ha2 ha3 ha4 hK1 (by omega) hb2 hb3 hb4 hne (fun i => hK2 m i (by omega))).mono ?_
      intro e w' h
      exact .inl ⟨by unfold szB; rw [decide_eq_true h1, decide_eq_true h2]; rfl, h⟩
    · refine (convert_no2 p c bs.length a1 a2 a3 b1 b2 b3 n a4 b4 w h1 h2).mono fun e w' h => .inr ⟨by unfold szB; rw [decide_eq_false h2]; simp, h⟩
  · refine (convert_no1 p c bs.length a1 a2 a3 b1 b2 b3 n a4 b4 w h1).mono fun e w' h => .inr ⟨by unfold szB; rw [decide_eq_false h1]; rfl, h⟩
theorem pack_any (p : Option Addr) (c : Nat) (n : Int) (bs : List UInt8) (w : World) (hr : Rd w p bs) :
    Calls Tryz.prog 101 #[.slice p bs.length c, .int .i64 n] w (MvPost w (szB bs.length n) n (packL bs n.toNat)) := by
  have HC := Lib.hid (fun W (h : Rd W p bs) => convert_any p c 1 0 2 bs.length 0 1 1 (fun m => 2 * m - 1) n 240 0 bs W h (by omega) (by omega) (by omega) (by omega) (by intro i; omega) (by omega) (by omega) (by omega) (by omega) (by intro j; omega) (by intro m i hm; omega))
  have HR := Lib.hid hr
  clear hr
  go_enter Tryz.func101, Tryz.ntmps101
  go_wp2_with fail
  refine (zonedLayout_any _).mono ?_
  rintro e w1 ⟨rfl, hb1⟩
  have HB1 := Lib.hid hb1
  clear hb1
  go_wp2_with fail
  refine (packedLayout_any _).mono ?_
  rintro e w2 ⟨rfl, hb2⟩
  have HB2 := Lib.hid (HB1.out.trans (hb2.mono HB1.out.size))
  clear hb2 HB1
  go_wp2_with fail
  refine (HC.out _ (HR.out.below HB2.out)).mono ?_
  intro e w3 h
  have h' := h.from HB2.out
  rcases id h with ⟨_, g, rfl, _⟩ | ⟨_, rfl, _⟩
  · go_wp2
    go_ret
    exact h'
  · go_wp2
    go_ret
    exact h'
theorem unpack_any (p : Option Addr) (c : Nat) (n : Int) (bs : List UInt8) (w : World) (hr : Rd w p bs) :
    Calls Tryz.prog 103 #[.slice p bs.length c, .int .i64 n] w (MvPost w (szB bs.length n) n (unpackL bs n.toNat)) := by
  have HC := Lib.hid (fun W (h : Rd W p bs) => convert_any p c 0 1 1 (2 * bs.length - 1) 1 0 2 (fun m => m) n 0 240 bs W h (by omega) (by omega) (by omega) (by omega) (by intro i; omega) (by omega) (by omega) (by omega) (by omega) (by intro j; omega) (by intro m i hm; omega))
  have HR := Lib.hid hr
  clear hr
  go_enter Tryz.func103, Tryz.ntmps103
  go_wp2_with fail
  refine (packedLayout_any _).mono ?_
  rintro e w1 ⟨rfl, hb1⟩
  have HB1 := Lib.hid hb1
  clear hb1
  go_wp2_with fail
  refine (zonedLayout_any _).mono ?_
  rintro e w2 ⟨rfl, hb2⟩
  have HB2 := Lib.hid (HB1.out.trans (hb2.mono HB1.out.size))
  clear hb2 HB1
  go_wp2_with fail
  refine (HC.out _ (HR.out.below HB2.out)).mono ?_
  intro e w3 h
  have h' := h.from HB2.out
  rcases id h with ⟨_, g, rfl, _⟩ | ⟨_, rfl, _⟩
  · go_wp2
    go_ret
    exact h'
  · go_wp2
    go_ret
    exact h'

set_option maxRecDepth 100000 in
theorem offset_yes (p q : Option Addr) (c d : Nat) (ds bs : List UInt8) (w : World) (hl : 1 ≤ ds.length) (hl2 : ds.length ≤ 16) (hn : 1 ≤ bs.length) (hn2 : bs.length ≤ 16) (hr : Rd w p ds) (hq : Rd w q bs) :
    Calls Tryz.prog 104 #[.slice p ds.length c, .slice q bs.length d] w fun e w' =>
      ∃ g, e = .returned (.slice (some ⟨g, 0, none⟩) ds.length ds.length) ∧ Blk w' w.heap.size g (offL ds bs) ∧ Below w.heap.size w w' := by
  have HR := Lib.hid hr
  have HQ := Lib.hid hq
  clear hr hq
  have hs1 := fun W => isSize_any (ds.length : Int) W
  have hs2 := fun W => isSize_any (bs.length : Int) W
  rw [decide_eq_true (by omega)] at hs1 hs2
  have S1 := Lib.hid hs1
  have S2 := Lib.hid hs2
  clear hs1 hs2
  have hbd : ∀ (W : World) (B0 B1 B2 : Nat), Boxed W B0 31 (.slice q bs.length d) → Boxed W B1 3 (.int .i64 0) → Boxed W B2 3 (.int .i64 1) → Rd W q bs →
      Calls Tryz.prog 157 #[.agg #[.int .i64 0, .int .i64 1, .int .i64 1, .int .u8 0], .int .u8 ((nib ds 0).val : Int), .func (.func 191) #[] #[.pointer (some ⟨B1, 0, none⟩), .pointer (some ⟨B0, 0, none⟩), .pointer (some ⟨B2, 0, none⟩)], .int .i64 (ds.length : Int)] W
        (BuildPost W ds.length (2 * ds.length - 1) 0 1 1 0 (nib ds 0) (dg bs 0 1 (2 * bs.length))) :=
    fun W B0 B1 B2 q1 q2 q3 hr => build_digits q d ds.length (2 * bs.length) 0 1 (2 * ds.length - 1) 0 1 1 0 (nib ds 0) bs W B0 B1 B2 hn2 hl hl2 (by omega) (by omega) (by omega) (by intro i; omega) (by omega) (by omega) (by omega) (by omega) (by intro j; omega) (by intro i; omega) q1 q2 q3 hr
  have hda : ∀ W, Rd W p ds → Calls Tryz.prog 158 #[.slice p ds.length c, .int .i64 0] W fun e w' => e = .returned (.int .u8 ((nib ds 0).val : Int)) ∧ W = w' := fun W hr => digitAt_any p c 0 ds W (by omega) (by omega) hr
  have hdg : ∀ W, Calls Tryz.prog 159 #[.slice q bs.length d, .int .i64 0, .int .i64 1] W (DigPost W q bs.length d 0 1) := fun W => digits_ex q bs.length d 0 1 W
  have HBD := Lib.hid hbd
  have HDA := Lib.hid hda
  have HDG := Lib.hid hdg
  clear hbd hda hdg
  go_enter Tryz.func104, Tryz.ntmps104
  go_wp2_with fail
  refine (S1.out _).mono ?_
  rintro e w' ⟨rfl, rfl⟩
  go_wp2_with fail
  refine (S2.out _).mono ?_
  rintro e w' ⟨rfl, rfl⟩
  go_wp2_with fail
  refine (packedLayout_any _).mono ?_
  rintro e w1 ⟨rfl, hb1⟩
  unfold layV
  have HB1 := Lib.hid hb1
  clear hb1
  go_wp2_with fail
  have h0 : (fun W : World => (W.cell? ⟨w1.heap.size, 0, none⟩ = some (.int .i64 0) ∧ W.cell? ⟨w1.heap.size, 1, none⟩ = some (.int .i64 1) ∧ W.cell? ⟨w1.heap.size, 2, none⟩ = some (.int .i64 1) ∧ W.cell? ⟨w1.heap.size, 3, none⟩ = some (.int .u8 0)) ∧ CvS w p ds W ∧ CvS w q bs W)
      (w1.alloc (.cells #[.int .i64 0, .int .i64 1, .int .i64 1, .int .u8 0] 174)).drew := by
    have hb2 := HB1.out.trans (((below_new w1 (.cells #[.int .i64 0, .int .i64 1, .int .i64 1, .int .u8 0] 174)).drew).mono HB1.out.size)
    exact ⟨(layB_new w1 0 1 1 0).cells, ⟨hb2, HR.out.below hb2⟩, ⟨hb2, HQ.out.below hb2⟩⟩
  have H0 := Lib.hid h0
  clear h0
  go_region_held3 (fun W => (W.cell? ⟨w1.heap.size, 0, none⟩ = some (.int .i64 0) ∧ W.cell? ⟨w1.heap.size, 1, none⟩ = some (.int .i64 1) ∧ W.cell? ⟨w1.heap.size, 2, none⟩ = some (.int .i64 1) ∧ W.cell? ⟨w1.heap.size, 3, none⟩ = some (.int .u8 0)) ∧ CvS w p ds W ∧ CvS w q bs W)
    (first | exact H0.out | exact OfC.next (w0 := w) (D := w1.heap.size) (by assumption) (by assumption))
    (first
      | (go_at_call 158; refine (HDA.out _ (OfC.rd1 (w0 := w) (D := w1.heap.size) (q := q) (bs := bs) (by assumption))).mono ?_; rintro e w' ⟨rfl, rfl⟩)
      | (go_at_call 159; refine (HDG.out _).mono ?_; rintro e w' ⟨B0, B1, B2, rfl, q1, q2, q3, hbel⟩)
      | (go_at_call 157; refine (HBD.out _ _ _ _ q1 q2 q3 (OfC.rd2 (w0 := w) (D := w1.heap.size) (p := p) (ds := ds) (by assumption))).mono ?_; rintro e w2 ⟨g, rfl, hbk, hb2⟩))
  have hz := HB1.out.size
  have hz2 := hbel.size
  simp at hz2
  have hfin := OfC.below (D := w1.heap.size) (w0 := w) (p := p) (q := q) (ds := ds) (bs := bs) (by assumption)
  go_wp2
  go_ret
  exact ⟨g, rfl, hbk.base' (by omega), hfin⟩
theorem offset_no1 (p q : Option Addr) (m k c d : Nat) (w : World) (hl : ¬ (1 ≤ m ∧ m ≤ 16)) :
    Calls Tryz.prog 104 #[.slice p m c, .slice q k d] w (New w (.slice none 0 0)) := by
  have hs1 := fun W => isSize_any (m : Int) W
  rw [decide_eq_false (by omega)] at hs1
  have S1 := Lib.hid hs1
  clear hs1
  go_enter Tryz.func104, Tryz.ntmps104
  go_wp2_with fail
  refine (S1.out _).mono ?_
  rintro e w' ⟨rfl, rfl⟩
  go_wp2
  go_ret
  exact ⟨rfl, Below.refl _ _⟩
theorem offset_no2 (p q : Option Addr) (m k c d : Nat) (w : World) (hl : 1 ≤ m ∧ m ≤ 16) (hk : ¬ (1 ≤ k ∧ k ≤ 16)) :
    Calls Tryz.prog 104 #[.slice p m c, .slice q k d] w (New w (.slice none 0 0)) := by
  have hs1 := fun W => isSize_any (m : Int) W
  have hs2 := fun W => isSize_any (k : Int) W
  rw [decide_eq_true (by omega)] at hs1
  rw [decide_eq_false (by omega)] at hs2
  have S1 := Lib.hid hs1
  have S2 := Lib.hid hs2
  clear hs1 hs2
  go_enter Tryz.func104, Tryz.ntmps104
  go_wp2_with fail
  refine (S1.out _).mono ?_
  rintro e w' ⟨rfl, rfl⟩
  go_wp2_with fail
  refine (S2.out _).mono ?_
  rintro e w' ⟨rfl, rfl⟩
  go_wp2
  go_ret
  exact ⟨rfl, Below.refl _ _⟩
theorem offset_any (p q : Option Addr) (c d : Nat) (ds bs : List UInt8) (w : World) (hr : Rd w p ds) (hq : Rd w q bs) :
    Calls Tryz.prog 104 #[.slice p ds.length c, .slice q bs.length d] w (MvPost w (szB ds.length bs.length) ds.length (offL ds bs)) := by
  by_cases h1 : 1 ≤ ds.length ∧ ds.length ≤ 16
  · by_cases h2 : 1 ≤ bs.length ∧ bs.length ≤ 16
    · exact (offset_yes p q c d ds bs w h1.1 h1.2 h2.1 h2.2 hr hq).mono fun e w' h => .inl ⟨by unfold szB; rw [decide_eq_true h1, decide_eq_true (by omega)]; rfl, h⟩
    · exact (offset_no2 p q ds.length bs.length c d w h1 h2).mono fun e w' h => .inr ⟨by unfold szB; rw [decide_eq_false (p := 1 ≤ (bs.length : Int) ∧ (bs.length : Int) ≤ 16) (by omega)]; simp, h⟩
  · exact (offset_no1 p q ds.length bs.length c d w h1).mono fun e w' h => .inr ⟨by unfold szB; rw [decide_eq_false h1]; rfl, h⟩

end E
end Go.Proofs.YtbcncohjjnmdcaaGreatDoor

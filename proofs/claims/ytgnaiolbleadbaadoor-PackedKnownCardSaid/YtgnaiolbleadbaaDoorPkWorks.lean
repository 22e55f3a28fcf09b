/- The examples of the chapter, which each statement asks for. -/
import Derived.Test.YtgnaiolbleadbaaDoorPkNum
namespace Go.Proofs.YtgnaiolbleadbaaDoor
open Go.RowKit Go.Shelf
set_option linter.unusedVariables false
namespace E


theorem bel1 {w W W' : World} {o : Obj} (h : Below w.heap.size w W) (hb : Below (W.alloc o).heap.size (W.alloc o) W') : Below w.heap.size w W' := bel0 (bel0 h (below_new W o)) hb
theorem bel2 {w W W' : World} {o o2 : Obj} (h : Below w.heap.size w W) (hb : Below ((W.alloc o).alloc o2).heap.size ((W.alloc o).alloc o2) W') : Below w.heap.size w W' := bel1 (bel0 h (below_new W o)) hb
/-- A field that is new and reads as l; below it nothing has turned. -/
def FPost (w : World) (n : Nat) (l : List UInt8) (e : Ending) (w' : World) : Prop := ∃ g, e = .returned (.slice (some ⟨g, 0, none⟩) n n) ∧ Rd w' (some ⟨g, 0, none⟩) l ∧ Below w.heap.size w w'
/-- The same with what Zoned says beside it. -/
def ZPost (w : World) (n : Nat) (over : Bool) (l : List UInt8) (e : Ending) (w' : World) : Prop := ∃ g, e = .returned (.tuple #[.slice (some ⟨g, 0, none⟩) n n, .bool over]) ∧ Rd w' (some ⟨g, 0, none⟩) l ∧ Below w.heap.size w w'
theorem MvPost.yes {f : Nat} {args : Array Value} {w : World} {n : Nat} {l m : List UInt8} {ok : Bool} (h : Calls Tryd.prog f args w (MvPost w ok n l)) (ho : ok = true) (hl : l = m) : Calls Tryd.prog f args w (FPost w n m) :=
  h.mono fun e w' h => by
    rcases h with ⟨_, g, h1, h2, h3⟩ | ⟨h, _⟩
    · rw [Int.toNat_natCast] at h1
      rw [hl] at h2
      exact ⟨g, h1, h2.rd, h3⟩
    · rw [ho] at h; cases h
theorem EnPost.yes' {f : Nat} {args : Array Value} {w : World} {n : Nat} {l m : List UInt8} {over ov ok : Bool} (h : Calls Tryd.prog f args w (EnPost w ok n l over)) (ho : ok = true) (hl : l = m) (hov : over = ov) : Calls Tryd.prog f args w (ZPost w n ov m) :=
  h.mono fun e w' h => by
    rcases h with ⟨_, g, h1, h2, h3⟩ | ⟨h, _⟩
    · rw [Int.toNat_natCast] at h1
      rw [hl] at h2
      rw [hov] at h1
      exact ⟨g, h1, h2.rd, h3⟩
    · rw [ho] at h; cases h
theorem same_new {f : Nat} {args : Array Value} {w : World} (h : Calls Tryd.prog f args w fun e w' => e = .returned (.bool true) ∧ w = w') : Calls Tryd.prog f args w (New w (.bool true)) :=
  h.mono fun e w' ⟨h1, h2⟩ => ⟨h1, by rw [← h2]; exact Below.refl _ _⟩

theorem xi_1_35_77 (W : World) (hg : Sg W) : Calls Tryd.prog 38 #[.slice (some ⟨W.heap.size, 0, none⟩) 3 3, .bool true, .string ⟨#[49, 50, 51, 52]⟩] (W.alloc (.cells (bsU [1, 35, 77]).toArray 5)) (New (W.alloc (.cells (bsU [1, 35, 77]).toArray 5)) (.bool true)) :=
  is_any _ _ [1, 35, 77] true ⟨#[49, 50, 51, 52]⟩ _ (rd_new W _ _) (hg.below (below_new _ _)) (by decide +kernel) (by decide +kernel) (by decide +kernel)
theorem xi_0_12 (W : World) (hg : Sg W) : Calls Tryd.prog 38 #[.slice (some ⟨W.heap.size, 0, none⟩) 2 2, .bool false, .string ⟨#[48]⟩] (W.alloc (.cells (bsU [0, 12]).toArray 5)) (New (W.alloc (.cells (bsU [0, 12]).toArray 5)) (.bool true)) :=
  is_any _ _ [0, 12] false ⟨#[48]⟩ _ (rd_new W _ _) (hg.below (below_new _ _)) (by decide +kernel) (by decide +kernel) (by decide +kernel)
theorem xi_13 (W : World) (hg : Sg W) : Calls Tryd.prog 38 #[.slice (some ⟨W.heap.size, 0, none⟩) 1 1, .bool true, .string ⟨#[48]⟩] (W.alloc (.cells (bsU [13]).toArray 5)) (New (W.alloc (.cells (bsU [13]).toArray 5)) (.bool true)) :=
  is_any _ _ [13] true ⟨#[48]⟩ _ (rd_new W _ _) (hg.below (below_new _ _)) (by decide +kernel) (by decide +kernel) (by decide +kernel)
theorem xn_18_52 (W : World) (hg : Sg W) : Calls Tryd.prog 30 #[.slice (some ⟨W.heap.size, 0, none⟩) 2 2] (W.alloc (.cells (bsU [18, 52]).toArray 5)) (New (W.alloc (.cells (bsU [18, 52]).toArray 5)) (.bool true)) :=
  not_any _ _ [18, 52] _ (rd_new W _ _) (hg.below (below_new _ _)) (by decide +kernel)
theorem xn_26_44 (W : World) (hg : Sg W) : Calls Tryd.prog 30 #[.slice (some ⟨W.heap.size, 0, none⟩) 2 2] (W.alloc (.cells (bsU [26, 44]).toArray 5)) (New (W.alloc (.cells (bsU [26, 44]).toArray 5)) (.bool true)) :=
  not_any _ _ [26, 44] _ (rd_new W _ _) (hg.below (below_new _ _)) (by decide +kernel)
theorem xf_3 (W : World) : Calls Tryd.prog 39 #[.agg #[.bool true, .string ⟨#[49, 50, 51, 52]⟩], .int .i64 3, .slice (some ⟨W.heap.size, 0, none⟩) 3 3, .bool false] (W.alloc (.cells (bsU [1, 35, 77]).toArray 5)) (New (W.alloc (.cells (bsU [1, 35, 77]).toArray 5)) (.bool true)) :=
  field_yes true ⟨#[49, 50, 51, 52]⟩ [49, 50, 51, 52] [1, 35, 77] 3 false _ _ _ rfl (by decide +kernel) (by decide +kernel) (by decide +kernel) (rd_new W _ _)
theorem xf_2 (W : World) : Calls Tryd.prog 39 #[.agg #[.bool true, .string ⟨#[49, 50, 51, 52]⟩], .int .i64 2, .slice (some ⟨W.heap.size, 0, none⟩) 2 2, .bool true] (W.alloc (.cells (bsU [35, 77]).toArray 5)) (New (W.alloc (.cells (bsU [35, 77]).toArray 5)) (.bool true)) :=
  field_yes true ⟨#[49, 50, 51, 52]⟩ [49, 50, 51, 52] [35, 77] 2 true _ _ _ rfl (by decide +kernel) (by decide +kernel) (by decide +kernel) (rd_new W _ _)
theorem xf_1 (W : World) : Calls Tryd.prog 39 #[.agg #[.bool true, .string ⟨#[49, 50, 51, 52]⟩], .int .i64 1, .slice (some ⟨W.heap.size, 0, none⟩) 1 1, .bool true] (W.alloc (.cells (bsU [77]).toArray 5)) (New (W.alloc (.cells (bsU [77]).toArray 5)) (.bool true)) :=
  field_yes true ⟨#[49, 50, 51, 52]⟩ [49, 50, 51, 52] [77] 1 true _ _ _ rfl (by decide +kernel) (by decide +kernel) (by decide +kernel) (rd_new W _ _)
theorem xf_17 (W : World) : Calls Tryd.prog 39 #[.agg #[.bool true, .string ⟨#[49, 50, 51, 52]⟩], .int .i64 17, .slice none 0 0, .bool false] W (New W (.bool true)) :=
  field_no true ⟨#[49, 50, 51, 52]⟩ 17 W (by decide +kernel)
theorem xz_3 (W : World) : Calls Tryd.prog 27 #[.agg #[.bool false, .string ⟨#[53, 55]⟩], .int .i64 3] W (ZPost W 3 false [240, 245, 199]) :=
  EnPost.yes' (n := 3) (pzon_any false ⟨#[53, 55]⟩ 3 [53, 55] W rfl) (by decide +kernel) (by decide +kernel) (by decide +kernel)
theorem xz_1 (W : World) : Calls Tryd.prog 27 #[.agg #[.bool true, .string ⟨#[53, 55]⟩], .int .i64 1] W (ZPost W 1 true [215]) :=
  EnPost.yes' (n := 1) (pzon_any true ⟨#[53, 55]⟩ 1 [53, 55] W rfl) (by decide +kernel) (by decide +kernel) (by decide +kernel)
theorem xs_240_245_199 (g : Nat) (W : World) (h : Rd W (some ⟨g, 0, none⟩) [240, 245, 199]) : Calls Tryd.prog 26 #[.slice (some ⟨g, 0, none⟩) 3 3, .slice (some ⟨W.heap.size, 0, none⟩) 3 3] (W.alloc (.cells (bsU [240, 245, 199]).toArray 5)) (New (W.alloc (.cells (bsU [240, 245, 199]).toArray 5)) (.bool true)) :=
  same_new (same_true _ _ _ _ [240, 245, 199] _ (h.below (below_new _ _)) (rd_new W _ _))
theorem xs_215 (g : Nat) (W : World) (h : Rd W (some ⟨g, 0, none⟩) [215]) : Calls Tryd.prog 26 #[.slice (some ⟨g, 0, none⟩) 1 1, .slice (some ⟨W.heap.size, 0, none⟩) 1 1] (W.alloc (.cells (bsU [215]).toArray 5)) (New (W.alloc (.cells (bsU [215]).toArray 5)) (.bool true)) :=
  same_new (same_true _ _ _ _ [215] _ (h.below (below_new _ _)) (rd_new W _ _))
theorem xs_0_18_60 (g : Nat) (W : World) (h : Rd W (some ⟨g, 0, none⟩) [0, 18, 60]) : Calls Tryd.prog 26 #[.slice (some ⟨g, 0, none⟩) 3 3, .slice (some ⟨W.heap.size, 0, none⟩) 3 3] (W.alloc (.cells (bsU [0, 18, 60]).toArray 5)) (New (W.alloc (.cells (bsU [0, 18, 60]).toArray 5)) (.bool true)) :=
  same_new (same_true _ _ _ _ [0, 18, 60] _ (h.below (below_new _ _)) (rd_new W _ _))
theorem xs_18_60 (g : Nat) (W : World) (h : Rd W (some ⟨g, 0, none⟩) [18, 60]) : Calls Tryd.prog 26 #[.slice (some ⟨g, 0, none⟩) 2 2, .slice (some ⟨W.heap.size, 0, none⟩) 2 2] (W.alloc (.cells (bsU [18, 60]).toArray 5)) (New (W.alloc (.cells (bsU [18, 60]).toArray 5)) (.bool true)) :=
  same_new (same_true _ _ _ _ [18, 60] _ (h.below (below_new _ _)) (rd_new W _ _))
theorem xs_60 (g : Nat) (W : World) (h : Rd W (some ⟨g, 0, none⟩) [60]) : Calls Tryd.prog 26 #[.slice (some ⟨g, 0, none⟩) 1 1, .slice (some ⟨W.heap.size, 0, none⟩) 1 1] (W.alloc (.cells (bsU [60]).toArray 5)) (New (W.alloc (.cells (bsU [60]).toArray 5)) (.bool true)) :=
  same_new (same_true _ _ _ _ [60] _ (h.below (below_new _ _)) (rd_new W _ _))
theorem xs_240_241_242_195 (g : Nat) (W : World) (h : Rd W (some ⟨g, 0, none⟩) [240, 241, 242, 195]) : Calls Tryd.prog 26 #[.slice (some ⟨g, 0, none⟩) 4 4, .slice (some ⟨W.heap.size, 0, none⟩) 4 4] (W.alloc (.cells (bsU [240, 241, 242, 195]).toArray 5)) (New (W.alloc (.cells (bsU [240, 241, 242, 195]).toArray 5)) (.bool true)) :=
  same_new (same_true _ _ _ _ [240, 241, 242, 195] _ (h.below (below_new _ _)) (rd_new W _ _))
theorem xs_242_195 (g : Nat) (W : World) (h : Rd W (some ⟨g, 0, none⟩) [242, 195]) : Calls Tryd.prog 26 #[.slice (some ⟨g, 0, none⟩) 2 2, .slice (some ⟨W.heap.size, 0, none⟩) 2 2] (W.alloc (.cells (bsU [242, 195]).toArray 5)) (New (W.alloc (.cells (bsU [242, 195]).toArray 5)) (.bool true)) :=
  same_new (same_true _ _ _ _ [242, 195] _ (h.below (below_new _ _)) (rd_new W _ _))
theorem xs_1_35_76 (g : Nat) (W : World) (h : Rd W (some ⟨g, 0, none⟩) [1, 35, 76]) : Calls Tryd.prog 26 #[.slice (some ⟨g, 0, none⟩) 3 3, .slice (some ⟨W.heap.size, 0, none⟩) 3 3] (W.alloc (.cells (bsU [1, 35, 76]).toArray 5)) (New (W.alloc (.cells (bsU [1, 35, 76]).toArray 5)) (.bool true)) :=
  same_new (same_true _ _ _ _ [1, 35, 76] _ (h.below (below_new _ _)) (rd_new W _ _))
theorem xs_76 (g : Nat) (W : World) (h : Rd W (some ⟨g, 0, none⟩) [76]) : Calls Tryd.prog 26 #[.slice (some ⟨g, 0, none⟩) 1 1, .slice (some ⟨W.heap.size, 0, none⟩) 1 1] (W.alloc (.cells (bsU [76]).toArray 5)) (New (W.alloc (.cells (bsU [76]).toArray 5)) (.bool true)) :=
  same_new (same_true _ _ _ _ [76] _ (h.below (below_new _ _)) (rd_new W _ _))
theorem xp_3 (g : Nat) (W : World) (h : Rd W (some ⟨g, 0, none⟩) [241, 242, 195]) : Calls Tryd.prog 18 #[.slice (some ⟨g, 0, none⟩) 3 3, .int .i64 3] W (FPost W 3 [0, 18, 60]) :=
  MvPost.yes (n := 3) (pack_any _ _ 3 [241, 242, 195] W h) (by decide +kernel) (by decide +kernel)
theorem xp_2 (g : Nat) (W : World) (h : Rd W (some ⟨g, 0, none⟩) [241, 242, 195]) : Calls Tryd.prog 18 #[.slice (some ⟨g, 0, none⟩) 3 3, .int .i64 2] W (FPost W 2 [18, 60]) :=
  MvPost.yes (n := 2) (pack_any _ _ 2 [241, 242, 195] W h) (by decide +kernel) (by decide +kernel)
theorem xp_1 (g : Nat) (W : World) (h : Rd W (some ⟨g, 0, none⟩) [241, 242, 195]) : Calls Tryd.prog 18 #[.slice (some ⟨g, 0, none⟩) 3 3, .int .i64 1] W (FPost W 1 [60]) :=
  MvPost.yes (n := 1) (pack_any _ _ 1 [241, 242, 195] W h) (by decide +kernel) (by decide +kernel)
theorem xu_4 (W : World) : Calls Tryd.prog 20 #[.slice (some ⟨W.heap.size, 0, none⟩) 2 2, .int .i64 4] (W.alloc (.cells (bsU [18, 60]).toArray 5)) (FPost (W.alloc (.cells (bsU [18, 60]).toArray 5)) 4 [240, 241, 242, 195]) :=
  MvPost.yes (n := 4) (unpack_any _ _ 4 [18, 60] _ (rd_new W _ _)) (by decide +kernel) (by decide +kernel)
theorem xu_2 (W : World) : Calls Tryd.prog 20 #[.slice (some ⟨W.heap.size, 0, none⟩) 2 2, .int .i64 2] (W.alloc (.cells (bsU [18, 60]).toArray 5)) (FPost (W.alloc (.cells (bsU [18, 60]).toArray 5)) 2 [242, 195]) :=
  MvPost.yes (n := 2) (unpack_any _ _ 2 [18, 60] _ (rd_new W _ _)) (by decide +kernel) (by decide +kernel)
theorem xo_3 (W : World) : Calls Tryd.prog 22 #[.slice (some ⟨W.heap.size, 0, none⟩) 3 3, .slice (some ⟨W.heap.size + 1, 0, none⟩) 2 2] ((W.alloc (.cells (bsU [119, 136, 156]).toArray 5)).alloc (.cells (bsU [18, 52]).toArray 5)) (FPost ((W.alloc (.cells (bsU [119, 136, 156]).toArray 5)).alloc (.cells (bsU [18, 52]).toArray 5)) 3 [1, 35, 76]) :=
  MvPost.yes (n := 3) (offset_any _ _ _ _ [119, 136, 156] [18, 52] _ ((rd_new W _ _).below (below_new _ _)) (by have := rd_new (W.alloc (.cells (bsU [119, 136, 156]).toArray 5)) [18, 52] 5; rw [World.size_alloc] at this; exact this)) (by decide +kernel) (by decide +kernel)
theorem xo_1 (W : World) : Calls Tryd.prog 22 #[.slice (some ⟨W.heap.size, 0, none⟩) 1 1, .slice (some ⟨W.heap.size + 1, 0, none⟩) 2 2] ((W.alloc (.cells (bsU [156]).toArray 5)).alloc (.cells (bsU [18, 52]).toArray 5)) (FPost ((W.alloc (.cells (bsU [156]).toArray 5)).alloc (.cells (bsU [18, 52]).toArray 5)) 1 [76]) :=
  MvPost.yes (n := 1) (offset_any _ _ _ _ [156] [18, 52] _ ((rd_new W _ _).below (below_new _ _)) (by have := rd_new (W.alloc (.cells (bsU [156]).toArray 5)) [18, 52] 5; rw [World.size_alloc] at this; exact this)) (by decide +kernel) (by decide +kernel)
set_option maxRecDepth 100000 in
set_option maxHeartbeats 8000000 in
/-- The examples of the chapter hold. -/
theorem works_any (w : World) (hg : Sg w) : Calls Tryd.prog 15 #[] w (New w (.bool true)) := by
  have HG := Lib.hid hg
  clear hg
  go_enter Tryd.func15, Tryd.ntmps15
  go_wp2_with fail
  refine (dec_any true ⟨#[49, 50, 51, 52]⟩ w).mono ?_
  rintro e w1 ⟨rfl, hb⟩
  have HB1 := Lib.hid hb
  have HD1 := Lib.hid (DecB.new w1 true ⟨#[49, 50, 51, 52]⟩)
  clear hb
  go_wp2_with fail
  have hx := xi_1_35_77 (w1.alloc (.cells #[.bool true, .string ⟨#[49, 50, 51, 52]⟩] 26)) (HG.out.below (bel0 HB1.out (below_new _ _)))
  rw [World.size_alloc] at hx
  refine hx.mono ?_
  clear hx
  rintro e w2 ⟨rfl, hb⟩
  have HB2 := Lib.hid (bel2 HB1.out hb)
  have HD2 := Lib.hid (HD1.out.below (bel1 (Below.refl _ _) hb))
  clear hb HB1 HD1
  go_wp2_with fail
  refine (xi_0_12 _ (HG.out.below HB2.out)).mono ?_
  rintro e w3 ⟨rfl, hb⟩
  have HB3 := Lib.hid (bel1 HB2.out hb)
  have HD3 := Lib.hid (HD2.out.below (bel1 (Below.refl _ w2) hb))
  clear hb HB2 HD2
  go_wp2_with fail
  refine (xi_13 _ (HG.out.below HB3.out)).mono ?_
  rintro e w4 ⟨rfl, hb⟩
  have HB4 := Lib.hid (bel1 HB3.out hb)
  have HD4 := Lib.hid (HD3.out.below (bel1 (Below.refl _ w3) hb))
  clear hb HB3 HD3
  go_wp2_with fail
  refine (xn_18_52 _ (HG.out.below HB4.out)).mono ?_
  rintro e w5 ⟨rfl, hb⟩
  have HB5 := Lib.hid (bel1 HB4.out hb)
  have HD5 := Lib.hid (HD4.out.below (bel1 (Below.refl _ w4) hb))
  clear hb HB4 HD4
  go_wp2_with fail
  refine (xn_26_44 _ (HG.out.below HB5.out)).mono ?_
  rintro e w6 ⟨rfl, hb⟩
  have HB6 := Lib.hid (bel1 HB5.out hb)
  have HD6 := Lib.hid (HD5.out.below (bel1 (Below.refl _ w5) hb))
  clear hb HB5 HD5
  obtain ⟨⟨c1, c2⟩, _⟩ := HD6.out.cells
  go_wp2_with fail
  refine (xf_3 _).mono ?_
  rintro e w7 ⟨rfl, hb⟩
  have HB7 := Lib.hid (bel1 HB6.out hb)
  have HD7 := Lib.hid (HD6.out.below (bel1 (Below.refl _ w6) hb))
  clear hb HB6 HD6
  clear c1 c2
  obtain ⟨⟨c1, c2⟩, _⟩ := HD7.out.cells
  go_wp2_with fail
  refine (xf_2 _).mono ?_
  rintro e w8 ⟨rfl, hb⟩
  have HB8 := Lib.hid (bel1 HB7.out hb)
  have HD8 := Lib.hid (HD7.out.below (bel1 (Below.refl _ w7) hb))
  clear hb HB7 HD7
  clear c1 c2
  obtain ⟨⟨c1, c2⟩, _⟩ := HD8.out.cells
  go_wp2_with fail
  refine (xf_1 _).mono ?_
  rintro e w9 ⟨rfl, hb⟩
  have HB9 := Lib.hid (bel1 HB8.out hb)
  have HD9 := Lib.hid (HD8.out.below (bel1 (Below.refl _ w8) hb))
  clear hb HB8 HD8
  clear c1 c2
  obtain ⟨⟨c1, c2⟩, _⟩ := HD9.out.cells
  go_wp2_with fail
  refine (xf_17 _).mono ?_
  rintro e w10 ⟨rfl, hb⟩
  have HB10 := Lib.hid (bel0 HB9.out hb)
  have HD10 := Lib.hid (HD9.out.below (bel0 (Below.refl _ w9) hb))
  clear hb HB9 HD9
  clear c1 c2
  go_wp2_with fail
  refine (dec_any _ _ _).mono ?_
  rintro e w11 ⟨rfl, hb⟩
  have HB11 := Lib.hid (bel0 HB10.out hb)
  clear hb HB10
  go_wp2_with fail
  refine (xz_3 _).mono ?_
  rintro e w12 ⟨g1, rfl, hq, hb⟩
  have HB12 := Lib.hid (bel0 HB11.out hb)
  have HQ12 := Lib.hid hq
  clear hb HB11 hq
  go_wp2_with fail
  refine (dec_any _ _ _).mono ?_
  rintro e w13 ⟨rfl, hb⟩
  have HB13 := Lib.hid (bel0 HB12.out hb)
  have HQ13 := Lib.hid (HQ12.out.below (bel0 (Below.refl _ w12) hb))
  clear hb HB12 HQ12
  go_wp2_with fail
  refine (xz_1 _).mono ?_
  rintro e w14 ⟨g2, rfl, hy, hb⟩
  have HB14 := Lib.hid (bel0 HB13.out hb)
  have HQ14 := Lib.hid (HQ13.out.below (bel0 (Below.refl _ w13) hb))
  have HY14 := Lib.hid hy
  clear hb HB13 HQ13 hy
  go_wp2_with fail
  refine (xs_240_245_199 g1 _ HQ14.out).mono ?_
  rintro e w15 ⟨rfl, hb⟩
  have HB15 := Lib.hid (bel1 HB14.out hb)
  have HQ15 := Lib.hid (HQ14.out.below (bel1 (Below.refl _ w14) hb))
  have HY15 := Lib.hid (HY14.out.below (bel1 (Below.refl _ w14) hb))
  clear hb HB14 HQ14 HY14
  go_wp2_with fail
  refine (xs_215 g2 _ HY15.out).mono ?_
  rintro e w16 ⟨rfl, hb⟩
  have HB16 := Lib.hid (bel1 HB15.out hb)
  have HY16 := Lib.hid (HY15.out.below (bel1 (Below.refl _ w15) hb))
  clear hb HB15 HY15
  have HA := Lib.hid (rd_new w16 [241, 242, 195] 5)
  go_wp2_with fail
  refine (xp_3 w16.heap.size _ HA.out).mono ?_
  rintro e w17 ⟨g3, rfl, hq, hb⟩
  have HB17 := Lib.hid (bel1 HB16.out hb)
  have HA17 := Lib.hid (HA.out.below hb)
  have HQ17 := Lib.hid hq
  clear hb hq HA HB16
  go_wp2_with fail
  refine (xs_0_18_60 g3 _ HQ17.out).mono ?_
  rintro e w18 ⟨rfl, hb⟩
  have HB18 := Lib.hid (bel1 HB17.out hb)
  have HA18 := Lib.hid (HA17.out.below (bel1 (Below.refl _ w17) hb))
  have HQ18 := Lib.hid (HQ17.out.below (bel1 (Below.refl _ w17) hb))
  clear hb HB17 HA17 HQ17
  go_wp2_with fail
  refine (xp_2 w16.heap.size _ HA18.out).mono ?_
  rintro e w19 ⟨g4, rfl, hq, hb⟩
  have HB19 := Lib.hid (bel0 HB18.out hb)
  have HA19 := Lib.hid (HA18.out.below (bel0 (Below.refl _ w18) hb))
  have HQ19 := Lib.hid hq
  clear hb HB18 HA18 hq
  go_wp2_with fail
  refine (xs_18_60 g4 _ HQ19.out).mono ?_
  rintro e w20 ⟨rfl, hb⟩
  have HB20 := Lib.hid (bel1 HB19.out hb)
  have HA20 := Lib.hid (HA19.out.below (bel1 (Below.refl _ w19) hb))
  have HQ20 := Lib.hid (HQ19.out.below (bel1 (Below.refl _ w19) hb))
  clear hb HB19 HA19 HQ19
  go_wp2_with fail
  refine (xp_1 w16.heap.size _ HA20.out).mono ?_
  rintro e w21 ⟨g5, rfl, hq, hb⟩
  have HB21 := Lib.hid (bel0 HB20.out hb)
  have HA21 := Lib.hid (HA20.out.below (bel0 (Below.refl _ w20) hb))
  have HQ21 := Lib.hid hq
  clear hb HB20 HA20 hq
  go_wp2_with fail
  refine (xs_60 g5 _ HQ21.out).mono ?_
  rintro e w22 ⟨rfl, hb⟩
  have HB22 := Lib.hid (bel1 HB21.out hb)
  have HQ22 := Lib.hid (HQ21.out.below (bel1 (Below.refl _ w21) hb))
  clear hb HB21 HQ21
  go_wp2_with fail
  refine (xu_4 _).mono ?_
  rintro e w23 ⟨g6, rfl, hq, hb⟩
  have HB23 := Lib.hid (bel1 HB22.out hb)
  have HQ23 := Lib.hid hq
  clear hb HB22 hq
  go_wp2_with fail
  refine (xs_240_241_242_195 g6 _ HQ23.out).mono ?_
  rintro e w24 ⟨rfl, hb⟩
  have HB24 := Lib.hid (bel1 HB23.out hb)
  have HQ24 := Lib.hid (HQ23.out.below (bel1 (Below.refl _ w23) hb))
  clear hb HB23 HQ23
  go_wp2_with fail
  refine (xu_2 _).mono ?_
  rintro e w25 ⟨g7, rfl, hq, hb⟩
  have HB25 := Lib.hid (bel1 HB24.out hb)
  have HQ25 := Lib.hid hq
  clear hb HB24 hq
  go_wp2_with fail
  refine (xs_242_195 g7 _ HQ25.out).mono ?_
  rintro e w26 ⟨rfl, hb⟩
  have HB26 := Lib.hid (bel1 HB25.out hb)
  have HQ26 := Lib.hid (HQ25.out.below (bel1 (Below.refl _ w25) hb))
  clear hb HB25 HQ25
  go_wp2_with fail
  refine (xo_3 _).mono ?_
  rintro e w27 ⟨g8, rfl, hq, hb⟩
  have HB27 := Lib.hid (bel2 HB26.out hb)
  have HQ27 := Lib.hid hq
  clear hb HB26 hq
  go_wp2_with fail
  refine (xs_1_35_76 g8 _ HQ27.out).mono ?_
  rintro e w28 ⟨rfl, hb⟩
  have HB28 := Lib.hid (bel1 HB27.out hb)
  have HQ28 := Lib.hid (HQ27.out.below (bel1 (Below.refl _ w27) hb))
  clear hb HB27 HQ27
  go_wp2_with fail
  refine (xo_1 _).mono ?_
  rintro e w29 ⟨g9, rfl, hq, hb⟩
  have HB29 := Lib.hid (bel2 HB28.out hb)
  have HQ29 := Lib.hid hq
  clear hb HB28 hq
  go_wp2_with fail
  refine (xs_76 g9 _ HQ29.out).mono ?_
  rintro e w30 ⟨rfl, hb⟩
  have HB30 := Lib.hid (bel1 HB29.out hb)
  have HQ30 := Lib.hid (HQ29.out.below (bel1 (Below.refl _ w29) hb))
  clear hb HB29 HQ29
  go_wp2
  go_ret
  exact ⟨rfl, HB30.out⟩

end E
end Go.Proofs.YtgnaiolbleadbaaDoor

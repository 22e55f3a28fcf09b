/- The walk of the statement PackedKnown: it answers true, and below its own memory nothing turns. -/
import Derived.Test.YtgnaiolbleadbaaDoorPkWorks
import Derived.Test.YtgnaiolbleadbaaDoorPkPure
import Derived.Test.YtgnaiolbleadbaaDoorPkLaid
import Derived.Test.YtgnaiolbleadbaaDoorPkSizes
namespace Go.Proofs.YtgnaiolbleadbaaDoor.packedKnown
open Go.ChangeShapes Go.WideShapes Go.ChangeAt Go.RowKit Go.ChangeMaps E
set_option linter.unusedVariables false

set_option maxRecDepth 100000 in
set_option maxHeartbeats 4000000 in
theorem walk (w : World) (hg : Sg w) : Calls Tryd.prog 10 #[] w (New w (.bool true)) := by
  have HG := Lib.hid hg
  clear hg
  go_enter Tryd.func10, Tryd.ntmps10
  go_wp2
  go_loopw [1] (fun i wr => Below w.heap.size w wr ∧ ∃ k : Nat, k ≤ 16 ∧ i = .int .u8 k) (fun i _ => 16 - (intOf i).toNat)
  case atStart => exact ⟨Below.refl _ _, 0, by omega, rfl⟩
  case round =>
    obtain ⟨hbw, k, hk, rfl⟩ := hrel
    have HB := Lib.hid hbw
    clear hbw
    by_cases hlt : k < 16
    · have hdx := dec_x k hlt wr (HG.out.below HB.out)
      by_cases h9 : 9 < k
      · rw [decide_eq_true h9, if_pos h9] at hdx
        have hk6 : k = 10 ∨ k = 11 ∨ k = 12 ∨ k = 13 ∨ k = 14 ∨ k = 15 := by omega
        rcases hk6 with rfl | rfl | rfl | rfl | rfl | rfl
        · have hdy : Calls Tryd.prog 25 #[.slice (some ⟨wr.heap.size, 0, none⟩) 1 1] (wr.alloc (.cells #[.int .u8 122] 5)) (New (wr.alloc (.cells #[.int .u8 122] 5)) (.tuple #[.agg #[.bool false, .string ⟨#[55]⟩], .bool true])) := hdx
          have HDX := Lib.hid hdy
          clear hdx hdy hlt h9 hk
          rw [show ((10 : Nat) : Int) = 10 from rfl]
          go_wp2_with fail
          refine (HDX.out).mono ?_
          rintro e w1 ⟨rfl, hb⟩
          have hc := cell2_new w1 (.bool false) (.string ⟨#[55]⟩) 26
          have h00 : PenC w w1.heap.size false ⟨#[55]⟩ (w1.alloc (.cells #[.bool false, .string ⟨#[55]⟩] 26)).drew := ⟨⟨keepC hc.1 (Below.refl _ _).drew, keepC hc.2 (Below.refl _ _).drew⟩, bel0 (bel1 HB.out hb) (below_new w1 _).drew, .inl rfl⟩
          have H00 := Lib.hid h00
          clear hc hb h00
          go_wp2
          go_region_held3 (fun W => (W.cell? ⟨w1.heap.size, 0, none⟩ = some (.bool false) ∧ W.cell? ⟨w1.heap.size, 1, none⟩ = some (.string ⟨#[55]⟩)) ∧ CvS w none [] W)
            (first | exact H00.out | exact PenC.next (w0 := w) (D := w1.heap.size) (by assumption) (by assumption))
            (first
              | (go_at_call 28; refine (dec_any _ _ _).mono ?_; rintro e w2 ⟨rfl, hbel⟩))
          have hfin := PenC.below (D := w1.heap.size) (w0 := w) (neg := false) (s := ⟨#[55]⟩) (by assumption)
          go_wp2
          go_roundw
          case rel => exact ⟨hfin, 11, by omega, by go_num⟩
          case measure => simp [intOf]
        · have hdy : Calls Tryd.prog 25 #[.slice (some ⟨wr.heap.size, 0, none⟩) 1 1] (wr.alloc (.cells #[.int .u8 123] 5)) (New (wr.alloc (.cells #[.int .u8 123] 5)) (.tuple #[.agg #[.bool true, .string ⟨#[55]⟩], .bool true])) := hdx
          have HDX := Lib.hid hdy
          clear hdx hdy hlt h9 hk
          rw [show ((11 : Nat) : Int) = 11 from rfl]
          go_wp2_with fail
          refine (HDX.out).mono ?_
          rintro e w1 ⟨rfl, hb⟩
          have hc := cell2_new w1 (.bool true) (.string ⟨#[55]⟩) 26
          have h00 : PenC w w1.heap.size true ⟨#[55]⟩ (w1.alloc (.cells #[.bool true, .string ⟨#[55]⟩] 26)).drew := ⟨⟨keepC hc.1 (Below.refl _ _).drew, keepC hc.2 (Below.refl _ _).drew⟩, bel0 (bel1 HB.out hb) (below_new w1 _).drew, .inl rfl⟩
          have H00 := Lib.hid h00
          clear hc hb h00
          go_wp2
          refine wp_region_noPanic ?_
          refine wp_region_held_drew (S := fun W => (W.cell? ⟨w1.heap.size, 0, none⟩ = some (.bool true) ∧ W.cell? ⟨w1.heap.size, 1, none⟩ = some (.string ⟨#[55]⟩)) ∧ CvS w none [] W) (by kernel_rfl) H00.out (fun hHeld => ?_)
          refine wpAnyH_take (i := 0) (oi := { dst := some 22, op := Op.move (Operand.tmp 3), type := 4, pos := "outright.go:145", after := #[], guard := none }) (v := .bool true) rfl (by kernel_rfl) (by kernel_rfl) (by kernel_rfl) (fun _ _ _ h => h) (Or.inl ⟨by rfl, fun W hSw => by (try dsimp only at hSw); go_simp⟩) hHeld ?_
          simp only [Act.put, List.setIfInBounds_toArray, List.set_cons_zero, List.set_cons_succ]
          refine wpAnyH_take (i := 1) (oi := { dst := some 23, op := Op.move (Operand.tmp 1), type := 5, pos := "outright.go:145", after := #[], guard := none }) (v := .int .u8 11) rfl (by kernel_rfl) (by kernel_rfl) (by kernel_rfl) (fun _ _ _ h => h) (Or.inl ⟨by rfl, fun W hSw => by (try dsimp only at hSw); go_simp⟩) hHeld ?_
          simp only [Act.put, List.setIfInBounds_toArray, List.set_cons_zero, List.set_cons_succ]
          refine wpAnyH_take (i := 2) (oi := { dst := some 24, op := Op.binOp BinOp.gtr 5 (Operand.tmp 23) (Operand.const (Value.int IntKind.u8 9)) 5, type := 4, pos := "outright.go:145", after := #[{ on := 1, ground := Ground.data }], guard := none }) (v := .bool true) rfl (by kernel_rfl) (by kernel_rfl) (by kernel_rfl) (fun _ _ _ h => h) (Or.inl ⟨by rfl, fun W hSw => by (try dsimp only at hSw); go_simp⟩) hHeld ?_
          simp only [Act.put, List.setIfInBounds_toArray, List.set_cons_zero, List.set_cons_succ]
          refine wpAnyH_take (i := 3) (oi := { dst := some 25, op := Op.binOp BinOp.neq 4 (Operand.tmp 22) (Operand.tmp 24) 4, type := 4, pos := "outright.go:145", after := #[{ on := 0, ground := Ground.data }, { on := 2, ground := Ground.data }], guard := none }) (v := .bool false) rfl (by kernel_rfl) (by kernel_rfl) (by kernel_rfl) (fun _ _ _ h => h) (Or.inl ⟨by rfl, fun W hSw => by (try dsimp only at hSw); go_simp⟩) hHeld ?_
          simp only [Act.put, List.setIfInBounds_toArray, List.set_cons_zero, List.set_cons_succ]
          refine wpAnyH_take (i := 4) (oi := { dst := some 26, op := Op.move (Operand.tmp 25), type := 4, pos := "outright.go:145", after := #[{ on := 3, ground := Ground.data }], guard := none }) (v := .bool false) rfl (by kernel_rfl) (by kernel_rfl) (by kernel_rfl) (fun _ _ _ h => h) (Or.inl ⟨by rfl, fun W hSw => by (try dsimp only at hSw); go_simp⟩) hHeld ?_
          simp only [Act.put, List.setIfInBounds_toArray, List.set_cons_zero, List.set_cons_succ]
          refine wpAnyH_take (i := 5) (oi := { dst := some 27, op := Op.move (Operand.tmp 3), type := 4, pos := "outright.go:145", after := #[{ on := 4, ground := Ground.guard }], guard := some (4, false) }) (v := .bool true) rfl (by kernel_rfl) (by kernel_rfl) (by kernel_rfl) (fun _ _ _ h => h) (Or.inl ⟨by rfl, fun W hSw => by (try dsimp only at hSw); go_simp⟩) hHeld ?_
          simp only [Act.put, List.setIfInBounds_toArray, List.set_cons_zero, List.set_cons_succ]
          refine wpAnyH_take (i := 6) (oi := { dst := some 28, op := Op.move (Operand.tmp 27), type := 4, pos := "outright.go:145", after := #[{ on := 5, ground := Ground.data }, { on := 4, ground := Ground.chain }, { on := 4, ground := Ground.guard }], guard := some (4, false) }) (v := .bool true) rfl (by kernel_rfl) (by kernel_rfl) (by kernel_rfl) (fun _ _ _ h => h) (Or.inl ⟨by rfl, fun W hSw => by (try dsimp only at hSw); go_simp⟩) hHeld ?_
          simp only [Act.put, List.setIfInBounds_toArray, List.set_cons_zero, List.set_cons_succ]
          refine wpAnyH_take (i := 7) (oi := { dst := some 29, op := Op.load 26 (Operand.tmp 2), type := 26, pos := "outright.go:145", after := #[{ on := 6, ground := Ground.guard }], guard := some (6, true) }) (v := .agg #[.bool true, .string ⟨#[55]⟩]) rfl (by kernel_rfl) (by kernel_rfl) (by kernel_rfl) (fun _ _ _ h => h) (Or.inl ⟨by rfl, fun W hSw => by (try dsimp only at hSw); go_simp⟩) hHeld ?_
          simp only [Act.put, List.setIfInBounds_toArray, List.set_cons_zero, List.set_cons_succ]
          refine wpAnyH_take (i := 8) (oi := { dst := some 30, op := Op.move (Operand.tmp 1), type := 5, pos := "outright.go:145", after := #[{ on := 6, ground := Ground.guard }], guard := some (6, true) }) (v := .int .u8 11) rfl (by kernel_rfl) (by kernel_rfl) (by kernel_rfl) (fun _ _ _ h => h) (Or.inl ⟨by rfl, fun W hSw => by (try dsimp only at hSw); go_simp⟩) hHeld ?_
          simp only [Act.put, List.setIfInBounds_toArray, List.set_cons_zero, List.set_cons_succ]
          refine wpAnyH_take (i := 9) (oi := { dst := some 31, op := Op.binOp BinOp.eql 5 (Operand.tmp 30) (Operand.const (Value.int IntKind.u8 11)) 5, type := 4, pos := "outright.go:145", after := #[{ on := 8, ground := Ground.data }, { on := 6, ground := Ground.guard }], guard := some (6, true) }) (v := .bool true) rfl (by kernel_rfl) (by kernel_rfl) (by kernel_rfl) (fun _ _ _ h => h) (Or.inl ⟨by rfl, fun W hSw => by (try dsimp only at hSw); go_simp⟩) hHeld ?_
          simp only [Act.put, List.setIfInBounds_toArray, List.set_cons_zero, List.set_cons_succ]
          refine wpAnyH_take (i := 10) (oi := { dst := some 32, op := Op.move (Operand.tmp 31), type := 4, pos := "outright.go:145", after := #[{ on := 9, ground := Ground.data }, { on := 6, ground := Ground.chain }, { on := 6, ground := Ground.guard }], guard := some (6, true) }) (v := .bool true) rfl (by kernel_rfl) (by kernel_rfl) (by kernel_rfl) (fun _ _ _ h => h) (Or.inl ⟨by rfl, fun W hSw => by (try dsimp only at hSw); go_simp⟩) hHeld ?_
          simp only [Act.put, List.setIfInBounds_toArray, List.set_cons_zero, List.set_cons_succ]
          refine wpAnyH_take (i := 11) (oi := { dst := some 33, op := Op.move (Operand.tmp 1), type := 5, pos := "outright.go:145", after := #[{ on := 10, ground := Ground.guard }], guard := some (10, false) }) (v := undef) rfl (by kernel_rfl) (by kernel_rfl) (by kernel_rfl) (fun _ _ _ h => h) (Or.inr ⟨by rfl, rfl⟩) hHeld ?_
          simp only [Act.put, List.setIfInBounds_toArray, List.set_cons_zero, List.set_cons_succ]
          refine wpAnyH_take (i := 12) (oi := { dst := some 34, op := Op.binOp BinOp.eql 5 (Operand.tmp 33) (Operand.const (Value.int IntKind.u8 13)) 5, type := 4, pos := "outright.go:145", after := #[{ on := 11, ground := Ground.data }, { on := 10, ground := Ground.guard }], guard := some (10, false) }) (v := undef) rfl (by kernel_rfl) (by kernel_rfl) (by kernel_rfl) (fun _ _ _ h => h) (Or.inr ⟨by rfl, rfl⟩) hHeld ?_
          simp only [Act.put, List.setIfInBounds_toArray, List.set_cons_zero, List.set_cons_succ]
          refine wpAnyH_take (i := 13) (oi := { dst := some 35, op := Op.pick (Operand.tmp 32) (Operand.const (Value.bool true)) (Operand.tmp 34), type := 4, pos := "outright.go:145", after := #[{ on := 10, ground := Ground.data }, { on := 12, ground := Ground.data }, { on := 6, ground := Ground.guard }], guard := some (6, true) }) (v := .bool true) rfl (by kernel_rfl) (by kernel_rfl) (by kernel_rfl) (fun _ _ _ h => h) (Or.inl ⟨by rfl, fun W hSw => by (try dsimp only at hSw); go_simp⟩) hHeld ?_
          simp only [Act.put, List.setIfInBounds_toArray, List.set_cons_zero, List.set_cons_succ]
          refine wpAnyH_ready (rs := [14]) (by kernel_rfl) (by simp) ?_
          refine AllReadyH.cons (o := { dst := some 36, op := Op.call { callee := Callee.value (Operand.func 28), args := #[Operand.tmp 35, Operand.const (Value.string { data := #[55] })], argTypes := #[4, 9] }, type := 26, pos := "outright.go:145", after := #[{ on := 13, ground := Ground.data }, { on := 10, ground := Ground.chain }, { on := 6, ground := Ground.guard }], guard := some (6, true) }) rfl (fun K hK => ?_) AllReadyH.nil
          go_simp
          go_at_call 28
          refine (dec_any _ _ _).mono ?_
          rintro e w2 ⟨rfl, hbel⟩
          go_wp2_with fail
          refine hK.out _ _ (PenC.next (w0 := w) (D := w1.heap.size) hHeld hbel) (fun hHeld2 => ?_)
          clear hK K
          refine wpAnyH_take (i := 15) (oi := { dst := some 37, op := Op.binOp BinOp.neq 26 (Operand.tmp 29) (Operand.tmp 36) 26, type := 4, pos := "outright.go:145", after := #[{ on := 7, ground := Ground.data }, { on := 14, ground := Ground.data }, { on := 6, ground := Ground.guard }], guard := some (6, true) }) (v := .bool false) rfl (by kernel_rfl) (by kernel_rfl) (by kernel_rfl) (fun _ _ _ h => h) (Or.inl ⟨by rfl, fun W hSw => by (try dsimp only at hSw); go_simp⟩) hHeld2 ?_
          simp only [Act.put, List.setIfInBounds_toArray, List.set_cons_zero, List.set_cons_succ]
          refine wpAnyH_take (i := 16) (oi := { dst := some 38, op := Op.pick (Operand.tmp 28) (Operand.tmp 37) (Operand.const (Value.bool false)), type := 4, pos := "outright.go:145", after := #[{ on := 6, ground := Ground.data }, { on := 15, ground := Ground.data }, { on := 4, ground := Ground.guard }], guard := some (4, false) }) (v := .bool false) rfl (by kernel_rfl) (by kernel_rfl) (by kernel_rfl) (fun _ _ _ h => h) (Or.inl ⟨by rfl, fun W hSw => by (try dsimp only at hSw); go_simp⟩) hHeld2 ?_
          simp only [Act.put, List.setIfInBounds_toArray, List.set_cons_zero, List.set_cons_succ]
          refine wpAnyH_take (i := 17) (oi := { dst := some 39, op := Op.pick (Operand.tmp 26) (Operand.const (Value.bool true)) (Operand.tmp 38), type := 4, pos := "outright.go:145", after := #[{ on := 4, ground := Ground.data }, { on := 16, ground := Ground.data }], guard := none }) (v := .bool false) rfl (by kernel_rfl) (by kernel_rfl) (by kernel_rfl) (fun _ _ _ h => h) (Or.inl ⟨by rfl, fun W hSw => by (try dsimp only at hSw); go_simp⟩) hHeld2 ?_
          simp only [Act.put, List.setIfInBounds_toArray, List.set_cons_zero, List.set_cons_succ]
          refine wpAnyH_done (by kernel_rfl) ?_ _
          refine NoPanic.normal ?_
          have hfin := PenC.below (D := w1.heap.size) (w0 := w) (neg := true) (s := ⟨#[55]⟩) hHeld2
          go_wp2
          go_roundw
          case rel => exact ⟨hfin, 12, by omega, by go_num⟩
          case measure => simp [intOf]
        · have hdy : Calls Tryd.prog 25 #[.slice (some ⟨wr.heap.size, 0, none⟩) 1 1] (wr.alloc (.cells #[.int .u8 124] 5)) (New (wr.alloc (.cells #[.int .u8 124] 5)) (.tuple #[.agg #[.bool false, .string ⟨#[55]⟩], .bool true])) := hdx
          have HDX := Lib.hid hdy
          clear hdx hdy hlt h9 hk
          rw [show ((12 : Nat) : Int) = 12 from rfl]
          go_wp2_with fail
          refine (HDX.out).mono ?_
          rintro e w1 ⟨rfl, hb⟩
          have hc := cell2_new w1 (.bool false) (.string ⟨#[55]⟩) 26
          have h00 : PenC w w1.heap.size false ⟨#[55]⟩ (w1.alloc (.cells #[.bool false, .string ⟨#[55]⟩] 26)).drew := ⟨⟨keepC hc.1 (Below.refl _ _).drew, keepC hc.2 (Below.refl _ _).drew⟩, bel0 (bel1 HB.out hb) (below_new w1 _).drew, .inl rfl⟩
          have H00 := Lib.hid h00
          clear hc hb h00
          go_wp2
          go_region_held3 (fun W => (W.cell? ⟨w1.heap.size, 0, none⟩ = some (.bool false) ∧ W.cell? ⟨w1.heap.size, 1, none⟩ = some (.string ⟨#[55]⟩)) ∧ CvS w none [] W)
            (first | exact H00.out | exact PenC.next (w0 := w) (D := w1.heap.size) (by assumption) (by assumption))
            (first
              | (go_at_call 28; refine (dec_any _ _ _).mono ?_; rintro e w2 ⟨rfl, hbel⟩))
          have hfin := PenC.below (D := w1.heap.size) (w0 := w) (neg := false) (s := ⟨#[55]⟩) (by assumption)
          go_wp2
          go_roundw
          case rel => exact ⟨hfin, 13, by omega, by go_num⟩
          case measure => simp [intOf]
        · have hdy : Calls Tryd.prog 25 #[.slice (some ⟨wr.heap.size, 0, none⟩) 1 1] (wr.alloc (.cells #[.int .u8 125] 5)) (New (wr.alloc (.cells #[.int .u8 125] 5)) (.tuple #[.agg #[.bool true, .string ⟨#[55]⟩], .bool true])) := hdx
          have HDX := Lib.hid hdy
          clear hdx hdy hlt h9 hk
          rw [show ((13 : Nat) : Int) = 13 from rfl]
          go_wp2_with fail
          refine (HDX.out).mono ?_
          rintro e w1 ⟨rfl, hb⟩
          have hc := cell2_new w1 (.bool true) (.string ⟨#[55]⟩) 26
          have h00 : PenC w w1.heap.size true ⟨#[55]⟩ (w1.alloc (.cells #[.bool true, .string ⟨#[55]⟩] 26)).drew := ⟨⟨keepC hc.1 (Below.refl _ _).drew, keepC hc.2 (Below.refl _ _).drew⟩, bel0 (bel1 HB.out hb) (below_new w1 _).drew, .inl rfl⟩
          have H00 := Lib.hid h00
          clear hc hb h00
          go_wp2
          go_region_held3 (fun W => (W.cell? ⟨w1.heap.size, 0, none⟩ = some (.bool true) ∧ W.cell? ⟨w1.heap.size, 1, none⟩ = some (.string ⟨#[55]⟩)) ∧ CvS w none [] W)
            (first | exact H00.out | exact PenC.next (w0 := w) (D := w1.heap.size) (by assumption) (by assumption))
            (first
              | (go_at_call 28; refine (dec_any _ _ _).mono ?_; rintro e w2 ⟨rfl, hbel⟩))
          have hfin := PenC.below (D := w1.heap.size) (w0 := w) (neg := true) (s := ⟨#[55]⟩) (by assumption)
          go_wp2
          go_roundw
          case rel => exact ⟨hfin, 14, by omega, by go_num⟩
          case measure => simp [intOf]
        · have hdy : Calls Tryd.prog 25 #[.slice (some ⟨wr.heap.size, 0, none⟩) 1 1] (wr.alloc (.cells #[.int .u8 126] 5)) (New (wr.alloc (.cells #[.int .u8 126] 5)) (.tuple #[.agg #[.bool false, .string ⟨#[55]⟩], .bool true])) := hdx
          have HDX := Lib.hid hdy
          clear hdx hdy hlt h9 hk
          rw [show ((14 : Nat) : Int) = 14 from rfl]
          go_wp2_with fail
          refine (HDX.out).mono ?_
          rintro e w1 ⟨rfl, hb⟩
          have hc := cell2_new w1 (.bool false) (.string ⟨#[55]⟩) 26
          have h00 : PenC w w1.heap.size false ⟨#[55]⟩ (w1.alloc (.cells #[.bool false, .string ⟨#[55]⟩] 26)).drew := ⟨⟨keepC hc.1 (Below.refl _ _).drew, keepC hc.2 (Below.refl _ _).drew⟩, bel0 (bel1 HB.out hb) (below_new w1 _).drew, .inl rfl⟩
          have H00 := Lib.hid h00
          clear hc hb h00
          go_wp2
          go_region_held3 (fun W => (W.cell? ⟨w1.heap.size, 0, none⟩ = some (.bool false) ∧ W.cell? ⟨w1.heap.size, 1, none⟩ = some (.string ⟨#[55]⟩)) ∧ CvS w none [] W)
            (first | exact H00.out | exact PenC.next (w0 := w) (D := w1.heap.size) (by assumption) (by assumption))
            (first
              | (go_at_call 28; refine (dec_any _ _ _).mono ?_; rintro e w2 ⟨rfl, hbel⟩))
          have hfin := PenC.below (D := w1.heap.size) (w0 := w) (neg := false) (s := ⟨#[55]⟩) (by assumption)
          go_wp2
          go_roundw
          case rel => exact ⟨hfin, 15, by omega, by go_num⟩
          case measure => simp [intOf]
        · have hdy : Calls Tryd.prog 25 #[.slice (some ⟨wr.heap.size, 0, none⟩) 1 1] (wr.alloc (.cells #[.int .u8 127] 5)) (New (wr.alloc (.cells #[.int .u8 127] 5)) (.tuple #[.agg #[.bool false, .string ⟨#[55]⟩], .bool true])) := hdx
          have HDX := Lib.hid hdy
          clear hdx hdy hlt h9 hk
          rw [show ((15 : Nat) : Int) = 15 from rfl]
          go_wp2_with fail
          refine (HDX.out).mono ?_
          rintro e w1 ⟨rfl, hb⟩
          have hc := cell2_new w1 (.bool false) (.string ⟨#[55]⟩) 26
          have h00 : PenC w w1.heap.size false ⟨#[55]⟩ (w1.alloc (.cells #[.bool false, .string ⟨#[55]⟩] 26)).drew := ⟨⟨keepC hc.1 (Below.refl _ _).drew, keepC hc.2 (Below.refl _ _).drew⟩, bel0 (bel1 HB.out hb) (below_new w1 _).drew, .inl rfl⟩
          have H00 := Lib.hid h00
          clear hc hb h00
          go_wp2
          go_region_held3 (fun W => (W.cell? ⟨w1.heap.size, 0, none⟩ = some (.bool false) ∧ W.cell? ⟨w1.heap.size, 1, none⟩ = some (.string ⟨#[55]⟩)) ∧ CvS w none [] W)
            (first | exact H00.out | exact PenC.next (w0 := w) (D := w1.heap.size) (by assumption) (by assumption))
            (first
              | (go_at_call 28; refine (dec_any _ _ _).mono ?_; rintro e w2 ⟨rfl, hbel⟩))
          have hfin := PenC.below (D := w1.heap.size) (w0 := w) (neg := false) (s := ⟨#[55]⟩) (by assumption)
          go_wp2
          go_roundw
          case rel => exact ⟨hfin, 16, by omega, by go_num⟩
          case measure => simp [intOf]
      · have hn1 : decide (k = 11 ∨ k = 13) = false := decide_eq_false (by omega)
        rw [decide_eq_false h9, if_neg h9, hn1] at hdx
        have HDX := Lib.hid hdx
        have hk9 : decide (9 < (k : Int)) = false := decide_eq_false (by omega)
        clear hdx hn1
        go_wp2_with fail
        refine (HDX.out).mono ?_
        rintro e w1 ⟨rfl, hb⟩
        have HB2 := Lib.hid (bel0 (bel1 HB.out hb) (below_new w1 (.cells #[.bool false, .string ⟨#[]⟩] 26)))
        clear hb
        go_wp2
        go_quiet (fail)
        go_wp2
        go_roundw
        case rel => exact ⟨bel0 HB2.out (belowDraw _ _), k + 1, by omega, by go_num⟩
        case measure => simp [intOf]; omega
    · obtain rfl : k = 16 := by omega
      rw [show ((16 : Nat) : Int) = 16 from rfl]
      have HV0 := HB
      go_wp2_with fail
      refine (dec_any _ _ _).mono ?_
      rintro e v1 ⟨rfl, hb⟩
      have HV1 := Lib.hid (bel0 HV0.out hb)
      clear hb HV0
      go_wp2_with fail
      refine (enc_long _).mono ?_
      rintro e v2 ⟨g, rfl, hq, hb⟩
      have HV2 := Lib.hid (bel0 HV1.out hb)
      have HR2 := Lib.hid hq
      clear hb hq HV1
      go_wp2_with fail
      refine (dec_any _ _ _).mono ?_
      rintro e v3 ⟨rfl, hb⟩
      have HV3 := Lib.hid (bel0 HV2.out hb)
      have HR3 := Lib.hid (HR2.out.below (bel0 (Below.refl _ v2) hb))
      clear hb HV2 HR2
      go_wp2_with fail
      refine (v_0 _).mono ?_
      rintro e v4 ⟨rfl, hb⟩
      have HV4 := Lib.hid (bel0 HV3.out hb)
      have HR4 := Lib.hid (HR3.out.below (bel0 (Below.refl _ v3) hb))
      clear hb HV3 HR3
      go_wp2_with fail
      refine (dec_any _ _ _).mono ?_
      rintro e v5 ⟨rfl, hb⟩
      have HV5 := Lib.hid (bel0 HV4.out hb)
      have HR5 := Lib.hid (HR4.out.below (bel0 (Below.refl _ v4) hb))
      clear hb HV4 HR4
      go_wp2_with fail
      refine (v_1 _).mono ?_
      rintro e v6 ⟨rfl, hb⟩
      have HV6 := Lib.hid (bel0 HV5.out hb)
      have HR6 := Lib.hid (HR5.out.below (bel0 (Below.refl _ v5) hb))
      clear hb HV5 HR5
      go_wp2_with fail
      refine (dec_any _ _ _).mono ?_
      rintro e v7 ⟨rfl, hb⟩
      have HV7 := Lib.hid (bel0 HV6.out hb)
      have HR7 := Lib.hid (HR6.out.below (bel0 (Below.refl _ v6) hb))
      clear hb HV6 HR6
      go_wp2_with fail
      refine (v_2 _).mono ?_
      rintro e v8 ⟨rfl, hb⟩
      have HV8 := Lib.hid (bel0 HV7.out hb)
      have HR8 := Lib.hid (HR7.out.below (bel0 (Below.refl _ v7) hb))
      clear hb HV7 HR7
      go_wp2_with fail
      refine (dec_any _ _ _).mono ?_
      rintro e v9 ⟨rfl, hb⟩
      have HV9 := Lib.hid (bel0 HV8.out hb)
      have HR9 := Lib.hid (HR8.out.below (bel0 (Below.refl _ v8) hb))
      clear hb HV8 HR8
      go_wp2_with fail
      refine (v_3 _).mono ?_
      rintro e v10 ⟨rfl, hb⟩
      have HV10 := Lib.hid (bel0 HV9.out hb)
      have HR10 := Lib.hid (HR9.out.below (bel0 (Below.refl _ v9) hb))
      clear hb HV9 HR9
      go_wp2_with fail
      refine (dec_any _ _ _).mono ?_
      rintro e v11 ⟨rfl, hb⟩
      have HV11 := Lib.hid (bel0 HV10.out hb)
      have HR11 := Lib.hid (HR10.out.below (bel0 (Below.refl _ v10) hb))
      clear hb HV10 HR10
      go_wp2_with fail
      refine (v_4 _).mono ?_
      rintro e v12 ⟨rfl, hb⟩
      have HV12 := Lib.hid (bel0 HV11.out hb)
      have HR12 := Lib.hid (HR11.out.below (bel0 (Below.refl _ v11) hb))
      clear hb HV11 HR11
      go_wp2_with fail
      refine (dec_any _ _ _).mono ?_
      rintro e v13 ⟨rfl, hb⟩
      have HV13 := Lib.hid (bel0 HV12.out hb)
      have HR13 := Lib.hid (HR12.out.below (bel0 (Below.refl _ v12) hb))
      clear hb HV12 HR12
      go_wp2_with fail
      refine (v_5 _).mono ?_
      rintro e v14 ⟨rfl, hb⟩
      have HV14 := Lib.hid (bel0 HV13.out hb)
      have HR14 := Lib.hid (HR13.out.below (bel0 (Below.refl _ v13) hb))
      clear hb HV13 HR13
      go_wp2_with fail
      refine (dec_any _ _ _).mono ?_
      rintro e v15 ⟨rfl, hb⟩
      have HV15 := Lib.hid (bel0 HV14.out hb)
      have HR15 := Lib.hid (HR14.out.below (bel0 (Below.refl _ v14) hb))
      clear hb HV14 HR14
      go_wp2_with fail
      refine (v_6 _).mono ?_
      rintro e v16 ⟨rfl, hb⟩
      have HV16 := Lib.hid (bel0 HV15.out hb)
      have HR16 := Lib.hid (HR15.out.below (bel0 (Below.refl _ v15) hb))
      clear hb HV15 HR15
      have h00 : KnS w g v16.drew := ⟨HV16.out.drew, HR16.out.below (Below.refl _ _).drew⟩
      go_wp2
      refine sizes_region 10 _ v16 w g _ (by simp) h00 ?_
      intro x v17 hk17 hv17
      have h28 : x 28 = .bool true := by simpa [szV] using hv17 28 (by omega)
      simp only [szD, pts, List.setIfInBounds_toArray, List.set_cons_zero, List.set_cons_succ]
      rw [h28]
      have HK17 := Lib.hid hk17
      clear h28 hv17 hk17 h00 HV16 HR16
      go_wp2_with fail
      refine (dec_any _ _ _).mono ?_
      rintro e v18 ⟨rfl, hb⟩
      have HK18 := Lib.hid (HK17.out.next hb)
      clear hb HK17
      go_wp2_with fail
      refine (z_no _).mono ?_
      rintro e v19 ⟨rfl, hb⟩
      have HK19 := Lib.hid (HK18.out.next hb)
      clear hb HK18
      go_wp2_with fail
      refine (works_any _ (HG.out.below HK19.out.1)).mono ?_
      rintro e v20 ⟨rfl, hb⟩
      have HK20 := Lib.hid (HK19.out.next hb)
      clear hb HK19
      have hc0 := rd_cell HK20.out.2 0 (by decide)
      have hc15 := rd_cell HK20.out.2 15 (by decide)
      have hd0 : v20.cell? ⟨g, 0, none⟩ = some (.int .u8 18) := hc0
      have hd15 : v20.cell? ⟨g, 15, none⟩ = some (.int .u8 28) := hc15
      have hmk := make17
      clear hc0 hc15
      go_wp2_with fail
      refine (not_no _ _ _ _ (by decide)).mono ?_
      rintro e v21 ⟨rfl, hb⟩
      have HB21 := Lib.hid (bel0 HK20.out.1 hb)
      clear hb hd0 hd15
      go_wp2_with fail
      refine (not_no _ _ _ _ (by decide)).mono ?_
      rintro e v22 ⟨rfl, hb⟩
      have HB22 := Lib.hid (bel0 (bel0 HB21.out (below_new _ _)) hb)
      clear hb
      go_wp2
      go_ret
      exact ⟨rfl, HB22.out⟩

end Go.Proofs.YtgnaiolbleadbaaDoor.packedKnown

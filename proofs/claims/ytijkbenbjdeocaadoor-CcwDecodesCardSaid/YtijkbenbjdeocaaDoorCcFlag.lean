/- Where a command word has its flags; the byte of the flags; a word with flags. -/
import Derived.Test.YtijkbenbjdeocaaDoorCcOps
import Derived.StillTailTactics
namespace Go.Proofs.YtijkbenbjdeocaaDoor
open Go.RowKit
set_option linter.unusedVariables false
namespace E

/-- The bits of the flags lie as the text lays them. -/
def Fb (w : World) : Prop := w.cell? ⟨0, 0, none⟩ = some (.int .i64 128) ∧ w.cell? ⟨0, 1, none⟩ = some (.int .i64 64) ∧ w.cell? ⟨0, 2, none⟩ = some (.int .i64 32) ∧ w.cell? ⟨0, 3, none⟩ = some (.int .i64 16) ∧ w.cell? ⟨0, 4, none⟩ = some (.int .i64 8)
theorem Fb.below {w w' : World} (h : Fb w) (hb : Below w.heap.size w w') : Fb w' := ⟨keepC h.1 hb, keepC h.2.1 hb, keepC h.2.2.1 hb, keepC h.2.2.2.1 hb, keepC h.2.2.2.2 hb⟩
theorem bel_drew (w : World) : Below w.heap.size w w.drew := (Below.refl _ w).drew
theorem put5_at {W : World} {g : Nat} {t : TypeId} {a0 a1 a2 a3 a4 : Value} (h : Bx W g t #[a0, a1, a2, a3, a4]) (v0 v1 v2 v3 v4 : Value) : Bx (((((W.setCell ⟨g, 0, none⟩ v0).setCell ⟨g, 1, none⟩ v1).setCell ⟨g, 2, none⟩ v2).setCell ⟨g, 3, none⟩ v3).setCell ⟨g, 4, none⟩ v4) g t #[v0, v1, v2, v3, v4] := by
  have h := ((((h.set 0 v0).set 1 v1).set 2 v2).set 3 v3).set 4 v4
  simp only [List.setIfInBounds_toArray, List.set_cons_zero, List.set_cons_succ] at h
  exact h
theorem put5_below {w W : World} {B g : Nat} (h : Below B w W) (hg : B ≤ g) (v0 v1 v2 v3 v4 : Value) : Below B w (((((W.setCell ⟨g, 0, none⟩ v0).setCell ⟨g, 1, none⟩ v1).setCell ⟨g, 2, none⟩ v2).setCell ⟨g, 3, none⟩ v3).setCell ⟨g, 4, none⟩ v4) :=
  ((((h.setCell (p := ⟨g, 0, none⟩) hg _).setCell (p := ⟨g, 1, none⟩) hg _).setCell (p := ⟨g, 2, none⟩) hg _).setCell (p := ⟨g, 3, none⟩) hg _).setCell (p := ⟨g, 4, none⟩) hg _
set_option maxRecDepth 100000 in
theorem flags_any (G : Nat) (w : World) : Calls Tryd.prog 38 #[.pointer (some ⟨G, 0, none⟩)] w (New w (.agg #[.pointer (some ⟨G, 2, none⟩), .pointer (some ⟨G, 3, none⟩), .pointer (some ⟨G, 4, none⟩), .pointer (some ⟨G, 5, none⟩), .pointer (some ⟨G, 6, none⟩)])) := by
  go_enter Tryd.func38, Tryd.ntmps38
  go_wp2_with fail
  go_still_tail 16, (by kernel_rfl)
  change wpList _ _ _ _ _ (World.drew _)
  go_wp2
  refine bodyPost_ret (results_cell_row rfl _ _ w.heap.size _ _ _ _ rfl ((Bx.new w 63 #[.pointer (some ⟨G, 2, none⟩), .pointer (some ⟨G, 3, none⟩), .pointer (some ⟨G, 4, none⟩), .pointer (some ⟨G, 5, none⟩), .pointer (some ⟨G, 6, none⟩)]).below (bel_drew _)) Tryd.underlying63 rfl (by kernel_rfl)) rfl ?_
  exact ⟨rfl, (below_new w _).drew⟩
/-- The bits of the first k flags. -/
def flK (Q : Cw) : Nat → Int
  | 0 => 0
  | 1 => fl Q.cd 128
  | 2 => fl Q.cd 128 + fl Q.cc 64
  | 3 => fl Q.cd 128 + fl Q.cc 64 + fl Q.sl 32
  | 4 => fl Q.cd 128 + fl Q.cc 64 + fl Q.sl 32 + fl Q.sk 16
  | _ => fl Q.cd 128 + fl Q.cc 64 + fl Q.sl 32 + fl Q.sk 16 + fl Q.pc 8
theorem or_f0 : bits .or .i64 0 128 = fl true 128 := by decide
theorem or_f1 (a : Bool) : bits .or .i64 (fl a 128) 64 = fl a 128 + fl true 64 := by cases a <;> decide
theorem or_f2 (a b : Bool) : bits .or .i64 (fl a 128 + fl b 64) 32 = fl a 128 + fl b 64 + fl true 32 := by cases a <;> cases b <;> decide
theorem or_f3 (a b c : Bool) : bits .or .i64 (fl a 128 + fl b 64 + fl c 32) 16 = fl a 128 + fl b 64 + fl c 32 + fl true 16 := by cases a <;> cases b <;> cases c <;> decide
theorem or_f4 (a b c d : Bool) : bits .or .i64 (fl a 128 + fl b 64 + fl c 32 + fl d 16) 8 = fl a 128 + fl b 64 + fl c 32 + fl d 16 + fl true 8 := by cases a <;> cases b <;> cases c <;> cases d <;> decide
/-- A command word in its box, and where its flags are. -/
structure Fg (w : World) (E G : Nat) (Q : Cw) : Prop where
  box : Bx w E 26 #[.int .i64 Q.o, .int .i64 Q.a, .bool Q.cd, .bool Q.cc, .bool Q.sl, .bool Q.sk, .bool Q.pc, .int .i64 Q.n]
  at' : Bx w G 63 #[.pointer (some ⟨E, 2, none⟩), .pointer (some ⟨E, 3, none⟩), .pointer (some ⟨E, 4, none⟩), .pointer (some ⟨E, 5, none⟩), .pointer (some ⟨E, 6, none⟩)]
  fb : Fb w
set_option maxRecDepth 100000 in
theorem flagByte_any (Q : Cw) (w : World) (hf : Fb w) : Calls Tryd.prog 29 #[Q.v] w (New w (.int .i64 (flI Q))) := by
  have HF := Lib.hid (flags_any w.heap.size (w.alloc (.cells #[.int .i64 Q.o, .int .i64 Q.a, .bool Q.cd, .bool Q.cc, .bool Q.sl, .bool Q.sk, .bool Q.pc, .int .i64 Q.n] 26)))
  have HB := Lib.hid (below_new w (.cells #[.int .i64 Q.o, .int .i64 Q.a, .bool Q.cd, .bool Q.cc, .bool Q.sl, .bool Q.sk, .bool Q.pc, .int .i64 Q.n] 26))
  have HX := Lib.hid (Bx.new w 26 #[.int .i64 Q.o, .int .i64 Q.a, .bool Q.cd, .bool Q.cc, .bool Q.sl, .bool Q.sk, .bool Q.pc, .int .i64 Q.n])
  have HFb := Lib.hid (hf.below (below_new w (.cells #[.int .i64 Q.o, .int .i64 Q.a, .bool Q.cd, .bool Q.cc, .bool Q.sl, .bool Q.sk, .bool Q.pc, .int .i64 Q.n] 26)))
  clear hf
  unfold Cw.v
  go_enter Tryd.func29, Tryd.ntmps29
  go_wp2_with fail
  refine HF.out.mono ?_
  rintro e w2 ⟨rfl, hb⟩
  go_wp2
  obtain ⟨W0, hW0⟩ : ∃ W0, W0 = w2.alloc (.cells #[.pointer (some ⟨w.heap.size, 2, none⟩), .pointer (some ⟨w.heap.size, 3, none⟩), .pointer (some ⟨w.heap.size, 4, none⟩), .pointer (some ⟨w.heap.size, 5, none⟩), .pointer (some ⟨w.heap.size, 6, none⟩)] 63) := ⟨_, rfl⟩
  have hg : Fg W0 w.heap.size w2.heap.size Q := by
    subst hW0
    exact ⟨(HX.out.below hb).below (below_new _ _), Bx.new _ _ _, (HFb.out.below hb).below (below_new _ _)⟩
  have HR : Hid (Below w.heap.size w W0) := Lib.hid (by
    subst hW0
    exact bel0 (bel0 HB.out hb) (below_new _ _))
  rw [← hW0]
  clear hW0 hb HF HB HX HFb
  generalize w.heap.size = E at hg ⊢
  generalize w2.heap.size = G at hg ⊢
  have c0 := hg.at'.cell 0
  have d0 := hg.box.cell 2
  have c1 := hg.at'.cell 1
  have d1 := hg.box.cell 3
  have c2 := hg.at'.cell 2
  have d2 := hg.box.cell 4
  have c3 := hg.at'.cell 3
  have d3 := hg.box.cell 5
  have c4 := hg.at'.cell 4
  have d4 := hg.box.cell 6
  obtain ⟨f0, f1, f2, f3, f4⟩ := hg.fb
  change _ = some (Value.pointer (some ⟨E, 2, none⟩)) at c0
  change _ = some (Value.bool Q.cd) at d0
  change _ = some (Value.pointer (some ⟨E, 3, none⟩)) at c1
  change _ = some (Value.bool Q.cc) at d1
  change _ = some (Value.pointer (some ⟨E, 4, none⟩)) at c2
  change _ = some (Value.bool Q.sl) at d2
  change _ = some (Value.pointer (some ⟨E, 5, none⟩)) at c3
  change _ = some (Value.bool Q.sk) at d3
  change _ = some (Value.pointer (some ⟨E, 6, none⟩)) at c4
  change _ = some (Value.bool Q.pc) at d4
  clear hg
  go_loop [4, 5, 7] (fun s _ i => ∃ k : Nat, k ≤ 5 ∧ i = .int .i64 (k : Int) ∧ s = .int .i64 (flK Q k)) (fun _ _ i => 5 - (intOf i).toNat)
  case atStart => exact ⟨0, Nat.zero_le _, rfl, rfl⟩
  case round =>
    obtain ⟨k, hk, rfl, rfl⟩ := hrel
    match k, hk with
    | 0, _ =>
      have HT : Hid (Q.cd = true → bits .or .i64 (flK Q 0) 128 = flK Q 1) := Lib.hid (fun h => by
        unfold flK
        rw [h]
        exact or_f0)
      have HN : Hid (Q.cd = false → flK Q 0 = flK Q 1) := Lib.hid (fun h => by
        unfold flK
        rw [h]
        rfl)
      generalize flK Q 0 = s at *
      obtain ⟨b, hb⟩ : ∃ b, Q.cd = b := ⟨_, rfl⟩
      rw [hb] at d0 HT HN
      clear hb
      cases b with
      | true =>
        have HS := Lib.hid (HT.out rfl)
        clear HT HN
        go_wp2
        go_round
        case rel => exact ⟨1, by decide, by go_num, by rw [HS.out]⟩
        case measure => simp [intOf]
      | false =>
        have HS := Lib.hid (HN.out rfl)
        clear HT HN
        go_wp2
        go_round
        case rel => exact ⟨1, by decide, by go_num, by rw [HS.out]⟩
        case measure => simp [intOf]
    | 1, _ =>
      have HT : Hid (Q.cc = true → bits .or .i64 (flK Q 1) 64 = flK Q 2) := Lib.hid (fun h => by
        unfold flK
        rw [h]
        exact or_f1 Q.cd)
      have HN : Hid (Q.cc = false → flK Q 1 = flK Q 2) := Lib.hid (fun h => by
        unfold flK
        rw [h]
        exact (Int.add_zero _).symm)
      generalize flK Q 1 = s at *
      obtain ⟨b, hb⟩ : ∃ b, Q.cc = b := ⟨_, rfl⟩
      rw [hb] at d1 HT HN
      clear hb
      cases b with
      | true =>
        have HS := Lib.hid (HT.out rfl)
        clear HT HN
        go_wp2
        go_round
        case rel => exact ⟨2, by decide, by go_num, by rw [HS.out]⟩
        case measure => simp [intOf]
      | false =>
        have HS := Lib.hid (HN.out rfl)
        clear HT HN
        go_wp2
        go_round
        case rel => exact ⟨2, by decide, by go_num, by rw [HS.out]⟩
        case measure => simp [intOf]
    | 2, _ =>
      have HT : Hid (Q.sl = true → bits .or .i64 (flK Q 2) 32 = flK Q 3) := Lib.hid (fun h => by
        unfold flK
        rw [h]
        exact or_f2 Q.cd Q.cc)
      have HN : Hid (Q.sl = false → flK Q 2 = flK Q 3) := Lib.hid (fun h => by
        unfold flK
        rw [h]
        exact (Int.add_zero _).symm)
      generalize flK Q 2 = s at *
      obtain ⟨b, hb⟩ : ∃ b, Q.sl = b := ⟨_, rfl⟩
      rw [hb] at d2 HT HN
      clear hb
      cases b with
      | true =>
        have HS := Lib.hid (HT.out rfl)
        clear HT HN
        go_wp2
        go_round
        case rel => exact ⟨3, by decide, by go_num, by rw [HS.out]⟩
        case measure => simp [intOf]
      | false =>
        have HS := Lib.hid (HN.out rfl)
        clear HT HN
        go_wp2
        go_round
        case rel => exact ⟨3, by decide, by go_num, by rw [HS.out]⟩
        case measure => simp [intOf]
    | 3, _ =>
      have HT : Hid (Q.sk = true → bits .or .i64 (flK Q 3) 16 = flK Q 4) := Lib.hid (fun h => by
        unfold flK
        rw [h]
        exact or_f3 Q.cd Q.cc Q.sl)
      have HN : Hid (Q.sk = false → flK Q 3 = flK Q 4) := Lib.hid (fun h => by
        unfold flK
        rw [h]
        exact (Int.add_zero _).symm)
      generalize flK Q 3 = s at *
      obtain ⟨b, hb⟩ : ∃ b, Q.sk = b := ⟨_, rfl⟩
      rw [hb] at d3 HT HN
      clear hb
      cases b with
      | true =>
        have HS := Lib.hid (HT.out rfl)
        clear HT HN
        go_wp2
        go_round
        case rel => exact ⟨4, by decide, by go_num, by rw [HS.out]⟩
        case measure => simp [intOf]
      | false =>
        have HS := Lib.hid (HN.out rfl)
        clear HT HN
        go_wp2
        go_round
        case rel => exact ⟨4, by decide, by go_num, by rw [HS.out]⟩
        case measure => simp [intOf]
    | 4, _ =>
      have HT : Hid (Q.pc = true → bits .or .i64 (flK Q 4) 8 = flK Q 5) := Lib.hid (fun h => by
        unfold flK
        rw [h]
        exact or_f4 Q.cd Q.cc Q.sl Q.sk)
      have HN : Hid (Q.pc = false → flK Q 4 = flK Q 5) := Lib.hid (fun h => by
        unfold flK
        rw [h]
        exact (Int.add_zero _).symm)
      generalize flK Q 4 = s at *
      obtain ⟨b, hb⟩ : ∃ b, Q.pc = b := ⟨_, rfl⟩
      rw [hb] at d4 HT HN
      clear hb
      cases b with
      | true =>
        have HS := Lib.hid (HT.out rfl)
        clear HT HN
        go_wp2
        go_round
        case rel => exact ⟨5, by decide, by go_num, by rw [HS.out]⟩
        case measure => simp [intOf]
      | false =>
        have HS := Lib.hid (HN.out rfl)
        clear HT HN
        go_wp2
        go_round
        case rel => exact ⟨5, by decide, by go_num, by rw [HS.out]⟩
        case measure => simp [intOf]
    | 5, _ =>
      go_wp2
      go_ret
      exact ⟨rfl, HR.out⟩
/-- The word when its first k flags are set by the bits of x. -/
def wfC (Q : Cw) (x : Int) (k : Nat) : Array Value := #[.int .i64 Q.o, .int .i64 Q.a, .bool (if 0 < k then bt x 128 else Q.cd), .bool (if 1 < k then bt x 64 else Q.cc), .bool (if 2 < k then bt x 32 else Q.sl), .bool (if 3 < k then bt x 16 else Q.sk), .bool (if 4 < k then bt x 8 else Q.pc), .int .i64 Q.n]
def wfQ (Q : Cw) (x : Int) : Cw := ⟨Q.o, Q.a, bt x 128, bt x 64, bt x 32, bt x 16, bt x 8, Q.n⟩
theorem put8_at {W : World} {g : Nat} {t : TypeId} {a0 a1 a2 a3 a4 a5 a6 a7 : Value} (h : Bx W g t #[a0, a1, a2, a3, a4, a5, a6, a7]) (v0 v1 v2 v3 v4 v5 v6 v7 : Value) : Bx ((((((((W.setCell ⟨g, 0, none⟩ v0).setCell ⟨g, 1, none⟩ v1).setCell ⟨g, 2, none⟩ v2).setCell ⟨g, 3, none⟩ v3).setCell ⟨g, 4, none⟩ v4).setCell ⟨g, 5, none⟩ v5).setCell ⟨g, 6, none⟩ v6).setCell ⟨g, 7, none⟩ v7) g t #[v0, v1, v2, v3, v4, v5, v6, v7] := by
  have h := (((((((h.set 0 v0).set 1 v1).set 2 v2).set 3 v3).set 4 v4).set 5 v5).set 6 v6).set 7 v7
  simp only [List.setIfInBounds_toArray, List.set_cons_zero, List.set_cons_succ] at h
  exact h
theorem put8_below {w W : World} {B g : Nat} (h : Below B w W) (hg : B ≤ g) (v0 v1 v2 v3 v4 v5 v6 v7 : Value) : Below B w ((((((((W.setCell ⟨g, 0, none⟩ v0).setCell ⟨g, 1, none⟩ v1).setCell ⟨g, 2, none⟩ v2).setCell ⟨g, 3, none⟩ v3).setCell ⟨g, 4, none⟩ v4).setCell ⟨g, 5, none⟩ v5).setCell ⟨g, 6, none⟩ v6).setCell ⟨g, 7, none⟩ v7) :=
  (((((((h.setCell (p := ⟨g, 0, none⟩) hg _).setCell (p := ⟨g, 1, none⟩) hg _).setCell (p := ⟨g, 2, none⟩) hg _).setCell (p := ⟨g, 3, none⟩) hg _).setCell (p := ⟨g, 4, none⟩) hg _).setCell (p := ⟨g, 5, none⟩) hg _).setCell (p := ⟨g, 6, none⟩) hg _).setCell (p := ⟨g, 7, none⟩) hg _
/-- The world of withFlags' loop. -/
structure Wf (w W : World) (E G P : Nat) (Q : Cw) (x : Int) (k : Nat) : Prop where
  box : Bx W E 26 (wfC Q x k)
  at' : Bx W G 63 #[.pointer (some ⟨E, 2, none⟩), .pointer (some ⟨E, 3, none⟩), .pointer (some ⟨E, 4, none⟩), .pointer (some ⟨E, 5, none⟩), .pointer (some ⟨E, 6, none⟩)]
  res : Bx W P 26 #[.int .i64 0, .int .i64 0, .bool false, .bool false, .bool false, .bool false, .bool false, .int .i64 0]
  bel : Below w.heap.size w W
  ge : w.heap.size ≤ E
  ne : E ≠ G
  nr : E ≠ P
  gp : w.heap.size ≤ P
set_option maxRecDepth 100000 in
theorem withFlags_any (Q : Cw) (x : UInt8) (w : World) (hf : Fb w) : Calls Tryd.prog 34 #[Q.v, .int .i64 (x.toNat : Int)] w (New w (wfQ Q (x.toNat : Int)).v) := by
  have HF := Lib.hid (fun W => flags_any w.heap.size W)
  have HB := Lib.hid (below2 w (.cells #[.int .i64 Q.o, .int .i64 Q.a, .bool Q.cd, .bool Q.cc, .bool Q.sl, .bool Q.sk, .bool Q.pc, .int .i64 Q.n] 26) (.cells #[.int .i64 0, .int .i64 0, .bool false, .bool false, .bool false, .bool false, .bool false, .int .i64 0] 26))
  have HX := Lib.hid ((Bx.new w 26 #[.int .i64 Q.o, .int .i64 Q.a, .bool Q.cd, .bool Q.cc, .bool Q.sl, .bool Q.sk, .bool Q.pc, .int .i64 Q.n]).below (below_new _ (.cells #[.int .i64 0, .int .i64 0, .bool false, .bool false, .bool false, .bool false, .bool false, .int .i64 0] 26)))
  have HP : Hid (Bx ((w.alloc (.cells #[.int .i64 Q.o, .int .i64 Q.a, .bool Q.cd, .bool Q.cc, .bool Q.sl, .bool Q.sk, .bool Q.pc, .int .i64 Q.n] 26)).alloc (.cells #[.int .i64 0, .int .i64 0, .bool false, .bool false, .bool false, .bool false, .bool false, .int .i64 0] 26)) (w.heap.size + 1) 26 #[.int .i64 0, .int .i64 0, .bool false, .bool false, .bool false, .bool false, .bool false, .int .i64 0]) := Lib.hid (by
    have h := Bx.new (w.alloc (.cells #[.int .i64 Q.o, .int .i64 Q.a, .bool Q.cd, .bool Q.cc, .bool Q.sl, .bool Q.sk, .bool Q.pc, .int .i64 Q.n] 26)) 26 #[.int .i64 0, .int .i64 0, .bool false, .bool false, .bool false, .bool false, .bool false, .int .i64 0]
    rw [World.size_alloc] at h
    exact h)
  have HBT := Lib.hid (bt_bits x)
  have HFb := Lib.hid hf
  clear hf
  unfold Cw.v wfQ
  obtain ⟨z, hz⟩ : ∃ z : Int, (x.toNat : Int) = z := ⟨_, rfl⟩
  simp only [hz] at HBT ⊢
  clear hz
  go_enter Tryd.func34, Tryd.ntmps34
  go_wp2_with fail
  refine (HF.out _).mono ?_
  rintro e w2 ⟨rfl, hb⟩
  have hs := hb.size
  rw [World.size_alloc, World.size_alloc] at hs
  go_wp2
  obtain ⟨W0, hW0⟩ : ∃ W0, W0 = w2.alloc (.cells #[.pointer (some ⟨w.heap.size, 2, none⟩), .pointer (some ⟨w.heap.size, 3, none⟩), .pointer (some ⟨w.heap.size, 4, none⟩), .pointer (some ⟨w.heap.size, 5, none⟩), .pointer (some ⟨w.heap.size, 6, none⟩)] 63) := ⟨_, rfl⟩
  have hg : Wf w W0 w.heap.size w2.heap.size (w.heap.size + 1) Q z 0 := by
    subst hW0
    exact ⟨(HX.out.below hb).below (below_new _ _), Bx.new _ _ _, (HP.out.below hb).below (below_new _ _), bel0 (bel0 HB.out hb) (below_new _ _), Nat.le_refl _, by omega, by omega, by omega⟩
  rw [← hW0]
  have HG := Lib.hid hg
  clear hW0 hb hg HF HB HX HP hs
  generalize hE : w.heap.size = E at *
  generalize w2.heap.size = G at *
  clear hE
  obtain ⟨P, hP⟩ : ∃ P, P = E + 1 := ⟨_, rfl⟩
  simp only [← hP] at HG ⊢
  clear hP
  go_loopw [6, 8] (fun _ i wr => ∃ k : Nat, k ≤ 5 ∧ i = .int .i64 (k : Int) ∧ Hid (Wf w wr E G P Q z k)) (fun _ i _ => 5 - (intOf i).toNat)
  case atStart => exact ⟨0, Nat.zero_le _, rfl, HG⟩
  case round =>
    clear HG
    obtain ⟨k, hk, rfl, hw⟩ := hrel
    have hfb := HFb.out.below hw.out.bel
    match k, hk with
    | 0, _ =>
      have cg := hw.out.at'.cell 0
      change _ = some (Value.pointer (some ⟨E, 2, none⟩)) at cg
      have ce := hw.out.box.cell 2
      change _ = some (Value.bool Q.cd) at ce
      have fe := hw.out.box.frozen 2
      have cf := hfb.1
      have HV := Lib.hid HBT.out.1
      clear hfb
      go_wp2_with fail
      go_still_tail 10, (by kernel_rfl)
      change wpList _ _ _ _ _ wr.drew
      go_wp2
      go_roundw
      case rel =>
        refine ⟨1, by decide, by go_num, Lib.hid ?_⟩
        have h := hw.out
        refine ⟨?_, (h.at'.below (bel_drew _)).far h.ne _, (h.res.below (bel_drew _)).far h.nr _, (h.bel.drew).setCell (p := ⟨E, 2, none⟩) h.ge _, h.ge, h.ne, h.nr, h.gp⟩
        rw [HV.out]
        exact (h.box.below (bel_drew _)).set 2 _
      case measure => simp [intOf]
    | 1, _ =>
      have cg := hw.out.at'.cell 1
      change _ = some (Value.pointer (some ⟨E, 3, none⟩)) at cg
      have ce := hw.out.box.cell 3
      change _ = some (Value.bool Q.cc) at ce
      have fe := hw.out.box.frozen 3
      have cf := hfb.2.1
      have HV := Lib.hid HBT.out.2.1
      clear hfb
      go_wp2_with fail
      go_still_tail 10, (by kernel_rfl)
      change wpList _ _ _ _ _ wr.drew
      go_wp2
      go_roundw
      case rel =>
        refine ⟨2, by decide, by go_num, Lib.hid ?_⟩
        have h := hw.out
        refine ⟨?_, (h.at'.below (bel_drew _)).far h.ne _, (h.res.below (bel_drew _)).far h.nr _, (h.bel.drew).setCell (p := ⟨E, 3, none⟩) h.ge _, h.ge, h.ne, h.nr, h.gp⟩
        rw [HV.out]
        exact (h.box.below (bel_drew _)).set 3 _
      case measure => simp [intOf]
    | 2, _ =>
      have cg := hw.out.at'.cell 2
      change _ = some (Value.pointer (some ⟨E, 4, none⟩)) at cg
      have ce := hw.out.box.cell 4
      change _ = some (Value.bool Q.sl) at ce
      have fe := hw.out.box.frozen 4
      have cf := hfb.2.2.1
      have HV := Lib.hid HBT.out.2.2.1
      clear hfb
      go_wp2_with fail
      go_still_tail 10, (by kernel_rfl)
      change wpList _ _ _ _ _ wr.drew
      go_wp2
      go_roundw
      case rel =>
        refine ⟨3, by decide, by go_num, Lib.hid ?_⟩
        have h := hw.out
        refine ⟨?_, (h.at'.below (bel_drew _)).far h.ne _, (h.res.below (bel_drew _)).far h.nr _, (h.bel.drew).setCell (p := ⟨E, 4, none⟩) h.ge _, h.ge, h.ne, h.nr, h.gp⟩
        rw [HV.out]
        exact (h.box.below (bel_drew _)).set 4 _
      case measure => simp [intOf]
    | 3, _ =>
      have cg := hw.out.at'.cell 3
      change _ = some (Value.pointer (some ⟨E, 5, none⟩)) at cg
      have ce := hw.out.box.cell 5
      change _ = some (Value.bool Q.sk) at ce
      have fe := hw.out.box.frozen 5
      have cf := hfb.2.2.2.1
      have HV := Lib.hid HBT.out.2.2.2.1
      clear hfb
      go_wp2_with fail
      go_still_tail 10, (by kernel_rfl)
      change wpList _ _ _ _ _ wr.drew
      go_wp2
      go_roundw
      case rel =>
        refine ⟨4, by decide, by go_num, Lib.hid ?_⟩
        have h := hw.out
        refine ⟨?_, (h.at'.below (bel_drew _)).far h.ne _, (h.res.below (bel_drew _)).far h.nr _, (h.bel.drew).setCell (p := ⟨E, 5, none⟩) h.ge _, h.ge, h.ne, h.nr, h.gp⟩
        rw [HV.out]
        exact (h.box.below (bel_drew _)).set 5 _
      case measure => simp [intOf]
    | 4, _ =>
      have cg := hw.out.at'.cell 4
      change _ = some (Value.pointer (some ⟨E, 6, none⟩)) at cg
      have ce := hw.out.box.cell 6
      change _ = some (Value.bool Q.pc) at ce
      have fe := hw.out.box.frozen 6
      have cf := hfb.2.2.2.2
      have HV := Lib.hid HBT.out.2.2.2.2
      clear hfb
      go_wp2_with fail
      go_still_tail 10, (by kernel_rfl)
      change wpList _ _ _ _ _ wr.drew
      go_wp2
      go_roundw
      case rel =>
        refine ⟨5, by decide, by go_num, Lib.hid ?_⟩
        have h := hw.out
        refine ⟨?_, (h.at'.below (bel_drew _)).far h.ne _, (h.res.below (bel_drew _)).far h.nr _, (h.bel.drew).setCell (p := ⟨E, 6, none⟩) h.ge _, h.ge, h.ne, h.nr, h.gp⟩
        rw [HV.out]
        exact (h.box.below (bel_drew _)).set 6 _
      case measure => simp [intOf]
    | 5, _ =>
      clear hfb
      have e0 := hw.out.box.cell 0
      change _ = some (Value.int .i64 Q.o) at e0
      have r0 := hw.out.res.cell 0
      have q0 := hw.out.res.frozen 0
      change _ = some (Value.int .i64 0) at r0
      have e1 := hw.out.box.cell 1
      change _ = some (Value.int .i64 Q.a) at e1
      have r1 := hw.out.res.cell 1
      have q1 := hw.out.res.frozen 1
      change _ = some (Value.int .i64 0) at r1
      have e2 := hw.out.box.cell 2
      change _ = some (Value.bool (bt z 128)) at e2
      have r2 := hw.out.res.cell 2
      have q2 := hw.out.res.frozen 2
      change _ = some (Value.bool false) at r2
      have e3 := hw.out.box.cell 3
      change _ = some (Value.bool (bt z 64)) at e3
      have r3 := hw.out.res.cell 3
      have q3 := hw.out.res.frozen 3
      change _ = some (Value.bool false) at r3
      have e4 := hw.out.box.cell 4
      change _ = some (Value.bool (bt z 32)) at e4
      have r4 := hw.out.res.cell 4
      have q4 := hw.out.res.frozen 4
      change _ = some (Value.bool false) at r4
      have e5 := hw.out.box.cell 5
      change _ = some (Value.bool (bt z 16)) at e5
      have r5 := hw.out.res.cell 5
      have q5 := hw.out.res.frozen 5
      change _ = some (Value.bool false) at r5
      have e6 := hw.out.box.cell 6
      change _ = some (Value.bool (bt z 8)) at e6
      have r6 := hw.out.res.cell 6
      have q6 := hw.out.res.frozen 6
      change _ = some (Value.bool false) at r6
      have e7 := hw.out.box.cell 7
      change _ = some (Value.int .i64 Q.n) at e7
      have r7 := hw.out.res.cell 7
      have q7 := hw.out.res.frozen 7
      change _ = some (Value.int .i64 0) at r7
      go_wp2
      refine bodyPost_ret (results_cell_row rfl _ _ P _ _ _ _ rfl (put8_at hw.out.res _ _ _ _ _ _ _ _) Tryd.underlying26 rfl (by kernel_rfl)) rfl ?_
      exact ⟨rfl, put8_below hw.out.bel hw.out.gp _ _ _ _ _ _ _ _⟩

end E
end Go.Proofs.YtijkbenbjdeocaaDoor

/- One call, of the program and of the given answers. -/
import Derived.Test.YtnnpnklbhghegaaStAlike
namespace Go.Proofs.Ytnnpnklbhghegaa
open Go.RowKit Go.Shelf
set_option linter.unusedVariables false
namespace E

/-- A slice, cut to 5000. -/
def cutV : Value → Value
  | .slice p k c => if 5000 < k then .slice p 5000 c else .slice p k c
  | v => v
theorem cutV_sv {W : World} {v : Value} {b : List UInt8} (h : SvB W v b) : SvB W (cutV v) (b.take 5000) := by
  obtain ⟨p, c, rfl, hr, hc, hm, hn⟩ := h
  unfold cutV
  by_cases h5 : 5000 < b.length
  · have hl : (b.take 5000).length = 5000 := by rw [List.length_take]; omega
    dsimp only
    rw [if_pos h5]
    exact ⟨p, c, by rw [hl], hr.take 5000, by omega, hm, hn⟩
  · dsimp only
    rw [if_neg h5, List.take_of_length_le (by omega)]
    exact ⟨p, c, rfl, hr, hc, hm, hn⟩
theorem bx5 {W : World} {D : Nat} {t : TypeId} {v0 v1 v2 v3 v4 : Value} (h : Bx W D t #[v0, v1, v2, v3, v4]) : W.cell? ⟨D, 0, none⟩ = some v0 ∧ W.cell? ⟨D, 1, none⟩ = some v1 ∧ W.cell? ⟨D, 2, none⟩ = some v2 ∧ W.cell? ⟨D, 3, none⟩ = some v3 ∧ W.cell? ⟨D, 4, none⟩ = some v4 := ⟨h.cell 0, h.cell 1, h.cell 2, h.cell 3, h.cell 4⟩
set_option maxRecDepth 100000 in
theorem bytes_op (kd : UInt8) (x k key : Int) (bv : Value) (b : List UInt8) (hv : ∃ W, SvB W bv b) (w : World) : Calls Try.prog 28 #[.agg #[.int .u8 (kd.toNat : Int), .int .i64 x, .int .i64 k, .int .i64 key, bv]] w (New w (cutV bv)) := by
  obtain ⟨W, p, c, rfl, -, hc, -, -⟩ := hv
  obtain ⟨d0, d1, d2, d3, d4⟩ := bx5 (Bx.new w 31 #[.int .u8 (kd.toNat : Int), .int .i64 x, .int .i64 k, .int .i64 key, .slice p b.length c])
  show Calls _ _ _ w (New w (if 5000 < b.length then .slice p 5000 c else .slice p b.length c))
  generalize b.length = n at *
  by_cases h5 : 5000 < n
  · rw [if_pos h5]
    have h5' : (5000 : Int) < (n : Int) := by omega
    have hc5 : 5000 ≤ c := by omega
    clear h5 hc
    go_enter Try.func28, Try.ntmps28
    go_wp2
    go_ret
    exact ⟨rfl, below_new _ _⟩
  · rw [if_neg h5]
    have h5' : ¬ (5000 : Int) < (n : Int) := by omega
    clear h5 hc
    go_enter Try.func28, Try.ntmps28
    go_wp2
    go_ret
    exact ⟨rfl, below_new _ _⟩
/-- What a call leaves: both answer alike, and are alike. -/
def OnePost (w : World) (a g h n m ra g2 h2 c d : Nat) (e : Ending) (w' : World) : Prop := e = .returned (.bool true) ∧ ∃ bs ks, Sto w' a g h n m bs ks ∧ Rfs w' ra g2 h2 n m c d bs ks ∧ Kp w w' [g, h, g2, h2]
theorem apart_of {w : World} {a g h n m ra g2 h2 c d : Nat} {bs ks bs2 ks2 : List UInt8} (s : Sto w a g h n m bs ks) (r : Rfs w ra g2 h2 n m c d bs2 ks2) (hg : g ≠ g2) :
    (ra ≠ g ∧ g2 ≠ g ∧ h2 ≠ g) ∧ (ra ≠ h ∧ g2 ≠ h ∧ h2 ≠ h) ∧ (a ≠ g2 ∧ g ≠ g2 ∧ h ≠ g2) ∧ (a ≠ h2 ∧ g ≠ h2 ∧ h ≠ h2) :=
  ⟨⟨r.1.row.ne s.2.1 (by decide), hg.symm, r.2.2.1.ne s.2.1 (by decide)⟩, ⟨r.1.row.ne s.2.2.1 (by decide), r.2.1.ne s.2.2.1 (by decide), r.2.2.1.ne s.2.2.1 (by decide)⟩,
    ⟨s.1.row.ne r.2.1 (by decide), hg, s.2.2.1.ne r.2.1 (by decide)⟩, ⟨s.1.row.ne r.2.2.1 (by decide), s.2.1.ne r.2.2.1 (by decide), s.2.2.1.ne r.2.2.1 (by decide)⟩⟩
set_option maxRecDepth 100000 in
set_option maxHeartbeats 2000000 in
theorem one_0 (kd : UInt8) (x k key : Int) (bv : Value) (b bs ks : List UInt8) (a g h n m ra g2 h2 c d : Nat) (w : World) (hx : x ≤ 9223372036854775807) (hst : Sto w a g h n m bs ks) (hrf : Rfs w ra g2 h2 n m c d bs ks) (hgg : g ≠ g2) (hsv : ∃ W, SvB W bv b) (hv : ∀ W, Kp w W [g, h, g2, h2] → SvB W (cutV bv) (b.take 5000)) (hkd : kd.toNat % 6 = 0) :
    Calls Try.prog 13 #[.pointer (some ⟨a, 0, none⟩), .pointer (some ⟨ra, 0, none⟩), .agg #[.int .u8 (kd.toNat : Int), .int .i64 x, .int .i64 k, .int .i64 key, bv]] w (OnePost w a g h n m ra g2 h2 c d) := by
  have HBX := Lib.hid (Bx.new w 31 #[.int .u8 (kd.toNat : Int), .int .i64 x, .int .i64 k, .int .i64 key, bv])
  have HBY := Lib.hid (bytes_op kd x k key bv b hsv)
  have HD : Hid (w.heap.size ≠ g ∧ w.heap.size ≠ h ∧ w.heap.size ≠ g2 ∧ w.heap.size ≠ h2) := Lib.hid ⟨Nat.ne_of_gt hst.2.1.lt, Nat.ne_of_gt hst.2.2.1.lt, Nat.ne_of_gt hrf.2.1.lt, Nat.ne_of_gt hrf.2.2.1.lt⟩
  have HF := Lib.hid (apart_of hst hrf hgg)
  have HSV := Lib.hid hv
  have HS := Lib.hid hst
  have HR := Lib.hid hrf
  have e0 : (kd.toNat : Int) % 6 = 0 := by omega
  have hkd8 := kd.toNat_lt
  obtain ⟨d0, d1, d2, d3, d4⟩ := bx5 HBX.out
  clear hst hrf hgg hv hkd hsv
  go_enter Try.func13, Try.ntmps13
  go_upto_region 3 with fail
  refine wp_region_noPanic ?_
  refine wp_region_held_drew (S := fun W => Bx W w.heap.size 31 #[.int .u8 (kd.toNat : Int), .int .i64 x, .int .i64 k, .int .i64 key, bv] ∧ Kp w W [g, h, g2, h2]) (by kernel_rfl) ⟨HBX.out.below (Below.refl _ _).drew, (Kp.bel (below_new w _)).trans (Kp.bel (Below.refl _ _).drew)⟩ (fun k0 => ?_)
  replace HS := Lib.hid (HS.out.below (bel0 (below_new w (.cells #[.int .u8 (kd.toNat : Int), .int .i64 x, .int .i64 k, .int .i64 key, bv] 31)) (Below.refl _ _).drew))
  replace HR := Lib.hid (HR.out.below (bel0 (below_new w (.cells #[.int .u8 (kd.toNat : Int), .int .i64 x, .int .i64 k, .int .i64 key, bv] 31)) (Below.refl _ _).drew))
  show wpAnyH _ _ _ _ _ 18 #[false, false, false, false, false, false, false, false, false, false, false, false, false, false, false, false, false, false] _ _
  refine wpAnyH_take (i := 0) (oi := { dst := some 20, op := Go.Op.move (Go.Operand.tmp 0), type := 23, pos := "law.go:42", after := #[], guard := none }) (v := .pointer (some ⟨a, 0, none⟩)) rfl (by kernel_rfl) (by kernel_rfl) (by kernel_rfl) (fun _ _ _ h => h) (Or.inl ⟨by rfl, fun W hSw => by (try dsimp only at hSw); go_simp⟩) k0 ?_
  try simp only [Act.put, List.setIfInBounds_toArray, List.set_cons_zero, List.set_cons_succ]
  refine wpAnyH_take (i := 1) (oi := { dst := some 21, op := Go.Op.fieldAddr 31 (Go.Operand.tmp 5) 1, type := 0, pos := "law.go:42", after := #[], guard := none }) (v := .pointer (some ⟨w.heap.size, 1, none⟩)) rfl (by kernel_rfl) (by kernel_rfl) (by kernel_rfl) (fun _ _ _ h => h) (Or.inl ⟨by rfl, fun W hSw => by (try dsimp only at hSw); go_simp⟩) k0 ?_
  try simp only [Act.put, List.setIfInBounds_toArray, List.set_cons_zero, List.set_cons_succ]
  refine wpAnyH_take (i := 2) (oi := { dst := some 22, op := Go.Op.load 3 (Go.Operand.tmp 21), type := 3, pos := "law.go:42", after := #[{ on := 1, ground := Go.Ground.data }], guard := none }) (v := .int .i64 x) rfl (by kernel_rfl) (by kernel_rfl) (by kernel_rfl) (fun _ _ _ h => h) (Or.inl ⟨by rfl, fun W hSw => by have cc := hSw.1.cell 1; simp only [List.getElem?_toArray, List.getElem?_cons_zero, List.getElem?_cons_succ] at cc; clear hSw; go_simp⟩) k0 ?_
  try simp only [Act.put, List.setIfInBounds_toArray, List.set_cons_zero, List.set_cons_succ]
  refine wpAnyH_take (i := 3) (oi := { dst := some 23, op := Go.Op.load 31 (Go.Operand.tmp 5), type := 31, pos := "law.go:42", after := #[], guard := none }) (v := .agg #[.int .u8 (kd.toNat : Int), .int .i64 x, .int .i64 k, .int .i64 key, bv]) rfl (by kernel_rfl) (by kernel_rfl) (by kernel_rfl) (fun _ _ _ h => h) (Or.inl ⟨by rfl, fun W hSw => by obtain ⟨c0, c1, c2, c3, c4⟩ := bx5 hSw.1; clear hSw; go_simp⟩) k0 ?_
  try simp only [Act.put, List.setIfInBounds_toArray, List.set_cons_zero, List.set_cons_succ]
  refine wpAnyH_take (i := 5) (oi := { dst := some 25, op := Go.Op.fieldAddr 31 (Go.Operand.tmp 5) 3, type := 0, pos := "law.go:42", after := #[], guard := none }) (v := .pointer (some ⟨w.heap.size, 3, none⟩)) rfl (by kernel_rfl) (by kernel_rfl) (by kernel_rfl) (fun _ _ _ h => h) (Or.inl ⟨by rfl, fun W hSw => by (try dsimp only at hSw); go_simp⟩) k0 ?_
  try simp only [Act.put, List.setIfInBounds_toArray, List.set_cons_zero, List.set_cons_succ]
  refine wpAnyH_take (i := 6) (oi := { dst := some 26, op := Go.Op.load 3 (Go.Operand.tmp 25), type := 3, pos := "law.go:42", after := #[{ on := 5, ground := Go.Ground.data }], guard := none }) (v := .int .i64 key) rfl (by kernel_rfl) (by kernel_rfl) (by kernel_rfl) (fun _ _ _ h => h) (Or.inl ⟨by rfl, fun W hSw => by have cc := hSw.1.cell 3; simp only [List.getElem?_toArray, List.getElem?_cons_zero, List.getElem?_cons_succ] at cc; clear hSw; go_simp⟩) k0 ?_
  try simp only [Act.put, List.setIfInBounds_toArray, List.set_cons_zero, List.set_cons_succ]
  refine wpAnyH_take (i := 8) (oi := { dst := some 28, op := Go.Op.move (Go.Operand.tmp 1), type := 25, pos := "law.go:42", after := #[], guard := none }) (v := .pointer (some ⟨ra, 0, none⟩)) rfl (by kernel_rfl) (by kernel_rfl) (by kernel_rfl) (fun _ _ _ h => h) (Or.inl ⟨by rfl, fun W hSw => by (try dsimp only at hSw); go_simp⟩) k0 ?_
  try simp only [Act.put, List.setIfInBounds_toArray, List.set_cons_zero, List.set_cons_succ]
  refine wpAnyH_take (i := 9) (oi := { dst := some 29, op := Go.Op.fieldAddr 31 (Go.Operand.tmp 5) 1, type := 0, pos := "law.go:42", after := #[], guard := none }) (v := .pointer (some ⟨w.heap.size, 1, none⟩)) rfl (by kernel_rfl) (by kernel_rfl) (by kernel_rfl) (fun _ _ _ h => h) (Or.inl ⟨by rfl, fun W hSw => by (try dsimp only at hSw); go_simp⟩) k0 ?_
  try simp only [Act.put, List.setIfInBounds_toArray, List.set_cons_zero, List.set_cons_succ]
  refine wpAnyH_take (i := 10) (oi := { dst := some 30, op := Go.Op.load 3 (Go.Operand.tmp 29), type := 3, pos := "law.go:42", after := #[{ on := 9, ground := Go.Ground.data }], guard := none }) (v := .int .i64 x) rfl (by kernel_rfl) (by kernel_rfl) (by kernel_rfl) (fun _ _ _ h => h) (Or.inl ⟨by rfl, fun W hSw => by have cc := hSw.1.cell 1; simp only [List.getElem?_toArray, List.getElem?_cons_zero, List.getElem?_cons_succ] at cc; clear hSw; go_simp⟩) k0 ?_
  try simp only [Act.put, List.setIfInBounds_toArray, List.set_cons_zero, List.set_cons_succ]
  refine wpAnyH_take (i := 11) (oi := { dst := some 31, op := Go.Op.load 31 (Go.Operand.tmp 5), type := 31, pos := "law.go:42", after := #[], guard := none }) (v := .agg #[.int .u8 (kd.toNat : Int), .int .i64 x, .int .i64 k, .int .i64 key, bv]) rfl (by kernel_rfl) (by kernel_rfl) (by kernel_rfl) (fun _ _ _ h => h) (Or.inl ⟨by rfl, fun W hSw => by obtain ⟨c0, c1, c2, c3, c4⟩ := bx5 hSw.1; clear hSw; go_simp⟩) k0 ?_
  try simp only [Act.put, List.setIfInBounds_toArray, List.set_cons_zero, List.set_cons_succ]
  refine wpAnyH_take (i := 13) (oi := { dst := some 33, op := Go.Op.fieldAddr 31 (Go.Operand.tmp 5) 3, type := 0, pos := "law.go:42", after := #[], guard := none }) (v := .pointer (some ⟨w.heap.size, 3, none⟩)) rfl (by kernel_rfl) (by kernel_rfl) (by kernel_rfl) (fun _ _ _ h => h) (Or.inl ⟨by rfl, fun W hSw => by (try dsimp only at hSw); go_simp⟩) k0 ?_
  try simp only [Act.put, List.setIfInBounds_toArray, List.set_cons_zero, List.set_cons_succ]
  refine wpAnyH_take (i := 14) (oi := { dst := some 34, op := Go.Op.load 3 (Go.Operand.tmp 33), type := 3, pos := "law.go:42", after := #[{ on := 13, ground := Go.Ground.data }], guard := none }) (v := .int .i64 key) rfl (by kernel_rfl) (by kernel_rfl) (by kernel_rfl) (fun _ _ _ h => h) (Or.inl ⟨by rfl, fun W hSw => by have cc := hSw.1.cell 3; simp only [List.getElem?_toArray, List.getElem?_cons_zero, List.getElem?_cons_succ] at cc; clear hSw; go_simp⟩) k0 ?_
  try simp only [Act.put, List.setIfInBounds_toArray, List.set_cons_zero, List.set_cons_succ]
  refine wpAnyH_ready (rs := [4]) (by kernel_rfl) (by simp) ?_
  refine AllReadyH.cons (o := { dst := some 24, op := Go.Op.call { callee := Go.Callee.value (Go.Operand.func 28), args := #[Go.Operand.tmp 23], argTypes := #[31] }, type := 29, pos := "law.go:42", after := #[{ on := 3, ground := Go.Ground.data }], guard := none }) rfl (fun K hK => ?_) AllReadyH.nil
  go_simp
  go_at_call 28
  refine (HBY.out _).mono ?_
  rintro e x1 ⟨rfl, hb⟩
  have nb := (show Bx _ w.heap.size 31 #[.int .u8 (kd.toNat : Int), .int .i64 x, .int .i64 k, .int .i64 key, bv] from k0.1).below hb
  have nk := k0.2.trans (Kp.bel hb)
  replace HS := Lib.hid (HS.out.below hb)
  replace HR := Lib.hid (HR.out.below hb)
  clear hb
  go_wp2_with fail
  refine hK.out _ _ ⟨nb, nk⟩ (fun k1 => ?_)
  clear nb nk
  clear hK K
  try simp only [List.setIfInBounds_toArray, List.set_cons_zero, List.set_cons_succ]
  refine wpAnyH_ready (rs := [7]) (by kernel_rfl) (by simp) ?_
  refine AllReadyH.cons (o := { dst := some 27, op := Go.Op.call { callee := Go.Callee.value (Go.Operand.func 22), args := #[Go.Operand.tmp 20, Go.Operand.tmp 22, Go.Operand.tmp 24, Go.Operand.tmp 26], argTypes := #[23, 3, 29, 3] }, type := 3, pos := "law.go:42", after := #[{ on := 0, ground := Go.Ground.data }, { on := 2, ground := Go.Ground.data }, { on := 4, ground := Go.Ground.data }, { on := 6, ground := Go.Ground.data }, { on := 4, ground := Go.Ground.chain }], guard := none }) rfl (fun K hK => ?_) AllReadyH.nil
  go_simp
  go_at_call 22
  refine (put_any a g h n m x key (cutV bv) (b.take 5000) bs ks _ hx HS.out (HSV.out _ k1.2)).mono ?_
  rintro e x2 ⟨rfl, hg, hs⟩
  have nb := (show Bx _ w.heap.size 31 #[.int .u8 (kd.toNat : Int), .int .i64 x, .int .i64 k, .int .i64 key, bv] from k1.1).grown hg (fun e => HD.out.1 (Option.some.inj e))
  have nk := k1.2.trans (Kp.of hg (by simp))
  replace HS := Lib.hid hs
  replace HR := Lib.hid (HR.out.grown hg (fun e => HF.out.1.1 (Option.some.inj e)) (fun e => HF.out.1.2.1 (Option.some.inj e)) (fun e => HF.out.1.2.2 (Option.some.inj e)))
  clear hs hg
  go_wp2_with fail
  refine hK.out _ _ ⟨nb, nk⟩ (fun k2 => ?_)
  clear nb nk
  clear hK K
  try simp only [List.setIfInBounds_toArray, List.set_cons_zero, List.set_cons_succ]
  refine wpAnyH_ready (rs := [12]) (by kernel_rfl) (by simp) ?_
  refine AllReadyH.cons (o := { dst := some 32, op := Go.Op.call { callee := Go.Callee.value (Go.Operand.func 28), args := #[Go.Operand.tmp 31], argTypes := #[31] }, type := 29, pos := "law.go:42", after := #[{ on := 11, ground := Go.Ground.data }, { on := 7, ground := Go.Ground.chain }], guard := none }) rfl (fun K hK => ?_) AllReadyH.nil
  go_simp
  go_at_call 28
  refine (HBY.out _).mono ?_
  rintro e x3 ⟨rfl, hb⟩
  have nb := (show Bx _ w.heap.size 31 #[.int .u8 (kd.toNat : Int), .int .i64 x, .int .i64 k, .int .i64 key, bv] from k2.1).below hb
  have nk := k2.2.trans (Kp.bel hb)
  replace HS := Lib.hid (HS.out.below hb)
  replace HR := Lib.hid (HR.out.below hb)
  clear hb
  go_wp2_with fail
  refine hK.out _ _ ⟨nb, nk⟩ (fun k3 => ?_)
  clear nb nk
  clear hK K
  try simp only [List.setIfInBounds_toArray, List.set_cons_zero, List.set_cons_succ]
  refine wpAnyH_ready (rs := [15]) (by kernel_rfl) (by simp) ?_
  refine AllReadyH.cons (o := { dst := some 35, op := Go.Op.call { callee := Go.Callee.value (Go.Operand.func 29), args := #[Go.Operand.tmp 28, Go.Operand.tmp 30, Go.Operand.tmp 32, Go.Operand.tmp 34], argTypes := #[25, 3, 29, 3] }, type := 3, pos := "law.go:42", after := #[{ on := 8, ground := Go.Ground.data }, { on := 10, ground := Go.Ground.data }, { on := 12, ground := Go.Ground.data }, { on := 14, ground := Go.Ground.data }, { on := 12, ground := Go.Ground.chain }], guard := none }) rfl (fun K hK => ?_) AllReadyH.nil
  go_simp
  go_at_call 29
  refine (rput_any ra g2 h2 n m c d x key (cutV bv) (b.take 5000) bs ks _ HR.out (fun W' hg => HSV.out _ (k3.2.trans (Kp.of hg (by simp))))).mono ?_
  rintro e x4 ⟨rfl, hg, hs⟩
  have nb := (show Bx _ w.heap.size 31 #[.int .u8 (kd.toNat : Int), .int .i64 x, .int .i64 k, .int .i64 key, bv] from k3.1).grown hg (fun e => HD.out.2.2.1 (Option.some.inj e))
  have nk := k3.2.trans (Kp.of hg (by simp))
  replace HR := Lib.hid hs
  replace HS := Lib.hid (HS.out.grown hg (fun e => HF.out.2.2.1.1 (Option.some.inj e)) (fun e => HF.out.2.2.1.2.1 (Option.some.inj e)) (fun e => HF.out.2.2.1.2.2 (Option.some.inj e)))
  clear hs hg
  go_wp2_with fail
  refine hK.out _ _ ⟨nb, nk⟩ (fun k4 => ?_)
  clear nb nk
  clear hK K
  try simp only [List.setIfInBounds_toArray, List.set_cons_zero, List.set_cons_succ]
  refine wpAnyH_take (i := 16) (oi := { dst := some 36, op := Go.Op.binOp Go.BinOp.eql 3 (Go.Operand.tmp 27) (Go.Operand.tmp 35) 3, type := 4, pos := "law.go:42", after := #[{ on := 7, ground := Go.Ground.data }, { on := 15, ground := Go.Ground.data }], guard := none }) (v := .bool true) rfl (by kernel_rfl) (by kernel_rfl) (by kernel_rfl) (fun _ _ _ h => h) (Or.inl ⟨by rfl, fun W hSw => by (try dsimp only at hSw); go_simp⟩) k4 ?_
  try simp only [Act.put, List.setIfInBounds_toArray, List.set_cons_zero, List.set_cons_succ]
  refine wpAnyH_take (i := 17) (oi := { dst := some 6, op := Go.Op.assign (Go.Operand.tmp 36), type := 4, pos := "law.go:42", after := #[{ on := 16, ground := Go.Ground.data }, { on := 15, ground := Go.Ground.chain }, { on := 0, ground := Go.Ground.phase }, { on := 1, ground := Go.Ground.phase }, { on := 2, ground := Go.Ground.phase }, { on := 3, ground := Go.Ground.phase }, { on := 4, ground := Go.Ground.phase }, { on := 5, ground := Go.Ground.phase }, { on := 6, ground := Go.Ground.phase }, { on := 7, ground := Go.Ground.phase }, { on := 8, ground := Go.Ground.phase }, { on := 9, ground := Go.Ground.phase }, { on := 10, ground := Go.Ground.phase }, { on := 11, ground := Go.Ground.phase }, { on := 12, ground := Go.Ground.phase }, { on := 13, ground := Go.Ground.phase }, { on := 14, ground := Go.Ground.phase }, { on := 15, ground := Go.Ground.phase }, { on := 16, ground := Go.Ground.phase }], guard := none }) (v := .bool true) rfl (by kernel_rfl) (by kernel_rfl) (by kernel_rfl) (fun _ _ _ h => h) (Or.inl ⟨by rfl, fun W hSw => by (try dsimp only at hSw); go_simp⟩) k4 ?_
  try simp only [Act.put, List.setIfInBounds_toArray, List.set_cons_zero, List.set_cons_succ]
  refine wpAnyH_done (by kernel_rfl) ?_ _
  refine NoPanic.normal ?_
  have HKP := Lib.hid k4.2
  clear k0 k1 k2 k3 k4
  go_wp2
  go_ret
  exact ⟨rfl, _, _, HS.out, HR.out, HKP.out⟩
set_option maxRecDepth 100000 in
set_option maxHeartbeats 2000000 in
theorem one_1 (kd : UInt8) (x k key : Int) (bv : Value) (b bs ks : List UInt8) (a g h n m ra g2 h2 c d : Nat) (w : World) (hx : x ≤ 9223372036854775807) (hst : Sto w a g h n m bs ks) (hrf : Rfs w ra g2 h2 n m c d bs ks) (hgg : g ≠ g2) (hsv : ∃ W, SvB W bv b) (hv : ∀ W, Kp w W [g, h, g2, h2] → SvB W (cutV bv) (b.take 5000)) (hkd : kd.toNat % 6 = 1) :
    Calls Try.prog 13 #[.pointer (some ⟨a, 0, none⟩), .pointer (some ⟨ra, 0, none⟩), .agg #[.int .u8 (kd.toNat : Int), .int .i64 x, .int .i64 k, .int .i64 key, bv]] w (OnePost w a g h n m ra g2 h2 c d) := by
  have HBX := Lib.hid (Bx.new w 31 #[.int .u8 (kd.toNat : Int), .int .i64 x, .int .i64 k, .int .i64 key, bv])
  have HBY := Lib.hid (bytes_op kd x k key bv b hsv)
  have HD : Hid (w.heap.size ≠ g ∧ w.heap.size ≠ h ∧ w.heap.size ≠ g2 ∧ w.heap.size ≠ h2) := Lib.hid ⟨Nat.ne_of_gt hst.2.1.lt, Nat.ne_of_gt hst.2.2.1.lt, Nat.ne_of_gt hrf.2.1.lt, Nat.ne_of_gt hrf.2.2.1.lt⟩
  have HF := Lib.hid (apart_of hst hrf hgg)
  have HSV := Lib.hid hv
  have HS := Lib.hid hst
  have HR := Lib.hid hrf
  have e0 : (kd.toNat : Int) % 6 = 1 := by omega
  have hkd8 := kd.toNat_lt
  obtain ⟨d0, d1, d2, d3, d4⟩ := bx5 HBX.out
  clear hst hrf hgg hv hkd hsv
  go_enter Try.func13, Try.ntmps13
  go_wp2_with fail
  refine (fetch_any a g h n m x k key bs ks _ hx (HS.out.below (below_new w _))).mono ?_
  rintro e w1 ⟨sv1, rfl, hh, hb⟩
  have nb := HBX.out.below hb
  have HV1 := Lib.hid hh.svb
  have HW1 := Lib.hid (bel0 (below_new w (.cells #[.int .u8 (kd.toNat : Int), .int .i64 x, .int .i64 k, .int .i64 key, bv] 31)) hb)
  have HB1 := Lib.hid nb
  clear d0 d1 d2 d3 d4 nb hh hb
  obtain ⟨d0, d1, d2, d3, d4⟩ := bx5 HB1.out
  go_wp2_with fail
  refine (rfetch_any ra g2 h2 n m c d x k key bs ks _ (HR.out.below HW1.out)).mono ?_
  rintro e w2 ⟨sv2, rfl, hh, hb⟩
  have cv1 := conv_sv (HV1.out.below hb)
  have cv2 := conv_sv hh.svb
  have HW2 := Lib.hid (bel0 HW1.out hb)
  clear d0 d1 d2 d3 d4 hh hb
  go_wp2
  go_ret
  exact ⟨by simp, _, _, HS.out.below HW2.out, HR.out.below HW2.out, Kp.bel HW2.out⟩
set_option maxRecDepth 100000 in
set_option maxHeartbeats 2000000 in
theorem one_2 (kd : UInt8) (x k key : Int) (bv : Value) (b bs ks : List UInt8) (a g h n m ra g2 h2 c d : Nat) (w : World) (hx : x ≤ 9223372036854775807) (hst : Sto w a g h n m bs ks) (hrf : Rfs w ra g2 h2 n m c d bs ks) (hgg : g ≠ g2) (hsv : ∃ W, SvB W bv b) (hv : ∀ W, Kp w W [g, h, g2, h2] → SvB W (cutV bv) (b.take 5000)) (hkd : kd.toNat % 6 = 2) :
    Calls Try.prog 13 #[.pointer (some ⟨a, 0, none⟩), .pointer (some ⟨ra, 0, none⟩), .agg #[.int .u8 (kd.toNat : Int), .int .i64 x, .int .i64 k, .int .i64 key, bv]] w (OnePost w a g h n m ra g2 h2 c d) := by
  have HBX := Lib.hid (Bx.new w 31 #[.int .u8 (kd.toNat : Int), .int .i64 x, .int .i64 k, .int .i64 key, bv])
  have HBY := Lib.hid (bytes_op kd x k key bv b hsv)
  have HD : Hid (w.heap.size ≠ g ∧ w.heap.size ≠ h ∧ w.heap.size ≠ g2 ∧ w.heap.size ≠ h2) := Lib.hid ⟨Nat.ne_of_gt hst.2.1.lt, Nat.ne_of_gt hst.2.2.1.lt, Nat.ne_of_gt hrf.2.1.lt, Nat.ne_of_gt hrf.2.2.1.lt⟩
  have HF := Lib.hid (apart_of hst hrf hgg)
  have HSV := Lib.hid hv
  have HS := Lib.hid hst
  have HR := Lib.hid hrf
  have e0 : (kd.toNat : Int) % 6 = 2 := by omega
  have hkd8 := kd.toNat_lt
  obtain ⟨d0, d1, d2, d3, d4⟩ := bx5 HBX.out
  clear hst hrf hgg hv hkd hsv
  go_enter Try.func13, Try.ntmps13
  go_upto_region 9 with fail
  refine wp_region_noPanic ?_
  refine wp_region_held_drew (S := fun W => Bx W w.heap.size 31 #[.int .u8 (kd.toNat : Int), .int .i64 x, .int .i64 k, .int .i64 key, bv] ∧ Kp w W [g, h, g2, h2]) (by kernel_rfl) ⟨HBX.out.below (Below.refl _ _).drew, (Kp.bel (below_new w _)).trans (Kp.bel (Below.refl _ _).drew)⟩ (fun k0 => ?_)
  replace HS := Lib.hid (HS.out.below (bel0 (below_new w (.cells #[.int .u8 (kd.toNat : Int), .int .i64 x, .int .i64 k, .int .i64 key, bv] 31)) (Below.refl _ _).drew))
  replace HR := Lib.hid (HR.out.below (bel0 (below_new w (.cells #[.int .u8 (kd.toNat : Int), .int .i64 x, .int .i64 k, .int .i64 key, bv] 31)) (Below.refl _ _).drew))
  show wpAnyH _ _ _ _ _ 14 #[false, false, false, false, false, false, false, false, false, false, false, false, false, false] _ _
  refine wpAnyH_take (i := 0) (oi := { dst := some 73, op := Go.Op.move (Go.Operand.tmp 0), type := 23, pos := "law.go:48", after := #[], guard := none }) (v := .pointer (some ⟨a, 0, none⟩)) rfl (by kernel_rfl) (by kernel_rfl) (by kernel_rfl) (fun _ _ _ h => h) (Or.inl ⟨by rfl, fun W hSw => by (try dsimp only at hSw); go_simp⟩) k0 ?_
  try simp only [Act.put, List.setIfInBounds_toArray, List.set_cons_zero, List.set_cons_succ]
  refine wpAnyH_take (i := 1) (oi := { dst := some 74, op := Go.Op.fieldAddr 31 (Go.Operand.tmp 5) 1, type := 0, pos := "law.go:48", after := #[], guard := none }) (v := .pointer (some ⟨w.heap.size, 1, none⟩)) rfl (by kernel_rfl) (by kernel_rfl) (by kernel_rfl) (fun _ _ _ h => h) (Or.inl ⟨by rfl, fun W hSw => by (try dsimp only at hSw); go_simp⟩) k0 ?_
  try simp only [Act.put, List.setIfInBounds_toArray, List.set_cons_zero, List.set_cons_succ]
  refine wpAnyH_take (i := 2) (oi := { dst := some 75, op := Go.Op.load 3 (Go.Operand.tmp 74), type := 3, pos := "law.go:48", after := #[{ on := 1, ground := Go.Ground.data }], guard := none }) (v := .int .i64 x) rfl (by kernel_rfl) (by kernel_rfl) (by kernel_rfl) (fun _ _ _ h => h) (Or.inl ⟨by rfl, fun W hSw => by have cc := hSw.1.cell 1; simp only [List.getElem?_toArray, List.getElem?_cons_zero, List.getElem?_cons_succ] at cc; clear hSw; go_simp⟩) k0 ?_
  try simp only [Act.put, List.setIfInBounds_toArray, List.set_cons_zero, List.set_cons_succ]
  refine wpAnyH_take (i := 3) (oi := { dst := some 76, op := Go.Op.fieldAddr 31 (Go.Operand.tmp 5) 3, type := 0, pos := "law.go:48", after := #[], guard := none }) (v := .pointer (some ⟨w.heap.size, 3, none⟩)) rfl (by kernel_rfl) (by kernel_rfl) (by kernel_rfl) (fun _ _ _ h => h) (Or.inl ⟨by rfl, fun W hSw => by (try dsimp only at hSw); go_simp⟩) k0 ?_
  try simp only [Act.put, List.setIfInBounds_toArray, List.set_cons_zero, List.set_cons_succ]
  refine wpAnyH_take (i := 4) (oi := { dst := some 77, op := Go.Op.load 3 (Go.Operand.tmp 76), type := 3, pos := "law.go:48", after := #[{ on := 3, ground := Go.Ground.data }], guard := none }) (v := .int .i64 key) rfl (by kernel_rfl) (by kernel_rfl) (by kernel_rfl) (fun _ _ _ h => h) (Or.inl ⟨by rfl, fun W hSw => by have cc := hSw.1.cell 3; simp only [List.getElem?_toArray, List.getElem?_cons_zero, List.getElem?_cons_succ] at cc; clear hSw; go_simp⟩) k0 ?_
  try simp only [Act.put, List.setIfInBounds_toArray, List.set_cons_zero, List.set_cons_succ]
  refine wpAnyH_take (i := 6) (oi := { dst := some 79, op := Go.Op.move (Go.Operand.tmp 1), type := 25, pos := "law.go:48", after := #[], guard := none }) (v := .pointer (some ⟨ra, 0, none⟩)) rfl (by kernel_rfl) (by kernel_rfl) (by kernel_rfl) (fun _ _ _ h => h) (Or.inl ⟨by rfl, fun W hSw => by (try dsimp only at hSw); go_simp⟩) k0 ?_
  try simp only [Act.put, List.setIfInBounds_toArray, List.set_cons_zero, List.set_cons_succ]
  refine wpAnyH_take (i := 7) (oi := { dst := some 80, op := Go.Op.fieldAddr 31 (Go.Operand.tmp 5) 1, type := 0, pos := "law.go:48", after := #[], guard := none }) (v := .pointer (some ⟨w.heap.size, 1, none⟩)) rfl (by kernel_rfl) (by kernel_rfl) (by kernel_rfl) (fun _ _ _ h => h) (Or.inl ⟨by rfl, fun W hSw => by (try dsimp only at hSw); go_simp⟩) k0 ?_
  try simp only [Act.put, List.setIfInBounds_toArray, List.set_cons_zero, List.set_cons_succ]
  refine wpAnyH_take (i := 8) (oi := { dst := some 81, op := Go.Op.load 3 (Go.Operand.tmp 80), type := 3, pos := "law.go:48", after := #[{ on := 7, ground := Go.Ground.data }], guard := none }) (v := .int .i64 x) rfl (by kernel_rfl) (by kernel_rfl) (by kernel_rfl) (fun _ _ _ h => h) (Or.inl ⟨by rfl, fun W hSw => by have cc := hSw.1.cell 1; simp only [List.getElem?_toArray, List.getElem?_cons_zero, List.getElem?_cons_succ] at cc; clear hSw; go_simp⟩) k0 ?_
  try simp only [Act.put, List.setIfInBounds_toArray, List.set_cons_zero, List.set_cons_succ]
  refine wpAnyH_take (i := 9) (oi := { dst := some 82, op := Go.Op.fieldAddr 31 (Go.Operand.tmp 5) 3, type := 0, pos := "law.go:48", after := #[], guard := none }) (v := .pointer (some ⟨w.heap.size, 3, none⟩)) rfl (by kernel_rfl) (by kernel_rfl) (by kernel_rfl) (fun _ _ _ h => h) (Or.inl ⟨by rfl, fun W hSw => by (try dsimp only at hSw); go_simp⟩) k0 ?_
  try simp only [Act.put, List.setIfInBounds_toArray, List.set_cons_zero, List.set_cons_succ]
  refine wpAnyH_take (i := 10) (oi := { dst := some 83, op := Go.Op.load 3 (Go.Operand.tmp 82), type := 3, pos := "law.go:48", after := #[{ on := 9, ground := Go.Ground.data }], guard := none }) (v := .int .i64 key) rfl (by kernel_rfl) (by kernel_rfl) (by kernel_rfl) (fun _ _ _ h => h) (Or.inl ⟨by rfl, fun W hSw => by have cc := hSw.1.cell 3; simp only [List.getElem?_toArray, List.getElem?_cons_zero, List.getElem?_cons_succ] at cc; clear hSw; go_simp⟩) k0 ?_
  try simp only [Act.put, List.setIfInBounds_toArray, List.set_cons_zero, List.set_cons_succ]
  refine wpAnyH_ready (rs := [5]) (by kernel_rfl) (by simp) ?_
  refine AllReadyH.cons (o := { dst := some 78, op := Go.Op.call { callee := Go.Callee.value (Go.Operand.func 19), args := #[Go.Operand.tmp 73, Go.Operand.tmp 75, Go.Operand.tmp 77], argTypes := #[23, 3, 3] }, type := 4, pos := "law.go:48", after := #[{ on := 0, ground := Go.Ground.data }, { on := 2, ground := Go.Ground.data }, { on := 4, ground := Go.Ground.data }], guard := none }) rfl (fun K hK => ?_) AllReadyH.nil
  go_simp
  go_at_call 19
  refine (setKey_any a g h n m x key bs ks _ hx HS.out).mono ?_
  rintro e x1 ⟨rfl, hg, hs⟩
  have nb := (show Bx _ w.heap.size 31 #[.int .u8 (kd.toNat : Int), .int .i64 x, .int .i64 k, .int .i64 key, bv] from k0.1).grown hg (fun e => HD.out.2.1 (Option.some.inj e))
  have nk := k0.2.trans (Kp.of hg (by simp))
  replace HS := Lib.hid hs
  replace HR := Lib.hid (HR.out.grown hg (fun e => HF.out.2.1.1 (Option.some.inj e)) (fun e => HF.out.2.1.2.1 (Option.some.inj e)) (fun e => HF.out.2.1.2.2 (Option.some.inj e)))
  clear hs hg
  go_wp2_with fail
  refine hK.out _ _ ⟨nb, nk⟩ (fun k1 => ?_)
  clear nb nk
  clear hK K
  try simp only [List.setIfInBounds_toArray, List.set_cons_zero, List.set_cons_succ]
  refine wpAnyH_ready (rs := [11]) (by kernel_rfl) (by simp) ?_
  refine AllReadyH.cons (o := { dst := some 84, op := Go.Op.call { callee := Go.Callee.value (Go.Operand.func 31), args := #[Go.Operand.tmp 79, Go.Operand.tmp 81, Go.Operand.tmp 83], argTypes := #[25, 3, 3] }, type := 4, pos := "law.go:48", after := #[{ on := 6, ground := Go.Ground.data }, { on := 8, ground := Go.Ground.data }, { on := 10, ground := Go.Ground.data }, { on := 5, ground := Go.Ground.chain }], guard := none }) rfl (fun K hK => ?_) AllReadyH.nil
  go_simp
  go_at_call 31
  refine (rsetKey_any ra g2 h2 n m c d x key bs ks _ HR.out).mono ?_
  rintro e x2 ⟨rfl, hg, hs⟩
  have nb := (show Bx _ w.heap.size 31 #[.int .u8 (kd.toNat : Int), .int .i64 x, .int .i64 k, .int .i64 key, bv] from k1.1).grown hg (fun e => HD.out.2.2.2 (Option.some.inj e))
  have nk := k1.2.trans (Kp.of hg (by simp))
  replace HR := Lib.hid hs
  replace HS := Lib.hid (HS.out.grown hg (fun e => HF.out.2.2.2.1 (Option.some.inj e)) (fun e => HF.out.2.2.2.2.1 (Option.some.inj e)) (fun e => HF.out.2.2.2.2.2 (Option.some.inj e)))
  clear hs hg
  go_wp2_with fail
  refine hK.out _ _ ⟨nb, nk⟩ (fun k2 => ?_)
  clear nb nk
  clear hK K
  try simp only [List.setIfInBounds_toArray, List.set_cons_zero, List.set_cons_succ]
  refine wpAnyH_take (i := 12) (oi := { dst := some 85, op := Go.Op.binOp Go.BinOp.eql 4 (Go.Operand.tmp 78) (Go.Operand.tmp 84) 4, type := 4, pos := "law.go:48", after := #[{ on := 5, ground := Go.Ground.data }, { on := 11, ground := Go.Ground.data }], guard := none }) (v := .bool true) rfl (by kernel_rfl) (by kernel_rfl) (by kernel_rfl) (fun _ _ _ h => h) (Or.inl ⟨by rfl, fun W hSw => by (try dsimp only at hSw); go_simp⟩) k2 ?_
  try simp only [Act.put, List.setIfInBounds_toArray, List.set_cons_zero, List.set_cons_succ]
  refine wpAnyH_take (i := 13) (oi := { dst := some 6, op := Go.Op.assign (Go.Operand.tmp 85), type := 4, pos := "law.go:48", after := #[{ on := 12, ground := Go.Ground.data }, { on := 11, ground := Go.Ground.chain }, { on := 0, ground := Go.Ground.phase }, { on := 1, ground := Go.Ground.phase }, { on := 2, ground := Go.Ground.phase }, { on := 3, ground := Go.Ground.phase }, { on := 4, ground := Go.Ground.phase }, { on := 5, ground := Go.Ground.phase }, { on := 6, ground := Go.Ground.phase }, { on := 7, ground := Go.Ground.phase }, { on := 8, ground := Go.Ground.phase }, { on := 9, ground := Go.Ground.phase }, { on := 10, ground := Go.Ground.phase }, { on := 11, ground := Go.Ground.phase }, { on := 12, ground := Go.Ground.phase }], guard := none }) (v := .bool true) rfl (by kernel_rfl) (by kernel_rfl) (by kernel_rfl) (fun _ _ _ h => h) (Or.inl ⟨by rfl, fun W hSw => by (try dsimp only at hSw); go_simp⟩) k2 ?_
  try simp only [Act.put, List.setIfInBounds_toArray, List.set_cons_zero, List.set_cons_succ]
  refine wpAnyH_done (by kernel_rfl) ?_ _
  refine NoPanic.normal ?_
  have HKP := Lib.hid k2.2
  clear k0 k1 k2
  go_wp2
  go_ret
  exact ⟨rfl, _, _, HS.out, HR.out, HKP.out⟩
set_option maxRecDepth 100000 in
set_option maxHeartbeats 2000000 in
theorem one_3 (kd : UInt8) (x k key : Int) (bv : Value) (b bs ks : List UInt8) (a g h n m ra g2 h2 c d : Nat) (w : World) (hx : x ≤ 9223372036854775807) (hst : Sto w a g h n m bs ks) (hrf : Rfs w ra g2 h2 n m c d bs ks) (hgg : g ≠ g2) (hsv : ∃ W, SvB W bv b) (hv : ∀ W, Kp w W [g, h, g2, h2] → SvB W (cutV bv) (b.take 5000)) (hkd : kd.toNat % 6 = 3) :
    Calls Try.prog 13 #[.pointer (some ⟨a, 0, none⟩), .pointer (some ⟨ra, 0, none⟩), .agg #[.int .u8 (kd.toNat : Int), .int .i64 x, .int .i64 k, .int .i64 key, bv]] w (OnePost w a g h n m ra g2 h2 c d) := by
  have HBX := Lib.hid (Bx.new w 31 #[.int .u8 (kd.toNat : Int), .int .i64 x, .int .i64 k, .int .i64 key, bv])
  have HBY := Lib.hid (bytes_op kd x k key bv b hsv)
  have HD : Hid (w.heap.size ≠ g ∧ w.heap.size ≠ h ∧ w.heap.size ≠ g2 ∧ w.heap.size ≠ h2) := Lib.hid ⟨Nat.ne_of_gt hst.2.1.lt, Nat.ne_of_gt hst.2.2.1.lt, Nat.ne_of_gt hrf.2.1.lt, Nat.ne_of_gt hrf.2.2.1.lt⟩
  have HF := Lib.hid (apart_of hst hrf hgg)
  have HSV := Lib.hid hv
  have HS := Lib.hid hst
  have HR := Lib.hid hrf
  have e0 : (kd.toNat : Int) % 6 = 3 := by omega
  have hkd8 := kd.toNat_lt
  obtain ⟨d0, d1, d2, d3, d4⟩ := bx5 HBX.out
  clear hst hrf hgg hv hkd hsv
  go_enter Try.func13, Try.ntmps13
  go_wp2_with fail
  refine (keyOf_any a g h n m x bs ks _ hx (HS.out.below (below_new w _))).mono ?_
  rintro e w1 ⟨rfl, hb⟩
  have nb := HBX.out.below hb
  have HW1 := Lib.hid (bel0 (below_new w (.cells #[.int .u8 (kd.toNat : Int), .int .i64 x, .int .i64 k, .int .i64 key, bv] 31)) hb)
  have HB1 := Lib.hid nb
  clear d0 d1 d2 d3 d4 nb hb
  obtain ⟨d0, d1, d2, d3, d4⟩ := bx5 HB1.out
  go_wp2_with fail
  refine (rkeyOf_any ra g2 h2 n m c d x bs ks _ (HR.out.below HW1.out)).mono ?_
  rintro e w2 ⟨rfl, hb⟩
  have HW2 := Lib.hid (bel0 HW1.out hb)
  clear d0 d1 d2 d3 d4 hb
  go_wp2
  go_ret
  exact ⟨by simp, _, _, HS.out.below HW2.out, HR.out.below HW2.out, Kp.bel HW2.out⟩
set_option maxRecDepth 100000 in
set_option maxHeartbeats 2000000 in
theorem one_4 (kd : UInt8) (x k key : Int) (bv : Value) (b bs ks : List UInt8) (a g h n m ra g2 h2 c d : Nat) (w : World) (hx : x ≤ 9223372036854775807) (hst : Sto w a g h n m bs ks) (hrf : Rfs w ra g2 h2 n m c d bs ks) (hgg : g ≠ g2) (hsv : ∃ W, SvB W bv b) (hv : ∀ W, Kp w W [g, h, g2, h2] → SvB W (cutV bv) (b.take 5000)) (hkd : kd.toNat % 6 = 4) :
    Calls Try.prog 13 #[.pointer (some ⟨a, 0, none⟩), .pointer (some ⟨ra, 0, none⟩), .agg #[.int .u8 (kd.toNat : Int), .int .i64 x, .int .i64 k, .int .i64 key, bv]] w (OnePost w a g h n m ra g2 h2 c d) := by
  have HBX := Lib.hid (Bx.new w 31 #[.int .u8 (kd.toNat : Int), .int .i64 x, .int .i64 k, .int .i64 key, bv])
  have HBY := Lib.hid (bytes_op kd x k key bv b hsv)
  have HD : Hid (w.heap.size ≠ g ∧ w.heap.size ≠ h ∧ w.heap.size ≠ g2 ∧ w.heap.size ≠ h2) := Lib.hid ⟨Nat.ne_of_gt hst.2.1.lt, Nat.ne_of_gt hst.2.2.1.lt, Nat.ne_of_gt hrf.2.1.lt, Nat.ne_of_gt hrf.2.2.1.lt⟩
  have HF := Lib.hid (apart_of hst hrf hgg)
  have HSV := Lib.hid hv
  have HS := Lib.hid hst
  have HR := Lib.hid hrf
  have e0 : (kd.toNat : Int) % 6 = 4 := by omega
  have hkd8 := kd.toNat_lt
  obtain ⟨d0, d1, d2, d3, d4⟩ := bx5 HBX.out
  clear hst hrf hgg hv hkd hsv
  go_enter Try.func13, Try.ntmps13
  go_upto_region 15 with fail
  refine wp_region_noPanic ?_
  refine wp_region_held_drew (S := fun W => Bx W w.heap.size 31 #[.int .u8 (kd.toNat : Int), .int .i64 x, .int .i64 k, .int .i64 key, bv] ∧ Kp w W [g, h, g2, h2]) (by kernel_rfl) ⟨HBX.out.below (Below.refl _ _).drew, (Kp.bel (below_new w _)).trans (Kp.bel (Below.refl _ _).drew)⟩ (fun k0 => ?_)
  replace HS := Lib.hid (HS.out.below (bel0 (below_new w (.cells #[.int .u8 (kd.toNat : Int), .int .i64 x, .int .i64 k, .int .i64 key, bv] 31)) (Below.refl _ _).drew))
  replace HR := Lib.hid (HR.out.below (bel0 (below_new w (.cells #[.int .u8 (kd.toNat : Int), .int .i64 x, .int .i64 k, .int .i64 key, bv] 31)) (Below.refl _ _).drew))
  show wpAnyH _ _ _ _ _ 16 #[false, false, false, false, false, false, false, false, false, false, false, false, false, false, false, false] _ _
  refine wpAnyH_take (i := 0) (oi := { dst := some 112, op := Go.Op.move (Go.Operand.tmp 0), type := 23, pos := "law.go:54", after := #[], guard := none }) (v := .pointer (some ⟨a, 0, none⟩)) rfl (by kernel_rfl) (by kernel_rfl) (by kernel_rfl) (fun _ _ _ h => h) (Or.inl ⟨by rfl, fun W hSw => by (try dsimp only at hSw); go_simp⟩) k0 ?_
  try simp only [Act.put, List.setIfInBounds_toArray, List.set_cons_zero, List.set_cons_succ]
  refine wpAnyH_take (i := 1) (oi := { dst := some 113, op := Go.Op.fieldAddr 31 (Go.Operand.tmp 5) 1, type := 0, pos := "law.go:54", after := #[], guard := none }) (v := .pointer (some ⟨w.heap.size, 1, none⟩)) rfl (by kernel_rfl) (by kernel_rfl) (by kernel_rfl) (fun _ _ _ h => h) (Or.inl ⟨by rfl, fun W hSw => by (try dsimp only at hSw); go_simp⟩) k0 ?_
  try simp only [Act.put, List.setIfInBounds_toArray, List.set_cons_zero, List.set_cons_succ]
  refine wpAnyH_take (i := 2) (oi := { dst := some 114, op := Go.Op.load 3 (Go.Operand.tmp 113), type := 3, pos := "law.go:54", after := #[{ on := 1, ground := Go.Ground.data }], guard := none }) (v := .int .i64 x) rfl (by kernel_rfl) (by kernel_rfl) (by kernel_rfl) (fun _ _ _ h => h) (Or.inl ⟨by rfl, fun W hSw => by have cc := hSw.1.cell 1; simp only [List.getElem?_toArray, List.getElem?_cons_zero, List.getElem?_cons_succ] at cc; clear hSw; go_simp⟩) k0 ?_
  try simp only [Act.put, List.setIfInBounds_toArray, List.set_cons_zero, List.set_cons_succ]
  refine wpAnyH_take (i := 3) (oi := { dst := some 115, op := Go.Op.fieldAddr 31 (Go.Operand.tmp 5) 2, type := 0, pos := "law.go:54", after := #[], guard := none }) (v := .pointer (some ⟨w.heap.size, 2, none⟩)) rfl (by kernel_rfl) (by kernel_rfl) (by kernel_rfl) (fun _ _ _ h => h) (Or.inl ⟨by rfl, fun W hSw => by (try dsimp only at hSw); go_simp⟩) k0 ?_
  try simp only [Act.put, List.setIfInBounds_toArray, List.set_cons_zero, List.set_cons_succ]
  refine wpAnyH_take (i := 4) (oi := { dst := some 116, op := Go.Op.load 3 (Go.Operand.tmp 115), type := 3, pos := "law.go:54", after := #[{ on := 3, ground := Go.Ground.data }], guard := none }) (v := .int .i64 k) rfl (by kernel_rfl) (by kernel_rfl) (by kernel_rfl) (fun _ _ _ h => h) (Or.inl ⟨by rfl, fun W hSw => by have cc := hSw.1.cell 2; simp only [List.getElem?_toArray, List.getElem?_cons_zero, List.getElem?_cons_succ] at cc; clear hSw; go_simp⟩) k0 ?_
  try simp only [Act.put, List.setIfInBounds_toArray, List.set_cons_zero, List.set_cons_succ]
  refine wpAnyH_take (i := 7) (oi := { dst := some 119, op := Go.Op.move (Go.Operand.tmp 1), type := 25, pos := "law.go:54", after := #[], guard := none }) (v := .pointer (some ⟨ra, 0, none⟩)) rfl (by kernel_rfl) (by kernel_rfl) (by kernel_rfl) (fun _ _ _ h => h) (Or.inl ⟨by rfl, fun W hSw => by (try dsimp only at hSw); go_simp⟩) k0 ?_
  try simp only [Act.put, List.setIfInBounds_toArray, List.set_cons_zero, List.set_cons_succ]
  refine wpAnyH_take (i := 8) (oi := { dst := some 120, op := Go.Op.fieldAddr 31 (Go.Operand.tmp 5) 1, type := 0, pos := "law.go:54", after := #[], guard := none }) (v := .pointer (some ⟨w.heap.size, 1, none⟩)) rfl (by kernel_rfl) (by kernel_rfl) (by kernel_rfl) (fun _ _ _ h => h) (Or.inl ⟨by rfl, fun W hSw => by (try dsimp only at hSw); go_simp⟩) k0 ?_
  try simp only [Act.put, List.setIfInBounds_toArray, List.set_cons_zero, List.set_cons_succ]
  refine wpAnyH_take (i := 9) (oi := { dst := some 121, op := Go.Op.load 3 (Go.Operand.tmp 120), type := 3, pos := "law.go:54", after := #[{ on := 8, ground := Go.Ground.data }], guard := none }) (v := .int .i64 x) rfl (by kernel_rfl) (by kernel_rfl) (by kernel_rfl) (fun _ _ _ h => h) (Or.inl ⟨by rfl, fun W hSw => by have cc := hSw.1.cell 1; simp only [List.getElem?_toArray, List.getElem?_cons_zero, List.getElem?_cons_succ] at cc; clear hSw; go_simp⟩) k0 ?_
  try simp only [Act.put, List.setIfInBounds_toArray, List.set_cons_zero, List.set_cons_succ]
  refine wpAnyH_take (i := 10) (oi := { dst := some 122, op := Go.Op.fieldAddr 31 (Go.Operand.tmp 5) 2, type := 0, pos := "law.go:54", after := #[], guard := none }) (v := .pointer (some ⟨w.heap.size, 2, none⟩)) rfl (by kernel_rfl) (by kernel_rfl) (by kernel_rfl) (fun _ _ _ h => h) (Or.inl ⟨by rfl, fun W hSw => by (try dsimp only at hSw); go_simp⟩) k0 ?_
  try simp only [Act.put, List.setIfInBounds_toArray, List.set_cons_zero, List.set_cons_succ]
  refine wpAnyH_take (i := 11) (oi := { dst := some 123, op := Go.Op.load 3 (Go.Operand.tmp 122), type := 3, pos := "law.go:54", after := #[{ on := 10, ground := Go.Ground.data }], guard := none }) (v := .int .i64 k) rfl (by kernel_rfl) (by kernel_rfl) (by kernel_rfl) (fun _ _ _ h => h) (Or.inl ⟨by rfl, fun W hSw => by have cc := hSw.1.cell 2; simp only [List.getElem?_toArray, List.getElem?_cons_zero, List.getElem?_cons_succ] at cc; clear hSw; go_simp⟩) k0 ?_
  try simp only [Act.put, List.setIfInBounds_toArray, List.set_cons_zero, List.set_cons_succ]
  refine wpAnyH_ready (rs := [5]) (by kernel_rfl) (by simp) ?_
  refine AllReadyH.cons (o := { dst := some 117, op := Go.Op.call { callee := Go.Callee.value (Go.Operand.func 20), args := #[Go.Operand.tmp 112, Go.Operand.tmp 114, Go.Operand.tmp 116], argTypes := #[23, 3, 3] }, type := 29, pos := "law.go:54", after := #[{ on := 0, ground := Go.Ground.data }, { on := 2, ground := Go.Ground.data }, { on := 4, ground := Go.Ground.data }], guard := none }) rfl (fun K hK => ?_) AllReadyH.nil
  go_simp
  go_at_call 20
  refine (bytes_any a g h n m x k bs ks _ hx HS.out).mono ?_
  rintro e x1 ⟨sv1, rfl, hh, hb⟩
  have HV1 := Lib.hid hh.svb
  clear hh
  have nb := (show Bx _ w.heap.size 31 #[.int .u8 (kd.toNat : Int), .int .i64 x, .int .i64 k, .int .i64 key, bv] from k0.1).below hb
  have nk := k0.2.trans (Kp.bel hb)
  replace HS := Lib.hid (HS.out.below hb)
  replace HR := Lib.hid (HR.out.below hb)
  clear hb
  go_wp2_with fail
  refine hK.out _ _ ⟨nb, nk⟩ (fun k1 => ?_)
  clear nb nk
  clear hK K
  try simp only [List.setIfInBounds_toArray, List.set_cons_zero, List.set_cons_succ]
  refine wpAnyH_ready (rs := [6, 12]) (by kernel_rfl) (by simp) ?_
  refine AllReadyH.cons (o := { dst := some 118, op := Go.Op.convert 29 9 (Go.Operand.tmp 117), type := 9, pos := "law.go:54", after := #[{ on := 5, ground := Go.Ground.data }], guard := none }) rfl (fun K hK => ?_) (AllReadyH.cons (o := { dst := some 124, op := Go.Op.call { callee := Go.Callee.value (Go.Operand.func 33), args := #[Go.Operand.tmp 119, Go.Operand.tmp 121, Go.Operand.tmp 123], argTypes := #[25, 3, 3] }, type := 29, pos := "law.go:54", after := #[{ on := 7, ground := Go.Ground.data }, { on := 9, ground := Go.Ground.data }, { on := 11, ground := Go.Ground.data }, { on := 5, ground := Go.Ground.chain }], guard := none }) rfl (fun K hK => ?_) AllReadyH.nil)
  · have cv2 := conv_sv HV1.out
    go_simp
    refine hK.out _ _ k1 (fun k2 => ?_)
    clear cv2
    clear hK K
    try simp only [List.setIfInBounds_toArray, List.set_cons_zero, List.set_cons_succ]
    refine wpAnyH_ready (rs := [12]) (by kernel_rfl) (by simp) ?_
    refine AllReadyH.cons (o := { dst := some 124, op := Go.Op.call { callee := Go.Callee.value (Go.Operand.func 33), args := #[Go.Operand.tmp 119, Go.Operand.tmp 121, Go.Operand.tmp 123], argTypes := #[25, 3, 3] }, type := 29, pos := "law.go:54", after := #[{ on := 7, ground := Go.Ground.data }, { on := 9, ground := Go.Ground.data }, { on := 11, ground := Go.Ground.data }, { on := 5, ground := Go.Ground.chain }], guard := none }) rfl (fun K hK => ?_) AllReadyH.nil
    go_simp
    go_at_call 33
    refine (rbytes_any ra g2 h2 n m c d x k bs ks _ HR.out).mono ?_
    rintro e x3 ⟨sv2, rfl, hh, hb⟩
    have HV2 := Lib.hid hh.svb
    clear hh
    have nb := (show Bx _ w.heap.size 31 #[.int .u8 (kd.toNat : Int), .int .i64 x, .int .i64 k, .int .i64 key, bv] from k2.1).below hb
    have nk := k2.2.trans (Kp.bel hb)
    replace HS := Lib.hid (HS.out.below hb)
    replace HR := Lib.hid (HR.out.below hb)
    clear hb
    go_wp2_with fail
    refine hK.out _ _ ⟨nb, nk⟩ (fun k3 => ?_)
    clear nb nk
    clear hK K
    try simp only [List.setIfInBounds_toArray, List.set_cons_zero, List.set_cons_succ]
    refine wpAnyH_ready (rs := [13]) (by kernel_rfl) (by simp) ?_
    refine AllReadyH.cons (o := { dst := some 125, op := Go.Op.convert 29 9 (Go.Operand.tmp 124), type := 9, pos := "law.go:54", after := #[{ on := 12, ground := Go.Ground.data }], guard := none }) rfl (fun K hK => ?_) AllReadyH.nil
    have cv4 := conv_sv HV2.out
    go_simp
    refine hK.out _ _ k3 (fun k4 => ?_)
    clear cv4
    clear hK K
    try simp only [List.setIfInBounds_toArray, List.set_cons_zero, List.set_cons_succ]
    refine wpAnyH_take (i := 14) (oi := { dst := some 126, op := Go.Op.binOp Go.BinOp.eql 9 (Go.Operand.tmp 118) (Go.Operand.tmp 125) 9, type := 4, pos := "law.go:54", after := #[{ on := 6, ground := Go.Ground.data }, { on := 13, ground := Go.Ground.data }], guard := none }) (v := .bool true) rfl (by kernel_rfl) (by kernel_rfl) (by kernel_rfl) (fun _ _ _ h => h) (Or.inl ⟨by rfl, fun W hSw => by (try dsimp only at hSw); go_simp⟩) k4 ?_
    try simp only [Act.put, List.setIfInBounds_toArray, List.set_cons_zero, List.set_cons_succ]
    refine wpAnyH_take (i := 15) (oi := { dst := some 6, op := Go.Op.assign (Go.Operand.tmp 126), type := 4, pos := "law.go:54", after := #[{ on := 14, ground := Go.Ground.data }, { on := 12, ground := Go.Ground.chain }, { on := 0, ground := Go.Ground.phase }, { on := 1, ground := Go.Ground.phase }, { on := 2, ground := Go.Ground.phase }, { on := 3, ground := Go.Ground.phase }, { on := 4, ground := Go.Ground.phase }, { on := 5, ground := Go.Ground.phase }, { on := 6, ground := Go.Ground.phase }, { on := 7, ground := Go.Ground.phase }, { on := 8, ground := Go.Ground.phase }, { on := 9, ground := Go.Ground.phase }, { on := 10, ground := Go.Ground.phase }, { on := 11, ground := Go.Ground.phase }, { on := 12, ground := Go.Ground.phase }, { on := 13, ground := Go.Ground.phase }, { on := 14, ground := Go.Ground.phase }], guard := none }) (v := .bool true) rfl (by kernel_rfl) (by kernel_rfl) (by kernel_rfl) (fun _ _ _ h => h) (Or.inl ⟨by rfl, fun W hSw => by (try dsimp only at hSw); go_simp⟩) k4 ?_
    try simp only [Act.put, List.setIfInBounds_toArray, List.set_cons_zero, List.set_cons_succ]
    refine wpAnyH_done (by kernel_rfl) ?_ _
    refine NoPanic.normal ?_
    have HKP := Lib.hid k4.2
    clear k0 k1 k2 k3 k4
    go_wp2
    go_ret
    exact ⟨rfl, _, _, HS.out, HR.out, HKP.out⟩
  · go_simp
    go_at_call 33
    refine (rbytes_any ra g2 h2 n m c d x k bs ks _ HR.out).mono ?_
    rintro e x2 ⟨sv2, rfl, hh, hb⟩
    have HV2 := Lib.hid hh.svb
    replace HV1 := Lib.hid (HV1.out.below hb)
    clear hh
    have nb := (show Bx _ w.heap.size 31 #[.int .u8 (kd.toNat : Int), .int .i64 x, .int .i64 k, .int .i64 key, bv] from k1.1).below hb
    have nk := k1.2.trans (Kp.bel hb)
    replace HS := Lib.hid (HS.out.below hb)
    replace HR := Lib.hid (HR.out.below hb)
    clear hb
    go_wp2_with fail
    refine hK.out _ _ ⟨nb, nk⟩ (fun k2 => ?_)
    clear nb nk
    clear hK K
    try simp only [List.setIfInBounds_toArray, List.set_cons_zero, List.set_cons_succ]
    refine wpAnyH_ready (rs := [6, 13]) (by kernel_rfl) (by simp) ?_
    refine AllReadyH.cons (o := { dst := some 118, op := Go.Op.convert 29 9 (Go.Operand.tmp 117), type := 9, pos := "law.go:54", after := #[{ on := 5, ground := Go.Ground.data }], guard := none }) rfl (fun K hK => ?_) (AllReadyH.cons (o := { dst := some 125, op := Go.Op.convert 29 9 (Go.Operand.tmp 124), type := 9, pos := "law.go:54", after := #[{ on := 12, ground := Go.Ground.data }], guard := none }) rfl (fun K hK => ?_) AllReadyH.nil)
    · have cv3 := conv_sv HV1.out
      go_simp
      refine hK.out _ _ k2 (fun k3 => ?_)
      clear cv3
      clear hK K
      try simp only [List.setIfInBounds_toArray, List.set_cons_zero, List.set_cons_succ]
      refine wpAnyH_ready (rs := [13]) (by kernel_rfl) (by simp) ?_
      refine AllReadyH.cons (o := { dst := some 125, op := Go.Op.convert 29 9 (Go.Operand.tmp 124), type := 9, pos := "law.go:54", after := #[{ on := 12, ground := Go.Ground.data }], guard := none }) rfl (fun K hK => ?_) AllReadyH.nil
      have cv4 := conv_sv HV2.out
      go_simp
      refine hK.out _ _ k3 (fun k4 => ?_)
      clear cv4
      clear hK K
      try simp only [List.setIfInBounds_toArray, List.set_cons_zero, List.set_cons_succ]
      refine wpAnyH_take (i := 14) (oi := { dst := some 126, op := Go.Op.binOp Go.BinOp.eql 9 (Go.Operand.tmp 118) (Go.Operand.tmp 125) 9, type := 4, pos := "law.go:54", after := #[{ on := 6, ground := Go.Ground.data }, { on := 13, ground := Go.Ground.data }], guard := none }) (v := .bool true) rfl (by kernel_rfl) (by kernel_rfl) (by kernel_rfl) (fun _ _ _ h => h) (Or.inl ⟨by rfl, fun W hSw => by (try dsimp only at hSw); go_simp⟩) k4 ?_
      try simp only [Act.put, List.setIfInBounds_toArray, List.set_cons_zero, List.set_cons_succ]
      refine wpAnyH_take (i := 15) (oi := { dst := some 6, op := Go.Op.assign (Go.Operand.tmp 126), type := 4, pos := "law.go:54", after := #[{ on := 14, ground := Go.Ground.data }, { on := 12, ground := Go.Ground.chain }, { on := 0, ground := Go.Ground.phase }, { on := 1, ground := Go.Ground.phase }, { on := 2, ground := Go.Ground.phase }, { on := 3, ground := Go.Ground.phase }, { on := 4, ground := Go.Ground.phase }, { on := 5, ground := Go.Ground.phase }, { on := 6, ground := Go.Ground.phase }, { on := 7, ground := Go.Ground.phase }, { on := 8, ground := Go.Ground.phase }, { on := 9, ground := Go.Ground.phase }, { on := 10, ground := Go.Ground.phase }, { on := 11, ground := Go.Ground.phase }, { on := 12, ground := Go.Ground.phase }, { on := 13, ground := Go.Ground.phase }, { on := 14, ground := Go.Ground.phase }], guard := none }) (v := .bool true) rfl (by kernel_rfl) (by kernel_rfl) (by kernel_rfl) (fun _ _ _ h => h) (Or.inl ⟨by rfl, fun W hSw => by (try dsimp only at hSw); go_simp⟩) k4 ?_
      try simp only [Act.put, List.setIfInBounds_toArray, List.set_cons_zero, List.set_cons_succ]
      refine wpAnyH_done (by kernel_rfl) ?_ _
      refine NoPanic.normal ?_
      have HKP := Lib.hid k4.2
      clear k0 k1 k2 k3 k4
      go_wp2
      go_ret
      exact ⟨rfl, _, _, HS.out, HR.out, HKP.out⟩
    · have cv3 := conv_sv HV2.out
      go_simp
      refine hK.out _ _ k2 (fun k3 => ?_)
      clear cv3
      clear hK K
      try simp only [List.setIfInBounds_toArray, List.set_cons_zero, List.set_cons_succ]
      refine wpAnyH_ready (rs := [6]) (by kernel_rfl) (by simp) ?_
      refine AllReadyH.cons (o := { dst := some 118, op := Go.Op.convert 29 9 (Go.Operand.tmp 117), type := 9, pos := "law.go:54", after := #[{ on := 5, ground := Go.Ground.data }], guard := none }) rfl (fun K hK => ?_) AllReadyH.nil
      have cv4 := conv_sv HV1.out
      go_simp
      refine hK.out _ _ k3 (fun k4 => ?_)
      clear cv4
      clear hK K
      try simp only [List.setIfInBounds_toArray, List.set_cons_zero, List.set_cons_succ]
      refine wpAnyH_take (i := 14) (oi := { dst := some 126, op := Go.Op.binOp Go.BinOp.eql 9 (Go.Operand.tmp 118) (Go.Operand.tmp 125) 9, type := 4, pos := "law.go:54", after := #[{ on := 6, ground := Go.Ground.data }, { on := 13, ground := Go.Ground.data }], guard := none }) (v := .bool true) rfl (by kernel_rfl) (by kernel_rfl) (by kernel_rfl) (fun _ _ _ h => h) (Or.inl ⟨by rfl, fun W hSw => by (try dsimp only at hSw); go_simp⟩) k4 ?_
      try simp only [Act.put, List.setIfInBounds_toArray, List.set_cons_zero, List.set_cons_succ]
      refine wpAnyH_take (i := 15) (oi := { dst := some 6, op := Go.Op.assign (Go.Operand.tmp 126), type := 4, pos := "law.go:54", after := #[{ on := 14, ground := Go.Ground.data }, { on := 12, ground := Go.Ground.chain }, { on := 0, ground := Go.Ground.phase }, { on := 1, ground := Go.Ground.phase }, { on := 2, ground := Go.Ground.phase }, { on := 3, ground := Go.Ground.phase }, { on := 4, ground := Go.Ground.phase }, { on := 5, ground := Go.Ground.phase }, { on := 6, ground := Go.Ground.phase }, { on := 7, ground := Go.Ground.phase }, { on := 8, ground := Go.Ground.phase }, { on := 9, ground := Go.Ground.phase }, { on := 10, ground := Go.Ground.phase }, { on := 11, ground := Go.Ground.phase }, { on := 12, ground := Go.Ground.phase }, { on := 13, ground := Go.Ground.phase }, { on := 14, ground := Go.Ground.phase }], guard := none }) (v := .bool true) rfl (by kernel_rfl) (by kernel_rfl) (by kernel_rfl) (fun _ _ _ h => h) (Or.inl ⟨by rfl, fun W hSw => by (try dsimp only at hSw); go_simp⟩) k4 ?_
      try simp only [Act.put, List.setIfInBounds_toArray, List.set_cons_zero, List.set_cons_succ]
      refine wpAnyH_done (by kernel_rfl) ?_ _
      refine NoPanic.normal ?_
      have HKP := Lib.hid k4.2
      clear k0 k1 k2 k3 k4
      go_wp2
      go_ret
      exact ⟨rfl, _, _, HS.out, HR.out, HKP.out⟩
set_option maxRecDepth 100000 in
set_option maxHeartbeats 2000000 in
theorem one_5 (kd : UInt8) (x k key : Int) (bv : Value) (b bs ks : List UInt8) (a g h n m ra g2 h2 c d : Nat) (w : World) (hx : x ≤ 9223372036854775807) (hst : Sto w a g h n m bs ks) (hrf : Rfs w ra g2 h2 n m c d bs ks) (hgg : g ≠ g2) (hsv : ∃ W, SvB W bv b) (hv : ∀ W, Kp w W [g, h, g2, h2] → SvB W (cutV bv) (b.take 5000)) (hkd : kd.toNat % 6 = 5) :
    Calls Try.prog 13 #[.pointer (some ⟨a, 0, none⟩), .pointer (some ⟨ra, 0, none⟩), .agg #[.int .u8 (kd.toNat : Int), .int .i64 x, .int .i64 k, .int .i64 key, bv]] w (OnePost w a g h n m ra g2 h2 c d) := by
  have HBX := Lib.hid (Bx.new w 31 #[.int .u8 (kd.toNat : Int), .int .i64 x, .int .i64 k, .int .i64 key, bv])
  have HBY := Lib.hid (bytes_op kd x k key bv b hsv)
  have HD : Hid (w.heap.size ≠ g ∧ w.heap.size ≠ h ∧ w.heap.size ≠ g2 ∧ w.heap.size ≠ h2) := Lib.hid ⟨Nat.ne_of_gt hst.2.1.lt, Nat.ne_of_gt hst.2.2.1.lt, Nat.ne_of_gt hrf.2.1.lt, Nat.ne_of_gt hrf.2.2.1.lt⟩
  have HF := Lib.hid (apart_of hst hrf hgg)
  have HSV := Lib.hid hv
  have HS := Lib.hid hst
  have HR := Lib.hid hrf
  have e0 : (kd.toNat : Int) % 6 = 5 := by omega
  have hkd8 := kd.toNat_lt
  obtain ⟨d0, d1, d2, d3, d4⟩ := bx5 HBX.out
  clear hst hrf hgg hv hkd hsv
  go_enter Try.func13, Try.ntmps13
  go_upto_region 16 with fail
  refine wp_region_noPanic ?_
  refine wp_region_held_drew (S := fun W => Bx W w.heap.size 31 #[.int .u8 (kd.toNat : Int), .int .i64 x, .int .i64 k, .int .i64 key, bv] ∧ Kp w W [g, h, g2, h2]) (by kernel_rfl) ⟨HBX.out.below (Below.refl _ _).drew, (Kp.bel (below_new w _)).trans (Kp.bel (Below.refl _ _).drew)⟩ (fun k0 => ?_)
  replace HS := Lib.hid (HS.out.below (bel0 (below_new w (.cells #[.int .u8 (kd.toNat : Int), .int .i64 x, .int .i64 k, .int .i64 key, bv] 31)) (Below.refl _ _).drew))
  replace HR := Lib.hid (HR.out.below (bel0 (below_new w (.cells #[.int .u8 (kd.toNat : Int), .int .i64 x, .int .i64 k, .int .i64 key, bv] 31)) (Below.refl _ _).drew))
  show wpAnyH _ _ _ _ _ 14 #[false, false, false, false, false, false, false, false, false, false, false, false, false, false] _ _
  refine wpAnyH_take (i := 0) (oi := { dst := some 127, op := Go.Op.move (Go.Operand.tmp 0), type := 23, pos := "law.go:56", after := #[], guard := none }) (v := .pointer (some ⟨a, 0, none⟩)) rfl (by kernel_rfl) (by kernel_rfl) (by kernel_rfl) (fun _ _ _ h => h) (Or.inl ⟨by rfl, fun W hSw => by (try dsimp only at hSw); go_simp⟩) k0 ?_
  try simp only [Act.put, List.setIfInBounds_toArray, List.set_cons_zero, List.set_cons_succ]
  refine wpAnyH_take (i := 1) (oi := { dst := some 128, op := Go.Op.fieldAddr 31 (Go.Operand.tmp 5) 1, type := 0, pos := "law.go:56", after := #[], guard := none }) (v := .pointer (some ⟨w.heap.size, 1, none⟩)) rfl (by kernel_rfl) (by kernel_rfl) (by kernel_rfl) (fun _ _ _ h => h) (Or.inl ⟨by rfl, fun W hSw => by (try dsimp only at hSw); go_simp⟩) k0 ?_
  try simp only [Act.put, List.setIfInBounds_toArray, List.set_cons_zero, List.set_cons_succ]
  refine wpAnyH_take (i := 2) (oi := { dst := some 129, op := Go.Op.load 3 (Go.Operand.tmp 128), type := 3, pos := "law.go:56", after := #[{ on := 1, ground := Go.Ground.data }], guard := none }) (v := .int .i64 x) rfl (by kernel_rfl) (by kernel_rfl) (by kernel_rfl) (fun _ _ _ h => h) (Or.inl ⟨by rfl, fun W hSw => by have cc := hSw.1.cell 1; simp only [List.getElem?_toArray, List.getElem?_cons_zero, List.getElem?_cons_succ] at cc; clear hSw; go_simp⟩) k0 ?_
  try simp only [Act.put, List.setIfInBounds_toArray, List.set_cons_zero, List.set_cons_succ]
  refine wpAnyH_take (i := 3) (oi := { dst := some 130, op := Go.Op.fieldAddr 31 (Go.Operand.tmp 5) 2, type := 0, pos := "law.go:56", after := #[], guard := none }) (v := .pointer (some ⟨w.heap.size, 2, none⟩)) rfl (by kernel_rfl) (by kernel_rfl) (by kernel_rfl) (fun _ _ _ h => h) (Or.inl ⟨by rfl, fun W hSw => by (try dsimp only at hSw); go_simp⟩) k0 ?_
  try simp only [Act.put, List.setIfInBounds_toArray, List.set_cons_zero, List.set_cons_succ]
  refine wpAnyH_take (i := 4) (oi := { dst := some 131, op := Go.Op.load 3 (Go.Operand.tmp 130), type := 3, pos := "law.go:56", after := #[{ on := 3, ground := Go.Ground.data }], guard := none }) (v := .int .i64 k) rfl (by kernel_rfl) (by kernel_rfl) (by kernel_rfl) (fun _ _ _ h => h) (Or.inl ⟨by rfl, fun W hSw => by have cc := hSw.1.cell 2; simp only [List.getElem?_toArray, List.getElem?_cons_zero, List.getElem?_cons_succ] at cc; clear hSw; go_simp⟩) k0 ?_
  try simp only [Act.put, List.setIfInBounds_toArray, List.set_cons_zero, List.set_cons_succ]
  refine wpAnyH_take (i := 6) (oi := { dst := some 133, op := Go.Op.move (Go.Operand.tmp 1), type := 25, pos := "law.go:56", after := #[], guard := none }) (v := .pointer (some ⟨ra, 0, none⟩)) rfl (by kernel_rfl) (by kernel_rfl) (by kernel_rfl) (fun _ _ _ h => h) (Or.inl ⟨by rfl, fun W hSw => by (try dsimp only at hSw); go_simp⟩) k0 ?_
  try simp only [Act.put, List.setIfInBounds_toArray, List.set_cons_zero, List.set_cons_succ]
  refine wpAnyH_take (i := 7) (oi := { dst := some 134, op := Go.Op.fieldAddr 31 (Go.Operand.tmp 5) 1, type := 0, pos := "law.go:56", after := #[], guard := none }) (v := .pointer (some ⟨w.heap.size, 1, none⟩)) rfl (by kernel_rfl) (by kernel_rfl) (by kernel_rfl) (fun _ _ _ h => h) (Or.inl ⟨by rfl, fun W hSw => by (try dsimp only at hSw); go_simp⟩) k0 ?_
  try simp only [Act.put, List.setIfInBounds_toArray, List.set_cons_zero, List.set_cons_succ]
  refine wpAnyH_take (i := 8) (oi := { dst := some 135, op := Go.Op.load 3 (Go.Operand.tmp 134), type := 3, pos := "law.go:56", after := #[{ on := 7, ground := Go.Ground.data }], guard := none }) (v := .int .i64 x) rfl (by kernel_rfl) (by kernel_rfl) (by kernel_rfl) (fun _ _ _ h => h) (Or.inl ⟨by rfl, fun W hSw => by have cc := hSw.1.cell 1; simp only [List.getElem?_toArray, List.getElem?_cons_zero, List.getElem?_cons_succ] at cc; clear hSw; go_simp⟩) k0 ?_
  try simp only [Act.put, List.setIfInBounds_toArray, List.set_cons_zero, List.set_cons_succ]
  refine wpAnyH_take (i := 9) (oi := { dst := some 136, op := Go.Op.fieldAddr 31 (Go.Operand.tmp 5) 2, type := 0, pos := "law.go:56", after := #[], guard := none }) (v := .pointer (some ⟨w.heap.size, 2, none⟩)) rfl (by kernel_rfl) (by kernel_rfl) (by kernel_rfl) (fun _ _ _ h => h) (Or.inl ⟨by rfl, fun W hSw => by (try dsimp only at hSw); go_simp⟩) k0 ?_
  try simp only [Act.put, List.setIfInBounds_toArray, List.set_cons_zero, List.set_cons_succ]
  refine wpAnyH_take (i := 10) (oi := { dst := some 137, op := Go.Op.load 3 (Go.Operand.tmp 136), type := 3, pos := "law.go:56", after := #[{ on := 9, ground := Go.Ground.data }], guard := none }) (v := .int .i64 k) rfl (by kernel_rfl) (by kernel_rfl) (by kernel_rfl) (fun _ _ _ h => h) (Or.inl ⟨by rfl, fun W hSw => by have cc := hSw.1.cell 2; simp only [List.getElem?_toArray, List.getElem?_cons_zero, List.getElem?_cons_succ] at cc; clear hSw; go_simp⟩) k0 ?_
  try simp only [Act.put, List.setIfInBounds_toArray, List.set_cons_zero, List.set_cons_succ]
  refine wpAnyH_ready (rs := [5]) (by kernel_rfl) (by simp) ?_
  refine AllReadyH.cons (o := { dst := some 132, op := Go.Op.call { callee := Go.Callee.value (Go.Operand.func 25), args := #[Go.Operand.tmp 127, Go.Operand.tmp 129, Go.Operand.tmp 131], argTypes := #[23, 3, 3] }, type := 4, pos := "law.go:56", after := #[{ on := 0, ground := Go.Ground.data }, { on := 2, ground := Go.Ground.data }, { on := 4, ground := Go.Ground.data }], guard := none }) rfl (fun K hK => ?_) AllReadyH.nil
  go_simp
  go_at_call 25
  refine (clear_any a g h n m x k bs ks _ hx HS.out).mono ?_
  rintro e x1 ⟨rfl, hg, hs⟩
  have nb := (show Bx _ w.heap.size 31 #[.int .u8 (kd.toNat : Int), .int .i64 x, .int .i64 k, .int .i64 key, bv] from k0.1).grown hg (fun e => HD.out.1 (Option.some.inj e))
  have nk := k0.2.trans (Kp.of hg (by simp))
  replace HS := Lib.hid hs
  replace HR := Lib.hid (HR.out.grown hg (fun e => HF.out.1.1 (Option.some.inj e)) (fun e => HF.out.1.2.1 (Option.some.inj e)) (fun e => HF.out.1.2.2 (Option.some.inj e)))
  clear hs hg
  go_wp2_with fail
  refine hK.out _ _ ⟨nb, nk⟩ (fun k1 => ?_)
  clear nb nk
  clear hK K
  try simp only [List.setIfInBounds_toArray, List.set_cons_zero, List.set_cons_succ]
  refine wpAnyH_ready (rs := [11]) (by kernel_rfl) (by simp) ?_
  refine AllReadyH.cons (o := { dst := some 138, op := Go.Op.call { callee := Go.Callee.value (Go.Operand.func 34), args := #[Go.Operand.tmp 133, Go.Operand.tmp 135, Go.Operand.tmp 137], argTypes := #[25, 3, 3] }, type := 4, pos := "law.go:56", after := #[{ on := 6, ground := Go.Ground.data }, { on := 8, ground := Go.Ground.data }, { on := 10, ground := Go.Ground.data }, { on := 5, ground := Go.Ground.chain }], guard := none }) rfl (fun K hK => ?_) AllReadyH.nil
  go_simp
  go_at_call 34
  refine (rclear_any ra g2 h2 n m c d x k bs ks _ HR.out).mono ?_
  rintro e x2 ⟨rfl, hg, hs⟩
  have nb := (show Bx _ w.heap.size 31 #[.int .u8 (kd.toNat : Int), .int .i64 x, .int .i64 k, .int .i64 key, bv] from k1.1).grown hg (fun e => HD.out.2.2.1 (Option.some.inj e))
  have nk := k1.2.trans (Kp.of hg (by simp))
  replace HR := Lib.hid hs
  replace HS := Lib.hid (HS.out.grown hg (fun e => HF.out.2.2.1.1 (Option.some.inj e)) (fun e => HF.out.2.2.1.2.1 (Option.some.inj e)) (fun e => HF.out.2.2.1.2.2 (Option.some.inj e)))
  clear hs hg
  go_wp2_with fail
  refine hK.out _ _ ⟨nb, nk⟩ (fun k2 => ?_)
  clear nb nk
  clear hK K
  try simp only [List.setIfInBounds_toArray, List.set_cons_zero, List.set_cons_succ]
  refine wpAnyH_take (i := 12) (oi := { dst := some 139, op := Go.Op.binOp Go.BinOp.eql 4 (Go.Operand.tmp 132) (Go.Operand.tmp 138) 4, type := 4, pos := "law.go:56", after := #[{ on := 5, ground := Go.Ground.data }, { on := 11, ground := Go.Ground.data }], guard := none }) (v := .bool true) rfl (by kernel_rfl) (by kernel_rfl) (by kernel_rfl) (fun _ _ _ h => h) (Or.inl ⟨by rfl, fun W hSw => by (try dsimp only at hSw); go_simp⟩) k2 ?_
  try simp only [Act.put, List.setIfInBounds_toArray, List.set_cons_zero, List.set_cons_succ]
  refine wpAnyH_take (i := 13) (oi := { dst := some 6, op := Go.Op.assign (Go.Operand.tmp 139), type := 4, pos := "law.go:56", after := #[{ on := 12, ground := Go.Ground.data }, { on := 11, ground := Go.Ground.chain }, { on := 0, ground := Go.Ground.phase }, { on := 1, ground := Go.Ground.phase }, { on := 2, ground := Go.Ground.phase }, { on := 3, ground := Go.Ground.phase }, { on := 4, ground := Go.Ground.phase }, { on := 5, ground := Go.Ground.phase }, { on := 6, ground := Go.Ground.phase }, { on := 7, ground := Go.Ground.phase }, { on := 8, ground := Go.Ground.phase }, { on := 9, ground := Go.Ground.phase }, { on := 10, ground := Go.Ground.phase }, { on := 11, ground := Go.Ground.phase }, { on := 12, ground := Go.Ground.phase }], guard := none }) (v := .bool true) rfl (by kernel_rfl) (by kernel_rfl) (by kernel_rfl) (fun _ _ _ h => h) (Or.inl ⟨by rfl, fun W hSw => by (try dsimp only at hSw); go_simp⟩) k2 ?_
  try simp only [Act.put, List.setIfInBounds_toArray, List.set_cons_zero, List.set_cons_succ]
  refine wpAnyH_done (by kernel_rfl) ?_ _
  refine NoPanic.normal ?_
  have HKP := Lib.hid k2.2
  clear k0 k1 k2
  go_wp2
  go_ret
  exact ⟨rfl, _, _, HS.out, HR.out, HKP.out⟩
theorem one_any (kd : UInt8) (x k key : Int) (bv : Value) (b bs ks : List UInt8) (a g h n m ra g2 h2 c d : Nat) (w : World) (hx : x ≤ 9223372036854775807) (hst : Sto w a g h n m bs ks) (hrf : Rfs w ra g2 h2 n m c d bs ks) (hgg : g ≠ g2) (hv : ∀ W, Kp w W [g, h, g2, h2] → SvB W bv b) :
    Calls Try.prog 13 #[.pointer (some ⟨a, 0, none⟩), .pointer (some ⟨ra, 0, none⟩), .agg #[.int .u8 (kd.toNat : Int), .int .i64 x, .int .i64 k, .int .i64 key, bv]] w (OnePost w a g h n m ra g2 h2 c d) := by
  have hs : ∃ W, SvB W bv b := ⟨w, hv w (Kp.refl _ _)⟩
  have hc : ∀ W, Kp w W [g, h, g2, h2] → SvB W (cutV bv) (b.take 5000) := fun W hk => cutV_sv (hv W hk)
  rcases (show kd.toNat % 6 = 0 ∨ kd.toNat % 6 = 1 ∨ kd.toNat % 6 = 2 ∨ kd.toNat % 6 = 3 ∨ kd.toNat % 6 = 4 ∨ kd.toNat % 6 = 5 by omega) with h0 | h0 | h0 | h0 | h0 | h0
  · exact one_0 kd x k key bv b bs ks a g h n m ra g2 h2 c d w hx hst hrf hgg hs hc h0
  · exact one_1 kd x k key bv b bs ks a g h n m ra g2 h2 c d w hx hst hrf hgg hs hc h0
  · exact one_2 kd x k key bv b bs ks a g h n m ra g2 h2 c d w hx hst hrf hgg hs hc h0
  · exact one_3 kd x k key bv b bs ks a g h n m ra g2 h2 c d w hx hst hrf hgg hs hc h0
  · exact one_4 kd x k key bv b bs ks a g h n m ra g2 h2 c d w hx hst hrf hgg hs hc h0
  · exact one_5 kd x k key bv b bs ks a g h n m ra g2 h2 c d w hx hst hrf hgg hs hc h0

end E
end Go.Proofs.Ytnnpnklbhghegaa

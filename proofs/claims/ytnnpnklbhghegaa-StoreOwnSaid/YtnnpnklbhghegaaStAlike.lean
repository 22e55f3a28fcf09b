/- What changes but some blocks; two storages alike. -/
import Derived.Test.YtnnpnklbhghegaaStWorks
namespace Go.Proofs.Ytnnpnklbhghegaa
open Go.RowKit Go.Shelf
set_option linter.unusedVariables false
namespace E

/-- Nothing that lay has turned but the blocks named. -/
structure Kp (w w' : World) (l : List Nat) : Prop where
  os : w'.os = w.os
  tape : w'.tape = w.tape
  output : w'.output = w.output
  size : w.heap.size ≤ w'.heap.size
  block : ∀ k, k < w.heap.size → k ∉ l → w'.heap[k]? = w.heap[k]?
theorem Kp.refl (w : World) (l : List Nat) : Kp w w l := ⟨rfl, rfl, rfl, Nat.le_refl _, fun _ _ _ => rfl⟩
theorem Kp.trans {w w1 w2 : World} {l : List Nat} (h : Kp w w1 l) (k : Kp w1 w2 l) : Kp w w2 l := ⟨k.os.trans h.os, k.tape.trans h.tape, k.output.trans h.output, Nat.le_trans h.size k.size, fun b hb hn => (k.block b (Nat.lt_of_lt_of_le hb h.size) hn).trans (h.block b hb hn)⟩
theorem Kp.of {w w' : World} {g : Nat} {l : List Nat} (h : w.grownBy w' (some g)) (hg : g ∈ l) : Kp w w' l := ⟨h.os, h.tape, h.output, h.size, fun k hk hn => h.block k hk (fun e => hn (by cases e; exact hg))⟩
theorem Kp.bel {w w' : World} {l : List Nat} (h : Below w.heap.size w w') : Kp w w' l := ⟨h.os, h.tape, h.output, h.size, fun k hk _ => h.block k hk⟩
theorem Kp.below {w0 w w' : World} {l : List Nat} (h : Below w0.heap.size w0 w) (k : Kp w w' l) (hl : ∀ b, b ∈ l → w0.heap.size ≤ b) : Below w0.heap.size w0 w' := ⟨k.os.trans h.os, k.tape.trans h.tape, k.output.trans h.output, Nat.le_trans h.size k.size, fun b hb => (k.block b (Nat.lt_of_lt_of_le hb h.size) (fun hm => by have := hl b hm; omega)).trans (h.block b hb)⟩
theorem Row.kp {w w' : World} {l : List Nat} {g : Nat} {t : TypeId} {xs : List Value} {c : Nat} (h : Row w g t xs c) (k : Kp w w' l) (hn : g ∉ l) : Row w' g t xs c := by
  have hl := h.lt
  obtain ⟨cur, h1, h2⟩ := h
  exact ⟨cur, (k.block g hl hn).trans h1, h2⟩
theorem Bx.kp {w w' : World} {l : List Nat} {g : Nat} {t : TypeId} {cs : Array Value} (h : Bx w g t cs) (k : Kp w w' l) (hn : g ∉ l) : Bx w' g t cs := (k.block g h.lt hn).trans h
theorem Sto.kp {w w' : World} {l : List Nat} {a g h n m : Nat} {bs ks : List UInt8} (s : Sto w a g h n m bs ks) (k : Kp w w' l) (h1 : a ∉ l) (h2 : g ∉ l) (h3 : h ∉ l) : Sto w' a g h n m bs ks := ⟨s.1.kp k h1, s.2.1.kp k h2, s.2.2.1.kp k h3, s.2.2.2⟩
theorem Rfs.kp {w w' : World} {l : List Nat} {a g h n m c d : Nat} {bs ks : List UInt8} (s : Rfs w a g h n m c d bs ks) (k : Kp w w' l) (h1 : a ∉ l) (h2 : g ∉ l) (h3 : h ∉ l) : Rfs w' a g h n m c d bs ks := ⟨s.1.kp k h1, s.2.1.kp k h2, s.2.2.1.kp k h3, s.2.2.2⟩
set_option maxRecDepth 100000 in
set_option maxHeartbeats 2000000 in
theorem alike_any (a g h n m ra g2 h2 c d : Nat) (bs ks : List UInt8) (w : World) (hst : Sto w a g h n m bs ks) (hrf : Rfs w ra g2 h2 n m c d bs ks) : Calls Try.prog 14 #[.pointer (some ⟨a, 0, none⟩), .pointer (some ⟨ra, 0, none⟩)] w (New w (.bool true)) := by
  have hnum := hst.nums
  have HNM := Lib.hid hnum
  have HSZ := Lib.hid (fun W (hb : Below w.heap.size w W) => size_any a g n W (hst.below hb).c0)
  have HBY : Hid (∀ W, Below w.heap.size w W → Calls Try.prog 20 #[.pointer (some ⟨a, 0, none⟩), .int .i64 0, .int .i64 (n : Int)] W (BytPost W bs)) := Lib.hid (fun W hb => by
    have h1 := bytes_any a g h n m 0 (n : Int) bs ks W (by decide) (hst.below hb)
    have e : bytL n bs 0 (n : Int) = bs := by
      unfold bytL
      rw [if_pos (inB_iff.2 ⟨by omega, by omega, by omega⟩)]
      exact subL_all bs hnum.1
    rw [e] at h1
    exact h1)
  have HC0 := Lib.hid (fun W (hb : Below w.heap.size w W) => (hrf.below hb).c0)
  have HC1 := Lib.hid (fun W (hb : Below w.heap.size w W) => (hrf.below hb).c1)
  have HLK := Lib.hid (fun (j : Nat) (hj : j < m) W (hb : Below w.heap.size w W) => (hrf.below hb).lock j hj)
  have HKO : Hid (∀ j : Nat, j < m → ∀ W, Below w.heap.size w W → Calls Try.prog 24 #[.pointer (some ⟨a, 0, none⟩), .int .i64 ((j * 2048 : Nat) : Int)] W (New W (.tuple #[.int .i64 ((gt ks j).toNat : Int), .bool true]))) := Lib.hid (fun j hj W hb => by
    have h1 := keyOf_any a g h n m ((j * 2048 : Nat) : Int) bs ks W (by omega) (hst.below hb)
    have e1 : inB n ((j * 2048 : Nat) : Int) 1 = true := inB_iff.2 ⟨by omega, by omega, by omega⟩
    have e2 : keyV n ks ((j * 2048 : Nat) : Int) = ((gt ks j).toNat : Int) := by
      unfold keyV
      rw [if_pos e1, show (((j * 2048 : Nat) : Int).toNat) / 2048 = j by omega]
    rw [e1, e2] at h1
    exact h1)
  have HCR : Hid (∀ W, Below w.heap.size w W → (Go.convert 29 9 (.slice (some ⟨g2, 0, none⟩) n c)).run Try.prog W = .ok (.string ⟨bs.toArray⟩) W) := Lib.hid (fun W hb => by
    have h1 := (hrf.below hb).2.1.rd 0 n (by omega)
    rw [show (bs.drop 0).take n = bs from subL_all bs hnum.1] at h1
    have h2 := conv_rd (c := c) h1
    rw [hnum.1] at h2
    exact h2)
  clear hnum hst hrf
  go_enter Try.func14, Try.ntmps14
  go_upto_region 1 with fail
  refine wp_region_noPanic ?_
  refine wp_region_held_drew (S := fun W => Below w.heap.size w W) (by kernel_rfl) ((Below.refl _ w).drew) (fun k0 => ?_)
  show wpAnyH _ _ _ _ _ 24 #[false, false, false, false, false, false, false, false, false, false, false, false, false, false, false, false, false, false, false, false, false, false, false, false] _ _
  refine wpAnyH_take (i := 0) (oi := { dst := some 8, op := Go.Op.move (Go.Operand.tmp 0), type := 23, pos := "law.go:61", after := #[], guard := none }) (v := .pointer (some ⟨a, 0, none⟩)) rfl (by kernel_rfl) (by kernel_rfl) (by kernel_rfl) (fun _ _ _ h => h) (Or.inl ⟨by rfl, fun W hSw => by (try dsimp only at hSw); go_simp⟩) k0 ?_
  try simp only [Act.put, List.setIfInBounds_toArray, List.set_cons_zero, List.set_cons_succ]
  refine wpAnyH_take (i := 2) (oi := { dst := some 10, op := Go.Op.move (Go.Operand.tmp 1), type := 25, pos := "law.go:61", after := #[], guard := none }) (v := .pointer (some ⟨ra, 0, none⟩)) rfl (by kernel_rfl) (by kernel_rfl) (by kernel_rfl) (fun _ _ _ h => h) (Or.inl ⟨by rfl, fun W hSw => by (try dsimp only at hSw); go_simp⟩) k0 ?_
  try simp only [Act.put, List.setIfInBounds_toArray, List.set_cons_zero, List.set_cons_succ]
  refine wpAnyH_take (i := 3) (oi := { dst := some 11, op := Go.Op.nilCheck (Go.Operand.tmp 10), type := 0, pos := "law.go:61", after := #[{ on := 2, ground := Go.Ground.data }], guard := none }) (v := .pointer (some ⟨ra, 0, none⟩)) rfl (by kernel_rfl) (by kernel_rfl) (by kernel_rfl) (fun _ _ _ h => h) (Or.inl ⟨by rfl, fun W hSw => by (try dsimp only at hSw); go_simp⟩) k0 ?_
  try simp only [Act.put, List.setIfInBounds_toArray, List.set_cons_zero, List.set_cons_succ]
  refine wpAnyH_take (i := 4) (oi := { dst := some 12, op := Go.Op.fieldAddr 63 (Go.Operand.tmp 11) 0, type := 0, pos := "law.go:61", after := #[{ on := 3, ground := Go.Ground.data }], guard := none }) (v := .pointer (some ⟨ra, 0, none⟩)) rfl (by kernel_rfl) (by kernel_rfl) (by kernel_rfl) (fun _ _ _ h => h) (Or.inl ⟨by rfl, fun W hSw => by (try dsimp only at hSw); go_simp⟩) k0 ?_
  try simp only [Act.put, List.setIfInBounds_toArray, List.set_cons_zero, List.set_cons_succ]
  refine wpAnyH_take (i := 5) (oi := { dst := some 13, op := Go.Op.load 29 (Go.Operand.tmp 12), type := 29, pos := "law.go:61", after := #[{ on := 4, ground := Go.Ground.data }], guard := none }) (v := .slice (some ⟨g2, 0, none⟩) n c) rfl (by kernel_rfl) (by kernel_rfl) (by kernel_rfl) (fun _ _ _ h => h) (Or.inl ⟨by rfl, fun W hSw => by have cc := HC0.out W hSw; clear hSw; go_simp⟩) k0 ?_
  try simp only [Act.put, List.setIfInBounds_toArray, List.set_cons_zero, List.set_cons_succ]
  refine wpAnyH_take (i := 6) (oi := { dst := some 14, op := Go.Op.call { callee := Go.Callee.builtin Go.Builtin.len, args := #[Go.Operand.tmp 13], argTypes := #[29] }, type := 3, pos := "law.go:61", after := #[{ on := 5, ground := Go.Ground.data }], guard := none }) (v := .int .i64 (n : Int)) rfl (by kernel_rfl) (by kernel_rfl) (by kernel_rfl) (fun _ _ _ h => h) (Or.inl ⟨by rfl, fun W hSw => by (try dsimp only at hSw); go_simp⟩) k0 ?_
  try simp only [Act.put, List.setIfInBounds_toArray, List.set_cons_zero, List.set_cons_succ]
  refine wpAnyH_ready (rs := [1]) (by kernel_rfl) (by simp) ?_
  refine AllReadyH.cons (o := { dst := some 9, op := Go.Op.call { callee := Go.Callee.value (Go.Operand.func 21), args := #[Go.Operand.tmp 8], argTypes := #[23] }, type := 3, pos := "law.go:61", after := #[{ on := 0, ground := Go.Ground.data }], guard := none }) rfl (fun K hK => ?_) AllReadyH.nil
  go_simp
  go_at_call 21
  refine (HSZ.out _ k0).mono ?_
  rintro e xx ⟨rfl, rfl⟩
  go_wp2_with fail
  refine hK.out _ _ k0 (fun k1 => ?_)
  clear hK K
  try simp only [List.setIfInBounds_toArray, List.set_cons_zero, List.set_cons_succ]
  refine wpAnyH_take (i := 7) (oi := { dst := some 15, op := Go.Op.binOp Go.BinOp.neq 3 (Go.Operand.tmp 9) (Go.Operand.tmp 14) 3, type := 4, pos := "law.go:61", after := #[{ on := 1, ground := Go.Ground.data }, { on := 6, ground := Go.Ground.data }], guard := none }) (v := .bool false) rfl (by kernel_rfl) (by kernel_rfl) (by kernel_rfl) (fun _ _ _ h => h) (Or.inl ⟨by rfl, fun W hSw => by (try dsimp only at hSw); go_simp⟩) k1 ?_
  try simp only [Act.put, List.setIfInBounds_toArray, List.set_cons_zero, List.set_cons_succ]
  refine wpAnyH_take (i := 8) (oi := { dst := some 16, op := Go.Op.move (Go.Operand.tmp 15), type := 4, pos := "law.go:61", after := #[{ on := 7, ground := Go.Ground.data }, { on := 1, ground := Go.Ground.chain }], guard := none }) (v := .bool false) rfl (by kernel_rfl) (by kernel_rfl) (by kernel_rfl) (fun _ _ _ h => h) (Or.inl ⟨by rfl, fun W hSw => by (try dsimp only at hSw); go_simp⟩) k1 ?_
  try simp only [Act.put, List.setIfInBounds_toArray, List.set_cons_zero, List.set_cons_succ]
  refine wpAnyH_take (i := 9) (oi := { dst := some 17, op := Go.Op.move (Go.Operand.tmp 0), type := 23, pos := "law.go:61", after := #[{ on := 8, ground := Go.Ground.guard }], guard := some (8, false) }) (v := .pointer (some ⟨a, 0, none⟩)) rfl (by kernel_rfl) (by kernel_rfl) (by kernel_rfl) (fun _ _ _ h => h) (Or.inl ⟨by rfl, fun W hSw => by (try dsimp only at hSw); go_simp⟩) k1 ?_
  try simp only [Act.put, List.setIfInBounds_toArray, List.set_cons_zero, List.set_cons_succ]
  refine wpAnyH_take (i := 10) (oi := { dst := some 18, op := Go.Op.move (Go.Operand.tmp 1), type := 25, pos := "law.go:61", after := #[{ on := 8, ground := Go.Ground.guard }], guard := some (8, false) }) (v := .pointer (some ⟨ra, 0, none⟩)) rfl (by kernel_rfl) (by kernel_rfl) (by kernel_rfl) (fun _ _ _ h => h) (Or.inl ⟨by rfl, fun W hSw => by (try dsimp only at hSw); go_simp⟩) k1 ?_
  try simp only [Act.put, List.setIfInBounds_toArray, List.set_cons_zero, List.set_cons_succ]
  refine wpAnyH_take (i := 11) (oi := { dst := some 19, op := Go.Op.nilCheck (Go.Operand.tmp 18), type := 0, pos := "law.go:61", after := #[{ on := 10, ground := Go.Ground.data }, { on := 8, ground := Go.Ground.guard }], guard := some (8, false) }) (v := .pointer (some ⟨ra, 0, none⟩)) rfl (by kernel_rfl) (by kernel_rfl) (by kernel_rfl) (fun _ _ _ h => h) (Or.inl ⟨by rfl, fun W hSw => by (try dsimp only at hSw); go_simp⟩) k1 ?_
  try simp only [Act.put, List.setIfInBounds_toArray, List.set_cons_zero, List.set_cons_succ]
  refine wpAnyH_take (i := 12) (oi := { dst := some 20, op := Go.Op.fieldAddr 63 (Go.Operand.tmp 19) 0, type := 0, pos := "law.go:61", after := #[{ on := 11, ground := Go.Ground.data }, { on := 8, ground := Go.Ground.guard }], guard := some (8, false) }) (v := .pointer (some ⟨ra, 0, none⟩)) rfl (by kernel_rfl) (by kernel_rfl) (by kernel_rfl) (fun _ _ _ h => h) (Or.inl ⟨by rfl, fun W hSw => by (try dsimp only at hSw); go_simp⟩) k1 ?_
  try simp only [Act.put, List.setIfInBounds_toArray, List.set_cons_zero, List.set_cons_succ]
  refine wpAnyH_take (i := 13) (oi := { dst := some 21, op := Go.Op.load 29 (Go.Operand.tmp 20), type := 29, pos := "law.go:61", after := #[{ on := 12, ground := Go.Ground.data }, { on := 8, ground := Go.Ground.guard }], guard := some (8, false) }) (v := .slice (some ⟨g2, 0, none⟩) n c) rfl (by kernel_rfl) (by kernel_rfl) (by kernel_rfl) (fun _ _ _ h => h) (Or.inl ⟨by rfl, fun W hSw => by have cc := HC0.out W hSw; clear hSw; go_simp⟩) k1 ?_
  try simp only [Act.put, List.setIfInBounds_toArray, List.set_cons_zero, List.set_cons_succ]
  refine wpAnyH_take (i := 14) (oi := { dst := some 22, op := Go.Op.call { callee := Go.Callee.builtin Go.Builtin.len, args := #[Go.Operand.tmp 21], argTypes := #[29] }, type := 3, pos := "law.go:61", after := #[{ on := 13, ground := Go.Ground.data }, { on := 8, ground := Go.Ground.guard }], guard := some (8, false) }) (v := .int .i64 (n : Int)) rfl (by kernel_rfl) (by kernel_rfl) (by kernel_rfl) (fun _ _ _ h => h) (Or.inl ⟨by rfl, fun W hSw => by (try dsimp only at hSw); go_simp⟩) k1 ?_
  try simp only [Act.put, List.setIfInBounds_toArray, List.set_cons_zero, List.set_cons_succ]
  refine wpAnyH_take (i := 17) (oi := { dst := some 25, op := Go.Op.move (Go.Operand.tmp 1), type := 25, pos := "law.go:61", after := #[{ on := 8, ground := Go.Ground.guard }], guard := some (8, false) }) (v := .pointer (some ⟨ra, 0, none⟩)) rfl (by kernel_rfl) (by kernel_rfl) (by kernel_rfl) (fun _ _ _ h => h) (Or.inl ⟨by rfl, fun W hSw => by (try dsimp only at hSw); go_simp⟩) k1 ?_
  try simp only [Act.put, List.setIfInBounds_toArray, List.set_cons_zero, List.set_cons_succ]
  refine wpAnyH_take (i := 18) (oi := { dst := some 26, op := Go.Op.nilCheck (Go.Operand.tmp 25), type := 0, pos := "law.go:61", after := #[{ on := 17, ground := Go.Ground.data }, { on := 8, ground := Go.Ground.guard }], guard := some (8, false) }) (v := .pointer (some ⟨ra, 0, none⟩)) rfl (by kernel_rfl) (by kernel_rfl) (by kernel_rfl) (fun _ _ _ h => h) (Or.inl ⟨by rfl, fun W hSw => by (try dsimp only at hSw); go_simp⟩) k1 ?_
  try simp only [Act.put, List.setIfInBounds_toArray, List.set_cons_zero, List.set_cons_succ]
  refine wpAnyH_take (i := 19) (oi := { dst := some 27, op := Go.Op.fieldAddr 63 (Go.Operand.tmp 26) 0, type := 0, pos := "law.go:61", after := #[{ on := 18, ground := Go.Ground.data }, { on := 8, ground := Go.Ground.guard }], guard := some (8, false) }) (v := .pointer (some ⟨ra, 0, none⟩)) rfl (by kernel_rfl) (by kernel_rfl) (by kernel_rfl) (fun _ _ _ h => h) (Or.inl ⟨by rfl, fun W hSw => by (try dsimp only at hSw); go_simp⟩) k1 ?_
  try simp only [Act.put, List.setIfInBounds_toArray, List.set_cons_zero, List.set_cons_succ]
  refine wpAnyH_take (i := 20) (oi := { dst := some 28, op := Go.Op.load 29 (Go.Operand.tmp 27), type := 29, pos := "law.go:61", after := #[{ on := 19, ground := Go.Ground.data }, { on := 8, ground := Go.Ground.guard }], guard := some (8, false) }) (v := .slice (some ⟨g2, 0, none⟩) n c) rfl (by kernel_rfl) (by kernel_rfl) (by kernel_rfl) (fun _ _ _ h => h) (Or.inl ⟨by rfl, fun W hSw => by have cc := HC0.out W hSw; clear hSw; go_simp⟩) k1 ?_
  try simp only [Act.put, List.setIfInBounds_toArray, List.set_cons_zero, List.set_cons_succ]
  refine wpAnyH_ready (rs := [15, 21]) (by kernel_rfl) (by simp) ?_
  refine AllReadyH.cons (o := { dst := some 23, op := Go.Op.call { callee := Go.Callee.value (Go.Operand.func 20), args := #[Go.Operand.tmp 17, Go.Operand.const (Go.Value.int Go.IntKind.i64 0), Go.Operand.tmp 22], argTypes := #[23, 3, 3] }, type := 29, pos := "law.go:61", after := #[{ on := 9, ground := Go.Ground.data }, { on := 14, ground := Go.Ground.data }, { on := 8, ground := Go.Ground.chain }, { on := 8, ground := Go.Ground.guard }], guard := some (8, false) }) rfl (fun K hK => ?_) (AllReadyH.cons (o := { dst := some 29, op := Go.Op.convert 29 9 (Go.Operand.tmp 28), type := 9, pos := "law.go:61", after := #[{ on := 20, ground := Go.Ground.data }, { on := 8, ground := Go.Ground.guard }], guard := some (8, false) }) rfl (fun K hK => ?_) AllReadyH.nil)
  · go_simp
    go_at_call 20
    refine (HBY.out _ k1).mono ?_
    rintro e x2 ⟨sv, rfl, hh, hb⟩
    have HSV := Lib.hid hh.svb
    go_wp2_with fail
    refine hK.out _ _ (bel0 k1 hb) (fun k2 => ?_)
    clear hK K
    try simp only [List.setIfInBounds_toArray, List.set_cons_zero, List.set_cons_succ]
    refine wpAnyH_ready (rs := [16, 21]) (by kernel_rfl) (by simp) ?_
    refine AllReadyH.cons (o := { dst := some 24, op := Go.Op.convert 29 9 (Go.Operand.tmp 23), type := 9, pos := "law.go:61", after := #[{ on := 15, ground := Go.Ground.data }, { on := 8, ground := Go.Ground.guard }], guard := some (8, false) }) rfl (fun K hK => ?_) (AllReadyH.cons (o := { dst := some 29, op := Go.Op.convert 29 9 (Go.Operand.tmp 28), type := 9, pos := "law.go:61", after := #[{ on := 20, ground := Go.Ground.data }, { on := 8, ground := Go.Ground.guard }], guard := some (8, false) }) rfl (fun K hK => ?_) AllReadyH.nil)
    · have cv3 := conv_sv HSV.out
      go_simp
      refine hK.out _ _ k2 (fun k3 => ?_)
      clear cv3
      clear hK K
      try simp only [List.setIfInBounds_toArray, List.set_cons_zero, List.set_cons_succ]
      refine wpAnyH_ready (rs := [21]) (by kernel_rfl) (by simp) ?_
      refine AllReadyH.cons (o := { dst := some 29, op := Go.Op.convert 29 9 (Go.Operand.tmp 28), type := 9, pos := "law.go:61", after := #[{ on := 20, ground := Go.Ground.data }, { on := 8, ground := Go.Ground.guard }], guard := some (8, false) }) rfl (fun K hK => ?_) AllReadyH.nil
      have cv4 := HCR.out _ k3
      go_simp
      refine hK.out _ _ k3 (fun k4 => ?_)
      clear cv4
      clear hK K
      try simp only [List.setIfInBounds_toArray, List.set_cons_zero, List.set_cons_succ]
      refine wpAnyH_take (i := 22) (oi := { dst := some 30, op := Go.Op.binOp Go.BinOp.neq 9 (Go.Operand.tmp 24) (Go.Operand.tmp 29) 9, type := 4, pos := "law.go:61", after := #[{ on := 16, ground := Go.Ground.data }, { on := 21, ground := Go.Ground.data }, { on := 8, ground := Go.Ground.guard }], guard := some (8, false) }) (v := .bool false) rfl (by kernel_rfl) (by kernel_rfl) (by kernel_rfl) (fun _ _ _ h => h) (Or.inl ⟨by rfl, fun W hSw => by (try dsimp only at hSw); go_simp⟩) k4 ?_
      try simp only [Act.put, List.setIfInBounds_toArray, List.set_cons_zero, List.set_cons_succ]
      refine wpAnyH_take (i := 23) (oi := { dst := some 31, op := Go.Op.pick (Go.Operand.tmp 16) (Go.Operand.const (Go.Value.bool true)) (Go.Operand.tmp 30), type := 4, pos := "law.go:61", after := #[{ on := 8, ground := Go.Ground.data }, { on := 22, ground := Go.Ground.data }], guard := none }) (v := .bool false) rfl (by kernel_rfl) (by kernel_rfl) (by kernel_rfl) (fun _ _ _ h => h) (Or.inl ⟨by rfl, fun W hSw => by (try dsimp only at hSw); go_simp⟩) k4 ?_
      try simp only [Act.put, List.setIfInBounds_toArray, List.set_cons_zero, List.set_cons_succ]
      refine wpAnyH_done (by kernel_rfl) ?_ _
      refine NoPanic.normal ?_
      have HB1 := Lib.hid k4
      clear k0 k1 k2 k3 k4 HSV hb hh
      go_wp2
      go_loopw [5, 6, 7] (fun i _ _ wr => Below w.heap.size w wr ∧ ∃ j : Nat, j ≤ m ∧ i = .int .i64 (j : Int)) (fun i _ _ _ => m - (intOf i).toNat)
      case atStart => exact ⟨HB1.out, 0, Nat.zero_le _, rfl⟩
      case round =>
        obtain ⟨hb, j, hj, rfl⟩ := hrel
        have HB := Lib.hid hb
        have c1 := HC1.out _ hb
        have hm32 : (m : Int) ≤ 32 := by have := HNM.out; omega
        clear hb
        by_cases hlt : j < m
        · have hlt' : (j : Int) < (m : Int) := by omega
          obtain ⟨q, hq⟩ : ∃ q, q = j * 2048 := ⟨_, rfl⟩
          have hw1 : (j : Int) * 2048 = (q : Int) := by omega
          have HK := Lib.hid (HKO.out j hlt _ HB.out)
          have hqs : (q : Int) ≤ 65536 := by omega
          rw [← hq] at HK
          clear hq
          go_wp2_with fail
          refine HK.out.mono ?_
          rintro e w2 ⟨rfl, hb2⟩
          have HB2 := Lib.hid (bel0 HB.out hb2)
          clear c1
          have c1 := HC1.out _ HB2.out
          have c2 := HLK.out j hlt _ HB2.out
          clear hb2 hw1 hqs HK
          go_wp2
          go_roundw
          case rel => exact ⟨HB2.out, j + 1, hlt, by go_num⟩
          case measure => simp [intOf]; omega
        · obtain rfl : j = m := by omega
          go_wp2
          go_ret
          exact ⟨rfl, HB.out⟩
    · have cv3 := HCR.out _ k2
      go_simp
      refine hK.out _ _ k2 (fun k3 => ?_)
      clear cv3
      clear hK K
      try simp only [List.setIfInBounds_toArray, List.set_cons_zero, List.set_cons_succ]
      refine wpAnyH_ready (rs := [16]) (by kernel_rfl) (by simp) ?_
      refine AllReadyH.cons (o := { dst := some 24, op := Go.Op.convert 29 9 (Go.Operand.tmp 23), type := 9, pos := "law.go:61", after := #[{ on := 15, ground := Go.Ground.data }, { on := 8, ground := Go.Ground.guard }], guard := some (8, false) }) rfl (fun K hK => ?_) AllReadyH.nil
      have cv4 := conv_sv HSV.out
      go_simp
      refine hK.out _ _ k3 (fun k4 => ?_)
      clear cv4
      clear hK K
      try simp only [List.setIfInBounds_toArray, List.set_cons_zero, List.set_cons_succ]
      refine wpAnyH_take (i := 22) (oi := { dst := some 30, op := Go.Op.binOp Go.BinOp.neq 9 (Go.Operand.tmp 24) (Go.Operand.tmp 29) 9, type := 4, pos := "law.go:61", after := #[{ on := 16, ground := Go.Ground.data }, { on := 21, ground := Go.Ground.data }, { on := 8, ground := Go.Ground.guard }], guard := some (8, false) }) (v := .bool false) rfl (by kernel_rfl) (by kernel_rfl) (by kernel_rfl) (fun _ _ _ h => h) (Or.inl ⟨by rfl, fun W hSw => by (try dsimp only at hSw); go_simp⟩) k4 ?_
      try simp only [Act.put, List.setIfInBounds_toArray, List.set_cons_zero, List.set_cons_succ]
      refine wpAnyH_take (i := 23) (oi := { dst := some 31, op := Go.Op.pick (Go.Operand.tmp 16) (Go.Operand.const (Go.Value.bool true)) (Go.Operand.tmp 30), type := 4, pos := "law.go:61", after := #[{ on := 8, ground := Go.Ground.data }, { on := 22, ground := Go.Ground.data }], guard := none }) (v := .bool false) rfl (by kernel_rfl) (by kernel_rfl) (by kernel_rfl) (fun _ _ _ h => h) (Or.inl ⟨by rfl, fun W hSw => by (try dsimp only at hSw); go_simp⟩) k4 ?_
      try simp only [Act.put, List.setIfInBounds_toArray, List.set_cons_zero, List.set_cons_succ]
      refine wpAnyH_done (by kernel_rfl) ?_ _
      refine NoPanic.normal ?_
      have HB1 := Lib.hid k4
      clear k0 k1 k2 k3 k4 HSV hb hh
      go_wp2
      go_loopw [5, 6, 7] (fun i _ _ wr => Below w.heap.size w wr ∧ ∃ j : Nat, j ≤ m ∧ i = .int .i64 (j : Int)) (fun i _ _ _ => m - (intOf i).toNat)
      case atStart => exact ⟨HB1.out, 0, Nat.zero_le _, rfl⟩
      case round =>
        obtain ⟨hb, j, hj, rfl⟩ := hrel
        have HB := Lib.hid hb
        have c1 := HC1.out _ hb
        have hm32 : (m : Int) ≤ 32 := by have := HNM.out; omega
        clear hb
        by_cases hlt : j < m
        · have hlt' : (j : Int) < (m : Int) := by omega
          obtain ⟨q, hq⟩ : ∃ q, q = j * 2048 := ⟨_, rfl⟩
          have hw1 : (j : Int) * 2048 = (q : Int) := by omega
          have HK := Lib.hid (HKO.out j hlt _ HB.out)
          have hqs : (q : Int) ≤ 65536 := by omega
          rw [← hq] at HK
          clear hq
          go_wp2_with fail
          refine HK.out.mono ?_
          rintro e w2 ⟨rfl, hb2⟩
          have HB2 := Lib.hid (bel0 HB.out hb2)
          clear c1
          have c1 := HC1.out _ HB2.out
          have c2 := HLK.out j hlt _ HB2.out
          clear hb2 hw1 hqs HK
          go_wp2
          go_roundw
          case rel => exact ⟨HB2.out, j + 1, hlt, by go_num⟩
          case measure => simp [intOf]; omega
        · obtain rfl : j = m := by omega
          go_wp2
          go_ret
          exact ⟨rfl, HB.out⟩
  · have cv2 := HCR.out _ k1
    go_simp
    refine hK.out _ _ k1 (fun k2 => ?_)
    clear cv2
    clear hK K
    try simp only [List.setIfInBounds_toArray, List.set_cons_zero, List.set_cons_succ]
    refine wpAnyH_ready (rs := [15]) (by kernel_rfl) (by simp) ?_
    refine AllReadyH.cons (o := { dst := some 23, op := Go.Op.call { callee := Go.Callee.value (Go.Operand.func 20), args := #[Go.Operand.tmp 17, Go.Operand.const (Go.Value.int Go.IntKind.i64 0), Go.Operand.tmp 22], argTypes := #[23, 3, 3] }, type := 29, pos := "law.go:61", after := #[{ on := 9, ground := Go.Ground.data }, { on := 14, ground := Go.Ground.data }, { on := 8, ground := Go.Ground.chain }, { on := 8, ground := Go.Ground.guard }], guard := some (8, false) }) rfl (fun K hK => ?_) AllReadyH.nil
    go_simp
    go_at_call 20
    refine (HBY.out _ k2).mono ?_
    rintro e x3 ⟨sv, rfl, hh, hb⟩
    have HSV := Lib.hid hh.svb
    go_wp2_with fail
    refine hK.out _ _ (bel0 k2 hb) (fun k3 => ?_)
    clear hK K
    try simp only [List.setIfInBounds_toArray, List.set_cons_zero, List.set_cons_succ]
    refine wpAnyH_ready (rs := [16]) (by kernel_rfl) (by simp) ?_
    refine AllReadyH.cons (o := { dst := some 24, op := Go.Op.convert 29 9 (Go.Operand.tmp 23), type := 9, pos := "law.go:61", after := #[{ on := 15, ground := Go.Ground.data }, { on := 8, ground := Go.Ground.guard }], guard := some (8, false) }) rfl (fun K hK => ?_) AllReadyH.nil
    have cv4 := conv_sv HSV.out
    go_simp
    refine hK.out _ _ k3 (fun k4 => ?_)
    clear cv4
    clear hK K
    try simp only [List.setIfInBounds_toArray, List.set_cons_zero, List.set_cons_succ]
    refine wpAnyH_take (i := 22) (oi := { dst := some 30, op := Go.Op.binOp Go.BinOp.neq 9 (Go.Operand.tmp 24) (Go.Operand.tmp 29) 9, type := 4, pos := "law.go:61", after := #[{ on := 16, ground := Go.Ground.data }, { on := 21, ground := Go.Ground.data }, { on := 8, ground := Go.Ground.guard }], guard := some (8, false) }) (v := .bool false) rfl (by kernel_rfl) (by kernel_rfl) (by kernel_rfl) (fun _ _ _ h => h) (Or.inl ⟨by rfl, fun W hSw => by (try dsimp only at hSw); go_simp⟩) k4 ?_
    try simp only [Act.put, List.setIfInBounds_toArray, List.set_cons_zero, List.set_cons_succ]
    refine wpAnyH_take (i := 23) (oi := { dst := some 31, op := Go.Op.pick (Go.Operand.tmp 16) (Go.Operand.const (Go.Value.bool true)) (Go.Operand.tmp 30), type := 4, pos := "law.go:61", after := #[{ on := 8, ground := Go.Ground.data }, { on := 22, ground := Go.Ground.data }], guard := none }) (v := .bool false) rfl (by kernel_rfl) (by kernel_rfl) (by kernel_rfl) (fun _ _ _ h => h) (Or.inl ⟨by rfl, fun W hSw => by (try dsimp only at hSw); go_simp⟩) k4 ?_
    try simp only [Act.put, List.setIfInBounds_toArray, List.set_cons_zero, List.set_cons_succ]
    refine wpAnyH_done (by kernel_rfl) ?_ _
    refine NoPanic.normal ?_
    have HB1 := Lib.hid k4
    clear k0 k1 k2 k3 k4 HSV hb hh
    go_wp2
    go_loopw [5, 6, 7] (fun i _ _ wr => Below w.heap.size w wr ∧ ∃ j : Nat, j ≤ m ∧ i = .int .i64 (j : Int)) (fun i _ _ _ => m - (intOf i).toNat)
    case atStart => exact ⟨HB1.out, 0, Nat.zero_le _, rfl⟩
    case round =>
      obtain ⟨hb, j, hj, rfl⟩ := hrel
      have HB := Lib.hid hb
      have c1 := HC1.out _ hb
      have hm32 : (m : Int) ≤ 32 := by have := HNM.out; omega
      clear hb
      by_cases hlt : j < m
      · have hlt' : (j : Int) < (m : Int) := by omega
        obtain ⟨q, hq⟩ : ∃ q, q = j * 2048 := ⟨_, rfl⟩
        have hw1 : (j : Int) * 2048 = (q : Int) := by omega
        have HK := Lib.hid (HKO.out j hlt _ HB.out)
        have hqs : (q : Int) ≤ 65536 := by omega
        rw [← hq] at HK
        clear hq
        go_wp2_with fail
        refine HK.out.mono ?_
        rintro e w2 ⟨rfl, hb2⟩
        have HB2 := Lib.hid (bel0 HB.out hb2)
        clear c1
        have c1 := HC1.out _ HB2.out
        have c2 := HLK.out j hlt _ HB2.out
        clear hb2 hw1 hqs HK
        go_wp2
        go_roundw
        case rel => exact ⟨HB2.out, j + 1, hlt, by go_num⟩
        case measure => simp [intOf]; omega
      · obtain rfl : j = m := by omega
        go_wp2
        go_ret
        exact ⟨rfl, HB.out⟩

end E
end Go.Proofs.Ytnnpnklbhghegaa

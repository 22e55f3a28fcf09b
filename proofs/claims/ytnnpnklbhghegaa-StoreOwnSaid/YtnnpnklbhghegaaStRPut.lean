/- The given answers: Put and Clear. -/
import Derived.Test.YtnnpnklbhghegaaStRCalls
namespace Go.Proofs.Ytnnpnklbhghegaa
open Go.RowKit Go.Shelf
set_option linter.unusedVariables false
namespace E

theorem putL_step {bs b : List UInt8} {X j : Nat} (hj : j < b.length) (hl : X + b.length ≤ bs.length) : (putL bs X (b.take j)).set (X + j) (gt b j) = putL bs X (b.take (j + 1)) := by
  have h1 : (b.take j).length = j := by rw [List.length_take]; omega
  have h2 : (b.take (j + 1)).length = j + 1 := by rw [List.length_take]; omega
  have l1 : (putL bs X (b.take j)).length = bs.length := putL_len (by omega)
  have l2 : (putL bs X (b.take (j + 1))).length = bs.length := putL_len (by omega)
  refine ext_gt (by rw [List.length_set, l1, l2]) fun i hi => ?_
  rw [gt_setX (by omega), gt_putL (by omega), gt_putL (by omega), h1, h2]
  have gtake : ∀ k i, i < k → gt (b.take k) i = gt b i := fun k i h => by
    unfold gt
    simp only [List.getD_eq_getElem?_getD]
    rw [List.getElem?_take, if_pos h]
  by_cases e : i = X + j
  · rw [if_pos e, if_pos (by omega), gtake _ _ (by omega)]
    congr 1
    omega
  · rw [if_neg e]
    by_cases e2 : X ≤ i ∧ i < X + j
    · rw [if_pos e2, if_pos (by omega), gtake _ _ (by omega), gtake _ _ (by omega)]
    · rw [if_neg e2, if_neg (by omega)]
theorem Rfs.step {w wr : World} {a g h n m c d X j : Nat} {bs ks b : List UInt8} (s : Rfs wr a g h n m c d (putL bs X (b.take j)) ks) (hg : w.grownBy wr (some g)) (hbs : bs.length = n) (hj : j < b.length) (hl : X + b.length ≤ n) :
    w.grownBy (wr.setCell ⟨g, X + j, none⟩ (.int .u8 ((gt b j).toNat : Int))) (some g) ∧ Rfs (wr.setCell ⟨g, X + j, none⟩ (.int .u8 ((gt b j).toNat : Int))) a g h n m c d (putL bs X (b.take (j + 1))) ks := by
  obtain ⟨h1, h2⟩ := s.2.1.set (X + j) (.int .u8 ((gt b j).toNat : Int))
  rw [bsU_set, putL_step hj (by omega)] at h1
  exact ⟨hg.trans h2, s.spliced h1 (by rw [putL_len (by rw [List.length_take]; omega), hbs]) h2⟩
theorem Rfs.stepped {w wr : World} {a g h n m c d X j : Nat} {bs ks b : List UInt8} (s : Rfs wr a g h n m c d (putL bs X (b.take j)) ks) (hg : w.grownBy wr (some g)) (hbs : bs.length = n) (hj : j < b.length) (hl : X + b.length ≤ n) {q v : Nat} (hq : q = X + j) (hv : v = (gt b j).toNat) :
    w.grownBy (wr.setCell ⟨g, q, none⟩ (.int .u8 (v : Int))) (some g) ∧ Rfs (wr.setCell ⟨g, q, none⟩ (.int .u8 (v : Int))) a g h n m c d (putL bs X (b.take (j + 1))) ks := by
  subst hq hv
  exact s.step hg hbs hj hl
theorem i64add {X j q : Nat} (h : q = X + j) (h2 : q ≤ 131072) : IntKind.i64.wrap ((X : Int) + (j : Int)) = (q : Int) := by
  simp [IntKind.wrap, IntKind.bits, IntKind.signed]; omega
theorem gt_rep {k j : Nat} : gt (List.replicate k 0) j = 0 := by
  unfold gt
  simp only [List.getD_eq_getElem?_getD, List.getElem?_replicate]
  split <;> rfl
set_option maxRecDepth 100000 in
set_option maxHeartbeats 1000000 in
theorem rput_yes (a g h n m c d X : Nat) (key : Int) (p : Option Addr) (cb : Nat) (b bs ks : List UInt8) (w : World) (hst : Rfs w a g h n m c d bs ks) (hr : ∀ w', w.grownBy w' (some g) → Rd w' p b) (h0 : codeV (stP key) n ks (X : Int) (b.length : Int) = 0) :
    Calls Try.prog 29 #[.pointer (some ⟨a, 0, none⟩), .int .i64 (X : Int), .slice p b.length cb, .int .i64 key] w (RPutPost w a g h n m c d (putL bs X b) ks (.int .i64 0)) := by
  have hnum := hst.nums
  have H2 := Lib.hid (rcode_any false a g h n m c d (X : Int) (b.length : Int) key bs ks w hst)
  rw [pF_no, h0] at H2
  obtain ⟨i1, i2, i3⟩ := inB_iff.1 (codeV_in h0)
  obtain ⟨lb, hlb⟩ : ∃ lb, lb = b.length := ⟨_, rfl⟩
  rw [← hlb] at H2 ⊢
  have HXL : Hid (X + b.length ≤ n ∧ n ≤ 65536 ∧ lb = b.length) := Lib.hid ⟨by omega, by omega, hlb⟩
  have HBS := Lib.hid hnum.1
  have HR := Lib.hid hr
  have HST := Lib.hid hst
  clear hnum i1 i2 i3 hlb hr hst h0
  go_enter Try.func29, Try.ntmps29
  go_wp2_with fail
  refine H2.out.mono ?_
  rintro e w1 ⟨rfl, rfl⟩
  go_wp2
  go_loopw [10] (fun i wr => w.grownBy wr (some g) ∧ Rfs wr a g h n m c d (putL bs X (b.take (intOf i).toNat)) ks ∧ ∃ j : Nat, j ≤ lb ∧ i = .int .i64 (j : Int)) (fun i _ => lb - (intOf i).toNat)
  case atStart => exact ⟨World.grownBy.refl _ _, by simpa [intOf, putL] using HST.out, 0, Nat.zero_le _, rfl⟩
  case round =>
    obtain ⟨hg, hs, j, hj, rfl⟩ := hrel
    have hs' : Rfs wr a g h n m c d (putL bs X (b.take j)) ks := hs
    have HS := Lib.hid hs'
    have HG := Lib.hid hg
    clear hs hs' hg
    by_cases hlt : j < lb
    · have hjb : j < b.length := by have := HXL.out.2.2; omega
      obtain ⟨B, off, rfl, hcb⟩ : ∃ B off, p = some ⟨B, off, none⟩ ∧ wr.cell? ⟨B, off + j, none⟩ = some (.int .u8 ((gt b j).toNat : Int)) := by
        rcases HR.out wr HG.out with h1 | ⟨B, off, h1, h2⟩
        · rw [h1] at hjb; simp at hjb
        · exact ⟨B, off, h1, h2 j hjb⟩
      have hfar : B ≠ g ∨ True := .inr trivial
      have hcb2 : ∀ v : Value, (wr.drew.setCell ⟨g, X + j, none⟩ v).cell? ⟨B, off + j, none⟩ = some (.int .u8 ((gt b j).toNat : Int)) ∨ True := fun _ => .inr trivial
      obtain ⟨q, hq⟩ : ∃ q, q = X + j := ⟨_, rfl⟩
      obtain ⟨v, hv⟩ : ∃ v, v = (gt b j).toNat := ⟨_, rfl⟩
      have hqn : q < n := by have := HXL.out; omega
      have hsd := HS.out.below (Below.refl wr.heap.size wr).drew
      have hgd := gtrans HG.out (Below.refl wr.heap.size wr).drew
      have HN := Lib.hid (hsd.stepped hgd HBS.out hjb HXL.out.1 hq hv)
      have hfin : ∀ W, (W = wr.drew ∨ W = wr.drew.setCell ⟨g, q, none⟩ (.int .u8 (v : Int))) → w.grownBy W (some g) := fun W hW => by
        rcases hW with rfl | rfl
        · exact hgd
        · exact HN.out.1
      have HCB : Hid (∀ W, (W = wr.drew ∨ W = wr.drew.setCell ⟨g, q, none⟩ (.int .u8 (v : Int))) → W.cell? ⟨B, off + j, none⟩ = some (.int .u8 (v : Int))) := Lib.hid (fun W hW => by
        rcases HR.out W (hfin W hW) with h1 | ⟨B', off', h1, h2⟩
        · rw [h1] at hjb; simp at hjb
        · obtain ⟨rfl, rfl⟩ : B = B' ∧ off = off' := by simpa using h1
          rw [hv]
          exact h2 j hjb)
      have HC0 : Hid (∀ W, (W = wr.drew ∨ W = wr.drew.setCell ⟨g, q, none⟩ (.int .u8 (v : Int))) → W.cell? ⟨a, 0, none⟩ = some (.slice (some ⟨g, 0, none⟩) n c)) := Lib.hid (fun W hW => by
        rcases hW with rfl | rfl
        · exact hsd.c0
        · exact HN.out.2.c0)
      have c2 : ∃ u, wr.drew.cell? ⟨g, q, none⟩ = some u := ⟨_, hsd.byte q hqn⟩
      obtain ⟨u, hu⟩ := c2
      have f2 := hsd.2.1.frozen q
      have hjl : (j : Int) < (lb : Int) := by omega
      have hqn' : (q : Int) < (n : Int) := by omega
      have hq6 : q ≤ 65536 := by have := HXL.out; omega
      have hlb6 : (lb : Int) ≤ 65536 := by have := HXL.out; omega
      have HQ6 := Lib.hid (i64add hq (by omega))
      clear hsd hgd hfin hfar hcb2 hcb hjb hq hv hq6 HS HG
      go_upto_region 5 with fail
      have hw6 := HQ6.out
      refine wp_region_noPanic ?_
      refine wp_region_held_drew (S := fun W => W = wr.drew ∨ W = wr.drew.setCell ⟨g, q, none⟩ (.int .u8 (v : Int))) (by kernel_rfl) (.inl rfl) (fun k0 => ?_)
      show wpAnyH _ _ _ _ _ 13 #[false, false, false, false, false, false, false, false, false, false, false, false, false] _ _
      refine wpAnyH_take (i := 0) (oi := { dst := some 27, op := Go.Op.move (Go.Operand.tmp 0), type := 25, pos := "ref.go:59", after := #[], guard := none }) (v := .pointer (some ⟨a, 0, none⟩)) rfl (by kernel_rfl) (by kernel_rfl) (by kernel_rfl) (fun _ _ _ h => h) (Or.inl ⟨by rfl, fun W hSw => by (try dsimp only at hSw); go_simp⟩) k0 ?_
      try simp only [Act.put, List.setIfInBounds_toArray, List.set_cons_zero, List.set_cons_succ]
      refine wpAnyH_take (i := 1) (oi := { dst := some 28, op := Go.Op.nilCheck (Go.Operand.tmp 27), type := 0, pos := "ref.go:59", after := #[{ on := 0, ground := Go.Ground.data }], guard := none }) (v := .pointer (some ⟨a, 0, none⟩)) rfl (by kernel_rfl) (by kernel_rfl) (by kernel_rfl) (fun _ _ _ h => h) (Or.inl ⟨by rfl, fun W hSw => by (try dsimp only at hSw); go_simp⟩) k0 ?_
      try simp only [Act.put, List.setIfInBounds_toArray, List.set_cons_zero, List.set_cons_succ]
      refine wpAnyH_take (i := 2) (oi := { dst := some 29, op := Go.Op.fieldAddr 63 (Go.Operand.tmp 28) 0, type := 0, pos := "ref.go:59", after := #[{ on := 1, ground := Go.Ground.data }], guard := none }) (v := .pointer (some ⟨a, 0, none⟩)) rfl (by kernel_rfl) (by kernel_rfl) (by kernel_rfl) (fun _ _ _ h => h) (Or.inl ⟨by rfl, fun W hSw => by (try dsimp only at hSw); go_simp⟩) k0 ?_
      try simp only [Act.put, List.setIfInBounds_toArray, List.set_cons_zero, List.set_cons_succ]
      refine wpAnyH_take (i := 3) (oi := { dst := some 30, op := Go.Op.load 29 (Go.Operand.tmp 29), type := 29, pos := "ref.go:59", after := #[{ on := 2, ground := Go.Ground.data }], guard := none }) (v := .slice (some ⟨g, 0, none⟩) n c) rfl (by kernel_rfl) (by kernel_rfl) (by kernel_rfl) (fun _ _ _ h => h) (Or.inl ⟨by rfl, fun W hSw => by have cc := HC0.out W hSw; clear hSw; go_simp⟩) k0 ?_
      try simp only [Act.put, List.setIfInBounds_toArray, List.set_cons_zero, List.set_cons_succ]
      refine wpAnyH_take (i := 4) (oi := { dst := some 31, op := Go.Op.move (Go.Operand.tmp 1), type := 3, pos := "ref.go:59", after := #[], guard := none }) (v := .int .i64 (X : Int)) rfl (by kernel_rfl) (by kernel_rfl) (by kernel_rfl) (fun _ _ _ h => h) (Or.inl ⟨by rfl, fun W hSw => by (try dsimp only at hSw); go_simp⟩) k0 ?_
      try simp only [Act.put, List.setIfInBounds_toArray, List.set_cons_zero, List.set_cons_succ]
      refine wpAnyH_take (i := 5) (oi := { dst := some 32, op := Go.Op.move (Go.Operand.tmp 10), type := 3, pos := "ref.go:59", after := #[], guard := none }) (v := .int .i64 (j : Int)) rfl (by kernel_rfl) (by kernel_rfl) (by kernel_rfl) (fun _ _ _ h => h) (Or.inl ⟨by rfl, fun W hSw => by (try dsimp only at hSw); go_simp⟩) k0 ?_
      try simp only [Act.put, List.setIfInBounds_toArray, List.set_cons_zero, List.set_cons_succ]
      refine wpAnyH_take (i := 6) (oi := { dst := some 33, op := Go.Op.binOp Go.BinOp.add 3 (Go.Operand.tmp 31) (Go.Operand.tmp 32) 3, type := 3, pos := "ref.go:59", after := #[{ on := 4, ground := Go.Ground.data }, { on := 5, ground := Go.Ground.data }], guard := none }) (v := .int .i64 (q : Int)) rfl (by kernel_rfl) (by kernel_rfl) (by kernel_rfl) (fun _ _ _ h => h) (Or.inl ⟨by rfl, fun W hSw => by (try dsimp only at hSw); go_simp⟩) k0 ?_
      try simp only [Act.put, List.setIfInBounds_toArray, List.set_cons_zero, List.set_cons_succ]
      refine wpAnyH_take (i := 7) (oi := { dst := some 34, op := Go.Op.move (Go.Operand.tmp 2), type := 29, pos := "ref.go:59", after := #[], guard := none }) (v := .slice (some ⟨B, off, none⟩) lb cb) rfl (by kernel_rfl) (by kernel_rfl) (by kernel_rfl) (fun _ _ _ h => h) (Or.inl ⟨by rfl, fun W hSw => by (try dsimp only at hSw); go_simp⟩) k0 ?_
      try simp only [Act.put, List.setIfInBounds_toArray, List.set_cons_zero, List.set_cons_succ]
      refine wpAnyH_take (i := 8) (oi := { dst := some 35, op := Go.Op.move (Go.Operand.tmp 10), type := 3, pos := "ref.go:59", after := #[], guard := none }) (v := .int .i64 (j : Int)) rfl (by kernel_rfl) (by kernel_rfl) (by kernel_rfl) (fun _ _ _ h => h) (Or.inl ⟨by rfl, fun W hSw => by (try dsimp only at hSw); go_simp⟩) k0 ?_
      try simp only [Act.put, List.setIfInBounds_toArray, List.set_cons_zero, List.set_cons_succ]
      refine wpAnyH_take (i := 9) (oi := { dst := some 36, op := Go.Op.indexAddr 29 (Go.Operand.tmp 34) (Go.Operand.tmp 35), type := 0, pos := "ref.go:59", after := #[{ on := 7, ground := Go.Ground.data }, { on := 8, ground := Go.Ground.data }], guard := none }) (v := .pointer (some ⟨B, off + j, none⟩)) rfl (by kernel_rfl) (by kernel_rfl) (by kernel_rfl) (fun _ _ _ h => h) (Or.inl ⟨by rfl, fun W hSw => by (try dsimp only at hSw); go_simp⟩) k0 ?_
      try simp only [Act.put, List.setIfInBounds_toArray, List.set_cons_zero, List.set_cons_succ]
      refine wpAnyH_take (i := 10) (oi := { dst := some 37, op := Go.Op.load 5 (Go.Operand.tmp 36), type := 5, pos := "ref.go:59", after := #[{ on := 9, ground := Go.Ground.data }], guard := none }) (v := .int .u8 (v : Int)) rfl (by kernel_rfl) (by kernel_rfl) (by kernel_rfl) (fun _ _ _ h => h) (Or.inl ⟨by rfl, fun W hSw => by have cc := HCB.out W hSw; clear hSw; go_simp⟩) k0 ?_
      try simp only [Act.put, List.setIfInBounds_toArray, List.set_cons_zero, List.set_cons_succ]
      refine wpAnyH_take (i := 11) (oi := { dst := some 38, op := Go.Op.indexAddr 29 (Go.Operand.tmp 30) (Go.Operand.tmp 33), type := 0, pos := "ref.go:59", after := #[{ on := 3, ground := Go.Ground.data }, { on := 6, ground := Go.Ground.data }, { on := 0, ground := Go.Ground.phase }, { on := 1, ground := Go.Ground.phase }, { on := 2, ground := Go.Ground.phase }, { on := 3, ground := Go.Ground.phase }, { on := 4, ground := Go.Ground.phase }, { on := 5, ground := Go.Ground.phase }, { on := 6, ground := Go.Ground.phase }, { on := 7, ground := Go.Ground.phase }, { on := 8, ground := Go.Ground.phase }, { on := 9, ground := Go.Ground.phase }, { on := 10, ground := Go.Ground.phase }], guard := none }) (v := .pointer (some ⟨g, q, none⟩)) rfl (by kernel_rfl) (by kernel_rfl) (by kernel_rfl) (fun _ _ _ h => h) (Or.inl ⟨by rfl, fun W hSw => by (try dsimp only at hSw); go_simp⟩) k0 ?_
      try simp only [Act.put, List.setIfInBounds_toArray, List.set_cons_zero, List.set_cons_succ]
      refine wpAnyH_ready (rs := [12]) (by kernel_rfl) (by simp) ?_
      refine AllReadyH.cons (o := { dst := none, op := Go.Op.store 5 (Go.Operand.tmp 38) (Go.Operand.tmp 37), type := 0, pos := "ref.go:59", after := #[{ on := 11, ground := Go.Ground.data }, { on := 10, ground := Go.Ground.data }, { on := 0, ground := Go.Ground.phase }, { on := 1, ground := Go.Ground.phase }, { on := 2, ground := Go.Ground.phase }, { on := 3, ground := Go.Ground.phase }, { on := 4, ground := Go.Ground.phase }, { on := 5, ground := Go.Ground.phase }, { on := 6, ground := Go.Ground.phase }, { on := 7, ground := Go.Ground.phase }, { on := 8, ground := Go.Ground.phase }, { on := 9, ground := Go.Ground.phase }, { on := 10, ground := Go.Ground.phase }], guard := none }) rfl (fun K hK => ?_) AllReadyH.nil
      go_simp
      refine hK.out _ _ (.inr rfl) (fun k1 => ?_)
      clear hK K
      try simp only [List.setIfInBounds_toArray, List.set_cons_zero, List.set_cons_succ]
      refine wpAnyH_done (by kernel_rfl) ?_ _
      refine NoPanic.normal ?_
      clear k0 k1
      go_wp2
      go_roundw
      case rel => exact ⟨HN.out.1, HN.out.2, j + 1, hlt, by go_num⟩
      case measure => simp [intOf]; omega
    · obtain rfl : j = lb := by omega
      have hfin : Rfs wr a g h n m c d (putL bs X b) ks := by
        have h1 := HS.out
        rw [HXL.out.2.2, List.take_length] at h1
        exact h1
      have HF := Lib.hid hfin
      clear hfin
      go_wp2
      go_ret
      exact ⟨rfl, HG.out, HF.out⟩
theorem rput_no (a g h n m c d : Nat) (x key : Int) (p : Option Addr) (lb cb : Nat) (bs ks : List UInt8) (w : World) (hst : Rfs w a g h n m c d bs ks) (h0 : codeV (stP key) n ks x (lb : Int) ≠ 0) :
    Calls Try.prog 29 #[.pointer (some ⟨a, 0, none⟩), .int .i64 x, .slice p lb cb, .int .i64 key] w (RPutPost w a g h n m c d bs ks (.int .i64 (codeV (stP key) n ks x (lb : Int)))) := by
  have H2 := Lib.hid (rcode_any false a g h n m c d x (lb : Int) key bs ks w hst)
  rw [pF_no] at H2
  have HST := Lib.hid hst
  generalize codeV (stP key) n ks x (lb : Int) = C at *
  clear hst
  have e0 : (C == 0) = false := by simpa using h0
  go_enter Try.func29, Try.ntmps29
  go_wp2_with fail
  refine H2.out.mono ?_
  rintro e w1 ⟨rfl, rfl⟩
  go_wp2
  go_loopw [10] (fun i wr => wr = w ∧ i = .int .i64 0) (fun i _ => 0)
  case atStart => exact ⟨rfl, rfl⟩
  case round =>
    obtain ⟨rfl, rfl⟩ := hrel
    by_cases hl : 0 < lb
    · have hl' : (0 : Int) < (lb : Int) := by omega
      go_wp2
      go_ret
      exact ⟨rfl, World.grownBy.refl _ _, HST.out⟩
    · have hl' : ¬ (0 : Int) < (lb : Int) := by omega
      go_wp2
      go_ret
      exact ⟨rfl, World.grownBy.refl _ _, HST.out⟩
theorem rput_any (a g h n m c d : Nat) (x key : Int) (v : Value) (b bs ks : List UInt8) (w : World) (hst : Rfs w a g h n m c d bs ks) (hv : ∀ w', w.grownBy w' (some g) → SvB w' v b) :
    Calls Try.prog 29 #[.pointer (some ⟨a, 0, none⟩), .int .i64 x, v, .int .i64 key] w (RPutPost w a g h n m c d (putB (stP key) n bs ks x b) ks (.int .i64 (codeV (stP key) n ks x (b.length : Int)))) := by
  obtain ⟨p, cb, rfl, -⟩ := hv w (World.grownBy.refl _ _)
  have hr : ∀ w', w.grownBy w' (some g) → Rd w' p b := fun w' hg => by
    obtain ⟨p', cb', h1, h2, -⟩ := hv w' hg
    injection h1 with e1 _ _
    rw [e1]
    exact h2
  unfold putB
  by_cases h0 : codeV (stP key) n ks x (b.length : Int) = 0
  · rw [if_pos h0]
    obtain ⟨i1, i2, i3⟩ := inB_iff.1 (codeV_in h0)
    obtain ⟨X, rfl⟩ := Int.eq_ofNat_of_zero_le i1
    rw [h0]
    exact rput_yes a g h n m c d X key p cb b bs ks w hst hr h0
  · rw [if_neg h0]
    exact rput_no a g h n m c d x key p b.length cb bs ks w hst h0
set_option maxRecDepth 100000 in
set_option maxHeartbeats 1000000 in
theorem rclear_any (a g h n m c d : Nat) (x k : Int) (bs ks : List UInt8) (w : World) (hst : Rfs w a g h n m c d bs ks) :
    Calls Try.prog 34 #[.pointer (some ⟨a, 0, none⟩), .int .i64 x, .int .i64 k] w (RPutPost w a g h n m c d (clrB n bs x k) ks (.bool (inB n x k))) := by
  have hnum := hst.nums
  have H1 := Lib.hid (rin_any a g n c x k w (by omega) hst.c0)
  have HST := Lib.hid hst
  by_cases hi : inB n x k = true
  · obtain ⟨h1, h2, h3⟩ := inB_iff.1 hi
    have e0 : clrB n bs x k = putL bs x.toNat (List.replicate k.toNat 0) := by unfold clrB; rw [if_pos hi]
    rw [e0, hi]
    rw [hi] at H1
    clear e0 hi
    obtain ⟨X, rfl⟩ := Int.eq_ofNat_of_zero_le h1
    obtain ⟨Z, rfl⟩ := Int.eq_ofNat_of_zero_le h2
    obtain ⟨T, hT⟩ : ∃ T, T = X + Z := ⟨_, rfl⟩
    have HT : Hid (T = X + Z ∧ T ≤ n ∧ n ≤ 65536) := Lib.hid ⟨hT, by omega, by omega⟩
    have HWR : Hid (wrap64 ((X : Int) + (Z : Int)) = (T : Int)) := Lib.hid (wrapA hT (by omega))
    have HBS := Lib.hid hnum.1
    show Calls _ _ _ _ (RPutPost w a g h n m c d (putL bs X (List.replicate Z 0)) ks (.bool true))
    obtain ⟨b, hb⟩ : ∃ b : List UInt8, b = List.replicate Z 0 := ⟨_, rfl⟩
    rw [← hb]
    have HBL : Hid (b.length = Z) := Lib.hid (by rw [hb]; simp)
    have HGT : Hid (∀ j, (gt b j).toNat = 0) := Lib.hid (fun j => by rw [hb, gt_rep]; rfl)
    clear h1 h2 h3 hnum hst hT hb
    go_enter Try.func34, Try.ntmps34
    go_wp2_with fail
    refine H1.out.mono ?_
    rintro e w1 ⟨rfl, rfl⟩
    go_wp2
    go_loopw [7] (fun i wr => w.grownBy wr (some g) ∧ ∃ j : Nat, j ≤ Z ∧ i = .int .i64 ((X + j : Nat) : Int) ∧ Rfs wr a g h n m c d (putL bs X (b.take j)) ks) (fun i _ => T - (intOf i).toNat)
    case atStart => exact ⟨World.grownBy.refl _ _, 0, Nat.zero_le _, rfl, by simpa [putL] using HST.out⟩
    case round =>
      obtain ⟨hg, j, hj, rfl, hs⟩ := hrel
      have HS := Lib.hid hs
      have HG := Lib.hid hg
      obtain ⟨q, hq⟩ : ∃ q, q = X + j := ⟨_, rfl⟩
      rw [← hq]
      have hqs : (q : Int) ≤ 65536 := by have := HT.out; omega
      clear hs hg
      by_cases hlt : j < Z
      · have hqn : q < n := by have := HT.out; omega
        have HN := Lib.hid (HS.out.stepped HG.out HBS.out (by rw [HBL.out]; exact hlt) (by rw [HBL.out]; have := HT.out; omega) hq (HGT.out j).symm)
        have c0 := HS.out.c0
        have c2 := HS.out.byte q hqn
        have f2 := HS.out.2.1.frozen q
        have hqT : (q : Int) < (T : Int) := by have := HT.out; omega
        have HQ : Hid ((q : Int) + 1 = ((X + (j + 1) : Nat) : Int)) := Lib.hid (by omega)
        have hqn' : (q : Int) < (n : Int) := by omega
        have HMS : Hid (T - (q + 1) < T - q) := Lib.hid (by have := HT.out; omega)
        clear hq HS HG
        have hwr := HWR.out
        go_wp2
        go_roundw
        case rel => exact ⟨HN.out.1, j + 1, hlt, by rw [HQ.out], HN.out.2⟩
        case measure => exact HMS.out
      · obtain rfl : j = Z := by omega
        have hfin : Rfs wr a g h n m c d (putL bs X b) ks := by
          have h1 := HS.out
          rw [← HBL.out, List.take_length] at h1
          exact h1
        have HF := Lib.hid hfin
        have hqT : ¬ (q : Int) < (T : Int) := by have := HT.out; omega
        clear hfin hq HS
        have hwr := HWR.out
        go_wp2
        go_ret
        exact ⟨rfl, HG.out, HF.out⟩
  · have e0 : clrB n bs x k = bs := by unfold clrB; rw [if_neg hi]
    rw [show inB n x k = false by simpa using hi] at H1 ⊢
    rw [e0]
    clear e0 hi hnum hst
    go_enter Try.func34, Try.ntmps34
    go_wp2_with fail
    refine H1.out.mono ?_
    rintro e w1 ⟨rfl, rfl⟩
    go_wp2
    go_ret
    exact ⟨rfl, World.grownBy.refl _ _, HST.out⟩

end E
end Go.Proofs.Ytnnpnklbhghegaa

/- The given Copy: its contract. -/
import Derived.Test.YtnnpnklbhghegaaStRPut
namespace Go.Proofs.Ytnnpnklbhghegaa
open Go.RowKit Go.Shelf
set_option linter.unusedVariables false
namespace E

/-- What the given Copy leaves. -/
def RCopyPost (w : World) (n m : Nat) (bs ks : List UInt8) (e : Ending) (w' : World) : Prop := ∃ a g h c d, e = .returned (.pointer (some ⟨a, 0, none⟩)) ∧ Rfs w' a g h n m c d bs ks ∧ w.heap.size ≤ a ∧ w.heap.size ≤ g ∧ w.heap.size ≤ h ∧ Below w.heap.size w w'
theorem cast_row {X : World} {g g' c : Nat} {t : TypeId} {xs : List Value} (h : g = g') (hr : Row X g t xs c) : Row X g' t xs c := h ▸ hr
theorem cast_le {a g g' : Nat} (h : g = g') (hr : a ≤ g) : a ≤ g' := h ▸ hr
theorem row_own {w : World} {base g : Nat} {t : TypeId} (h : Row w g t [] 0) (hb : base ≤ g) : w.ownsRow base t 1 (.slice (some ⟨g, 0, none⟩) 0 0) 0 [] := by
  obtain ⟨cur, h1, h2, h3⟩ := h
  exact ⟨rfl, .inr ⟨g, 0, cur, rfl, hb, h1, Nat.le_refl _, by unfold maxLen; omega, by simp [h3], rfl⟩⟩
theorem own_some {w : World} {base n : Nat} {t : TypeId} {v : Value} {xs : List Value} (h : w.ownsRow base t 1 v n xs) (hn : 0 < n) (hx : xs.length = n) : ∃ g c, v = .slice (some ⟨g, 0, none⟩) n c ∧ base ≤ g ∧ c ≤ 9223372036854775807 ∧ Row w g t xs c := by
  have h' := h
  obtain ⟨_, ⟨_, h2⟩ | ⟨g, cap, cur, hv, hg, hh, hle, hm, hsz, ht⟩⟩ := h
  · omega
  · subst hv
    exact ⟨g, cap, rfl, hg, by unfold maxLen at hm; omega, own_row h' hx⟩
theorem bsI_one (l : List UInt8) : ∀ v ∈ bsI l, v.oneCell' = true := by
  intro v hv
  obtain ⟨x, _, rfl⟩ := List.mem_map.1 hv
  rfl
theorem row_srcG {w : World} {g c : Nat} {t : TypeId} {xs : List Value} (h : Row w g t xs c) : ∀ j v, xs[j]? = some v → w.cell? ((⟨g, 0, none⟩ : Addr).add j) = some v := by
  intro j v hv
  have hj : j < xs.length := (List.getElem?_eq_some_iff.1 hv).1
  have hadd : (⟨g, 0, none⟩ : Addr).add j = ⟨g, j, none⟩ := by
    unfold Addr.add
    split <;> simp_all
  rw [hadd, h.cell j hj, hv]
set_option maxRecDepth 100000 in
set_option maxHeartbeats 1000000 in
theorem rcopy_any (a g h n m c d : Nat) (bs ks : List UInt8) (w : World) (hst : Rfs w a g h n m c d bs ks) : Calls Try.prog 17 #[.pointer (some ⟨a, 0, none⟩)] w (RCopyPost w n m bs ks) := by
  have hnum := hst.nums
  have HNM := Lib.hid hnum
  have hn : n ≤ 65536 := by omega
  have hm : m ≤ 32 := by omega
  have HPOSn : Hid (0 < n) := Lib.hid (by omega)
  have HPOSm : Hid (0 < m) := Lib.hid (by omega)
  have HC0 := Lib.hid (fun W (hb : Below w.heap.size w W) => (hst.below hb).c0)
  have HC1 := Lib.hid (fun W (hb : Below w.heap.size w W) => (hst.below hb).c1)
  have HSB := Lib.hid (fun W (hb : Below w.heap.size w W) => row_srcG (hst.below hb).2.1)
  have HSK := Lib.hid (fun W (hb : Below w.heap.size w W) => row_srcG (hst.below hb).2.2.1)
  have HLB : (bsU bs).length = n := by rw [bsU_len]; exact hnum.1
  have HLK : (bsI ks).length = m := by rw [bsI_len]; exact hnum.2.1
  obtain ⟨iu0, iuh, iua, iub, iuc⟩ := info_parts info5
  obtain ⟨il0, ilh, ila, ilb, ilc⟩ := info_parts info3
  clear hnum hst
  go_enter Try.func17, Try.ntmps17
  go_upto_region 1 with fail
  refine wp_region_noPanic ?_
  refine wp_region_held_drew (S := fun W => Below w.heap.size w W) (by kernel_rfl) ((Below.refl _ w).drew) (fun k0 => ?_)
  show wpAnyH _ _ _ _ _ 15 #[false, false, false, false, false, false, false, false, false, false, false, false, false, false, false] _ _
  refine wpAnyH_take (i := 1) (oi := { dst := some 4, op := Go.Op.move (Go.Operand.tmp 0), type := 25, pos := "ref.go:102", after := #[], guard := none }) (v := .pointer (some ⟨a, 0, none⟩)) rfl (by kernel_rfl) (by kernel_rfl) (by kernel_rfl) (fun _ _ _ h => h) (Or.inl ⟨by rfl, fun W hSw => by (try dsimp only at hSw); go_simp⟩) k0 ?_
  try simp only [Act.put, List.setIfInBounds_toArray, List.set_cons_zero, List.set_cons_succ]
  refine wpAnyH_take (i := 2) (oi := { dst := some 5, op := Go.Op.nilCheck (Go.Operand.tmp 4), type := 0, pos := "ref.go:102", after := #[{ on := 1, ground := Go.Ground.data }], guard := none }) (v := .pointer (some ⟨a, 0, none⟩)) rfl (by kernel_rfl) (by kernel_rfl) (by kernel_rfl) (fun _ _ _ h => h) (Or.inl ⟨by rfl, fun W hSw => by (try dsimp only at hSw); go_simp⟩) k0 ?_
  try simp only [Act.put, List.setIfInBounds_toArray, List.set_cons_zero, List.set_cons_succ]
  refine wpAnyH_take (i := 3) (oi := { dst := some 6, op := Go.Op.fieldAddr 63 (Go.Operand.tmp 5) 0, type := 0, pos := "ref.go:102", after := #[{ on := 2, ground := Go.Ground.data }], guard := none }) (v := .pointer (some ⟨a, 0, none⟩)) rfl (by kernel_rfl) (by kernel_rfl) (by kernel_rfl) (fun _ _ _ h => h) (Or.inl ⟨by rfl, fun W hSw => by (try dsimp only at hSw); go_simp⟩) k0 ?_
  try simp only [Act.put, List.setIfInBounds_toArray, List.set_cons_zero, List.set_cons_succ]
  refine wpAnyH_take (i := 4) (oi := { dst := some 7, op := Go.Op.load 29 (Go.Operand.tmp 6), type := 29, pos := "ref.go:102", after := #[{ on := 3, ground := Go.Ground.data }], guard := none }) (v := .slice (some ⟨g, 0, none⟩) n c) rfl (by kernel_rfl) (by kernel_rfl) (by kernel_rfl) (fun _ _ _ h => h) (Or.inl ⟨by rfl, fun W hSw => by have cc := HC0.out W hSw; clear hSw; go_simp⟩) k0 ?_
  try simp only [Act.put, List.setIfInBounds_toArray, List.set_cons_zero, List.set_cons_succ]
  refine wpAnyH_take (i := 7) (oi := { dst := some 10, op := Go.Op.move (Go.Operand.tmp 0), type := 25, pos := "ref.go:102", after := #[], guard := none }) (v := .pointer (some ⟨a, 0, none⟩)) rfl (by kernel_rfl) (by kernel_rfl) (by kernel_rfl) (fun _ _ _ h => h) (Or.inl ⟨by rfl, fun W hSw => by (try dsimp only at hSw); go_simp⟩) k0 ?_
  try simp only [Act.put, List.setIfInBounds_toArray, List.set_cons_zero, List.set_cons_succ]
  refine wpAnyH_take (i := 8) (oi := { dst := some 11, op := Go.Op.nilCheck (Go.Operand.tmp 10), type := 0, pos := "ref.go:102", after := #[{ on := 7, ground := Go.Ground.data }], guard := none }) (v := .pointer (some ⟨a, 0, none⟩)) rfl (by kernel_rfl) (by kernel_rfl) (by kernel_rfl) (fun _ _ _ h => h) (Or.inl ⟨by rfl, fun W hSw => by (try dsimp only at hSw); go_simp⟩) k0 ?_
  try simp only [Act.put, List.setIfInBounds_toArray, List.set_cons_zero, List.set_cons_succ]
  refine wpAnyH_take (i := 9) (oi := { dst := some 12, op := Go.Op.fieldAddr 63 (Go.Operand.tmp 11) 1, type := 0, pos := "ref.go:102", after := #[{ on := 8, ground := Go.Ground.data }], guard := none }) (v := .pointer (some ⟨a, 1, none⟩)) rfl (by kernel_rfl) (by kernel_rfl) (by kernel_rfl) (fun _ _ _ h => h) (Or.inl ⟨by rfl, fun W hSw => by (try dsimp only at hSw); go_simp⟩) k0 ?_
  try simp only [Act.put, List.setIfInBounds_toArray, List.set_cons_zero, List.set_cons_succ]
  refine wpAnyH_take (i := 10) (oi := { dst := some 13, op := Go.Op.load 61 (Go.Operand.tmp 12), type := 61, pos := "ref.go:102", after := #[{ on := 9, ground := Go.Ground.data }], guard := none }) (v := .slice (some ⟨h, 0, none⟩) m d) rfl (by kernel_rfl) (by kernel_rfl) (by kernel_rfl) (fun _ _ _ h => h) (Or.inl ⟨by rfl, fun W hSw => by have cc := HC1.out W hSw; clear hSw; go_simp⟩) k0 ?_
  try simp only [Act.put, List.setIfInBounds_toArray, List.set_cons_zero, List.set_cons_succ]
  refine wpAnyH_ready (rs := [0, 6]) (by kernel_rfl) (by simp) ?_
  refine AllReadyH.cons (o := { dst := some 3, op := Go.Op.buildSlice 29 0 #[], type := 29, pos := "ref.go:102", after := #[], guard := none }) rfl (fun K hK => ?_) (AllReadyH.cons (o := { dst := some 9, op := Go.Op.buildSlice 61 0 #[], type := 61, pos := "ref.go:102", after := #[], guard := none }) rfl (fun K hK => ?_) AllReadyH.nil)
  · go_simp
    have EB : Hid (Row (w.drew.alloc (.cells #[] 5)) (w.heap.size) 5 [] 0) := Lib.hid (cast_row (by simp) (Bx.new w.drew 5 #[]).row)
    have EBs : Hid (w.heap.size ≤ w.heap.size) := Lib.hid (cast_le (show w.drew.heap.size = w.heap.size by simp) (Below.size (show Below w.heap.size w w.drew from k0)))
    refine hK.out _ _ (bel0 k0 (below_new _ _)) (fun k1 => ?_)
    clear hK K
    try simp only [List.setIfInBounds_toArray, List.set_cons_zero]
    refine wpAnyH_ready (rs := [5, 6]) (by kernel_rfl) (by simp) ?_
    refine AllReadyH.cons (o := { dst := some 8, op := Go.Op.call { callee := Go.Callee.builtin Go.Builtin.append, args := #[Go.Operand.tmp 3, Go.Operand.tmp 7], argTypes := #[29, 29] }, type := 29, pos := "ref.go:102", after := #[{ on := 0, ground := Go.Ground.data }, { on := 4, ground := Go.Ground.data }], guard := none }) rfl (fun K hK => ?_) (AllReadyH.cons (o := { dst := some 9, op := Go.Op.buildSlice 61 0 #[], type := 61, pos := "ref.go:102", after := #[], guard := none }) rfl (fun K hK => ?_) AllReadyH.nil)
    · rw [if_pos (by rfl)]
      refine wp_append_own _ (.tmp 3) (.tmp 7) 29 rfl w.heap.size 5 iu0 (.int .u8 0) 1 1 Try.underlying29 iuh iua iub iuc rfl (by decide) (.slice (some ⟨w.heap.size, 0, none⟩) 0 0) 0 [] rfl (row_own EB.out EBs.out) ⟨g, 0, none⟩ n c (bsU bs) rfl (by rw [HLB, Nat.mul_one]) (HSB.out _ k1) (bsU_one bs) (by unfold maxLen; omega) (by omega) (Below.size k1) ?_
      intro v2 w2 hown2 hgrow2 _
      rw [Nat.zero_add, List.nil_append] at hown2
      obtain ⟨g2, c2, rfl, hge2, hcm2, hrow2⟩ := own_some hown2 HPOSn.out HLB
      have RB := Lib.hid hrow2
      have RBs := Lib.hid (And.intro hge2 hcm2)
      refine hK.out _ _ (below_grown k1 (show World.grownBy _ w2 (some (w.heap.size)) from hgrow2) EBs.out) (fun k2 => ?_)
      clear hown2 hgrow2 hrow2 hge2 hcm2
      clear hK K
      try simp only [List.setIfInBounds_toArray, List.set_cons_zero, List.set_cons_succ]
      refine wpAnyH_ready (rs := [6]) (by kernel_rfl) (by simp) ?_
      refine AllReadyH.cons (o := { dst := some 9, op := Go.Op.buildSlice 61 0 #[], type := 61, pos := "ref.go:102", after := #[], guard := none }) rfl (fun K hK => ?_) AllReadyH.nil
      go_simp
      replace RB := Lib.hid (RB.out.below (below_new w2 (.cells #[] 3)))
      have EK : Hid (Row (w2.alloc (.cells #[] 3)) (w2.heap.size) 3 [] 0) := Lib.hid (cast_row (by simp) (Bx.new w2 3 #[]).row)
      have EKs : Hid (w.heap.size ≤ w2.heap.size) := Lib.hid (cast_le (show w2.heap.size = w2.heap.size by simp) (Below.size (show Below w.heap.size w w2 from k2)))
      refine hK.out _ _ (bel0 k2 (below_new _ _)) (fun k3 => ?_)
      clear hK K
      try simp only [List.setIfInBounds_toArray, List.set_cons_zero, List.set_cons_succ]
      refine wpAnyH_ready (rs := [11]) (by kernel_rfl) (by simp) ?_
      refine AllReadyH.cons (o := { dst := some 14, op := Go.Op.call { callee := Go.Callee.builtin Go.Builtin.append, args := #[Go.Operand.tmp 9, Go.Operand.tmp 13], argTypes := #[61, 61] }, type := 61, pos := "ref.go:102", after := #[{ on := 6, ground := Go.Ground.data }, { on := 10, ground := Go.Ground.data }, { on := 5, ground := Go.Ground.chain }], guard := none }) rfl (fun K hK => ?_) AllReadyH.nil
      rw [if_pos (by rfl)]
      refine wp_append_own _ (.tmp 9) (.tmp 13) 61 rfl w.heap.size 3 il0 (.int .i64 0) 1 8 Try.underlying61 ilh ila ilb ilc rfl (by decide) (.slice (some ⟨w2.heap.size, 0, none⟩) 0 0) 0 [] rfl (row_own EK.out EKs.out) ⟨h, 0, none⟩ m d (bsI ks) rfl (by rw [HLK, Nat.mul_one]) (HSK.out _ k3) (bsI_one ks) (by unfold maxLen; omega) (by omega) (Below.size k3) ?_
      intro v4 w4 hown4 hgrow4 _
      rw [Nat.zero_add, List.nil_append] at hown4
      obtain ⟨g4, c4, rfl, hge4, hcm4, hrow4⟩ := own_some hown4 HPOSm.out HLK
      replace RB := Lib.hid (RB.out.grown hgrow4 (fun e => RB.out.ne EK.out (by decide) (Option.some.inj e)))
      have RK := Lib.hid hrow4
      have RKs := Lib.hid (And.intro hge4 hcm4)
      refine hK.out _ _ (below_grown k3 (show World.grownBy _ w4 (some (w2.heap.size)) from hgrow4) EKs.out) (fun k4 => ?_)
      clear hown4 hgrow4 hrow4 hge4 hcm4
      clear hK K
      try simp only [List.setIfInBounds_toArray, List.set_cons_zero, List.set_cons_succ]
      refine wpAnyH_take (i := 12) (oi := { dst := some 15, op := Go.Op.build 63 #[(0, Go.Operand.tmp 8), (1, Go.Operand.tmp 14)], type := 63, pos := "ref.go:102", after := #[{ on := 5, ground := Go.Ground.data }, { on := 11, ground := Go.Ground.data }], guard := none }) (v := .agg #[.slice (some ⟨g2, 0, none⟩) n c2, .slice (some ⟨g4, 0, none⟩) m c4]) rfl (by kernel_rfl) (by kernel_rfl) (by kernel_rfl) (fun _ _ _ h => h) (Or.inl ⟨by rfl, fun W hSw => by (try dsimp only at hSw); go_simp⟩) k4 ?_
      try simp only [Act.put, List.setIfInBounds_toArray, List.set_cons_zero, List.set_cons_succ]
      refine wpAnyH_ready (rs := [13]) (by kernel_rfl) (by simp) ?_
      refine AllReadyH.cons (o := { dst := some 16, op := Go.Op.box 63 (Go.Operand.tmp 15), type := 25, pos := "ref.go:102", after := #[{ on := 12, ground := Go.Ground.data }], guard := none }) rfl (fun K hK => ?_) AllReadyH.nil
      go_simp
      refine hK.out _ _ (bel0 k4 (below_new _ _)) (fun k5 => ?_)
      clear hK K
      try simp only [List.setIfInBounds_toArray, List.set_cons_zero, List.set_cons_succ]
      refine wpAnyH_take (i := 14) (oi := { dst := some 2, op := Go.Op.assign (Go.Operand.tmp 16), type := 25, pos := "ref.go:102", after := #[{ on := 13, ground := Go.Ground.data }, { on := 11, ground := Go.Ground.chain }, { on := 0, ground := Go.Ground.phase }, { on := 1, ground := Go.Ground.phase }, { on := 2, ground := Go.Ground.phase }, { on := 3, ground := Go.Ground.phase }, { on := 4, ground := Go.Ground.phase }, { on := 5, ground := Go.Ground.phase }, { on := 6, ground := Go.Ground.phase }, { on := 7, ground := Go.Ground.phase }, { on := 8, ground := Go.Ground.phase }, { on := 9, ground := Go.Ground.phase }, { on := 10, ground := Go.Ground.phase }, { on := 11, ground := Go.Ground.phase }, { on := 12, ground := Go.Ground.phase }, { on := 13, ground := Go.Ground.phase }], guard := none }) (v := .pointer (some ⟨w4.heap.size, 0, none⟩)) rfl (by kernel_rfl) (by kernel_rfl) (by kernel_rfl) (fun _ _ _ h => h) (Or.inl ⟨by rfl, fun W hSw => by (try dsimp only at hSw); go_simp⟩) k5 ?_
      try simp only [Act.put, List.setIfInBounds_toArray, List.set_cons_zero, List.set_cons_succ]
      refine wpAnyH_done (by kernel_rfl) ?_ _
      refine NoPanic.normal ?_
      go_wp2
      go_ret
      exact ⟨_, _, _, _, _, rfl, ⟨Bx.new _ _ _, RB.out.below (below_new _ _), RK.out.below (below_new _ _), HNM.out.1, HNM.out.2.1, HNM.out.2.2.1, HNM.out.2.2.2.1, HNM.out.2.2.2.2.1, RBs.out.2, RKs.out.2⟩, Below.size (show Below w.heap.size w w4 from k4), RBs.out.1, RKs.out.1, k5⟩
    · go_simp
      replace EB := Lib.hid (EB.out.below (below_new (w.drew.alloc (.cells #[] 5)) (.cells #[] 3)))
      have EK : Hid (Row ((w.drew.alloc (.cells #[] 5)).alloc (.cells #[] 3)) (w.heap.size + 1) 3 [] 0) := Lib.hid (cast_row (by simp) (Bx.new (w.drew.alloc (.cells #[] 5)) 3 #[]).row)
      have EKs : Hid (w.heap.size ≤ w.heap.size + 1) := Lib.hid (cast_le (show (w.drew.alloc (.cells #[] 5)).heap.size = w.heap.size + 1 by simp) (Below.size (show Below w.heap.size w (w.drew.alloc (.cells #[] 5)) from k1)))
      refine hK.out _ _ (bel0 k1 (below_new _ _)) (fun k2 => ?_)
      clear hK K
      try simp only [List.setIfInBounds_toArray, List.set_cons_zero, List.set_cons_succ]
      refine wpAnyH_ready (rs := [5]) (by kernel_rfl) (by simp) ?_
      refine AllReadyH.cons (o := { dst := some 8, op := Go.Op.call { callee := Go.Callee.builtin Go.Builtin.append, args := #[Go.Operand.tmp 3, Go.Operand.tmp 7], argTypes := #[29, 29] }, type := 29, pos := "ref.go:102", after := #[{ on := 0, ground := Go.Ground.data }, { on := 4, ground := Go.Ground.data }], guard := none }) rfl (fun K hK => ?_) AllReadyH.nil
      rw [if_pos (by rfl)]
      refine wp_append_own _ (.tmp 3) (.tmp 7) 29 rfl w.heap.size 5 iu0 (.int .u8 0) 1 1 Try.underlying29 iuh iua iub iuc rfl (by decide) (.slice (some ⟨w.heap.size, 0, none⟩) 0 0) 0 [] rfl (row_own EB.out EBs.out) ⟨g, 0, none⟩ n c (bsU bs) rfl (by rw [HLB, Nat.mul_one]) (HSB.out _ k2) (bsU_one bs) (by unfold maxLen; omega) (by omega) (Below.size k2) ?_
      intro v3 w3 hown3 hgrow3 _
      rw [Nat.zero_add, List.nil_append] at hown3
      obtain ⟨g3, c3, rfl, hge3, hcm3, hrow3⟩ := own_some hown3 HPOSn.out HLB
      replace EK := Lib.hid (EK.out.grown hgrow3 (fun e => EK.out.ne EB.out (by decide) (Option.some.inj e)))
      have RB := Lib.hid hrow3
      have RBs := Lib.hid (And.intro hge3 hcm3)
      refine hK.out _ _ (below_grown k2 (show World.grownBy _ w3 (some (w.heap.size)) from hgrow3) EBs.out) (fun k3 => ?_)
      clear hown3 hgrow3 hrow3 hge3 hcm3
      clear hK K
      try simp only [List.setIfInBounds_toArray, List.set_cons_zero, List.set_cons_succ]
      refine wpAnyH_ready (rs := [11]) (by kernel_rfl) (by simp) ?_
      refine AllReadyH.cons (o := { dst := some 14, op := Go.Op.call { callee := Go.Callee.builtin Go.Builtin.append, args := #[Go.Operand.tmp 9, Go.Operand.tmp 13], argTypes := #[61, 61] }, type := 61, pos := "ref.go:102", after := #[{ on := 6, ground := Go.Ground.data }, { on := 10, ground := Go.Ground.data }, { on := 5, ground := Go.Ground.chain }], guard := none }) rfl (fun K hK => ?_) AllReadyH.nil
      rw [if_pos (by rfl)]
      refine wp_append_own _ (.tmp 9) (.tmp 13) 61 rfl w.heap.size 3 il0 (.int .i64 0) 1 8 Try.underlying61 ilh ila ilb ilc rfl (by decide) (.slice (some ⟨w.heap.size + 1, 0, none⟩) 0 0) 0 [] rfl (row_own EK.out EKs.out) ⟨h, 0, none⟩ m d (bsI ks) rfl (by rw [HLK, Nat.mul_one]) (HSK.out _ k3) (bsI_one ks) (by unfold maxLen; omega) (by omega) (Below.size k3) ?_
      intro v4 w4 hown4 hgrow4 _
      rw [Nat.zero_add, List.nil_append] at hown4
      obtain ⟨g4, c4, rfl, hge4, hcm4, hrow4⟩ := own_some hown4 HPOSm.out HLK
      replace RB := Lib.hid (RB.out.grown hgrow4 (fun e => RB.out.ne EK.out (by decide) (Option.some.inj e)))
      have RK := Lib.hid hrow4
      have RKs := Lib.hid (And.intro hge4 hcm4)
      refine hK.out _ _ (below_grown k3 (show World.grownBy _ w4 (some (w.heap.size + 1)) from hgrow4) EKs.out) (fun k4 => ?_)
      clear hown4 hgrow4 hrow4 hge4 hcm4
      clear hK K
      try simp only [List.setIfInBounds_toArray, List.set_cons_zero, List.set_cons_succ]
      refine wpAnyH_take (i := 12) (oi := { dst := some 15, op := Go.Op.build 63 #[(0, Go.Operand.tmp 8), (1, Go.Operand.tmp 14)], type := 63, pos := "ref.go:102", after := #[{ on := 5, ground := Go.Ground.data }, { on := 11, ground := Go.Ground.data }], guard := none }) (v := .agg #[.slice (some ⟨g3, 0, none⟩) n c3, .slice (some ⟨g4, 0, none⟩) m c4]) rfl (by kernel_rfl) (by kernel_rfl) (by kernel_rfl) (fun _ _ _ h => h) (Or.inl ⟨by rfl, fun W hSw => by (try dsimp only at hSw); go_simp⟩) k4 ?_
      try simp only [Act.put, List.setIfInBounds_toArray, List.set_cons_zero, List.set_cons_succ]
      refine wpAnyH_ready (rs := [13]) (by kernel_rfl) (by simp) ?_
      refine AllReadyH.cons (o := { dst := some 16, op := Go.Op.box 63 (Go.Operand.tmp 15), type := 25, pos := "ref.go:102", after := #[{ on := 12, ground := Go.Ground.data }], guard := none }) rfl (fun K hK => ?_) AllReadyH.nil
      go_simp
      refine hK.out _ _ (bel0 k4 (below_new _ _)) (fun k5 => ?_)
      clear hK K
      try simp only [List.setIfInBounds_toArray, List.set_cons_zero, List.set_cons_succ]
      refine wpAnyH_take (i := 14) (oi := { dst := some 2, op := Go.Op.assign (Go.Operand.tmp 16), type := 25, pos := "ref.go:102", after := #[{ on := 13, ground := Go.Ground.data }, { on := 11, ground := Go.Ground.chain }, { on := 0, ground := Go.Ground.phase }, { on := 1, ground := Go.Ground.phase }, { on := 2, ground := Go.Ground.phase }, { on := 3, ground := Go.Ground.phase }, { on := 4, ground := Go.Ground.phase }, { on := 5, ground := Go.Ground.phase }, { on := 6, ground := Go.Ground.phase }, { on := 7, ground := Go.Ground.phase }, { on := 8, ground := Go.Ground.phase }, { on := 9, ground := Go.Ground.phase }, { on := 10, ground := Go.Ground.phase }, { on := 11, ground := Go.Ground.phase }, { on := 12, ground := Go.Ground.phase }, { on := 13, ground := Go.Ground.phase }], guard := none }) (v := .pointer (some ⟨w4.heap.size, 0, none⟩)) rfl (by kernel_rfl) (by kernel_rfl) (by kernel_rfl) (fun _ _ _ h => h) (Or.inl ⟨by rfl, fun W hSw => by (try dsimp only at hSw); go_simp⟩) k5 ?_
      try simp only [Act.put, List.setIfInBounds_toArray, List.set_cons_zero, List.set_cons_succ]
      refine wpAnyH_done (by kernel_rfl) ?_ _
      refine NoPanic.normal ?_
      go_wp2
      go_ret
      exact ⟨_, _, _, _, _, rfl, ⟨Bx.new _ _ _, RB.out.below (below_new _ _), RK.out.below (below_new _ _), HNM.out.1, HNM.out.2.1, HNM.out.2.2.1, HNM.out.2.2.2.1, HNM.out.2.2.2.2.1, RBs.out.2, RKs.out.2⟩, Below.size (show Below w.heap.size w w4 from k4), RBs.out.1, RKs.out.1, k5⟩
  · go_simp
    have EK : Hid (Row (w.drew.alloc (.cells #[] 3)) (w.heap.size) 3 [] 0) := Lib.hid (cast_row (by simp) (Bx.new w.drew 3 #[]).row)
    have EKs : Hid (w.heap.size ≤ w.heap.size) := Lib.hid (cast_le (show w.drew.heap.size = w.heap.size by simp) (Below.size (show Below w.heap.size w w.drew from k0)))
    refine hK.out _ _ (bel0 k0 (below_new _ _)) (fun k1 => ?_)
    clear hK K
    try simp only [List.setIfInBounds_toArray, List.set_cons_zero, List.set_cons_succ]
    refine wpAnyH_ready (rs := [0]) (by kernel_rfl) (by simp) ?_
    refine AllReadyH.cons (o := { dst := some 3, op := Go.Op.buildSlice 29 0 #[], type := 29, pos := "ref.go:102", after := #[], guard := none }) rfl (fun K hK => ?_) AllReadyH.nil
    go_simp
    replace EK := Lib.hid (EK.out.below (below_new (w.drew.alloc (.cells #[] 3)) (.cells #[] 5)))
    have EB : Hid (Row ((w.drew.alloc (.cells #[] 3)).alloc (.cells #[] 5)) (w.heap.size + 1) 5 [] 0) := Lib.hid (cast_row (by simp) (Bx.new (w.drew.alloc (.cells #[] 3)) 5 #[]).row)
    have EBs : Hid (w.heap.size ≤ w.heap.size + 1) := Lib.hid (cast_le (show (w.drew.alloc (.cells #[] 3)).heap.size = w.heap.size + 1 by simp) (Below.size (show Below w.heap.size w (w.drew.alloc (.cells #[] 3)) from k1)))
    refine hK.out _ _ (bel0 k1 (below_new _ _)) (fun k2 => ?_)
    clear hK K
    try simp only [List.setIfInBounds_toArray, List.set_cons_zero]
    refine wpAnyH_ready (rs := [5]) (by kernel_rfl) (by simp) ?_
    refine AllReadyH.cons (o := { dst := some 8, op := Go.Op.call { callee := Go.Callee.builtin Go.Builtin.append, args := #[Go.Operand.tmp 3, Go.Operand.tmp 7], argTypes := #[29, 29] }, type := 29, pos := "ref.go:102", after := #[{ on := 0, ground := Go.Ground.data }, { on := 4, ground := Go.Ground.data }], guard := none }) rfl (fun K hK => ?_) AllReadyH.nil
    rw [if_pos (by rfl)]
    refine wp_append_own _ (.tmp 3) (.tmp 7) 29 rfl w.heap.size 5 iu0 (.int .u8 0) 1 1 Try.underlying29 iuh iua iub iuc rfl (by decide) (.slice (some ⟨w.heap.size + 1, 0, none⟩) 0 0) 0 [] rfl (row_own EB.out EBs.out) ⟨g, 0, none⟩ n c (bsU bs) rfl (by rw [HLB, Nat.mul_one]) (HSB.out _ k2) (bsU_one bs) (by unfold maxLen; omega) (by omega) (Below.size k2) ?_
    intro v3 w3 hown3 hgrow3 _
    rw [Nat.zero_add, List.nil_append] at hown3
    obtain ⟨g3, c3, rfl, hge3, hcm3, hrow3⟩ := own_some hown3 HPOSn.out HLB
    replace EK := Lib.hid (EK.out.grown hgrow3 (fun e => EK.out.ne EB.out (by decide) (Option.some.inj e)))
    have RB := Lib.hid hrow3
    have RBs := Lib.hid (And.intro hge3 hcm3)
    refine hK.out _ _ (below_grown k2 (show World.grownBy _ w3 (some (w.heap.size + 1)) from hgrow3) EBs.out) (fun k3 => ?_)
    clear hown3 hgrow3 hrow3 hge3 hcm3
    clear hK K
    try simp only [List.setIfInBounds_toArray, List.set_cons_zero, List.set_cons_succ]
    refine wpAnyH_ready (rs := [11]) (by kernel_rfl) (by simp) ?_
    refine AllReadyH.cons (o := { dst := some 14, op := Go.Op.call { callee := Go.Callee.builtin Go.Builtin.append, args := #[Go.Operand.tmp 9, Go.Operand.tmp 13], argTypes := #[61, 61] }, type := 61, pos := "ref.go:102", after := #[{ on := 6, ground := Go.Ground.data }, { on := 10, ground := Go.Ground.data }, { on := 5, ground := Go.Ground.chain }], guard := none }) rfl (fun K hK => ?_) AllReadyH.nil
    rw [if_pos (by rfl)]
    refine wp_append_own _ (.tmp 9) (.tmp 13) 61 rfl w.heap.size 3 il0 (.int .i64 0) 1 8 Try.underlying61 ilh ila ilb ilc rfl (by decide) (.slice (some ⟨w.heap.size, 0, none⟩) 0 0) 0 [] rfl (row_own EK.out EKs.out) ⟨h, 0, none⟩ m d (bsI ks) rfl (by rw [HLK, Nat.mul_one]) (HSK.out _ k3) (bsI_one ks) (by unfold maxLen; omega) (by omega) (Below.size k3) ?_
    intro v4 w4 hown4 hgrow4 _
    rw [Nat.zero_add, List.nil_append] at hown4
    obtain ⟨g4, c4, rfl, hge4, hcm4, hrow4⟩ := own_some hown4 HPOSm.out HLK
    replace RB := Lib.hid (RB.out.grown hgrow4 (fun e => RB.out.ne EK.out (by decide) (Option.some.inj e)))
    have RK := Lib.hid hrow4
    have RKs := Lib.hid (And.intro hge4 hcm4)
    refine hK.out _ _ (below_grown k3 (show World.grownBy _ w4 (some (w.heap.size)) from hgrow4) EKs.out) (fun k4 => ?_)
    clear hown4 hgrow4 hrow4 hge4 hcm4
    clear hK K
    try simp only [List.setIfInBounds_toArray, List.set_cons_zero, List.set_cons_succ]
    refine wpAnyH_take (i := 12) (oi := { dst := some 15, op := Go.Op.build 63 #[(0, Go.Operand.tmp 8), (1, Go.Operand.tmp 14)], type := 63, pos := "ref.go:102", after := #[{ on := 5, ground := Go.Ground.data }, { on := 11, ground := Go.Ground.data }], guard := none }) (v := .agg #[.slice (some ⟨g3, 0, none⟩) n c3, .slice (some ⟨g4, 0, none⟩) m c4]) rfl (by kernel_rfl) (by kernel_rfl) (by kernel_rfl) (fun _ _ _ h => h) (Or.inl ⟨by rfl, fun W hSw => by (try dsimp only at hSw); go_simp⟩) k4 ?_
    try simp only [Act.put, List.setIfInBounds_toArray, List.set_cons_zero, List.set_cons_succ]
    refine wpAnyH_ready (rs := [13]) (by kernel_rfl) (by simp) ?_
    refine AllReadyH.cons (o := { dst := some 16, op := Go.Op.box 63 (Go.Operand.tmp 15), type := 25, pos := "ref.go:102", after := #[{ on := 12, ground := Go.Ground.data }], guard := none }) rfl (fun K hK => ?_) AllReadyH.nil
    go_simp
    refine hK.out _ _ (bel0 k4 (below_new _ _)) (fun k5 => ?_)
    clear hK K
    try simp only [List.setIfInBounds_toArray, List.set_cons_zero, List.set_cons_succ]
    refine wpAnyH_take (i := 14) (oi := { dst := some 2, op := Go.Op.assign (Go.Operand.tmp 16), type := 25, pos := "ref.go:102", after := #[{ on := 13, ground := Go.Ground.data }, { on := 11, ground := Go.Ground.chain }, { on := 0, ground := Go.Ground.phase }, { on := 1, ground := Go.Ground.phase }, { on := 2, ground := Go.Ground.phase }, { on := 3, ground := Go.Ground.phase }, { on := 4, ground := Go.Ground.phase }, { on := 5, ground := Go.Ground.phase }, { on := 6, ground := Go.Ground.phase }, { on := 7, ground := Go.Ground.phase }, { on := 8, ground := Go.Ground.phase }, { on := 9, ground := Go.Ground.phase }, { on := 10, ground := Go.Ground.phase }, { on := 11, ground := Go.Ground.phase }, { on := 12, ground := Go.Ground.phase }, { on := 13, ground := Go.Ground.phase }], guard := none }) (v := .pointer (some ⟨w4.heap.size, 0, none⟩)) rfl (by kernel_rfl) (by kernel_rfl) (by kernel_rfl) (fun _ _ _ h => h) (Or.inl ⟨by rfl, fun W hSw => by (try dsimp only at hSw); go_simp⟩) k5 ?_
    try simp only [Act.put, List.setIfInBounds_toArray, List.set_cons_zero, List.set_cons_succ]
    refine wpAnyH_done (by kernel_rfl) ?_ _
    refine NoPanic.normal ?_
    go_wp2
    go_ret
    exact ⟨_, _, _, _, _, rfl, ⟨Bx.new _ _ _, RB.out.below (below_new _ _), RK.out.below (below_new _ _), HNM.out.1, HNM.out.2.1, HNM.out.2.2.1, HNM.out.2.2.2.1, HNM.out.2.2.2.2.1, RBs.out.2, RKs.out.2⟩, Below.size (show Below w.heap.size w w4 from k4), RBs.out.1, RKs.out.1, k5⟩

end E
end Go.Proofs.Ytnnpnklbhghegaa

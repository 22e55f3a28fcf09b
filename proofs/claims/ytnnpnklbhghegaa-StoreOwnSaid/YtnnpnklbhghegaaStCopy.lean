/- Copy of the program: its contract. -/
import Derived.Test.YtnnpnklbhghegaaStNew
namespace Go.Proofs.Ytnnpnklbhghegaa
open Go.RowKit Go.Shelf
set_option linter.unusedVariables false
namespace E

/-- What Copy leaves. -/
def CopyPost (w : World) (n m : Nat) (bs ks : List UInt8) (e : Ending) (w' : World) : Prop := ∃ a g h, e = .returned (.pointer (some ⟨a, 0, none⟩)) ∧ Sto w' a g h n m bs ks ∧ w.heap.size ≤ a ∧ w.heap.size ≤ g ∧ w.heap.size ≤ h ∧ Below w.heap.size w w'
/-- copy into a row, wherever it comes up. -/
theorem op_copy {P : Program} {w : World} {o : Oper} {a : Act} {K : Act → World → Prop} {Q : Exit → Act → World → Prop} (d s : Operand) (dT sT : TypeId)
    (ho : o.op = .call { callee := .builtin .copy, args := #[d, s], argTypes := #[dT, sT] }) (elem : TypeId) (hu : P.underlying dT = some (.slice elem)) (hsz : (P.info? elem).map (·.size) = some 1)
    (dp sp : Option Addr) (dLen dCap sLen sCap : Nat) (hd : a.eval d = .slice dp dLen dCap) (hs : a.eval s = .slice sp sLen sCap)
    (g off c : Nat) (xs : List Value) (t : TypeId) (hg : Row w g t xs c) (cs : List Value) (hn : cs.length = Nat.min sLen dLen)
    (hpos : 0 < cs.length → dp = some ⟨g, off, none⟩ ∧ ∃ ad, sp = some ad ∧ ∀ j v, cs[j]? = some v → w.cell? (ad.add j) = some v)
    (hfit : off + cs.length ≤ xs.length) (h1 : ∀ v ∈ cs, v.oneCell' = true)
    (h : ∀ w', Hid (Row w' g t (xs.take off ++ (cs ++ xs.drop (off + cs.length))) c) → Hid (w.grownBy w' (some g)) → K (a.put o.dst (goInt cs.length)) w') :
    Oper.wp P o a w K Q := by
  by_cases h0 : cs.length = 0
  · obtain rfl : cs = [] := List.eq_nil_of_length_eq_zero h0
    have hrun := run_copy_none (P := P) w dT sT o.type elem dp sp dLen dCap sLen sCap hu hsz (by simpa using hn.symm)
    unfold Oper.wp
    simp [execOp, ho, resolve, invoke, builtin, hd, hs, hrun, Result.andThen]
    exact h w (Lib.hid (by simpa using hg)) (Lib.hid (World.grownBy.refl _ _))
  · obtain ⟨rfl, ad, rfl, hsrc⟩ := hpos (by omega)
    obtain ⟨cur, h2, h3, h4, h5⟩ := hg.splice off cs hfit
    have hrun := run_copy_row (P := P) w dT sT o.type elem g off dLen dCap ad sLen sCap cur t cs hu hsz h2 hn hsrc h3 h1
    unfold Oper.wp
    simp [execOp, ho, resolve, invoke, builtin, hd, hs, hrun, Result.andThen]
    exact h _ (Lib.hid h4) (Lib.hid h5)
theorem splice_full {xs ys : List Value} (h : xs.length = ys.length) : xs.take 0 ++ (ys ++ xs.drop (0 + ys.length)) = ys := by
  rw [List.drop_of_length_le (by omega)]
  simp
theorem row_src {w : World} {g c : Nat} {t : TypeId} {l : List UInt8} (h : Row w g t (bsU l) c) : ∀ j v, (bsU l)[j]? = some v → w.cell? ((⟨g, 0, none⟩ : Addr).add j) = some v := by
  intro j v hv
  have hj : j < (bsU l).length := (List.getElem?_eq_some_iff.1 hv).1
  have hadd : (⟨g, 0, none⟩ : Addr).add j = ⟨g, j, none⟩ := by
    unfold Addr.add
    split <;> simp_all
  rw [hadd, h.cell j hj, hv]
theorem copy_nil (w : World) : Calls Try.prog 16 #[.pointer none] w fun e w' => e = .returned (.pointer none) ∧ w = w' := by
  go_enter Try.func16, Try.ntmps16
  go_wp2
  go_ret
  exact ⟨rfl, rfl⟩
set_option maxRecDepth 100000 in
set_option maxHeartbeats 1000000 in
theorem copy_any (a g h n m : Nat) (bs ks : List UInt8) (w : World) (hst : Sto w a g h n m bs ks) : Calls Try.prog 16 #[.pointer (some ⟨a, 0, none⟩)] w (CopyPost w n m bs ks) := by
  have hnum := hst.nums
  have HST := Lib.hid hst
  have HNM := Lib.hid hnum.2.2
  have hn : n ≤ 65536 := by omega
  have hm : m ≤ 32 := by omega
  have HC0 := Lib.hid (fun W (hb : Below w.heap.size w W) => (hst.below hb).c0)
  have HC1 := Lib.hid (fun W (hb : Below w.heap.size w W) => (hst.below hb).c1)
  obtain ⟨iu0, iuh, iua, iub, iuc⟩ := info_parts info5
  obtain ⟨il0, ilh, ila, ilb, ilc⟩ := info_parts info68
  clear hnum hst
  go_enter Try.func16, Try.ntmps16
  go_upto_region 3 with fail
  refine wp_region_noPanic ?_
  refine wp_region_held_drew (S := fun W => Below w.heap.size w W) (by kernel_rfl) ((Below.refl _ w).drew) (fun k0 => ?_)
  show wpAnyH _ _ _ _ _ 15 #[false, false, false, false, false, false, false, false, false, false, false, false, false, false, false] _ _
  refine wpAnyH_take (i := 0) (oi := { dst := some 6, op := Go.Op.move (Go.Operand.tmp 0), type := 23, pos := "store.go:92", after := #[], guard := none }) (v := .pointer (some ⟨a, 0, none⟩)) rfl (by kernel_rfl) (by kernel_rfl) (by kernel_rfl) (fun _ _ _ h => h) (Or.inl ⟨by rfl, fun W hSw => by (try dsimp only at hSw); go_simp⟩) k0 ?_
  try simp only [Act.put, List.setIfInBounds_toArray, List.set_cons_zero, List.set_cons_succ]
  refine wpAnyH_take (i := 1) (oi := { dst := some 7, op := Go.Op.nilCheck (Go.Operand.tmp 6), type := 0, pos := "store.go:92", after := #[{ on := 0, ground := Go.Ground.data }], guard := none }) (v := .pointer (some ⟨a, 0, none⟩)) rfl (by kernel_rfl) (by kernel_rfl) (by kernel_rfl) (fun _ _ _ h => h) (Or.inl ⟨by rfl, fun W hSw => by (try dsimp only at hSw); go_simp⟩) k0 ?_
  try simp only [Act.put, List.setIfInBounds_toArray, List.set_cons_zero, List.set_cons_succ]
  refine wpAnyH_take (i := 2) (oi := { dst := some 8, op := Go.Op.fieldAddr 67 (Go.Operand.tmp 7) 0, type := 0, pos := "store.go:92", after := #[{ on := 1, ground := Go.Ground.data }], guard := none }) (v := .pointer (some ⟨a, 0, none⟩)) rfl (by kernel_rfl) (by kernel_rfl) (by kernel_rfl) (fun _ _ _ h => h) (Or.inl ⟨by rfl, fun W hSw => by (try dsimp only at hSw); go_simp⟩) k0 ?_
  try simp only [Act.put, List.setIfInBounds_toArray, List.set_cons_zero, List.set_cons_succ]
  refine wpAnyH_take (i := 3) (oi := { dst := some 9, op := Go.Op.load 29 (Go.Operand.tmp 8), type := 29, pos := "store.go:92", after := #[{ on := 2, ground := Go.Ground.data }], guard := none }) (v := .slice (some ⟨g, 0, none⟩) n n) rfl (by kernel_rfl) (by kernel_rfl) (by kernel_rfl) (fun _ _ _ h => h) (Or.inl ⟨by rfl, fun W hSw => by have cc := HC0.out W hSw; clear hSw; go_simp⟩) k0 ?_
  try simp only [Act.put, List.setIfInBounds_toArray, List.set_cons_zero, List.set_cons_succ]
  refine wpAnyH_take (i := 4) (oi := { dst := some 10, op := Go.Op.call { callee := Go.Callee.builtin Go.Builtin.len, args := #[Go.Operand.tmp 9], argTypes := #[29] }, type := 3, pos := "store.go:92", after := #[{ on := 3, ground := Go.Ground.data }], guard := none }) (v := .int .i64 (n : Int)) rfl (by kernel_rfl) (by kernel_rfl) (by kernel_rfl) (fun _ _ _ h => h) (Or.inl ⟨by rfl, fun W hSw => by (try dsimp only at hSw); go_simp⟩) k0 ?_
  try simp only [Act.put, List.setIfInBounds_toArray, List.set_cons_zero, List.set_cons_succ]
  refine wpAnyH_take (i := 6) (oi := { dst := some 12, op := Go.Op.move (Go.Operand.tmp 0), type := 23, pos := "store.go:92", after := #[], guard := none }) (v := .pointer (some ⟨a, 0, none⟩)) rfl (by kernel_rfl) (by kernel_rfl) (by kernel_rfl) (fun _ _ _ h => h) (Or.inl ⟨by rfl, fun W hSw => by (try dsimp only at hSw); go_simp⟩) k0 ?_
  try simp only [Act.put, List.setIfInBounds_toArray, List.set_cons_zero, List.set_cons_succ]
  refine wpAnyH_take (i := 7) (oi := { dst := some 13, op := Go.Op.nilCheck (Go.Operand.tmp 12), type := 0, pos := "store.go:92", after := #[{ on := 6, ground := Go.Ground.data }], guard := none }) (v := .pointer (some ⟨a, 0, none⟩)) rfl (by kernel_rfl) (by kernel_rfl) (by kernel_rfl) (fun _ _ _ h => h) (Or.inl ⟨by rfl, fun W hSw => by (try dsimp only at hSw); go_simp⟩) k0 ?_
  try simp only [Act.put, List.setIfInBounds_toArray, List.set_cons_zero, List.set_cons_succ]
  refine wpAnyH_take (i := 8) (oi := { dst := some 14, op := Go.Op.fieldAddr 67 (Go.Operand.tmp 13) 1, type := 0, pos := "store.go:92", after := #[{ on := 7, ground := Go.Ground.data }], guard := none }) (v := .pointer (some ⟨a, 1, none⟩)) rfl (by kernel_rfl) (by kernel_rfl) (by kernel_rfl) (fun _ _ _ h => h) (Or.inl ⟨by rfl, fun W hSw => by (try dsimp only at hSw); go_simp⟩) k0 ?_
  try simp only [Act.put, List.setIfInBounds_toArray, List.set_cons_zero, List.set_cons_succ]
  refine wpAnyH_take (i := 9) (oi := { dst := some 15, op := Go.Op.load 65 (Go.Operand.tmp 14), type := 65, pos := "store.go:92", after := #[{ on := 8, ground := Go.Ground.data }], guard := none }) (v := .slice (some ⟨h, 0, none⟩) m m) rfl (by kernel_rfl) (by kernel_rfl) (by kernel_rfl) (fun _ _ _ h => h) (Or.inl ⟨by rfl, fun W hSw => by have cc := HC1.out W hSw; clear hSw; go_simp⟩) k0 ?_
  try simp only [Act.put, List.setIfInBounds_toArray, List.set_cons_zero, List.set_cons_succ]
  refine wpAnyH_take (i := 10) (oi := { dst := some 16, op := Go.Op.call { callee := Go.Callee.builtin Go.Builtin.len, args := #[Go.Operand.tmp 15], argTypes := #[65] }, type := 3, pos := "store.go:92", after := #[{ on := 9, ground := Go.Ground.data }], guard := none }) (v := .int .i64 (m : Int)) rfl (by kernel_rfl) (by kernel_rfl) (by kernel_rfl) (fun _ _ _ h => h) (Or.inl ⟨by rfl, fun W hSw => by (try dsimp only at hSw); go_simp⟩) k0 ?_
  try simp only [Act.put, List.setIfInBounds_toArray, List.set_cons_zero, List.set_cons_succ]
  refine wpAnyH_ready (rs := [5, 11]) (by kernel_rfl) (by simp) ?_
  refine AllReadyH.cons (o := { dst := some 11, op := Go.Op.makeSlice 29 (Go.Operand.tmp 10) (Go.Operand.tmp 10), type := 29, pos := "store.go:92", after := #[{ on := 4, ground := Go.Ground.data }, { on := 4, ground := Go.Ground.data }], guard := none }) rfl (fun K hK => ?_) (AllReadyH.cons (o := { dst := some 17, op := Go.Op.makeSlice 65 (Go.Operand.tmp 16) (Go.Operand.tmp 16), type := 65, pos := "store.go:92", after := #[{ on := 10, ground := Go.Ground.data }, { on := 10, ground := Go.Ground.data }], guard := none }) rfl (fun K hK => ?_) AllReadyH.nil)
  · rw [if_pos (by rfl)]
    refine op_make (.tmp 10) (.tmp 10) 29 rfl 5 iu0 (.int .u8 0) Try.underlying29 iuh iua iub n rfl rfl (by rw [iuc]; omega) (by unfold maxLen; omega) ?_
    intro w1 hr1 hg1
    have HRB := Lib.hid (row_made hr1 (Below.refl _ _))
    have HRBs := Lib.hid (Below.size (show Below w.heap.size w w.drew from k0))
    refine hK.out _ _ (bel0 k0 (below_of hg1)) (fun k1 => ?_)
    clear hr1 hg1
    clear hK K
    try simp only [List.setIfInBounds_toArray, List.set_cons_zero, List.set_cons_succ]
    refine wpAnyH_ready (rs := [11]) (by kernel_rfl) (by simp) ?_
    refine AllReadyH.cons (o := { dst := some 17, op := Go.Op.makeSlice 65 (Go.Operand.tmp 16) (Go.Operand.tmp 16), type := 65, pos := "store.go:92", after := #[{ on := 10, ground := Go.Ground.data }, { on := 10, ground := Go.Ground.data }], guard := none }) rfl (fun K hK => ?_) AllReadyH.nil
    rw [if_pos (by rfl)]
    refine op_make (.tmp 16) (.tmp 16) 65 rfl 68 il0 (.int .u8 0) Try.underlying65 ilh ila ilb m rfl rfl (by rw [ilc]; omega) (by unfold maxLen; omega) ?_
    intro w2 hr2 hg2
    replace HRB := Lib.hid (HRB.out.below (below_of hg2))
    have HRL := Lib.hid (row_made hr2 (Below.refl _ _))
    have HRLs := Lib.hid (Below.size (show Below w.heap.size w w1 from k1))
    refine hK.out _ _ (bel0 k1 (below_of hg2)) (fun k2 => ?_)
    clear hr2 hg2
    clear hK K
    try simp only [List.setIfInBounds_toArray, List.set_cons_zero, List.set_cons_succ]
    refine wpAnyH_take (i := 12) (oi := { dst := some 18, op := Go.Op.build 67 #[(0, Go.Operand.tmp 11), (1, Go.Operand.tmp 17)], type := 67, pos := "store.go:92", after := #[{ on := 5, ground := Go.Ground.data }, { on := 11, ground := Go.Ground.data }], guard := none }) (v := .agg #[.slice (some ⟨w.drew.heap.size, 0, none⟩) n n, .slice (some ⟨w1.heap.size, 0, none⟩) m m]) rfl (by kernel_rfl) (by kernel_rfl) (by kernel_rfl) (fun _ _ _ h => h) (Or.inl ⟨by rfl, fun W hSw => by (try dsimp only at hSw); go_simp⟩) k2 ?_
    try simp only [Act.put, List.setIfInBounds_toArray, List.set_cons_zero, List.set_cons_succ]
    refine wpAnyH_ready (rs := [13]) (by kernel_rfl) (by simp) ?_
    refine AllReadyH.cons (o := { dst := some 19, op := Go.Op.box 67 (Go.Operand.tmp 18), type := 23, pos := "store.go:92", after := #[{ on := 12, ground := Go.Ground.data }], guard := none }) rfl (fun K hK => ?_) AllReadyH.nil
    go_simp
    refine hK.out _ _ (bel0 k2 (below_new _ _)) (fun k3 => ?_)
    clear hK K
    try simp only [List.setIfInBounds_toArray, List.set_cons_zero, List.set_cons_succ]
    refine wpAnyH_take (i := 14) (oi := { dst := some 3, op := Go.Op.assign (Go.Operand.tmp 19), type := 23, pos := "store.go:92", after := #[{ on := 13, ground := Go.Ground.data }, { on := 0, ground := Go.Ground.phase }, { on := 1, ground := Go.Ground.phase }, { on := 2, ground := Go.Ground.phase }, { on := 3, ground := Go.Ground.phase }, { on := 4, ground := Go.Ground.phase }, { on := 5, ground := Go.Ground.phase }, { on := 6, ground := Go.Ground.phase }, { on := 7, ground := Go.Ground.phase }, { on := 8, ground := Go.Ground.phase }, { on := 9, ground := Go.Ground.phase }, { on := 10, ground := Go.Ground.phase }, { on := 11, ground := Go.Ground.phase }, { on := 12, ground := Go.Ground.phase }, { on := 13, ground := Go.Ground.phase }], guard := none }) (v := .pointer (some ⟨w2.heap.size, 0, none⟩)) rfl (by kernel_rfl) (by kernel_rfl) (by kernel_rfl) (fun _ _ _ h => h) (Or.inl ⟨by rfl, fun W hSw => by (try dsimp only at hSw); go_simp⟩) k3 ?_
    try simp only [Act.put, List.setIfInBounds_toArray, List.set_cons_zero, List.set_cons_succ]
    refine wpAnyH_done (by kernel_rfl) ?_ _
    refine NoPanic.normal ?_
    have hS3 : Sto (w2.alloc (.cells #[.slice (some ⟨w.heap.size, 0, none⟩) n n, .slice (some ⟨w1.heap.size, 0, none⟩) m m] 67)) w2.heap.size w.heap.size w1.heap.size n m (List.replicate n 0) (List.replicate m 0) := ⟨Bx.new _ _ _, Row.rep HRB.out (below_new _ _), Row.rep HRL.out (below_new _ _), by simp, by simp, HNM.out.1, HNM.out.2.1, HNM.out.2.2⟩
    have GA : Hid (w.heap.size ≤ w2.heap.size) := Lib.hid (Below.size (show Below w.heap.size w w2 from k2))
    have hb3 : Below w.heap.size w (w2.alloc (.cells #[.slice (some ⟨w.heap.size, 0, none⟩) n n, .slice (some ⟨w1.heap.size, 0, none⟩) m m] 67)) := k3
    have GG : Hid (w.heap.size ≤ w.heap.size) := Lib.hid HRBs.out
    have GH : Hid (w.heap.size ≤ w1.heap.size) := Lib.hid HRLs.out
    clear k0 k1 k2 k3 HRB HRL HRBs HRLs
    go_upto_region 4 with fail
    generalize (w2.alloc (.cells #[.slice (some ⟨w.heap.size, 0, none⟩) n n, .slice (some ⟨w1.heap.size, 0, none⟩) m m] 67)) = w3 at *
    have pS := Lib.hid (hS3.below (Below.refl w3.heap.size w3).drew)
    have pB := Lib.hid (bel0 hb3 (Below.refl w3.heap.size w3).drew)
    have pSTART : Hid (Below w.heap.size w w3.drew ∧ w3.drew.cell? ⟨w2.heap.size, 0, none⟩ = some (.slice (some ⟨w.heap.size, 0, none⟩) n n)) := Lib.hid ⟨pB.out, pS.out.c0⟩
    have pROW := Lib.hid pS.out.2.1
    have pGE := GG
    have pSR := row_src ((HST.out.below pB.out).2.1)
    have pCK : Hid (∀ w', w3.drew.grownBy w' (some (w.heap.size)) → w'.cell? ⟨w2.heap.size, 0, none⟩ = some (.slice (some ⟨w.heap.size, 0, none⟩) n n)) := Lib.hid (fun w' hg => (pS.out.1.grown hg (fun e => pS.out.apart.1 (Option.some.inj e).symm)).cell 0)
    have pHPOS : 0 < (bsU bs).length → (some ⟨w.heap.size, 0, none⟩ : Option Addr) = some ⟨w.heap.size, 0, none⟩ ∧ ∃ ad, (some ⟨g, 0, none⟩ : Option Addr) = some ad ∧ ∀ j v, (bsU bs)[j]? = some v → w3.drew.cell? (ad.add j) = some v := fun _ => ⟨rfl, _, rfl, pSR⟩
    have pLEN : (bsU bs).length = Nat.min n n := by rw [bsU_len, HST.out.nums.1]; exact (Nat.min_self _).symm
    have pFIT : 0 + (bsU bs).length ≤ (bsU (List.replicate n 0)).length := by rw [bsU_len, bsU_len, HST.out.nums.1]; simp
    have pONE := bsU_one bs
    clear pSR
    refine wp_region_noPanic ?_
    refine wp_region_held_drew (S := fun W => Below w.heap.size w W ∧ W.cell? ⟨w2.heap.size, 0, none⟩ = some (.slice (some ⟨w.heap.size, 0, none⟩) n n)) (by kernel_rfl) pSTART.out (fun p0 => ?_)
    show wpAnyH _ _ _ _ _ 9 #[false, false, false, false, false, false, false, false, false] _ _
    refine wpAnyH_take (i := 0) (oi := { dst := some 20, op := Go.Op.move (Go.Operand.tmp 3), type := 23, pos := "store.go:93", after := #[], guard := none }) (v := .pointer (some ⟨w2.heap.size, 0, none⟩)) rfl (by kernel_rfl) (by kernel_rfl) (by kernel_rfl) (fun _ _ _ h => h) (Or.inl ⟨by rfl, fun W hSw => by (try dsimp only at hSw); go_simp⟩) p0 ?_
    try simp only [Act.put, List.setIfInBounds_toArray, List.set_cons_zero, List.set_cons_succ]
    refine wpAnyH_take (i := 1) (oi := { dst := some 21, op := Go.Op.nilCheck (Go.Operand.tmp 20), type := 0, pos := "store.go:93", after := #[{ on := 0, ground := Go.Ground.data }], guard := none }) (v := .pointer (some ⟨w2.heap.size, 0, none⟩)) rfl (by kernel_rfl) (by kernel_rfl) (by kernel_rfl) (fun _ _ _ h => h) (Or.inl ⟨by rfl, fun W hSw => by (try dsimp only at hSw); go_simp⟩) p0 ?_
    try simp only [Act.put, List.setIfInBounds_toArray, List.set_cons_zero, List.set_cons_succ]
    refine wpAnyH_take (i := 2) (oi := { dst := some 22, op := Go.Op.fieldAddr 67 (Go.Operand.tmp 21) 0, type := 0, pos := "store.go:93", after := #[{ on := 1, ground := Go.Ground.data }], guard := none }) (v := .pointer (some ⟨w2.heap.size, 0, none⟩)) rfl (by kernel_rfl) (by kernel_rfl) (by kernel_rfl) (fun _ _ _ h => h) (Or.inl ⟨by rfl, fun W hSw => by (try dsimp only at hSw); go_simp⟩) p0 ?_
    try simp only [Act.put, List.setIfInBounds_toArray, List.set_cons_zero, List.set_cons_succ]
    refine wpAnyH_take (i := 3) (oi := { dst := some 23, op := Go.Op.load 29 (Go.Operand.tmp 22), type := 29, pos := "store.go:93", after := #[{ on := 2, ground := Go.Ground.data }], guard := none }) (v := .slice (some ⟨w.heap.size, 0, none⟩) n n) rfl (by kernel_rfl) (by kernel_rfl) (by kernel_rfl) (fun _ _ _ h => h) (Or.inl ⟨by rfl, fun W hSw => by have cc := hSw.2; clear hSw; go_simp⟩) p0 ?_
    try simp only [Act.put, List.setIfInBounds_toArray, List.set_cons_zero, List.set_cons_succ]
    refine wpAnyH_take (i := 4) (oi := { dst := some 24, op := Go.Op.move (Go.Operand.tmp 0), type := 23, pos := "store.go:93", after := #[], guard := none }) (v := .pointer (some ⟨a, 0, none⟩)) rfl (by kernel_rfl) (by kernel_rfl) (by kernel_rfl) (fun _ _ _ h => h) (Or.inl ⟨by rfl, fun W hSw => by (try dsimp only at hSw); go_simp⟩) p0 ?_
    try simp only [Act.put, List.setIfInBounds_toArray, List.set_cons_zero, List.set_cons_succ]
    refine wpAnyH_take (i := 5) (oi := { dst := some 25, op := Go.Op.nilCheck (Go.Operand.tmp 24), type := 0, pos := "store.go:93", after := #[{ on := 4, ground := Go.Ground.data }], guard := none }) (v := .pointer (some ⟨a, 0, none⟩)) rfl (by kernel_rfl) (by kernel_rfl) (by kernel_rfl) (fun _ _ _ h => h) (Or.inl ⟨by rfl, fun W hSw => by (try dsimp only at hSw); go_simp⟩) p0 ?_
    try simp only [Act.put, List.setIfInBounds_toArray, List.set_cons_zero, List.set_cons_succ]
    refine wpAnyH_take (i := 6) (oi := { dst := some 26, op := Go.Op.fieldAddr 67 (Go.Operand.tmp 25) 0, type := 0, pos := "store.go:93", after := #[{ on := 5, ground := Go.Ground.data }], guard := none }) (v := .pointer (some ⟨a, 0, none⟩)) rfl (by kernel_rfl) (by kernel_rfl) (by kernel_rfl) (fun _ _ _ h => h) (Or.inl ⟨by rfl, fun W hSw => by (try dsimp only at hSw); go_simp⟩) p0 ?_
    try simp only [Act.put, List.setIfInBounds_toArray, List.set_cons_zero, List.set_cons_succ]
    refine wpAnyH_take (i := 7) (oi := { dst := some 27, op := Go.Op.load 29 (Go.Operand.tmp 26), type := 29, pos := "store.go:93", after := #[{ on := 6, ground := Go.Ground.data }], guard := none }) (v := .slice (some ⟨g, 0, none⟩) n n) rfl (by kernel_rfl) (by kernel_rfl) (by kernel_rfl) (fun _ _ _ h => h) (Or.inl ⟨by rfl, fun W hSw => by have cc := HC0.out W hSw.1; clear hSw; go_simp⟩) p0 ?_
    try simp only [Act.put, List.setIfInBounds_toArray, List.set_cons_zero, List.set_cons_succ]
    refine wpAnyH_ready (rs := [8]) (by kernel_rfl) (by simp) ?_
    refine AllReadyH.cons (o := { dst := some 28, op := Go.Op.call { callee := Go.Callee.builtin Go.Builtin.copy, args := #[Go.Operand.tmp 23, Go.Operand.tmp 27], argTypes := #[29, 29] }, type := 3, pos := "store.go:93", after := #[{ on := 3, ground := Go.Ground.data }, { on := 7, ground := Go.Ground.data }], guard := none }) rfl (fun K hK => ?_) AllReadyH.nil
    rw [if_pos (by rfl)]
    refine op_copy (.tmp 23) (.tmp 27) 29 29 rfl 5 Try.underlying29 (by kernel_rfl) (some ⟨w.heap.size, 0, none⟩) (some ⟨g, 0, none⟩) n n n n rfl rfl w.heap.size 0 n (bsU (List.replicate n 0)) 5 pROW.out (bsU bs) pLEN pHPOS pFIT pONE ?_
    intro pw pHR pHG
    refine hK.out _ _ ⟨below_grown p0.1 pHG.out pGE.out, pCK.out pw pHG.out⟩ (fun p1 => ?_)
    clear hK K
    try simp only [List.setIfInBounds_toArray, List.set_cons_zero, List.set_cons_succ]
    refine wpAnyH_done (by kernel_rfl) ?_ _
    refine NoPanic.normal ?_
    have hS4 := pS.out.spliced (by have h := pHR.out; rw [splice_full (by rw [bsU_len, bsU_len, HST.out.nums.1]; simp)] at h; exact h) HST.out.nums.1 pHG.out
    have pB2 : Hid (Below w.heap.size w pw) := Lib.hid (below_grown pB.out pHG.out pGE.out)
    clear p0 p1 pHR pHG pS pROW pCK pHPOS pLEN pFIT pONE pSTART pB pGE hS3 hb3
    go_upto_region 5 with fail
    have qS := Lib.hid (hS4.below (Below.refl pw.heap.size pw).drew)
    have qB := Lib.hid (bel0 pB2.out (Below.refl pw.heap.size pw).drew)
    have qSTART : Hid (Below w.heap.size w pw.drew ∧ pw.drew.cell? ⟨w2.heap.size, 1, none⟩ = some (.slice (some ⟨w1.heap.size, 0, none⟩) m m)) := Lib.hid ⟨qB.out, qS.out.c1⟩
    have qROW := Lib.hid qS.out.2.2.1
    have qGE := GH
    have qSR := row_src ((HST.out.below qB.out).2.2.1)
    have qCK : Hid (∀ w', pw.drew.grownBy w' (some (w1.heap.size)) → w'.cell? ⟨w2.heap.size, 1, none⟩ = some (.slice (some ⟨w1.heap.size, 0, none⟩) m m)) := Lib.hid (fun w' hg => (qS.out.1.grown hg (fun e => qS.out.apart.2.1 (Option.some.inj e).symm)).cell 1)
    have qHPOS : 0 < (bsU ks).length → (some ⟨w1.heap.size, 0, none⟩ : Option Addr) = some ⟨w1.heap.size, 0, none⟩ ∧ ∃ ad, (some ⟨h, 0, none⟩ : Option Addr) = some ad ∧ ∀ j v, (bsU ks)[j]? = some v → pw.drew.cell? (ad.add j) = some v := fun _ => ⟨rfl, _, rfl, qSR⟩
    have qLEN : (bsU ks).length = Nat.min m m := by rw [bsU_len, HST.out.nums.2.1]; exact (Nat.min_self _).symm
    have qFIT : 0 + (bsU ks).length ≤ (bsU (List.replicate m 0)).length := by rw [bsU_len, bsU_len, HST.out.nums.2.1]; simp
    have qONE := bsU_one ks
    clear qSR
    refine wp_region_noPanic ?_
    refine wp_region_held_drew (S := fun W => Below w.heap.size w W ∧ W.cell? ⟨w2.heap.size, 1, none⟩ = some (.slice (some ⟨w1.heap.size, 0, none⟩) m m)) (by kernel_rfl) qSTART.out (fun q0 => ?_)
    show wpAnyH _ _ _ _ _ 9 #[false, false, false, false, false, false, false, false, false] _ _
    refine wpAnyH_take (i := 0) (oi := { dst := some 29, op := Go.Op.move (Go.Operand.tmp 3), type := 23, pos := "store.go:94", after := #[], guard := none }) (v := .pointer (some ⟨w2.heap.size, 0, none⟩)) rfl (by kernel_rfl) (by kernel_rfl) (by kernel_rfl) (fun _ _ _ h => h) (Or.inl ⟨by rfl, fun W hSw => by (try dsimp only at hSw); go_simp⟩) q0 ?_
    try simp only [Act.put, List.setIfInBounds_toArray, List.set_cons_zero, List.set_cons_succ]
    refine wpAnyH_take (i := 1) (oi := { dst := some 30, op := Go.Op.nilCheck (Go.Operand.tmp 29), type := 0, pos := "store.go:94", after := #[{ on := 0, ground := Go.Ground.data }], guard := none }) (v := .pointer (some ⟨w2.heap.size, 0, none⟩)) rfl (by kernel_rfl) (by kernel_rfl) (by kernel_rfl) (fun _ _ _ h => h) (Or.inl ⟨by rfl, fun W hSw => by (try dsimp only at hSw); go_simp⟩) q0 ?_
    try simp only [Act.put, List.setIfInBounds_toArray, List.set_cons_zero, List.set_cons_succ]
    refine wpAnyH_take (i := 2) (oi := { dst := some 31, op := Go.Op.fieldAddr 67 (Go.Operand.tmp 30) 1, type := 0, pos := "store.go:94", after := #[{ on := 1, ground := Go.Ground.data }], guard := none }) (v := .pointer (some ⟨w2.heap.size, 1, none⟩)) rfl (by kernel_rfl) (by kernel_rfl) (by kernel_rfl) (fun _ _ _ h => h) (Or.inl ⟨by rfl, fun W hSw => by (try dsimp only at hSw); go_simp⟩) q0 ?_
    try simp only [Act.put, List.setIfInBounds_toArray, List.set_cons_zero, List.set_cons_succ]
    refine wpAnyH_take (i := 3) (oi := { dst := some 32, op := Go.Op.load 65 (Go.Operand.tmp 31), type := 65, pos := "store.go:94", after := #[{ on := 2, ground := Go.Ground.data }], guard := none }) (v := .slice (some ⟨w1.heap.size, 0, none⟩) m m) rfl (by kernel_rfl) (by kernel_rfl) (by kernel_rfl) (fun _ _ _ h => h) (Or.inl ⟨by rfl, fun W hSw => by have cc := hSw.2; clear hSw; go_simp⟩) q0 ?_
    try simp only [Act.put, List.setIfInBounds_toArray, List.set_cons_zero, List.set_cons_succ]
    refine wpAnyH_take (i := 4) (oi := { dst := some 33, op := Go.Op.move (Go.Operand.tmp 0), type := 23, pos := "store.go:94", after := #[], guard := none }) (v := .pointer (some ⟨a, 0, none⟩)) rfl (by kernel_rfl) (by kernel_rfl) (by kernel_rfl) (fun _ _ _ h => h) (Or.inl ⟨by rfl, fun W hSw => by (try dsimp only at hSw); go_simp⟩) q0 ?_
    try simp only [Act.put, List.setIfInBounds_toArray, List.set_cons_zero, List.set_cons_succ]
    refine wpAnyH_take (i := 5) (oi := { dst := some 34, op := Go.Op.nilCheck (Go.Operand.tmp 33), type := 0, pos := "store.go:94", after := #[{ on := 4, ground := Go.Ground.data }], guard := none }) (v := .pointer (some ⟨a, 0, none⟩)) rfl (by kernel_rfl) (by kernel_rfl) (by kernel_rfl) (fun _ _ _ h => h) (Or.inl ⟨by rfl, fun W hSw => by (try dsimp only at hSw); go_simp⟩) q0 ?_
    try simp only [Act.put, List.setIfInBounds_toArray, List.set_cons_zero, List.set_cons_succ]
    refine wpAnyH_take (i := 6) (oi := { dst := some 35, op := Go.Op.fieldAddr 67 (Go.Operand.tmp 34) 1, type := 0, pos := "store.go:94", after := #[{ on := 5, ground := Go.Ground.data }], guard := none }) (v := .pointer (some ⟨a, 1, none⟩)) rfl (by kernel_rfl) (by kernel_rfl) (by kernel_rfl) (fun _ _ _ h => h) (Or.inl ⟨by rfl, fun W hSw => by (try dsimp only at hSw); go_simp⟩) q0 ?_
    try simp only [Act.put, List.setIfInBounds_toArray, List.set_cons_zero, List.set_cons_succ]
    refine wpAnyH_take (i := 7) (oi := { dst := some 36, op := Go.Op.load 65 (Go.Operand.tmp 35), type := 65, pos := "store.go:94", after := #[{ on := 6, ground := Go.Ground.data }], guard := none }) (v := .slice (some ⟨h, 0, none⟩) m m) rfl (by kernel_rfl) (by kernel_rfl) (by kernel_rfl) (fun _ _ _ h => h) (Or.inl ⟨by rfl, fun W hSw => by have cc := HC1.out W hSw.1; clear hSw; go_simp⟩) q0 ?_
    try simp only [Act.put, List.setIfInBounds_toArray, List.set_cons_zero, List.set_cons_succ]
    refine wpAnyH_ready (rs := [8]) (by kernel_rfl) (by simp) ?_
    refine AllReadyH.cons (o := { dst := some 37, op := Go.Op.call { callee := Go.Callee.builtin Go.Builtin.copy, args := #[Go.Operand.tmp 32, Go.Operand.tmp 36], argTypes := #[65, 65] }, type := 3, pos := "store.go:94", after := #[{ on := 3, ground := Go.Ground.data }, { on := 7, ground := Go.Ground.data }], guard := none }) rfl (fun K hK => ?_) AllReadyH.nil
    rw [if_pos (by rfl)]
    refine op_copy (.tmp 32) (.tmp 36) 65 65 rfl 68 Try.underlying65 (by kernel_rfl) (some ⟨w1.heap.size, 0, none⟩) (some ⟨h, 0, none⟩) m m m m rfl rfl w1.heap.size 0 m (bsU (List.replicate m 0)) 68 qROW.out (bsU ks) qLEN qHPOS qFIT qONE ?_
    intro qw qHR qHG
    refine hK.out _ _ ⟨below_grown q0.1 qHG.out qGE.out, qCK.out qw qHG.out⟩ (fun q1 => ?_)
    clear hK K
    try simp only [List.setIfInBounds_toArray, List.set_cons_zero, List.set_cons_succ]
    refine wpAnyH_done (by kernel_rfl) ?_ _
    refine NoPanic.normal ?_
    have hS5 := qS.out.relocked (by have h := qHR.out; rw [splice_full (by rw [bsU_len, bsU_len, HST.out.nums.2.1]; simp)] at h; exact h) HST.out.nums.2.1 qHG.out
    have qB2 : Hid (Below w.heap.size w qw) := Lib.hid (below_grown qB.out qHG.out qGE.out)
    have HS5 := Lib.hid hS5
    clear q0 q1 hS5
    go_wp2
    go_ret
    exact ⟨_, _, _, rfl, HS5.out, GA.out, GG.out, GH.out, qB2.out⟩
  · rw [if_pos (by rfl)]
    refine op_make (.tmp 16) (.tmp 16) 65 rfl 68 il0 (.int .u8 0) Try.underlying65 ilh ila ilb m rfl rfl (by rw [ilc]; omega) (by unfold maxLen; omega) ?_
    intro w1 hr1 hg1
    have HRL := Lib.hid (row_made hr1 (Below.refl _ _))
    have HRLs := Lib.hid (Below.size (show Below w.heap.size w w.drew from k0))
    refine hK.out _ _ (bel0 k0 (below_of hg1)) (fun k1 => ?_)
    clear hr1 hg1
    clear hK K
    try simp only [List.setIfInBounds_toArray, List.set_cons_zero, List.set_cons_succ]
    refine wpAnyH_ready (rs := [5]) (by kernel_rfl) (by simp) ?_
    refine AllReadyH.cons (o := { dst := some 11, op := Go.Op.makeSlice 29 (Go.Operand.tmp 10) (Go.Operand.tmp 10), type := 29, pos := "store.go:92", after := #[{ on := 4, ground := Go.Ground.data }, { on := 4, ground := Go.Ground.data }], guard := none }) rfl (fun K hK => ?_) AllReadyH.nil
    rw [if_pos (by rfl)]
    refine op_make (.tmp 10) (.tmp 10) 29 rfl 5 iu0 (.int .u8 0) Try.underlying29 iuh iua iub n rfl rfl (by rw [iuc]; omega) (by unfold maxLen; omega) ?_
    intro w2 hr2 hg2
    replace HRL := Lib.hid (HRL.out.below (below_of hg2))
    have HRB := Lib.hid (row_made hr2 (Below.refl _ _))
    have HRBs := Lib.hid (Below.size (show Below w.heap.size w w1 from k1))
    refine hK.out _ _ (bel0 k1 (below_of hg2)) (fun k2 => ?_)
    clear hr2 hg2
    clear hK K
    try simp only [List.setIfInBounds_toArray, List.set_cons_zero, List.set_cons_succ]
    refine wpAnyH_take (i := 12) (oi := { dst := some 18, op := Go.Op.build 67 #[(0, Go.Operand.tmp 11), (1, Go.Operand.tmp 17)], type := 67, pos := "store.go:92", after := #[{ on := 5, ground := Go.Ground.data }, { on := 11, ground := Go.Ground.data }], guard := none }) (v := .agg #[.slice (some ⟨w1.heap.size, 0, none⟩) n n, .slice (some ⟨w.drew.heap.size, 0, none⟩) m m]) rfl (by kernel_rfl) (by kernel_rfl) (by kernel_rfl) (fun _ _ _ h => h) (Or.inl ⟨by rfl, fun W hSw => by (try dsimp only at hSw); go_simp⟩) k2 ?_
    try simp only [Act.put, List.setIfInBounds_toArray, List.set_cons_zero, List.set_cons_succ]
    refine wpAnyH_ready (rs := [13]) (by kernel_rfl) (by simp) ?_
    refine AllReadyH.cons (o := { dst := some 19, op := Go.Op.box 67 (Go.Operand.tmp 18), type := 23, pos := "store.go:92", after := #[{ on := 12, ground := Go.Ground.data }], guard := none }) rfl (fun K hK => ?_) AllReadyH.nil
    go_simp
    refine hK.out _ _ (bel0 k2 (below_new _ _)) (fun k3 => ?_)
    clear hK K
    try simp only [List.setIfInBounds_toArray, List.set_cons_zero, List.set_cons_succ]
    refine wpAnyH_take (i := 14) (oi := { dst := some 3, op := Go.Op.assign (Go.Operand.tmp 19), type := 23, pos := "store.go:92", after := #[{ on := 13, ground := Go.Ground.data }, { on := 0, ground := Go.Ground.phase }, { on := 1, ground := Go.Ground.phase }, { on := 2, ground := Go.Ground.phase }, { on := 3, ground := Go.Ground.phase }, { on := 4, ground := Go.Ground.phase }, { on := 5, ground := Go.Ground.phase }, { on := 6, ground := Go.Ground.phase }, { on := 7, ground := Go.Ground.phase }, { on := 8, ground := Go.Ground.phase }, { on := 9, ground := Go.Ground.phase }, { on := 10, ground := Go.Ground.phase }, { on := 11, ground := Go.Ground.phase }, { on := 12, ground := Go.Ground.phase }, { on := 13, ground := Go.Ground.phase }], guard := none }) (v := .pointer (some ⟨w2.heap.size, 0, none⟩)) rfl (by kernel_rfl) (by kernel_rfl) (by kernel_rfl) (fun _ _ _ h => h) (Or.inl ⟨by rfl, fun W hSw => by (try dsimp only at hSw); go_simp⟩) k3 ?_
    try simp only [Act.put, List.setIfInBounds_toArray, List.set_cons_zero, List.set_cons_succ]
    refine wpAnyH_done (by kernel_rfl) ?_ _
    refine NoPanic.normal ?_
    have hS3 : Sto (w2.alloc (.cells #[.slice (some ⟨w1.heap.size, 0, none⟩) n n, .slice (some ⟨w.heap.size, 0, none⟩) m m] 67)) w2.heap.size w1.heap.size w.heap.size n m (List.replicate n 0) (List.replicate m 0) := ⟨Bx.new _ _ _, Row.rep HRB.out (below_new _ _), Row.rep HRL.out (below_new _ _), by simp, by simp, HNM.out.1, HNM.out.2.1, HNM.out.2.2⟩
    have GA : Hid (w.heap.size ≤ w2.heap.size) := Lib.hid (Below.size (show Below w.heap.size w w2 from k2))
    have hb3 : Below w.heap.size w (w2.alloc (.cells #[.slice (some ⟨w1.heap.size, 0, none⟩) n n, .slice (some ⟨w.heap.size, 0, none⟩) m m] 67)) := k3
    have GG : Hid (w.heap.size ≤ w1.heap.size) := Lib.hid HRBs.out
    have GH : Hid (w.heap.size ≤ w.heap.size) := Lib.hid HRLs.out
    clear k0 k1 k2 k3 HRB HRL HRBs HRLs
    go_upto_region 4 with fail
    generalize (w2.alloc (.cells #[.slice (some ⟨w1.heap.size, 0, none⟩) n n, .slice (some ⟨w.heap.size, 0, none⟩) m m] 67)) = w3 at *
    have pS := Lib.hid (hS3.below (Below.refl w3.heap.size w3).drew)
    have pB := Lib.hid (bel0 hb3 (Below.refl w3.heap.size w3).drew)
    have pSTART : Hid (Below w.heap.size w w3.drew ∧ w3.drew.cell? ⟨w2.heap.size, 0, none⟩ = some (.slice (some ⟨w1.heap.size, 0, none⟩) n n)) := Lib.hid ⟨pB.out, pS.out.c0⟩
    have pROW := Lib.hid pS.out.2.1
    have pGE := GG
    have pSR := row_src ((HST.out.below pB.out).2.1)
    have pCK : Hid (∀ w', w3.drew.grownBy w' (some (w1.heap.size)) → w'.cell? ⟨w2.heap.size, 0, none⟩ = some (.slice (some ⟨w1.heap.size, 0, none⟩) n n)) := Lib.hid (fun w' hg => (pS.out.1.grown hg (fun e => pS.out.apart.1 (Option.some.inj e).symm)).cell 0)
    have pHPOS : 0 < (bsU bs).length → (some ⟨w1.heap.size, 0, none⟩ : Option Addr) = some ⟨w1.heap.size, 0, none⟩ ∧ ∃ ad, (some ⟨g, 0, none⟩ : Option Addr) = some ad ∧ ∀ j v, (bsU bs)[j]? = some v → w3.drew.cell? (ad.add j) = some v := fun _ => ⟨rfl, _, rfl, pSR⟩
    have pLEN : (bsU bs).length = Nat.min n n := by rw [bsU_len, HST.out.nums.1]; exact (Nat.min_self _).symm
    have pFIT : 0 + (bsU bs).length ≤ (bsU (List.replicate n 0)).length := by rw [bsU_len, bsU_len, HST.out.nums.1]; simp
    have pONE := bsU_one bs
    clear pSR
    refine wp_region_noPanic ?_
    refine wp_region_held_drew (S := fun W => Below w.heap.size w W ∧ W.cell? ⟨w2.heap.size, 0, none⟩ = some (.slice (some ⟨w1.heap.size, 0, none⟩) n n)) (by kernel_rfl) pSTART.out (fun p0 => ?_)
    show wpAnyH _ _ _ _ _ 9 #[false, false, false, false, false, false, false, false, false] _ _
    refine wpAnyH_take (i := 0) (oi := { dst := some 20, op := Go.Op.move (Go.Operand.tmp 3), type := 23, pos := "store.go:93", after := #[], guard := none }) (v := .pointer (some ⟨w2.heap.size, 0, none⟩)) rfl (by kernel_rfl) (by kernel_rfl) (by kernel_rfl) (fun _ _ _ h => h) (Or.inl ⟨by rfl, fun W hSw => by (try dsimp only at hSw); go_simp⟩) p0 ?_
    try simp only [Act.put, List.setIfInBounds_toArray, List.set_cons_zero, List.set_cons_succ]
    refine wpAnyH_take (i := 1) (oi := { dst := some 21, op := Go.Op.nilCheck (Go.Operand.tmp 20), type := 0, pos := "store.go:93", after := #[{ on := 0, ground := Go.Ground.data }], guard := none }) (v := .pointer (some ⟨w2.heap.size, 0, none⟩)) rfl (by kernel_rfl) (by kernel_rfl) (by kernel_rfl) (fun _ _ _ h => h) (Or.inl ⟨by rfl, fun W hSw => by (try dsimp only at hSw); go_simp⟩) p0 ?_
    try simp only [Act.put, List.setIfInBounds_toArray, List.set_cons_zero, List.set_cons_succ]
    refine wpAnyH_take (i := 2) (oi := { dst := some 22, op := Go.Op.fieldAddr 67 (Go.Operand.tmp 21) 0, type := 0, pos := "store.go:93", after := #[{ on := 1, ground := Go.Ground.data }], guard := none }) (v := .pointer (some ⟨w2.heap.size, 0, none⟩)) rfl (by kernel_rfl) (by kernel_rfl) (by kernel_rfl) (fun _ _ _ h => h) (Or.inl ⟨by rfl, fun W hSw => by (try dsimp only at hSw); go_simp⟩) p0 ?_
    try simp only [Act.put, List.setIfInBounds_toArray, List.set_cons_zero, List.set_cons_succ]
    refine wpAnyH_take (i := 3) (oi := { dst := some 23, op := Go.Op.load 29 (Go.Operand.tmp 22), type := 29, pos := "store.go:93", after := #[{ on := 2, ground := Go.Ground.data }], guard := none }) (v := .slice (some ⟨w1.heap.size, 0, none⟩) n n) rfl (by kernel_rfl) (by kernel_rfl) (by kernel_rfl) (fun _ _ _ h => h) (Or.inl ⟨by rfl, fun W hSw => by have cc := hSw.2; clear hSw; go_simp⟩) p0 ?_
    try simp only [Act.put, List.setIfInBounds_toArray, List.set_cons_zero, List.set_cons_succ]
    refine wpAnyH_take (i := 4) (oi := { dst := some 24, op := Go.Op.move (Go.Operand.tmp 0), type := 23, pos := "store.go:93", after := #[], guard := none }) (v := .pointer (some ⟨a, 0, none⟩)) rfl (by kernel_rfl) (by kernel_rfl) (by kernel_rfl) (fun _ _ _ h => h) (Or.inl ⟨by rfl, fun W hSw => by (try dsimp only at hSw); go_simp⟩) p0 ?_
    try simp only [Act.put, List.setIfInBounds_toArray, List.set_cons_zero, List.set_cons_succ]
    refine wpAnyH_take (i := 5) (oi := { dst := some 25, op := Go.Op.nilCheck (Go.Operand.tmp 24), type := 0, pos := "store.go:93", after := #[{ on := 4, ground := Go.Ground.data }], guard := none }) (v := .pointer (some ⟨a, 0, none⟩)) rfl (by kernel_rfl) (by kernel_rfl) (by kernel_rfl) (fun _ _ _ h => h) (Or.inl ⟨by rfl, fun W hSw => by (try dsimp only at hSw); go_simp⟩) p0 ?_
    try simp only [Act.put, List.setIfInBounds_toArray, List.set_cons_zero, List.set_cons_succ]
    refine wpAnyH_take (i := 6) (oi := { dst := some 26, op := Go.Op.fieldAddr 67 (Go.Operand.tmp 25) 0, type := 0, pos := "store.go:93", after := #[{ on := 5, ground := Go.Ground.data }], guard := none }) (v := .pointer (some ⟨a, 0, none⟩)) rfl (by kernel_rfl) (by kernel_rfl) (by kernel_rfl) (fun _ _ _ h => h) (Or.inl ⟨by rfl, fun W hSw => by (try dsimp only at hSw); go_simp⟩) p0 ?_
    try simp only [Act.put, List.setIfInBounds_toArray, List.set_cons_zero, List.set_cons_succ]
    refine wpAnyH_take (i := 7) (oi := { dst := some 27, op := Go.Op.load 29 (Go.Operand.tmp 26), type := 29, pos := "store.go:93", after := #[{ on := 6, ground := Go.Ground.data }], guard := none }) (v := .slice (some ⟨g, 0, none⟩) n n) rfl (by kernel_rfl) (by kernel_rfl) (by kernel_rfl) (fun _ _ _ h => h) (Or.inl ⟨by rfl, fun W hSw => by have cc := HC0.out W hSw.1; clear hSw; go_simp⟩) p0 ?_
    try simp only [Act.put, List.setIfInBounds_toArray, List.set_cons_zero, List.set_cons_succ]
    refine wpAnyH_ready (rs := [8]) (by kernel_rfl) (by simp) ?_
    refine AllReadyH.cons (o := { dst := some 28, op := Go.Op.call { callee := Go.Callee.builtin Go.Builtin.copy, args := #[Go.Operand.tmp 23, Go.Operand.tmp 27], argTypes := #[29, 29] }, type := 3, pos := "store.go:93", after := #[{ on := 3, ground := Go.Ground.data }, { on := 7, ground := Go.Ground.data }], guard := none }) rfl (fun K hK => ?_) AllReadyH.nil
    rw [if_pos (by rfl)]
    refine op_copy (.tmp 23) (.tmp 27) 29 29 rfl 5 Try.underlying29 (by kernel_rfl) (some ⟨w1.heap.size, 0, none⟩) (some ⟨g, 0, none⟩) n n n n rfl rfl w1.heap.size 0 n (bsU (List.replicate n 0)) 5 pROW.out (bsU bs) pLEN pHPOS pFIT pONE ?_
    intro pw pHR pHG
    refine hK.out _ _ ⟨below_grown p0.1 pHG.out pGE.out, pCK.out pw pHG.out⟩ (fun p1 => ?_)
    clear hK K
    try simp only [List.setIfInBounds_toArray, List.set_cons_zero, List.set_cons_succ]
    refine wpAnyH_done (by kernel_rfl) ?_ _
    refine NoPanic.normal ?_
    have hS4 := pS.out.spliced (by have h := pHR.out; rw [splice_full (by rw [bsU_len, bsU_len, HST.out.nums.1]; simp)] at h; exact h) HST.out.nums.1 pHG.out
    have pB2 : Hid (Below w.heap.size w pw) := Lib.hid (below_grown pB.out pHG.out pGE.out)
    clear p0 p1 pHR pHG pS pROW pCK pHPOS pLEN pFIT pONE pSTART pB pGE hS3 hb3
    go_upto_region 5 with fail
    have qS := Lib.hid (hS4.below (Below.refl pw.heap.size pw).drew)
    have qB := Lib.hid (bel0 pB2.out (Below.refl pw.heap.size pw).drew)
    have qSTART : Hid (Below w.heap.size w pw.drew ∧ pw.drew.cell? ⟨w2.heap.size, 1, none⟩ = some (.slice (some ⟨w.heap.size, 0, none⟩) m m)) := Lib.hid ⟨qB.out, qS.out.c1⟩
    have qROW := Lib.hid qS.out.2.2.1
    have qGE := GH
    have qSR := row_src ((HST.out.below qB.out).2.2.1)
    have qCK : Hid (∀ w', pw.drew.grownBy w' (some (w.heap.size)) → w'.cell? ⟨w2.heap.size, 1, none⟩ = some (.slice (some ⟨w.heap.size, 0, none⟩) m m)) := Lib.hid (fun w' hg => (qS.out.1.grown hg (fun e => qS.out.apart.2.1 (Option.some.inj e).symm)).cell 1)
    have qHPOS : 0 < (bsU ks).length → (some ⟨w.heap.size, 0, none⟩ : Option Addr) = some ⟨w.heap.size, 0, none⟩ ∧ ∃ ad, (some ⟨h, 0, none⟩ : Option Addr) = some ad ∧ ∀ j v, (bsU ks)[j]? = some v → pw.drew.cell? (ad.add j) = some v := fun _ => ⟨rfl, _, rfl, qSR⟩
    have qLEN : (bsU ks).length = Nat.min m m := by rw [bsU_len, HST.out.nums.2.1]; exact (Nat.min_self _).symm
    have qFIT : 0 + (bsU ks).length ≤ (bsU (List.replicate m 0)).length := by rw [bsU_len, bsU_len, HST.out.nums.2.1]; simp
    have qONE := bsU_one ks
    clear qSR
    refine wp_region_noPanic ?_
    refine wp_region_held_drew (S := fun W => Below w.heap.size w W ∧ W.cell? ⟨w2.heap.size, 1, none⟩ = some (.slice (some ⟨w.heap.size, 0, none⟩) m m)) (by kernel_rfl) qSTART.out (fun q0 => ?_)
    show wpAnyH _ _ _ _ _ 9 #[false, false, false, false, false, false, false, false, false] _ _
    refine wpAnyH_take (i := 0) (oi := { dst := some 29, op := Go.Op.move (Go.Operand.tmp 3), type := 23, pos := "store.go:94", after := #[], guard := none }) (v := .pointer (some ⟨w2.heap.size, 0, none⟩)) rfl (by kernel_rfl) (by kernel_rfl) (by kernel_rfl) (fun _ _ _ h => h) (Or.inl ⟨by rfl, fun W hSw => by (try dsimp only at hSw); go_simp⟩) q0 ?_
    try simp only [Act.put, List.setIfInBounds_toArray, List.set_cons_zero, List.set_cons_succ]
    refine wpAnyH_take (i := 1) (oi := { dst := some 30, op := Go.Op.nilCheck (Go.Operand.tmp 29), type := 0, pos := "store.go:94", after := #[{ on := 0, ground := Go.Ground.data }], guard := none }) (v := .pointer (some ⟨w2.heap.size, 0, none⟩)) rfl (by kernel_rfl) (by kernel_rfl) (by kernel_rfl) (fun _ _ _ h => h) (Or.inl ⟨by rfl, fun W hSw => by (try dsimp only at hSw); go_simp⟩) q0 ?_
    try simp only [Act.put, List.setIfInBounds_toArray, List.set_cons_zero, List.set_cons_succ]
    refine wpAnyH_take (i := 2) (oi := { dst := some 31, op := Go.Op.fieldAddr 67 (Go.Operand.tmp 30) 1, type := 0, pos := "store.go:94", after := #[{ on := 1, ground := Go.Ground.data }], guard := none }) (v := .pointer (some ⟨w2.heap.size, 1, none⟩)) rfl (by kernel_rfl) (by kernel_rfl) (by kernel_rfl) (fun _ _ _ h => h) (Or.inl ⟨by rfl, fun W hSw => by (try dsimp only at hSw); go_simp⟩) q0 ?_
    try simp only [Act.put, List.setIfInBounds_toArray, List.set_cons_zero, List.set_cons_succ]
    refine wpAnyH_take (i := 3) (oi := { dst := some 32, op := Go.Op.load 65 (Go.Operand.tmp 31), type := 65, pos := "store.go:94", after := #[{ on := 2, ground := Go.Ground.data }], guard := none }) (v := .slice (some ⟨w.heap.size, 0, none⟩) m m) rfl (by kernel_rfl) (by kernel_rfl) (by kernel_rfl) (fun _ _ _ h => h) (Or.inl ⟨by rfl, fun W hSw => by have cc := hSw.2; clear hSw; go_simp⟩) q0 ?_
    try simp only [Act.put, List.setIfInBounds_toArray, List.set_cons_zero, List.set_cons_succ]
    refine wpAnyH_take (i := 4) (oi := { dst := some 33, op := Go.Op.move (Go.Operand.tmp 0), type := 23, pos := "store.go:94", after := #[], guard := none }) (v := .pointer (some ⟨a, 0, none⟩)) rfl (by kernel_rfl) (by kernel_rfl) (by kernel_rfl) (fun _ _ _ h => h) (Or.inl ⟨by rfl, fun W hSw => by (try dsimp only at hSw); go_simp⟩) q0 ?_
    try simp only [Act.put, List.setIfInBounds_toArray, List.set_cons_zero, List.set_cons_succ]
    refine wpAnyH_take (i := 5) (oi := { dst := some 34, op := Go.Op.nilCheck (Go.Operand.tmp 33), type := 0, pos := "store.go:94", after := #[{ on := 4, ground := Go.Ground.data }], guard := none }) (v := .pointer (some ⟨a, 0, none⟩)) rfl (by kernel_rfl) (by kernel_rfl) (by kernel_rfl) (fun _ _ _ h => h) (Or.inl ⟨by rfl, fun W hSw => by (try dsimp only at hSw); go_simp⟩) q0 ?_
    try simp only [Act.put, List.setIfInBounds_toArray, List.set_cons_zero, List.set_cons_succ]
    refine wpAnyH_take (i := 6) (oi := { dst := some 35, op := Go.Op.fieldAddr 67 (Go.Operand.tmp 34) 1, type := 0, pos := "store.go:94", after := #[{ on := 5, ground := Go.Ground.data }], guard := none }) (v := .pointer (some ⟨a, 1, none⟩)) rfl (by kernel_rfl) (by kernel_rfl) (by kernel_rfl) (fun _ _ _ h => h) (Or.inl ⟨by rfl, fun W hSw => by (try dsimp only at hSw); go_simp⟩) q0 ?_
    try simp only [Act.put, List.setIfInBounds_toArray, List.set_cons_zero, List.set_cons_succ]
    refine wpAnyH_take (i := 7) (oi := { dst := some 36, op := Go.Op.load 65 (Go.Operand.tmp 35), type := 65, pos := "store.go:94", after := #[{ on := 6, ground := Go.Ground.data }], guard := none }) (v := .slice (some ⟨h, 0, none⟩) m m) rfl (by kernel_rfl) (by kernel_rfl) (by kernel_rfl) (fun _ _ _ h => h) (Or.inl ⟨by rfl, fun W hSw => by have cc := HC1.out W hSw.1; clear hSw; go_simp⟩) q0 ?_
    try simp only [Act.put, List.setIfInBounds_toArray, List.set_cons_zero, List.set_cons_succ]
    refine wpAnyH_ready (rs := [8]) (by kernel_rfl) (by simp) ?_
    refine AllReadyH.cons (o := { dst := some 37, op := Go.Op.call { callee := Go.Callee.builtin Go.Builtin.copy, args := #[Go.Operand.tmp 32, Go.Operand.tmp 36], argTypes := #[65, 65] }, type := 3, pos := "store.go:94", after := #[{ on := 3, ground := Go.Ground.data }, { on := 7, ground := Go.Ground.data }], guard := none }) rfl (fun K hK => ?_) AllReadyH.nil
    rw [if_pos (by rfl)]
    refine op_copy (.tmp 32) (.tmp 36) 65 65 rfl 68 Try.underlying65 (by kernel_rfl) (some ⟨w.heap.size, 0, none⟩) (some ⟨h, 0, none⟩) m m m m rfl rfl w.heap.size 0 m (bsU (List.replicate m 0)) 68 qROW.out (bsU ks) qLEN qHPOS qFIT qONE ?_
    intro qw qHR qHG
    refine hK.out _ _ ⟨below_grown q0.1 qHG.out qGE.out, qCK.out qw qHG.out⟩ (fun q1 => ?_)
    clear hK K
    try simp only [List.setIfInBounds_toArray, List.set_cons_zero, List.set_cons_succ]
    refine wpAnyH_done (by kernel_rfl) ?_ _
    refine NoPanic.normal ?_
    have hS5 := qS.out.relocked (by have h := qHR.out; rw [splice_full (by rw [bsU_len, bsU_len, HST.out.nums.2.1]; simp)] at h; exact h) HST.out.nums.2.1 qHG.out
    have qB2 : Hid (Below w.heap.size w qw) := Lib.hid (below_grown qB.out qHG.out qGE.out)
    have HS5 := Lib.hid hS5
    clear q0 q1 hS5
    go_wp2
    go_ret
    exact ⟨_, _, _, rfl, HS5.out, GA.out, GG.out, GH.out, qB2.out⟩

end E
end Go.Proofs.Ytnnpnklbhghegaa

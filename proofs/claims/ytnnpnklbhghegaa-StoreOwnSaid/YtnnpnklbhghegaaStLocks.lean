/- SetKey and KeyOf of the program: their contracts. -/
import Derived.Test.YtnnpnklbhghegaaStWrite
namespace Go.Proofs.Ytnnpnklbhghegaa
open Go.RowKit Go.Shelf
set_option linter.unusedVariables false
namespace E

/-- What SetKey leaves. -/
def SetPost (w : World) (a g h n m : Nat) (bs ks : List UInt8) (v : Value) (e : Ending) (w' : World) : Prop := e = .returned v ∧ w.grownBy w' (some h) ∧ Sto w' a g h n m bs ks
theorem setKey_nil (x key : Int) (w : World) : Calls Try.prog 19 #[.pointer none, .int .i64 x, .int .i64 key] w fun e w' => e = .returned (.bool false) ∧ w = w' := by
  go_enter Try.func19, Try.ntmps19
  go_wp2_with fail
  refine (holds_nil x 1 _).mono ?_
  rintro e w1 ⟨rfl, rfl⟩
  go_wp2
  go_ret
  exact ⟨rfl, rfl⟩
theorem keyOf_nil (x : Int) (w : World) : Calls Try.prog 24 #[.pointer none, .int .i64 x] w fun e w' => e = .returned (.tuple #[.int .i64 0, .bool false]) ∧ w = w' := by
  go_enter Try.func24, Try.ntmps24
  go_wp2_with fail
  refine (holds_nil x 1 _).mono ?_
  rintro e w1 ⟨rfl, rfl⟩
  go_wp2
  go_ret2
  exact ⟨rfl, rfl⟩
theorem u8wrap {k : Nat} (h : k < 256) : IntKind.u8.wrap (k : Int) = (k : Int) := by
  simp [IntKind.wrap, IntKind.bits, IntKind.signed]; omega
theorem i64wrap {k : Nat} (h : k < 256) : IntKind.i64.wrap (k : Int) = (k : Int) := by
  simp [IntKind.wrap, IntKind.bits, IntKind.signed]; omega
set_option maxRecDepth 100000 in
set_option maxHeartbeats 1000000 in
theorem setKey_any (a g h n m : Nat) (x key : Int) (bs ks : List UInt8) (w : World) (hx : x ≤ 9223372036854775807) (hst : Sto w a g h n m bs ks) :
    Calls Try.prog 19 #[.pointer (some ⟨a, 0, none⟩), .int .i64 x, .int .i64 key] w (SetPost w a g h n m bs (setK n ks x key) (.bool (setOk n x key))) := by
  have hnum := hst.nums
  have H1 := Lib.hid (holds_any a g n x 1 w hx (by omega) hst.c0)
  have HST := Lib.hid hst
  by_cases hok : setOk n x key = true
  · have h0 := hok
    unfold setOk at h0
    rw [Bool.and_eq_true] at h0
    obtain ⟨hi, hk⟩ := h0
    obtain ⟨k0, k1⟩ := of_decide_eq_true hk
    obtain ⟨h1, h2, h3⟩ := inB_iff.1 hi
    obtain ⟨X, rfl⟩ := Int.eq_ofNat_of_zero_le h1
    obtain ⟨kk, rfl⟩ := Int.eq_ofNat_of_zero_le k0
    rw [hi] at H1
    obtain ⟨B, hB⟩ : ∃ B, B = X / 2048 := ⟨_, rfl⟩
    have hset : setK n ks (X : Int) (kk : Int) = ks.set B (UInt8.ofNat kk) := by unfold setK; rw [if_pos hok, hB]; rfl
    rw [hset, hok]
    have hkb : (UInt8.ofNat kk).toNat = kk := by rw [UInt8.toNat_ofNat']; exact Nat.mod_eq_of_lt (by show kk < 256; omega)
    have HBO := Lib.hid (fun W => blockOf_any X W (by omega))
    rw [← hB] at HBO
    have hBm : B < m := by omega
    have hBm' : (B : Int) < (m : Int) := by omega
    have hstd := hst.below (Below.refl w.heap.size w).drew
    obtain ⟨hr1, hr2⟩ := hstd.2.2.1.set B (.int .u8 (kk : Int))
    have hr3 : (bsU ks).set B (.int .u8 (kk : Int)) = bsU (ks.set B (UInt8.ofNat kk)) := by rw [← bsU_set, hkb]
    rw [hr3] at hr1
    have HR := Lib.hid (And.intro (hstd.relocked hr1 (by rw [List.length_set]; exact hnum.2.1) hr2) (btrans (Below.refl w.heap.size w).drew hr2))
    have hap := hst.apart
    have c1 := hstd.c1
    have c2 := hstd.lock B hBm
    have f2 := hstd.2.2.1.frozen B
    have HC : Hid (∀ W, (W = w.drew ∨ W = w.drew.setCell ⟨h, B, none⟩ (.int .u8 (kk : Int))) → W.cell? ⟨a, 1, none⟩ = some (.slice (some ⟨h, 0, none⟩) m m)) := Lib.hid (fun W hW => by
      rcases hW with rfl | rfl
      · exact c1
      · exact (hstd.1.far (p := ⟨h, B, none⟩) hap.2.1 _).cell 1)
    have hw8 := u8wrap (k := kk) (by omega)
    have hk31 : ¬ (31 : Int) < (kk : Int) := by omega
    clear hnum hok hi hk k1 h1 h2 h3 hB hset hkb hstd hr1 hr2 hr3 hap hst
    go_enter Try.func19, Try.ntmps19
    go_wp2_with fail
    refine H1.out.mono ?_
    rintro e w1 ⟨rfl, rfl⟩
    go_upto_region 3 with fail
    refine wp_region_noPanic ?_
    refine wp_region_held_drew (S := fun W => W = w.drew ∨ W = w.drew.setCell ⟨h, B, none⟩ (.int .u8 (kk : Int))) (by kernel_rfl) (.inl rfl) (fun k0 => ?_)
    show wpAnyH _ _ _ _ _ 10 #[false, false, false, false, false, false, false, false, false, false] _ _
    refine wpAnyH_take (i := 0) (oi := { dst := some 19, op := Go.Op.move (Go.Operand.tmp 0), type := 23, pos := "store.go:56", after := #[], guard := none }) (v := .pointer (some ⟨a, 0, none⟩)) rfl (by kernel_rfl) (by kernel_rfl) (by kernel_rfl) (fun _ _ _ h => h) (Or.inl ⟨by rfl, fun W hSw => by (try dsimp only at hSw); go_simp⟩) k0 ?_
    try simp only [Act.put, List.setIfInBounds_toArray, List.set_cons_zero, List.set_cons_succ]
    refine wpAnyH_take (i := 1) (oi := { dst := some 20, op := Go.Op.nilCheck (Go.Operand.tmp 19), type := 0, pos := "store.go:56", after := #[{ on := 0, ground := Go.Ground.data }], guard := none }) (v := .pointer (some ⟨a, 0, none⟩)) rfl (by kernel_rfl) (by kernel_rfl) (by kernel_rfl) (fun _ _ _ h => h) (Or.inl ⟨by rfl, fun W hSw => by (try dsimp only at hSw); go_simp⟩) k0 ?_
    try simp only [Act.put, List.setIfInBounds_toArray, List.set_cons_zero, List.set_cons_succ]
    refine wpAnyH_take (i := 2) (oi := { dst := some 21, op := Go.Op.fieldAddr 67 (Go.Operand.tmp 20) 1, type := 0, pos := "store.go:56", after := #[{ on := 1, ground := Go.Ground.data }], guard := none }) (v := .pointer (some ⟨a, 1, none⟩)) rfl (by kernel_rfl) (by kernel_rfl) (by kernel_rfl) (fun _ _ _ h => h) (Or.inl ⟨by rfl, fun W hSw => by (try dsimp only at hSw); go_simp⟩) k0 ?_
    try simp only [Act.put, List.setIfInBounds_toArray, List.set_cons_zero, List.set_cons_succ]
    refine wpAnyH_take (i := 3) (oi := { dst := some 22, op := Go.Op.load 65 (Go.Operand.tmp 21), type := 65, pos := "store.go:56", after := #[{ on := 2, ground := Go.Ground.data }], guard := none }) (v := .slice (some ⟨h, 0, none⟩) m m) rfl (by kernel_rfl) (by kernel_rfl) (by kernel_rfl) (fun _ _ _ h => h) (Or.inl ⟨by rfl, fun W hSw => by have cc := HC.out W hSw; clear hSw; go_simp⟩) k0 ?_
    try simp only [Act.put, List.setIfInBounds_toArray, List.set_cons_zero, List.set_cons_succ]
    refine wpAnyH_take (i := 4) (oi := { dst := some 23, op := Go.Op.move (Go.Operand.tmp 1), type := 3, pos := "store.go:56", after := #[], guard := none }) (v := .int .i64 (X : Int)) rfl (by kernel_rfl) (by kernel_rfl) (by kernel_rfl) (fun _ _ _ h => h) (Or.inl ⟨by rfl, fun W hSw => by (try dsimp only at hSw); go_simp⟩) k0 ?_
    try simp only [Act.put, List.setIfInBounds_toArray, List.set_cons_zero, List.set_cons_succ]
    refine wpAnyH_take (i := 6) (oi := { dst := some 25, op := Go.Op.move (Go.Operand.tmp 2), type := 3, pos := "store.go:56", after := #[], guard := none }) (v := .int .i64 (kk : Int)) rfl (by kernel_rfl) (by kernel_rfl) (by kernel_rfl) (fun _ _ _ h => h) (Or.inl ⟨by rfl, fun W hSw => by (try dsimp only at hSw); go_simp⟩) k0 ?_
    try simp only [Act.put, List.setIfInBounds_toArray, List.set_cons_zero, List.set_cons_succ]
    refine wpAnyH_take (i := 7) (oi := { dst := some 26, op := Go.Op.convert 3 68 (Go.Operand.tmp 25), type := 68, pos := "store.go:56", after := #[{ on := 6, ground := Go.Ground.data }], guard := none }) (v := .int .u8 (kk : Int)) rfl (by kernel_rfl) (by kernel_rfl) (by kernel_rfl) (fun _ _ _ h => h) (Or.inl ⟨by rfl, fun W hSw => by (try dsimp only at hSw); go_simp⟩) k0 ?_
    try simp only [Act.put, List.setIfInBounds_toArray, List.set_cons_zero, List.set_cons_succ]
    refine wpAnyH_ready (rs := [5]) (by kernel_rfl) (by simp) ?_
    refine AllReadyH.cons (o := { dst := some 24, op := Go.Op.call { callee := Go.Callee.value (Go.Operand.func 36), args := #[Go.Operand.tmp 23], argTypes := #[3] }, type := 3, pos := "store.go:56", after := #[{ on := 4, ground := Go.Ground.data }], guard := none }) rfl (fun K hK => ?_) AllReadyH.nil
    go_simp
    go_at_call 36
    refine (HBO.out _).mono ?_
    rintro e x1 ⟨rfl, rfl⟩
    go_wp2_with fail
    refine hK.out _ _ (.inl rfl) (fun k1 => ?_)
    clear hK K
    try simp only [List.setIfInBounds_toArray, List.set_cons_zero, List.set_cons_succ]
    refine wpAnyH_take (i := 8) (oi := { dst := some 27, op := Go.Op.indexAddr 65 (Go.Operand.tmp 22) (Go.Operand.tmp 24), type := 0, pos := "store.go:56", after := #[{ on := 3, ground := Go.Ground.data }, { on := 5, ground := Go.Ground.data }, { on := 0, ground := Go.Ground.phase }, { on := 1, ground := Go.Ground.phase }, { on := 2, ground := Go.Ground.phase }, { on := 3, ground := Go.Ground.phase }, { on := 4, ground := Go.Ground.phase }, { on := 5, ground := Go.Ground.phase }, { on := 6, ground := Go.Ground.phase }, { on := 7, ground := Go.Ground.phase }], guard := none }) (v := .pointer (some ⟨h, B, none⟩)) rfl (by kernel_rfl) (by kernel_rfl) (by kernel_rfl) (fun _ _ _ h => h) (Or.inl ⟨by rfl, fun W hSw => by (try dsimp only at hSw); go_simp⟩) k1 ?_
    try simp only [Act.put, List.setIfInBounds_toArray, List.set_cons_zero, List.set_cons_succ]
    refine wpAnyH_ready (rs := [9]) (by kernel_rfl) (by simp) ?_
    refine AllReadyH.cons (o := { dst := none, op := Go.Op.store 68 (Go.Operand.tmp 27) (Go.Operand.tmp 26), type := 0, pos := "store.go:56", after := #[{ on := 8, ground := Go.Ground.data }, { on := 7, ground := Go.Ground.data }, { on := 5, ground := Go.Ground.chain }, { on := 0, ground := Go.Ground.phase }, { on := 1, ground := Go.Ground.phase }, { on := 2, ground := Go.Ground.phase }, { on := 3, ground := Go.Ground.phase }, { on := 4, ground := Go.Ground.phase }, { on := 5, ground := Go.Ground.phase }, { on := 6, ground := Go.Ground.phase }, { on := 7, ground := Go.Ground.phase }], guard := none }) rfl (fun K hK => ?_) AllReadyH.nil
    go_simp
    refine hK.out _ _ (.inr rfl) (fun k2 => ?_)
    clear hK K
    try simp only [List.setIfInBounds_toArray, List.set_cons_zero, List.set_cons_succ]
    refine wpAnyH_done (by kernel_rfl) ?_ _
    refine NoPanic.normal ?_
    go_wp2
    go_ret
    exact ⟨rfl, HR.out.2, HR.out.1⟩
  · have hset : setK n ks x key = ks := by unfold setK; rw [if_neg hok]
    rw [hset, show setOk n x key = false by simpa using hok]
    cases hi : inB n x 1 with
    | false =>
      rw [hi] at H1
      clear hok hset hi
      go_enter Try.func19, Try.ntmps19
      go_wp2_with fail
      refine H1.out.mono ?_
      rintro e w1 ⟨rfl, rfl⟩
      go_wp2
      go_ret
      exact ⟨rfl, World.grownBy.refl _ _, HST.out⟩
    | true =>
      rw [hi] at H1
      have hk : ¬ (0 ≤ key ∧ key ≤ 31) := fun h => hok (by unfold setOk; rw [hi, decide_eq_true h]; rfl)
      clear hok hset hi
      by_cases h0 : key < 0
      · clear hk
        go_enter Try.func19, Try.ntmps19
        go_wp2_with fail
        refine H1.out.mono ?_
        rintro e w1 ⟨rfl, rfl⟩
        go_wp2
        go_ret
        exact ⟨rfl, World.grownBy.refl _ _, HST.out⟩
      · have h31 : 31 < key := by omega
        clear hk
        go_enter Try.func19, Try.ntmps19
        go_wp2_with fail
        refine H1.out.mono ?_
        rintro e w1 ⟨rfl, rfl⟩
        go_wp2
        go_ret
        exact ⟨rfl, World.grownBy.refl _ _, HST.out⟩
set_option maxRecDepth 100000 in
set_option maxHeartbeats 1000000 in
theorem keyOf_any (a g h n m : Nat) (x : Int) (bs ks : List UInt8) (w : World) (hx : x ≤ 9223372036854775807) (hst : Sto w a g h n m bs ks) :
    Calls Try.prog 24 #[.pointer (some ⟨a, 0, none⟩), .int .i64 x] w (New w (.tuple #[.int .i64 (keyV n ks x), .bool (inB n x 1)])) := by
  have hnum := hst.nums
  have H1 := Lib.hid (holds_any a g n x 1 w hx (by omega) hst.c0)
  cases hi : inB n x 1 with
  | true =>
    obtain ⟨h1, h2, h3⟩ := inB_iff.1 hi
    obtain ⟨X, rfl⟩ := Int.eq_ofNat_of_zero_le h1
    rw [hi] at H1
    obtain ⟨B, hB⟩ : ∃ B, B = X / 2048 := ⟨_, rfl⟩
    obtain ⟨v, hv⟩ : ∃ v, v = (gt ks B).toNat := ⟨_, rfl⟩
    have HV : Hid (keyV n ks (X : Int) = (v : Int)) := Lib.hid (by unfold keyV; rw [if_pos hi, hv, hB]; rfl)
    rw [HV.out]
    have HBO := Lib.hid (fun W => blockOf_any X W (by omega))
    rw [← hB] at HBO
    have hBm : B < m := by omega
    have hBm' : (B : Int) < (m : Int) := by omega
    have hstd := hst.below (Below.refl w.heap.size w).drew
    have hc1 := hstd.c1
    have hc2 := hstd.lock B hBm
    rw [← hv] at hc2
    have HC : Hid (∀ W, W = w.drew → W.cell? ⟨a, 1, none⟩ = some (.slice (some ⟨h, 0, none⟩) m m)) := Lib.hid (fun W hW => by rw [hW]; exact hc1)
    have HC2 : Hid (∀ W, W = w.drew → W.cell? ⟨h, B, none⟩ = some (.int .u8 (v : Int))) := Lib.hid (fun W hW => by rw [hW]; exact hc2)
    have hw8 := i64wrap (k := v) (by rw [hv]; exact (gt ks B).toNat_lt)
    clear hnum hi h1 h2 h3 hB hv hstd hc1 hc2 hst
    go_enter Try.func24, Try.ntmps24
    go_wp2_with fail
    refine H1.out.mono ?_
    rintro e w1 ⟨rfl, rfl⟩
    go_upto_region 3 with fail
    refine wp_region_noPanic ?_
    refine wp_region_held_drew (S := fun W => W = w.drew) (by kernel_rfl) rfl (fun k0 => ?_)
    show wpAnyH _ _ _ _ _ 11 #[false, false, false, false, false, false, false, false, false, false, false] _ _
    refine wpAnyH_take (i := 0) (oi := { dst := some 10, op := Go.Op.move (Go.Operand.tmp 0), type := 23, pos := "store.go:65", after := #[], guard := none }) (v := .pointer (some ⟨a, 0, none⟩)) rfl (by kernel_rfl) (by kernel_rfl) (by kernel_rfl) (fun _ _ _ h => h) (Or.inl ⟨by rfl, fun W hSw => by (try dsimp only at hSw); go_simp⟩) k0 ?_
    try simp only [Act.put, List.setIfInBounds_toArray, List.set_cons_zero, List.set_cons_succ]
    refine wpAnyH_take (i := 1) (oi := { dst := some 11, op := Go.Op.nilCheck (Go.Operand.tmp 10), type := 0, pos := "store.go:65", after := #[{ on := 0, ground := Go.Ground.data }], guard := none }) (v := .pointer (some ⟨a, 0, none⟩)) rfl (by kernel_rfl) (by kernel_rfl) (by kernel_rfl) (fun _ _ _ h => h) (Or.inl ⟨by rfl, fun W hSw => by (try dsimp only at hSw); go_simp⟩) k0 ?_
    try simp only [Act.put, List.setIfInBounds_toArray, List.set_cons_zero, List.set_cons_succ]
    refine wpAnyH_take (i := 2) (oi := { dst := some 12, op := Go.Op.fieldAddr 67 (Go.Operand.tmp 11) 1, type := 0, pos := "store.go:65", after := #[{ on := 1, ground := Go.Ground.data }], guard := none }) (v := .pointer (some ⟨a, 1, none⟩)) rfl (by kernel_rfl) (by kernel_rfl) (by kernel_rfl) (fun _ _ _ h => h) (Or.inl ⟨by rfl, fun W hSw => by (try dsimp only at hSw); go_simp⟩) k0 ?_
    try simp only [Act.put, List.setIfInBounds_toArray, List.set_cons_zero, List.set_cons_succ]
    refine wpAnyH_take (i := 3) (oi := { dst := some 13, op := Go.Op.load 65 (Go.Operand.tmp 12), type := 65, pos := "store.go:65", after := #[{ on := 2, ground := Go.Ground.data }], guard := none }) (v := .slice (some ⟨h, 0, none⟩) m m) rfl (by kernel_rfl) (by kernel_rfl) (by kernel_rfl) (fun _ _ _ h => h) (Or.inl ⟨by rfl, fun W hSw => by have cc := HC.out W hSw; clear hSw; go_simp⟩) k0 ?_
    try simp only [Act.put, List.setIfInBounds_toArray, List.set_cons_zero, List.set_cons_succ]
    refine wpAnyH_take (i := 4) (oi := { dst := some 14, op := Go.Op.move (Go.Operand.tmp 1), type := 3, pos := "store.go:65", after := #[], guard := none }) (v := .int .i64 (X : Int)) rfl (by kernel_rfl) (by kernel_rfl) (by kernel_rfl) (fun _ _ _ h => h) (Or.inl ⟨by rfl, fun W hSw => by (try dsimp only at hSw); go_simp⟩) k0 ?_
    try simp only [Act.put, List.setIfInBounds_toArray, List.set_cons_zero, List.set_cons_succ]
    refine wpAnyH_ready (rs := [5]) (by kernel_rfl) (by simp) ?_
    refine AllReadyH.cons (o := { dst := some 15, op := Go.Op.call { callee := Go.Callee.value (Go.Operand.func 36), args := #[Go.Operand.tmp 14], argTypes := #[3] }, type := 3, pos := "store.go:65", after := #[{ on := 4, ground := Go.Ground.data }], guard := none }) rfl (fun K hK => ?_) AllReadyH.nil
    go_simp
    go_at_call 36
    refine (HBO.out _).mono ?_
    rintro e x1 ⟨rfl, rfl⟩
    go_wp2_with fail
    refine hK.out _ _ (rfl) (fun k1 => ?_)
    clear hK K
    try simp only [List.setIfInBounds_toArray, List.set_cons_zero, List.set_cons_succ]
    refine wpAnyH_take (i := 6) (oi := { dst := some 16, op := Go.Op.indexAddr 65 (Go.Operand.tmp 13) (Go.Operand.tmp 15), type := 0, pos := "store.go:65", after := #[{ on := 3, ground := Go.Ground.data }, { on := 5, ground := Go.Ground.data }], guard := none }) (v := .pointer (some ⟨h, B, none⟩)) rfl (by kernel_rfl) (by kernel_rfl) (by kernel_rfl) (fun _ _ _ h => h) (Or.inl ⟨by rfl, fun W hSw => by (try dsimp only at hSw); go_simp⟩) k1 ?_
    try simp only [Act.put, List.setIfInBounds_toArray, List.set_cons_zero, List.set_cons_succ]
    refine wpAnyH_take (i := 7) (oi := { dst := some 17, op := Go.Op.load 68 (Go.Operand.tmp 16), type := 68, pos := "store.go:65", after := #[{ on := 6, ground := Go.Ground.data }], guard := none }) (v := .int .u8 (v : Int)) rfl (by kernel_rfl) (by kernel_rfl) (by kernel_rfl) (fun _ _ _ h => h) (Or.inl ⟨by rfl, fun W hSw => by have cc := HC2.out W hSw; clear hSw; go_simp⟩) k1 ?_
    try simp only [Act.put, List.setIfInBounds_toArray, List.set_cons_zero, List.set_cons_succ]
    refine wpAnyH_take (i := 8) (oi := { dst := some 18, op := Go.Op.convert 68 3 (Go.Operand.tmp 17), type := 3, pos := "store.go:65", after := #[{ on := 7, ground := Go.Ground.data }], guard := none }) (v := .int .i64 (v : Int)) rfl (by kernel_rfl) (by kernel_rfl) (by kernel_rfl) (fun _ _ _ h => h) (Or.inl ⟨by rfl, fun W hSw => by (try dsimp only at hSw); go_simp⟩) k1 ?_
    try simp only [Act.put, List.setIfInBounds_toArray, List.set_cons_zero, List.set_cons_succ]
    refine wpAnyH_take (i := 9) (oi := { dst := some 4, op := Go.Op.assign (Go.Operand.tmp 18), type := 3, pos := "store.go:65", after := #[{ on := 8, ground := Go.Ground.data }, { on := 5, ground := Go.Ground.chain }, { on := 0, ground := Go.Ground.phase }, { on := 1, ground := Go.Ground.phase }, { on := 2, ground := Go.Ground.phase }, { on := 3, ground := Go.Ground.phase }, { on := 4, ground := Go.Ground.phase }, { on := 5, ground := Go.Ground.phase }, { on := 6, ground := Go.Ground.phase }, { on := 7, ground := Go.Ground.phase }, { on := 8, ground := Go.Ground.phase }], guard := none }) (v := .int .i64 (v : Int)) rfl (by kernel_rfl) (by kernel_rfl) (by kernel_rfl) (fun _ _ _ h => h) (Or.inl ⟨by rfl, fun W hSw => by (try dsimp only at hSw); go_simp⟩) k1 ?_
    try simp only [Act.put, List.setIfInBounds_toArray, List.set_cons_zero, List.set_cons_succ]
    refine wpAnyH_take (i := 10) (oi := { dst := some 5, op := Go.Op.assign (Go.Operand.const (Go.Value.bool true)), type := 4, pos := "store.go:65", after := #[{ on := 9, ground := Go.Ground.chain }, { on := 0, ground := Go.Ground.phase }, { on := 1, ground := Go.Ground.phase }, { on := 2, ground := Go.Ground.phase }, { on := 3, ground := Go.Ground.phase }, { on := 4, ground := Go.Ground.phase }, { on := 5, ground := Go.Ground.phase }, { on := 6, ground := Go.Ground.phase }, { on := 7, ground := Go.Ground.phase }, { on := 8, ground := Go.Ground.phase }, { on := 9, ground := Go.Ground.phase }], guard := none }) (v := .bool true) rfl (by kernel_rfl) (by kernel_rfl) (by kernel_rfl) (fun _ _ _ h => h) (Or.inl ⟨by rfl, fun W hSw => by (try dsimp only at hSw); go_simp⟩) k1 ?_
    try simp only [Act.put, List.setIfInBounds_toArray, List.set_cons_zero, List.set_cons_succ]
    refine wpAnyH_done (by kernel_rfl) ?_ _
    refine NoPanic.normal ?_
    go_wp2
    go_ret2
    exact ⟨rfl, (Below.refl _ w).drew⟩
  | false =>
    rw [hi] at H1
    have hk : keyV n ks x = 0 := by unfold keyV; rw [if_neg (by rw [hi]; simp)]
    rw [hk]
    clear hi hk
    go_enter Try.func24, Try.ntmps24
    go_wp2_with fail
    refine H1.out.mono ?_
    rintro e w1 ⟨rfl, rfl⟩
    go_wp2
    go_ret2
    exact ⟨rfl, Below.refl _ _⟩

end E
end Go.Proofs.Ytnnpnklbhghegaa

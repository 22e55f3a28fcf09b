/- The program: the source bytes of ED and EDMK. -/
import Derived.Test.YtbcncohjjnmdcaaGreatDoorRows
import Derived.Test.YtbcncohjjnmdcaaGreatDoorDpO
import Derived.Test.YtbcncohjjnmdcaaGreatDoorEdA
import Derived.Test.YtbcncohjjnmdcaaGreatDoorStD
namespace Go.Proofs.YtbcncohjjnmdcaaGreatDoor
namespace E
end E
open Go.RowKit Go.Shelf E
set_option linter.unusedVariables false
namespace M

/-- How many bytes can be fetched one by one. -/
def srcK (f : Nat → Int) : Nat → Nat
  | 0 => 0
  | N + 1 => if srcK f N = N then (if f N = 0 then N + 1 else N) else srcK f N
theorem srcK_all {f : Nat → Int} : ∀ {k : Nat}, (∀ j, j < k → f j = 0) → srcK f k = k
  | 0, _ => rfl
  | k + 1, h => by
    have h1 := srcK_all (k := k) (fun j hj => h j (by omega))
    unfold srcK
    rw [if_pos h1, if_pos (h k (by omega))]
theorem srcK_stop {f : Nat → Int} {k : Nat} (h : ∀ j, j < k → f j = 0) (h0 : f k ≠ 0) : ∀ {N : Nat}, k < N → srcK f N = k
  | 0, hk => by omega
  | N + 1, hk => by
    by_cases e : k = N
    · subst e
      unfold srcK
      rw [if_pos (srcK_all h), if_neg h0]
    · have h1 := srcK_stop h h0 (N := N) (by omega)
      unfold srcK
      rw [if_neg (by omega), h1]
/-- The codes of the bytes, the bytes, the code that counts. -/
def srcF (q : Qn) (R : Nat → Int) (p : Psw) (n : Nat) (ks : List UInt8) : Nat → Int := fun j => ftC p n ks (adT q R + j) 1
def srcL (q : Qn) (R : Nat → Int) (p : Psw) (n : Nat) (bs ks : List UInt8) (N : Nat) : List UInt8 := subL bs (adT q R) (srcK (srcF q R p n ks) N)
def srcC (q : Qn) (R : Nat → Int) (p : Psw) (n : Nat) (ks : List UInt8) (N : Nat) : Int := if srcK (srcF q R p n ks) N = N then 0 else srcF q R p n ks (srcK (srcF q R p n ks) N)
theorem info_u8 : ∃ i, Tryz.prog.info? 5 = some i ∧ i.zero = some (.int .u8 0) ∧ i.size = 1 ∧ i.bytes = 1 := by
  have h := info5
  cases e : Tryz.prog.info? 5 with
  | none => rw [e] at h; cases h
  | some i =>
    rw [e] at h
    simp at h
    exact ⟨i, rfl, h.1, h.2.1, h.2.2⟩
theorem sub_one {bs : List UInt8} {a k : Nat} (h : a + k < bs.length) : subL bs a (k + 1) = subL bs a k ++ subL bs (a + k) 1 := by
  unfold subL
  rw [List.take_add, List.drop_drop]
theorem sub_len {bs : List UInt8} {a k : Nat} (h : a + k ≤ bs.length) : (subL bs a k).length = k := by
  unfold subL
  rw [List.length_take, List.length_drop]
  omega
theorem ft_in {p : Psw} {n : Nat} {ks : List UInt8} {a k : Nat} (h : ftC p n ks a k = 0) : a + k ≤ n := by
  unfold ftC codeV at h
  by_cases h1 : inB n (a : Int) (k : Int) = true
  · have := inB_iff.1 h1
    omega
  · rw [if_neg h1] at h
    cases h
set_option maxRecDepth 100000 in
set_option maxHeartbeats 1000000 in
theorem source_post (E A : Nat) (q : Qn) (R : Nat → Int) (p : Psw) (g h n m : Nat) (bs ks : List UInt8) (c : Int) (N : Nat) (hN : N ≤ 256) (hlen : bs.length = n) (w : World) (hx : Ex w E A q R p c) (hs : Sto w A g h n m bs ks) (hR : RegOk R) (hq : QOk q) : Calls Tryz.prog 172 #[.pointer (some ⟨E, 0, none⟩), .int .i64 (N : Int)] w fun e w' => ∃ sv, e = .returned (.tuple #[sv, .int .i64 (srcC q R p n ks N)]) ∧ SvB w' sv (srcL q R p n bs ks N) ∧ Below w.heap.size w w' := by
  obtain ⟨i0, hi, hz0, hz1, hz2⟩ := info_u8
  have HS := Lib.hid (second_any E A q R p c w hx hR hq)
  have HF : Hid (∀ (k : Nat), k < N → ∀ W, Below w.heap.size w W → Calls Tryz.prog 150 #[.pointer (some ⟨A, 0, none⟩), .int .i64 ((adT q R : Int) + (k : Int)), .int .i64 1, .int .i64 p.k] W fun e W' => ∃ sv, e = .returned (.tuple #[sv, .int .i64 (srcF q R p n ks k)]) ∧ (srcF q R p n ks k = 0 → Hold W' W.heap.size sv (subL bs (adT q R + k) 1)) ∧ Below W.heap.size W W') := Lib.hid (fun k hk W hb => by
    have h1 := fetch_any A g h n m ((adT q R + k : Nat) : Int) ((1 : Nat) : Int) p.k bs ks W (by have := adT_lt q R; omega) (hs.below hb)
    refine h1.mono ?_
    rintro e W' ⟨sv, rfl, hh, hb2⟩
    refine ⟨sv, rfl, fun h0 => ?_, hb2⟩
    unfold fetL at hh
    rw [if_pos (show codeV (ftP p.k) n ks ((adT q R + k : Nat) : Int) ((1 : Nat) : Int) = 0 from h0)] at hh
    exact hh)
  have HX := Lib.hid (fun W (hb : Below w.heap.size w W) => hx.below hb)
  have HO1 : Hid (∀ k, k < N → (∀ j, j < k → srcF q R p n ks j = 0) → srcF q R p n ks k ≠ 0 → srcC q R p n ks N = srcF q R p n ks k ∧ srcL q R p n bs ks N = subL bs (adT q R) k) := Lib.hid (fun k hk h1 h2 => by
    have e := srcK_stop h1 h2 hk
    unfold srcC srcL
    rw [e, if_neg (by omega)]
    exact ⟨rfl, rfl⟩)
  have HO2 : Hid ((∀ j, j < N → srcF q R p n ks j = 0) → srcC q R p n ks N = 0 ∧ srcL q R p n bs ks N = subL bs (adT q R) N) := Lib.hid (fun h1 => by
    have e := srcK_all h1
    unfold srcC srcL
    rw [e, if_pos rfl]
    exact ⟨rfl, rfl⟩)
  have HIN : Hid (∀ k, srcF q R p n ks k = 0 → adT q R + k < bs.length) := Lib.hid (fun k h0 => by
    have := ft_in h0
    omega)
  have hal := adT_lt q R
  clear hx hs hR hq hlen
  generalize srcC q R p n ks N = SC at HO1 HO2 ⊢
  generalize srcL q R p n bs ks N = SL at HO1 HO2 ⊢
  generalize srcF q R p n ks = f at HF HO1 HO2 HIN
  generalize adT q R = a at HS HF HO1 HO2 HIN hal
  generalize q.l2 + 1 = k2 at HS
  go_enter Tryz.func172, Tryz.ntmps172
  go_wp2_with fail
  refine HS.out.mono ?_
  rintro e w1 ⟨rfl, hb⟩
  have HB1 := Lib.hid hb
  clear hb HS
  go_wp2
  go_loopw [4, 8] (fun v i wr => ∃ k : Nat, k ≤ N ∧ i = .int .i64 ((a : Int) + (k : Int)) ∧ (∀ j, j < k → f j = 0) ∧ wr.ownsRow w.heap.size 5 1 v k (bsU (subL bs a k)) ∧ Below w.heap.size w wr) (fun _ i _ => a + N - (intOf i).toNat)
  case atStart => exact ⟨0, Nat.zero_le _, by go_num, fun j hj => by omega, ⟨rfl, .inl ⟨rfl, rfl⟩⟩, HB1.out⟩
  case round =>
    obtain ⟨k, hk, rfl, hz, ho, hb2⟩ := hrel
    have HO := Lib.hid ho
    have HB := Lib.hid hb2
    have HZ := Lib.hid hz
    clear ho hb2 hz
    have hN2 : (N : Int) ≤ 256 := by omega
    by_cases hlt : k < N
    · have hlt' : (a : Int) + (k : Int) < (a : Int) + (N : Int) := by omega
      have HF1 := Lib.hid (fun W (hb : Below wr.heap.size wr W) => HF.out k hlt W (bel0 HB.out hb))
      obtain ⟨C, hC⟩ : ∃ C, C = f k := ⟨_, rfl⟩
      rw [← hC] at HF1
      have HC := Lib.hid hC
      have HLK := Lib.hid (show (subL bs a k).length = k by
        by_cases hk0 : k = 0
        · subst hk0; unfold subL; simp
        · have := HIN.out (k - 1) (HZ.out (k - 1) (by omega))
          exact sub_len (by omega))
      have H0 : Hid (ES E A q R p c wr wr.drew) := Lib.hid (ES.of (HX.out wr HB.out))
      clear hC hk
      go_wp2_with fail
      refine wp_region_held_drew (S := ES E A q R p c wr) (by kernel_rfl) H0.out (fun k0 => ?_)
      show wpAnyH _ _ _ _ _ 16 #[false, false, false, false, false, false, false, false, false, false, false, false, false, false, false, false] _ _
      refine wpAnyH_take (i := 0) (oi := { dst := some 25, op := Go.Op.move (Go.Operand.tmp 0), type := 90, pos := "editing.go:38", after := #[], guard := none }) (v := .pointer (some ⟨E, 0, none⟩)) rfl (by kernel_rfl) (by kernel_rfl) (by kernel_rfl) (fun _ _ _ h => h) (Or.inl ⟨by rfl, fun W hSw => by (try dsimp only at hSw); go_simp⟩) k0 ?_
      try simp only [Act.put, List.setIfInBounds_toArray, List.set_cons_zero, List.set_cons_succ]
      refine wpAnyH_take (i := 1) (oi := { dst := some 26, op := Go.Op.nilCheck (Go.Operand.tmp 25), type := 0, pos := "editing.go:38", after := #[{ on := 0, ground := Go.Ground.data }], guard := none }) (v := .pointer (some ⟨E, 0, none⟩)) rfl (by kernel_rfl) (by kernel_rfl) (by kernel_rfl) (fun _ _ _ h => h) (Or.inl ⟨by rfl, fun W hSw => by (try dsimp only at hSw); go_simp⟩) k0 ?_
      try simp only [Act.put, List.setIfInBounds_toArray, List.set_cons_zero, List.set_cons_succ]
      refine wpAnyH_take (i := 2) (oi := { dst := some 27, op := Go.Op.fieldAddr 76 (Go.Operand.tmp 26) 3, type := 0, pos := "editing.go:38", after := #[{ on := 1, ground := Go.Ground.data }], guard := none }) (v := .pointer (some ⟨E, 38, none⟩)) rfl (by kernel_rfl) (by kernel_rfl) (by kernel_rfl) (fun _ _ _ h => h) (Or.inl ⟨by rfl, fun W hSw => by (try dsimp only at hSw); go_simp⟩) k0 ?_
      try simp only [Act.put, List.setIfInBounds_toArray, List.set_cons_zero, List.set_cons_succ]
      refine wpAnyH_take (i := 3) (oi := { dst := some 28, op := Go.Op.load 37 (Go.Operand.tmp 27), type := 37, pos := "editing.go:38", after := #[{ on := 2, ground := Go.Ground.data }], guard := none }) (v := .pointer (some ⟨A, 0, none⟩)) rfl (by kernel_rfl) (by kernel_rfl) (by kernel_rfl) (fun _ _ _ h => h) (Or.inl ⟨by rfl, fun W hSw => by have cq := hSw.2.sp; clear hSw; go_simp⟩) k0 ?_
      try simp only [Act.put, List.setIfInBounds_toArray, List.set_cons_zero, List.set_cons_succ]
      refine wpAnyH_take (i := 4) (oi := { dst := some 29, op := Go.Op.move (Go.Operand.tmp 8), type := 3, pos := "editing.go:38", after := #[], guard := none }) (v := .int .i64 ((a : Int) + (k : Int))) rfl (by kernel_rfl) (by kernel_rfl) (by kernel_rfl) (fun _ _ _ h => h) (Or.inl ⟨by rfl, fun W hSw => by (try dsimp only at hSw); go_simp⟩) k0 ?_
      try simp only [Act.put, List.setIfInBounds_toArray, List.set_cons_zero, List.set_cons_succ]
      refine wpAnyH_take (i := 5) (oi := { dst := some 30, op := Go.Op.move (Go.Operand.tmp 0), type := 90, pos := "editing.go:38", after := #[], guard := none }) (v := .pointer (some ⟨E, 0, none⟩)) rfl (by kernel_rfl) (by kernel_rfl) (by kernel_rfl) (fun _ _ _ h => h) (Or.inl ⟨by rfl, fun W hSw => by (try dsimp only at hSw); go_simp⟩) k0 ?_
      try simp only [Act.put, List.setIfInBounds_toArray, List.set_cons_zero, List.set_cons_succ]
      refine wpAnyH_take (i := 6) (oi := { dst := some 31, op := Go.Op.nilCheck (Go.Operand.tmp 30), type := 0, pos := "editing.go:38", after := #[{ on := 5, ground := Go.Ground.data }], guard := none }) (v := .pointer (some ⟨E, 0, none⟩)) rfl (by kernel_rfl) (by kernel_rfl) (by kernel_rfl) (fun _ _ _ h => h) (Or.inl ⟨by rfl, fun W hSw => by (try dsimp only at hSw); go_simp⟩) k0 ?_
      try simp only [Act.put, List.setIfInBounds_toArray, List.set_cons_zero, List.set_cons_succ]
      refine wpAnyH_take (i := 7) (oi := { dst := some 32, op := Go.Op.fieldAddr 76 (Go.Operand.tmp 31) 2, type := 0, pos := "editing.go:38", after := #[{ on := 6, ground := Go.Ground.data }], guard := none }) (v := .pointer (some ⟨E, 28, none⟩)) rfl (by kernel_rfl) (by kernel_rfl) (by kernel_rfl) (fun _ _ _ h => h) (Or.inl ⟨by rfl, fun W hSw => by (try dsimp only at hSw); go_simp⟩) k0 ?_
      try simp only [Act.put, List.setIfInBounds_toArray, List.set_cons_zero, List.set_cons_succ]
      refine wpAnyH_take (i := 8) (oi := { dst := some 33, op := Go.Op.fieldAddr 30 (Go.Operand.tmp 32) 1, type := 0, pos := "editing.go:38", after := #[{ on := 7, ground := Go.Ground.data }], guard := none }) (v := .pointer (some ⟨E, 29, none⟩)) rfl (by kernel_rfl) (by kernel_rfl) (by kernel_rfl) (fun _ _ _ h => h) (Or.inl ⟨by rfl, fun W hSw => by (try dsimp only at hSw); go_simp⟩) k0 ?_
      try simp only [Act.put, List.setIfInBounds_toArray, List.set_cons_zero, List.set_cons_succ]
      refine wpAnyH_take (i := 9) (oi := { dst := some 34, op := Go.Op.load 3 (Go.Operand.tmp 33), type := 3, pos := "editing.go:38", after := #[{ on := 8, ground := Go.Ground.data }], guard := none }) (v := .int .i64 p.k) rfl (by kernel_rfl) (by kernel_rfl) (by kernel_rfl) (fun _ _ _ h => h) (Or.inl ⟨by rfl, fun W hSw => by have cq := hSw.2.pk; clear hSw; go_simp⟩) k0 ?_
      try simp only [Act.put, List.setIfInBounds_toArray, List.set_cons_zero, List.set_cons_succ]
      refine wpAnyH_ready (rs := [10]) (by kernel_rfl) (by simp) ?_
      refine AllReadyH.cons (o := { dst := some 35, op := Go.Op.call { callee := Go.Callee.value (Go.Operand.func 150), args := #[Go.Operand.tmp 28, Go.Operand.tmp 29, Go.Operand.const (Go.Value.int Go.IntKind.i64 1), Go.Operand.tmp 34], argTypes := #[37, 3, 3, 3] }, type := 118, pos := "editing.go:38", after := #[{ on := 3, ground := Go.Ground.data }, { on := 4, ground := Go.Ground.data }, { on := 9, ground := Go.Ground.data }], guard := none }) rfl (fun K hK => ?_) AllReadyH.nil
      go_simp
      go_at_call 150
      refine (HF1.out _ k0.1).mono ?_
      rintro e x1 ⟨sv, rfl, hh, hb⟩
      have k2 := k0.next hb
      have HH := Lib.hid hh
      clear hb hh
      go_wp2_with fail
      refine hK.out _ _ k2 (fun k1 => ?_)
      clear k2
      clear hK K
      try simp only [List.setIfInBounds_toArray, List.set_cons_zero, List.set_cons_succ]
      refine wpAnyH_take (i := 11) (oi := { dst := some 24, op := Go.Op.move (Go.Operand.tmp 35), type := 118, pos := "editing.go:38", after := #[{ on := 10, ground := Go.Ground.data }], guard := none }) (v := .tuple #[sv, .int .i64 C]) rfl (by kernel_rfl) (by kernel_rfl) (by kernel_rfl) (fun _ _ _ h => h) (Or.inl ⟨by rfl, fun W hSw => by (try dsimp only at hSw); go_simp⟩) k1 ?_
      try simp only [Act.put, List.setIfInBounds_toArray, List.set_cons_zero, List.set_cons_succ]
      refine wpAnyH_take (i := 12) (oi := { dst := some 36, op := Go.Op.extract (Go.Operand.tmp 24) 0, type := 31, pos := "editing.go:38", after := #[{ on := 11, ground := Go.Ground.data }], guard := none }) (v := sv) rfl (by kernel_rfl) (by kernel_rfl) (by kernel_rfl) (fun _ _ _ h => h) (Or.inl ⟨by rfl, fun W hSw => by (try dsimp only at hSw); go_simp⟩) k1 ?_
      try simp only [Act.put, List.setIfInBounds_toArray, List.set_cons_zero, List.set_cons_succ]
      refine wpAnyH_take (i := 13) (oi := { dst := some 37, op := Go.Op.extract (Go.Operand.tmp 24) 1, type := 3, pos := "editing.go:38", after := #[{ on := 11, ground := Go.Ground.data }, { on := 14, ground := Go.Ground.gcOnly Go.Departure.lateStores }], guard := none }) (v := .int .i64 C) rfl (by kernel_rfl) (by kernel_rfl) (by kernel_rfl) (fun _ _ _ h => h) (Or.inl ⟨by rfl, fun W hSw => by (try dsimp only at hSw); go_simp⟩) k1 ?_
      try simp only [Act.put, List.setIfInBounds_toArray, List.set_cons_zero, List.set_cons_succ]
      refine wpAnyH_take (i := 14) (oi := { dst := some 9, op := Go.Op.assign (Go.Operand.tmp 36), type := 31, pos := "editing.go:38", after := #[{ on := 12, ground := Go.Ground.data }, { on := 10, ground := Go.Ground.chain }, { on := 0, ground := Go.Ground.phase }, { on := 1, ground := Go.Ground.phase }, { on := 2, ground := Go.Ground.phase }, { on := 3, ground := Go.Ground.phase }, { on := 4, ground := Go.Ground.phase }, { on := 5, ground := Go.Ground.phase }, { on := 6, ground := Go.Ground.phase }, { on := 7, ground := Go.Ground.phase }, { on := 8, ground := Go.Ground.phase }, { on := 9, ground := Go.Ground.phase }, { on := 10, ground := Go.Ground.phase }, { on := 11, ground := Go.Ground.phase }, { on := 12, ground := Go.Ground.phase }, { on := 13, ground := Go.Ground.textOnly Go.Departure.lateStores }], guard := none }) (v := sv) rfl (by kernel_rfl) (by kernel_rfl) (by kernel_rfl) (fun _ _ _ h => h) (Or.inl ⟨by rfl, fun W hSw => by (try dsimp only at hSw); go_simp⟩) k1 ?_
      try simp only [Act.put, List.setIfInBounds_toArray, List.set_cons_zero, List.set_cons_succ]
      refine wpAnyH_take (i := 15) (oi := { dst := some 10, op := Go.Op.assign (Go.Operand.tmp 37), type := 3, pos := "editing.go:38", after := #[{ on := 13, ground := Go.Ground.data }, { on := 14, ground := Go.Ground.chain }, { on := 0, ground := Go.Ground.phase }, { on := 1, ground := Go.Ground.phase }, { on := 2, ground := Go.Ground.phase }, { on := 3, ground := Go.Ground.phase }, { on := 4, ground := Go.Ground.phase }, { on := 5, ground := Go.Ground.phase }, { on := 6, ground := Go.Ground.phase }, { on := 7, ground := Go.Ground.phase }, { on := 8, ground := Go.Ground.phase }, { on := 9, ground := Go.Ground.phase }, { on := 10, ground := Go.Ground.phase }, { on := 11, ground := Go.Ground.phase }, { on := 12, ground := Go.Ground.phase }, { on := 13, ground := Go.Ground.phase }, { on := 14, ground := Go.Ground.phase }], guard := none }) (v := .int .i64 C) rfl (by kernel_rfl) (by kernel_rfl) (by kernel_rfl) (fun _ _ _ h => h) (Or.inl ⟨by rfl, fun W hSw => by (try dsimp only at hSw); go_simp⟩) k1 ?_
      try simp only [Act.put, List.setIfInBounds_toArray, List.set_cons_zero, List.set_cons_succ]
      refine wpAnyH_done (by kernel_rfl) ?_ _
      refine id ?_
      have HB5 := Lib.hid (bel0 HB.out k1.1)
      have HO5 := Lib.hid (own_kept HO.out k1.1)
      clear k0 k1 H0 HF1 HF HX HB HO HB1
      by_cases h0 : C = 0
      · have hf0 : f k = 0 := by rw [← HC.out]; exact h0
        have h1 := HIN.out k hf0
        have hl1 : (subL bs (a + k) 1).length = 1 := sub_len (by omega)
        have hv := HH.out h0
        unfold Hold at hv
        rw [hl1] at hv
        obtain ⟨B, cp, rfl, hB, hcp, hrow⟩ := own_some hv (by omega) (by unfold bsU; rw [List.length_map]; exact hl1)
        have hcell : ∀ j u, (bsU (subL bs (a + k) 1))[j]? = some u → x1.cell? ((⟨B, 0, none⟩ : Addr).add j) = some u := fun j u hu => by
          have hj : j < (bsU (subL bs (a + k) 1)).length := (List.getElem?_eq_some_iff.1 hu).1
          rw [show ((⟨B, 0, none⟩ : Addr).add j) = ⟨B, j, none⟩ from by (simp [Addr.add]; omega), hrow.cell j hj]
          exact hu
        have hbl : (bsU (subL bs (a + k) 1)).length = 1 * 1 := by unfold bsU; rw [List.length_map]; exact hl1
        have hone : ∀ u ∈ bsU (subL bs (a + k) 1), u.oneCell' = true := fun u hu => by
          unfold bsU at hu
          obtain ⟨z, _, rfl⟩ := List.mem_map.1 hu
          rfl
        have HAL := Lib.hid (And.intro hcell (And.intro hbl hone))
        have HSUB := Lib.hid (sub_one h1)
        have HF0 := Lib.hid hf0
        subst h0
        clear hv hB hcp hrow hcell hbl hone HH hf0 h1 hl1 HO1
        have hk256 : k ≤ 256 := by omega
        go_wp2_with (at_builtin; refine wpList_append_own _ rfl _ _ 31 rfl w.heap.size 5 i0 (.int .u8 0) 1 1 Tryz.underlying31 hi hz0 hz1 hz2 rfl (by decide) _ k _ rfl HO5.out ⟨B, 0, none⟩ 1 cp (bsU (subL bs (a + k) 1)) rfl HAL.out.2.1 HAL.out.1 HAL.out.2.2 (by unfold maxLen; omega) (by omega) HB5.out.size ?_)
        intro v' w3 hown' hgrow _
        have hb1 := HB5.out.grown hgrow (by have := HB5.out.size; omega) (fun r hr => (HO5.out.lt r hr).1)
        have HO6 : Hid (w3.ownsRow w.heap.size 5 1 v' (k + 1) (bsU (subL bs a (k + 1)))) := Lib.hid (by
          rw [HSUB.out]
          have e : bsU (subL bs a k ++ subL bs (a + k) 1) = bsU (subL bs a k) ++ bsU (subL bs (a + k) 1) := by unfold bsU; rw [List.map_append]
          rw [e]
          exact hown')
        have HB6 := Lib.hid hb1
        have HZ6 : Hid (∀ j, j < k + 1 → f j = 0) := Lib.hid (fun j hj => by
          by_cases e : j = k
          · rw [e]; exact HF0.out
          · exact HZ.out j (by omega))
        clear hgrow hown' hb1 HO5 HB5 HAL HSUB HF0
        go_wp2
        go_roundw
        case rel => exact ⟨k + 1, hlt, by go_num, HZ6.out, HO6.out, HB6.out⟩
        case measure => simp [intOf]; omega
      · have hCb : (C == 0) = false := by simpa using h0
        have hCn : (C != 0) = true := by simpa using h0
        have HE := Lib.hid (HO1.out k hlt HZ.out (by rw [← HC.out]; exact h0))
        clear HH HO1 HO2
        go_wp2
        refine bodyPost_ret (results_tt rfl rfl rfl) rfl ?_
        refine ⟨u4, ?_, ?_, HB5.out⟩
        · rw [HE.out.1]
          first | rfl | (rw [HC.out]; rfl) | (rw [← HC.out]; rfl)
        rw [HE.out.2]
        refine Hold.svb (base := w.heap.size) ?_
        unfold Hold
        rw [HLK.out]
        exact HO5.out
    · obtain rfl : k = N := by omega
      have hlt' : ¬ ((a : Int) + (k : Int) < (a : Int) + (k : Int)) := by omega
      have HLK := Lib.hid (show (subL bs a k).length = k by
        by_cases hk0 : k = 0
        · subst hk0; unfold subL; simp
        · have := HIN.out (k - 1) (HZ.out (k - 1) (by omega))
          exact sub_len (by omega))
      have HE := Lib.hid (HO2.out HZ.out)
      go_wp2
      refine bodyPost_ret (results_tt rfl rfl rfl) rfl ?_
      refine ⟨u4, ?_, ?_, HB.out⟩
      · rw [HE.out.1]
        rfl
      rw [HE.out.2]
      refine Hold.svb (base := w.heap.size) ?_
      unfold Hold
      rw [HLK.out]
      exact HO.out

end M
end Go.Proofs.YtbcncohjjnmdcaaGreatDoor
namespace Go.Proofs.YtbcncohjjnmdcaaGreatDoor
namespace E
end E
open Go.RowKit Go.Shelf E
set_option linter.unusedVariables false
namespace M

/-- What Edit answers; the code that counts. -/
def edRR (q : Qn) (R : Nat → Int) (p : Psw) (n : Nat) (bs ks : List UInt8) : List UInt8 × Nat × Int × Nat := edRes (opX q R bs) (srcL q R p n bs ks (opX q R bs).length)
def edC (q : Qn) (R : Nat → Int) (p : Psw) (n : Nat) (bs ks : List UInt8) : Int := if (edRR q R p n bs ks).2.2.2 = 5 then srcC q R p n ks (opX q R bs).length else ((edRR q R p n bs ks).2.2.2 : Int)
def edtO (q : Qn) (R : Nat → Int) (p : Psw) (n : Nat) (bs ks : List UInt8) : Out := thenO (cX q R p n ks) (thenO (edC q R p n bs ks) (putO p n bs ks (adF q R) R { p with cc := ((edRR q R p n bs ks).2.1 : Int) } 0 (edRR q R p n bs ks).1))
def EdtPost (w : World) (E A g h n m : Nat) (q : Qn) (bs ks : List UInt8) (o : Out) (mk : Int) (e : Ending) (w' : World) : Prop :=
  match o with
  | .stop c => e = Stop c ∧ Sto w' A g h n m bs ks ∧ Kp w w' [E, g]
  | .go R p c bs' => e = .returned (.int .i64 mk) ∧ Ex w' E A q R p c ∧ Sto w' A g h n m bs' ks ∧ Kp w w' [E, g]
set_option maxRecDepth 100000 in
set_option maxHeartbeats 2000000 in
theorem editText_post (E A : Nat) (q : Qn) (R : Nat → Int) (p : Psw) (g h n m : Nat) (bs ks : List UInt8) (w : World) (hx : Ex w E A q R p 0) (hs : Sto w A g h n m bs ks) (hR : RegOk R) (hq : QOk q) : Calls Tryz.prog 116 #[.pointer (some ⟨E, 0, none⟩)] w (EdtPost w E A g h n m q bs ks (edtO q R p n bs ks) (edRR q R p n bs ks).2.2.1) := by
  obtain ⟨t1, t2, t3⟩ := hx.ne_sto hs
  have hN : (opX q R bs).length ≤ 256 := by
    have := hq.l1
    unfold opX subL
    rw [List.length_take]
    omega
  have HF := Lib.hid (first_any E A q R p 0 w hx hR hq)
  have H1 := Lib.hid (fX hx hs)
  have HSR := Lib.hid (fun W (hb : Below w.heap.size w W) => source_post E A q R p g h n m bs ks 0 (opX q R bs).length hN (by exact hs.2.2.2.1) W (hx.below hb) (hs.below hb) hR hq)
  have HED : Hid (∀ W pv sv, SvB W pv (opX q R bs) → SvB W sv (srcL q R p n bs ks (opX q R bs).length) → Calls Tryz.prog 173 #[pv, sv] W (EPost W (edRR q R p n bs ks))) := Lib.hid (fun W pv sv h1 h2 => edit_any pv sv _ _ W h1 h2)
  have HP : Hid (∀ W tv, Below w.heap.size w W → SvB W tv (edRR q R p n bs ks).1 → Calls Tryz.prog 100 #[.pointer (some ⟨E, 0, none⟩), tv] W (PutPost2 W E A q R p g h n m bs ks 0 (adF q R) (edRR q R p n bs ks).1 (stC p n ks (adF q R) (edRR q R p n bs ks).1.length))) := Lib.hid (fun W tv hb hv => replace_post E A q R p g h n m bs ks 0 tv _ _ W (hx.below hb) (hs.below hb) hv hR hq rfl)
  have HY := Lib.hid endOn_yes
  have HN := Lib.hid endOn_no
  have HX := Lib.hid (And.intro hx.lt hs.2.1.lt)
  obtain ⟨o, ho⟩ : ∃ o, o = edtO q R p n bs ks := ⟨_, rfl⟩
  obtain ⟨mk0, hmk⟩ : ∃ z, z = (edRR q R p n bs ks).2.2.1 := ⟨_, rfl⟩
  rw [← ho, ← hmk]
  unfold edtO at ho
  have HS1 : Hid (∀ W, Below w.heap.size w W → cX q R p n ks ≠ 0 → EdtPost w E A g h n m q bs ks o mk0 (Stop (cX q R p n ks)) W) := Lib.hid (fun W hb hC => by
    rw [ho, thenO_stop _ hC]
    exact ⟨rfl, hs.below hb, Kp.bel hb⟩)
  have HS2 : Hid (cX q R p n ks = 0 → ∀ W, Below w.heap.size w W → edC q R p n bs ks ≠ 0 → EdtPost w E A g h n m q bs ks o mk0 (Stop (edC q R p n bs ks)) W) := Lib.hid (fun h1 W hb hC => by
    rw [ho, thenO_go _ h1, thenO_stop _ hC]
    exact ⟨rfl, hs.below hb, Kp.bel hb⟩)
  have HS3 : Hid (cX q R p n ks = 0 → edC q R p n bs ks = 0 → stC p n ks (adF q R) (edRR q R p n bs ks).1.length ≠ 0 → ∀ w6, Sto w6 A g h n m bs ks → Kp w w6 [E, g] → EdtPost w E A g h n m q bs ks o mk0 (Stop (stC p n ks (adF q R) (edRR q R p n bs ks).1.length)) w6) := Lib.hid (fun h1 h2 hC w6 hs6 hk6 => by
    rw [ho, thenO_go _ h1, thenO_go _ h2]
    unfold putO
    rw [thenO_stop _ hC]
    exact ⟨rfl, hs6, hk6⟩)
  have HFIN : Hid (cX q R p n ks = 0 → edC q R p n bs ks = 0 → stC p n ks (adF q R) (edRR q R p n bs ks).1.length = 0 → ∀ w6, Ex w6 E A q R p 0 → Sto w6 A g h n m (putL bs (adF q R) (edRR q R p n bs ks).1) ks → Kp w w6 [E, g] → EdtPost w E A g h n m q bs ks o mk0 (.returned (.int .i64 (edRR q R p n bs ks).2.2.1)) (w6.setCell ⟨E, 35, none⟩ (.int .i64 ((edRR q R p n bs ks).2.1 : Int)))) := Lib.hid (fun h1 h2 hC w6 hx6 hs6 hk6 => by
    rw [ho, thenO_go _ h1, thenO_go _ h2]
    unfold putO
    rw [thenO_go _ hC]
    exact ⟨by rw [hmk], hx6.setCc _, Sto.far hs6 t1 t2 t3 _, hk6.trans (kp_set _ _ _ _ _ (by simp))⟩)
  have HEC5 : Hid ((edRR q R p n bs ks).2.2.2 = 5 → edC q R p n bs ks = srcC q R p n ks (opX q R bs).length) := Lib.hid (fun h => by unfold edC; rw [if_pos h])
  have HECn : Hid (¬ (edRR q R p n bs ks).2.2.2 = 5 → edC q R p n bs ks = ((edRR q R p n bs ks).2.2.2 : Int)) := Lib.hid (fun h => by unfold edC; rw [if_neg h])
  clear ho hmk hx hs hR hq t1 t2 t3 hN
  unfold EPost at HED
  generalize srcL q R p n bs ks (opX q R bs).length = src at HSR HED
  generalize srcC q R p n ks (opX q R bs).length = M at HSR HEC5
  generalize edC q R p n bs ks = EC at HS2 HS3 HFIN HEC5 HECn
  generalize (edRR q R p n bs ks).2.2.2 = cd at HED HEC5 HECn
  generalize (edRR q R p n bs ks).2.2.1 = mk at HED HFIN
  generalize (edRR q R p n bs ks).2.1 = cc at HED HFIN
  generalize (edRR q R p n bs ks).1 = l at HED HP HS3 HFIN
  generalize opX q R bs = x at H1 HSR HED
  generalize cX q R p n ks = C1 at H1 HS1 HS2 HS3 HFIN
  generalize stC p n ks (adF q R) l.length = C3 at HP HS3 HFIN
  generalize adF q R = a1 at HF H1 HP HFIN
  generalize q.l1 + 1 = k1 at HF H1
  go_enter Tryz.func116, Tryz.ntmps116
  go_wp2_with fail
  refine HF.out.mono ?_
  rintro e w1 ⟨rfl, hb⟩
  have HB1 := Lib.hid hb
  clear hb HF
  go_wp2_with fail
  refine (H1.out _ HB1.out).mono ?_
  rintro e w2 ⟨hb, hE⟩
  have HB2 := Lib.hid (bel0 HB1.out hb)
  clear hb H1 HB1
  rcases hE with ⟨h1, px, rfl, hv⟩ | ⟨h1, rfl⟩
  rotate_left
  · have HZ := Lib.hid (HS1.out w2 HB2.out h1)
    clear HS1 HS2 HS3 HFIN HP HY HN HX HSR HED HEC5 HECn
    unfold Stop at HZ ⊢
    go_wp2
    exact ⟨rfl, HZ.out⟩
  have HS2 := Lib.hid (HS2.out h1)
  have HS3 := Lib.hid (HS3.out h1)
  have HFIN := Lib.hid (HFIN.out h1)
  have HPV := Lib.hid hv
  obtain ⟨pa, pc, rfl, hv2⟩ := hv
  clear HS1 h1 hv2
  go_wp2_with fail
  refine (HSR.out _ HB2.out).mono ?_
  rintro e w3 ⟨sv, rfl, hv, hb⟩
  have HB3 := Lib.hid (bel0 HB2.out hb)
  have HSV := Lib.hid hv
  have HPV3 := Lib.hid (HPV.out.below hb)
  clear hb hv HSR HB2 HPV
  go_wp2_with fail
  refine (HED.out _ _ _ HPV3.out HSV.out).mono ?_
  rintro e w4 ⟨tv, rfl, hh, hb⟩
  have HB4 := Lib.hid (bel0 HB3.out hb)
  obtain ⟨pv, cv, rfl, _⟩ := hh.full
  have HV := Lib.hid hh.svb
  clear hb hh HED HB3 HSV HPV3
  by_cases h5 : cd = 5
  · have b5 : ((cd : Int) == 5) = true := by rw [h5]; rfl
    have HEC := Lib.hid (HEC5.out h5)
    clear HEC5 HECn h5
    go_wp2_with fail
    by_cases h0 : M = 0
    rotate_left
    · have HZ := Lib.hid (HS2.out _ (bel0 HB4.out (below_new w4 (.cells #[.slice pv l.length cv, .int .i64 (cc : Int), .int .i64 mk] 192))) (by rw [HEC.out]; exact h0))
      rw [HEC.out] at HZ
      refine (HN.out _ _ h0).mono ?_
      rintro e w5 ⟨rfl, rfl⟩
      clear HS2 HS3 HFIN HP HY HN HV HX
      unfold Stop at HZ ⊢
      go_wp2
      exact ⟨rfl, HZ.out⟩
    rw [h0]
    refine (HY.out _).mono ?_
    rintro e w5 ⟨rfl, rfl⟩
    go_wp2_with fail
    have HEC0 := Lib.hid (HEC.out.trans h0)
    refine (HP.out _ (.slice pv l.length cv) (bel0 HB4.out (below_new _ _)) (HV.out.below (below_new _ _))).mono ?_
    rintro e w6 ⟨hE, hx6, hs6, hk6⟩
    have hGn := Bx.new w4 192 #[.slice pv l.length cv, .int .i64 (cc : Int), .int .i64 mk]
    have hGk := hGn.kp hk6 (by have := HX.out.2; have := HB4.out.size; simp; omega)
    have hk7 := Lib.hid ((Kp.bel (bel0 HB4.out (below_new w4 (.cells #[.slice pv l.length cv, .int .i64 (cc : Int), .int .i64 mk] 192)))).trans (Kp.more2 (E := E) hk6))
    rcases hE with ⟨hC, rfl⟩ | ⟨hC, rfl⟩
    rotate_left
    · rw [if_neg hC] at hs6
      have HZ := Lib.hid (HS3.out HEC0.out hC w6 hs6 hk7.out)
      clear HS2 HS3 HFIN HP HY HN HV HX hGn hGk hx6 hs6 hk6
      unfold Stop at HZ ⊢
      go_wp2
      exact ⟨rfl, HZ.out⟩
    rw [if_pos hC] at hs6
    have HZ := Lib.hid (HFIN.out HEC0.out hC w6 hx6 hs6 hk7.out)
    have z1 := hx6.pcc
    have z2 := hx6.fz 35
    have g1 : w6.cell? ⟨w4.heap.size, 1, none⟩ = some (.int .i64 (cc : Int)) := hGk.cell 1
    have g2 : w6.cell? ⟨w4.heap.size, 2, none⟩ = some (.int .i64 mk) := hGk.cell 2
    have hne : w4.heap.size ≠ E := by have := HX.out.1; have := HB4.out.size; omega
    have hne2 : E ≠ w4.heap.size := fun e => hne e.symm
    clear HS2 HS3 HFIN HP HY HN HV HX hGn hGk hx6 hs6 hk6 hk7 HB4 HEC HEC0 hC h0
    generalize w4.heap.size = G at g1 g2 hne hne2 ⊢
    go_wp2
    go_ret
    exact HZ.out
  · have b5 : ((cd : Int) == 5) = false := by simp; omega
    have HEC := Lib.hid (HECn.out h5)
    clear HEC5 HECn h5
    go_wp2_with fail
    by_cases h0 : (cd : Int) = 0
    rotate_left
    · have HZ := Lib.hid (HS2.out _ (bel0 HB4.out (below_new w4 (.cells #[.slice pv l.length cv, .int .i64 (cc : Int), .int .i64 mk] 192))) (by rw [HEC.out]; exact h0))
      rw [HEC.out] at HZ
      refine (HN.out _ _ h0).mono ?_
      rintro e w5 ⟨rfl, rfl⟩
      clear HS2 HS3 HFIN HP HY HN HV HX
      unfold Stop at HZ ⊢
      go_wp2
      exact ⟨rfl, HZ.out⟩
    rw [h0]
    refine (HY.out _).mono ?_
    rintro e w5 ⟨rfl, rfl⟩
    go_wp2_with fail
    have HEC0 := Lib.hid (HEC.out.trans h0)
    refine (HP.out _ (.slice pv l.length cv) (bel0 HB4.out (below_new _ _)) (HV.out.below (below_new _ _))).mono ?_
    rintro e w6 ⟨hE, hx6, hs6, hk6⟩
    have hGn := Bx.new w4 192 #[.slice pv l.length cv, .int .i64 (cc : Int), .int .i64 mk]
    have hGk := hGn.kp hk6 (by have := HX.out.2; have := HB4.out.size; simp; omega)
    have hk7 := Lib.hid ((Kp.bel (bel0 HB4.out (below_new w4 (.cells #[.slice pv l.length cv, .int .i64 (cc : Int), .int .i64 mk] 192)))).trans (Kp.more2 (E := E) hk6))
    rcases hE with ⟨hC, rfl⟩ | ⟨hC, rfl⟩
    rotate_left
    · rw [if_neg hC] at hs6
      have HZ := Lib.hid (HS3.out HEC0.out hC w6 hs6 hk7.out)
      clear HS2 HS3 HFIN HP HY HN HV HX hGn hGk hx6 hs6 hk6
      unfold Stop at HZ ⊢
      go_wp2
      exact ⟨rfl, HZ.out⟩
    rw [if_pos hC] at hs6
    have HZ := Lib.hid (HFIN.out HEC0.out hC w6 hx6 hs6 hk7.out)
    have z1 := hx6.pcc
    have z2 := hx6.fz 35
    have g1 : w6.cell? ⟨w4.heap.size, 1, none⟩ = some (.int .i64 (cc : Int)) := hGk.cell 1
    have g2 : w6.cell? ⟨w4.heap.size, 2, none⟩ = some (.int .i64 mk) := hGk.cell 2
    have hne : w4.heap.size ≠ E := by have := HX.out.1; have := HB4.out.size; omega
    have hne2 : E ≠ w4.heap.size := fun e => hne e.symm
    clear HS2 HS3 HFIN HP HY HN HV HX hGn hGk hx6 hs6 hk6 hk7 HB4 HEC HEC0 hC h0
    generalize w4.heap.size = G at g1 g2 hne hne2 ⊢
    go_wp2
    go_ret
    exact HZ.out
set_option maxRecDepth 100000 in
theorem edit_act (E A : Nat) (q : Qn) (R : Nat → Int) (p : Psw) (g h n m : Nat) (bs ks : List UInt8) (w : World) (hx : Ex w E A q R p 0) (hs : Sto w A g h n m bs ks) (hR : RegOk R) (hq : QOk q) : Calls Tryz.prog 56 #[.pointer (some ⟨E, 0, none⟩)] w (ActPost w E A g h n m q bs ks (edtO q R p n bs ks)) := by
  have HT := Lib.hid (editText_post E A q R p g h n m bs ks w hx hs hR hq)
  clear hx hs hR hq
  generalize edtO q R p n bs ks = o at HT ⊢
  generalize (edRR q R p n bs ks).2.2.1 = mk at HT
  go_enter Tryz.func56, Tryz.ntmps56
  go_wp2_with fail
  refine HT.out.mono ?_
  clear HT
  cases o with
  | stop C =>
    rintro e w1 ⟨rfl, h2⟩
    have HZ : Hid (ActPost w E A g h n m q bs ks (.stop C) (Stop C) w1) := Lib.hid ⟨rfl, h2⟩
    unfold Stop at HZ ⊢
    go_wp2
    exact ⟨rfl, HZ.out⟩
  | go R' p' c' b =>
    rintro e w1 ⟨rfl, h2⟩
    have HZ : Hid (ActPost w E A g h n m q bs ks (.go R' p' c' b) (.returned (.tuple #[])) w1) := Lib.hid ⟨rfl, h2⟩
    go_wp2
    go_end0
    exact HZ.out
theorem nz_edt (q : Qn) (R : Nat → Int) (p : Psw) (n : Nat) (bs ks : List UInt8) : Nz (edtO q R p n bs ks) := nz_then (nz_then (nz_put _ _ _ _ _ _ _ _ _))
theorem runs_222 (q : Qn) (R : Nat → Int) (p : Psw) (n : Nat) (bs ks : List UInt8) (hR : RegOk R) (hq : QOk q) (hop : q.op = 222) : Runs q R p n bs ks (edtO q R p n bs ks) :=
  ⟨nz_edt _ _ _ _ _ _, 56, enters_of Tryz.func56 (by kernel_rfl) rfl, fun X => by rw [hop]; exact action_222 X, fun E A g h m X hgX hX hsX => edit_act E A q R p g h n m bs ks X hX hsX hR hq⟩

end M
end Go.Proofs.YtbcncohjjnmdcaaGreatDoor

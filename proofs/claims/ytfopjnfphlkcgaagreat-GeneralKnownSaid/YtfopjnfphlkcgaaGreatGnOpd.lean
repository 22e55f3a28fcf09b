/- The program: put, the byte at an address, the operand, the pair. -/
import Derived.Test.YtfopjnfphlkcgaaGreatRows
import Derived.Test.YtfopjnfphlkcgaaGreatGnFetch
import Derived.Test.YtfopjnfphlkcgaaGreatStD
namespace Go.Proofs.YtfopjnfphlkcgaaGreat
namespace E
end E
open Go.RowKit Go.Shelf E
set_option linter.unusedVariables false
namespace M

/-- What holds around the storing: the execution lies as it did, and nothing has turned but the storage's bytes. -/
def PS (E A : Nat) (q : Qn) (R : Nat → Int) (p : Psw) (c : Int) (g : Nat) (w W : World) : Prop := Kp w W [g] ∧ Ex W E A q R p c
theorem PS.next {E A : Nat} {q : Qn} {R : Nat → Int} {p : Psw} {c : Int} {g : Nat} {w W W' : World} (h : PS E A q R p c g w W) (hk : W.grownBy W' (some g)) (he : E ≠ g) : PS E A q R p c g w W' := ⟨h.1.trans (Kp.of hk (by simp)), h.2.grown hk (fun e => he (Option.some.inj e))⟩
theorem Ex.ne_sto {w : World} {E A g h n m : Nat} {q : Qn} {R : Nat → Int} {p : Psw} {c : Int} {bs ks : List UInt8} (hx : Ex w E A q R p c) (hs : Sto w A g h n m bs ks) : E ≠ A ∧ E ≠ g ∧ E ≠ h := by
  have h1 := Bx.row hx
  exact ⟨h1.ne hs.1.row (by decide), h1.ne hs.2.1 (by decide), h1.ne hs.2.2.1 (by decide)⟩
set_option maxRecDepth 100000 in
set_option maxHeartbeats 1000000 in
theorem put_raw (E A : Nat) (q : Qn) (R : Nat → Int) (p : Psw) (c : Int) (g h n m : Nat) (bs ks : List UInt8) (a : Nat) (v : Value) (b : List UInt8) (C : Int) (w : World) (hx : Ex w E A q R p c) (hs : Sto w A g h n m bs ks) (hv : SvB w v b) (ha : a < 33554432) (hc : codeV (stP p.k) n ks (a : Int) (b.length : Int) = C) : Calls Tryz.prog 152 #[.pointer (some ⟨E, 0, none⟩), .int .i64 (a : Int), v] w fun e w' => ((C = 0 ∧ e = .returned (.tuple #[])) ∨ (C ≠ 0 ∧ e = Stop C)) ∧ Ex w' E A q R p c ∧ Sto w' A g h n m (putB (stP p.k) n bs ks (a : Int) b) ks ∧ Kp w w' [g] := by
  obtain ⟨hne, hng, hnh⟩ := hx.ne_sto hs
  have HF : Hid (∀ W, (PS E A q R p c g w W ∧ Sto W A g h n m bs ks ∧ SvB W v b) → Calls Tryz.prog 26 #[.pointer (some ⟨A, 0, none⟩), .int .i64 (a : Int), v, .int .i64 p.k] W fun e W' => e = .returned (.int .i64 C) ∧ (PS E A q R p c g w W' ∧ Sto W' A g h n m (putB (stP p.k) n bs ks (a : Int) b) ks)) := Lib.hid (fun W hW => by
    have h1 := put_any A g h n m (a : Int) p.k v b bs ks W (by omega) hW.2.1 hW.2.2
    rw [hc] at h1
    refine h1.mono ?_
    rintro e W' ⟨rfl, hk, hst⟩
    exact ⟨rfl, hW.1.next hk hng, hst⟩)
  have H0 : Hid (PS E A q R p c g w w.drew ∧ Sto w.drew A g h n m bs ks ∧ SvB w.drew v b) := Lib.hid ⟨⟨kp_drew w _, hx.drew⟩, hs.below (bel_drew w), hv.below (bel_drew w)⟩
  have HR := Lib.hid (require_yes 0)
  have HN := Lib.hid (require_no C)
  clear hx hs hv hne hng hnh hc
  go_enter Tryz.func152, Tryz.ntmps152
  go_wp2_with fail
  refine wp_region_held_drew (S := fun W => PS E A q R p c g w W) (by kernel_rfl) H0.out.1 (fun k0 => ?_)
  show wpAnyH _ _ _ _ _ 13 #[false, false, false, false, false, false, false, false, false, false, false, false, false] _ _
  refine wpAnyH_take (i := 0) (oi := { dst := some 7, op := Go.Op.move (Go.Operand.tmp 0), type := 92, pos := "access.go:59", after := #[], guard := none }) (v := .pointer (some ⟨E, 0, none⟩)) rfl (by kernel_rfl) (by kernel_rfl) (by kernel_rfl) (fun _ _ _ h => h) (Or.inl ⟨by rfl, fun W hSw => by (try dsimp only at hSw); go_simp⟩) k0 ?_
  try simp only [Act.put, List.setIfInBounds_toArray, List.set_cons_zero, List.set_cons_succ]
  refine wpAnyH_take (i := 1) (oi := { dst := some 8, op := Go.Op.nilCheck (Go.Operand.tmp 7), type := 0, pos := "access.go:59", after := #[{ on := 0, ground := Go.Ground.data }], guard := none }) (v := .pointer (some ⟨E, 0, none⟩)) rfl (by kernel_rfl) (by kernel_rfl) (by kernel_rfl) (fun _ _ _ h => h) (Or.inl ⟨by rfl, fun W hSw => by (try dsimp only at hSw); go_simp⟩) k0 ?_
  try simp only [Act.put, List.setIfInBounds_toArray, List.set_cons_zero, List.set_cons_succ]
  refine wpAnyH_take (i := 2) (oi := { dst := some 9, op := Go.Op.fieldAddr 77 (Go.Operand.tmp 8) 3, type := 0, pos := "access.go:59", after := #[{ on := 1, ground := Go.Ground.data }], guard := none }) (v := .pointer (some ⟨E, 38, none⟩)) rfl (by kernel_rfl) (by kernel_rfl) (by kernel_rfl) (fun _ _ _ h => h) (Or.inl ⟨by rfl, fun W hSw => by (try dsimp only at hSw); go_simp⟩) k0 ?_
  try simp only [Act.put, List.setIfInBounds_toArray, List.set_cons_zero, List.set_cons_succ]
  refine wpAnyH_take (i := 3) (oi := { dst := some 10, op := Go.Op.load 37 (Go.Operand.tmp 9), type := 37, pos := "access.go:59", after := #[{ on := 2, ground := Go.Ground.data }], guard := none }) (v := .pointer (some ⟨A, 0, none⟩)) rfl (by kernel_rfl) (by kernel_rfl) (by kernel_rfl) (fun _ _ _ h => h) (Or.inl ⟨by rfl, fun W hSw => by have cq := hSw.2.sp; clear hSw; go_simp⟩) k0 ?_
  try simp only [Act.put, List.setIfInBounds_toArray, List.set_cons_zero, List.set_cons_succ]
  refine wpAnyH_take (i := 4) (oi := { dst := some 11, op := Go.Op.move (Go.Operand.tmp 1), type := 3, pos := "access.go:59", after := #[], guard := none }) (v := .int .i64 (a : Int)) rfl (by kernel_rfl) (by kernel_rfl) (by kernel_rfl) (fun _ _ _ h => h) (Or.inl ⟨by rfl, fun W hSw => by (try dsimp only at hSw); go_simp⟩) k0 ?_
  try simp only [Act.put, List.setIfInBounds_toArray, List.set_cons_zero, List.set_cons_succ]
  refine wpAnyH_take (i := 5) (oi := { dst := some 12, op := Go.Op.move (Go.Operand.tmp 2), type := 31, pos := "access.go:59", after := #[], guard := none }) (v := v) rfl (by kernel_rfl) (by kernel_rfl) (by kernel_rfl) (fun _ _ _ h => h) (Or.inl ⟨by rfl, fun W hSw => by (try dsimp only at hSw); go_simp⟩) k0 ?_
  try simp only [Act.put, List.setIfInBounds_toArray, List.set_cons_zero, List.set_cons_succ]
  refine wpAnyH_take (i := 6) (oi := { dst := some 13, op := Go.Op.move (Go.Operand.tmp 0), type := 92, pos := "access.go:59", after := #[], guard := none }) (v := .pointer (some ⟨E, 0, none⟩)) rfl (by kernel_rfl) (by kernel_rfl) (by kernel_rfl) (fun _ _ _ h => h) (Or.inl ⟨by rfl, fun W hSw => by (try dsimp only at hSw); go_simp⟩) k0 ?_
  try simp only [Act.put, List.setIfInBounds_toArray, List.set_cons_zero, List.set_cons_succ]
  refine wpAnyH_take (i := 7) (oi := { dst := some 14, op := Go.Op.nilCheck (Go.Operand.tmp 13), type := 0, pos := "access.go:59", after := #[{ on := 6, ground := Go.Ground.data }], guard := none }) (v := .pointer (some ⟨E, 0, none⟩)) rfl (by kernel_rfl) (by kernel_rfl) (by kernel_rfl) (fun _ _ _ h => h) (Or.inl ⟨by rfl, fun W hSw => by (try dsimp only at hSw); go_simp⟩) k0 ?_
  try simp only [Act.put, List.setIfInBounds_toArray, List.set_cons_zero, List.set_cons_succ]
  refine wpAnyH_take (i := 8) (oi := { dst := some 15, op := Go.Op.fieldAddr 77 (Go.Operand.tmp 14) 2, type := 0, pos := "access.go:59", after := #[{ on := 7, ground := Go.Ground.data }], guard := none }) (v := .pointer (some ⟨E, 28, none⟩)) rfl (by kernel_rfl) (by kernel_rfl) (by kernel_rfl) (fun _ _ _ h => h) (Or.inl ⟨by rfl, fun W hSw => by (try dsimp only at hSw); go_simp⟩) k0 ?_
  try simp only [Act.put, List.setIfInBounds_toArray, List.set_cons_zero, List.set_cons_succ]
  refine wpAnyH_take (i := 9) (oi := { dst := some 16, op := Go.Op.fieldAddr 30 (Go.Operand.tmp 15) 1, type := 0, pos := "access.go:59", after := #[{ on := 8, ground := Go.Ground.data }], guard := none }) (v := .pointer (some ⟨E, 29, none⟩)) rfl (by kernel_rfl) (by kernel_rfl) (by kernel_rfl) (fun _ _ _ h => h) (Or.inl ⟨by rfl, fun W hSw => by (try dsimp only at hSw); go_simp⟩) k0 ?_
  try simp only [Act.put, List.setIfInBounds_toArray, List.set_cons_zero, List.set_cons_succ]
  refine wpAnyH_take (i := 10) (oi := { dst := some 17, op := Go.Op.load 3 (Go.Operand.tmp 16), type := 3, pos := "access.go:59", after := #[{ on := 9, ground := Go.Ground.data }], guard := none }) (v := .int .i64 p.k) rfl (by kernel_rfl) (by kernel_rfl) (by kernel_rfl) (fun _ _ _ h => h) (Or.inl ⟨by rfl, fun W hSw => by have cq := hSw.2.pk; clear hSw; go_simp⟩) k0 ?_
  try simp only [Act.put, List.setIfInBounds_toArray, List.set_cons_zero, List.set_cons_succ]
  refine wpAnyH_ready (rs := [11]) (by kernel_rfl) (by simp) ?_
  refine AllReadyH.cons (o := { dst := some 18, op := Go.Op.call { callee := Go.Callee.value (Go.Operand.func 26), args := #[Go.Operand.tmp 10, Go.Operand.tmp 11, Go.Operand.tmp 12, Go.Operand.tmp 17], argTypes := #[37, 3, 31, 3] }, type := 3, pos := "access.go:59", after := #[{ on := 3, ground := Go.Ground.data }, { on := 4, ground := Go.Ground.data }, { on := 5, ground := Go.Ground.data }, { on := 10, ground := Go.Ground.data }], guard := none }) rfl (fun K hK => ?_) AllReadyH.nil
  go_simp
  go_at_call 26
  refine (HF.out _ H0.out).mono ?_
  rintro e x1 ⟨rfl, k2⟩
  have HS := Lib.hid k2.2
  have k3 := k2.1
  clear k2
  go_wp2_with fail
  refine hK.out _ _ k3 (fun k1 => ?_)
  clear k3
  clear hK K
  try simp only [List.setIfInBounds_toArray, List.set_cons_zero, List.set_cons_succ]
  refine wpAnyH_take (i := 12) (oi := { dst := some 6, op := Go.Op.assign (Go.Operand.tmp 18), type := 3, pos := "access.go:59", after := #[{ on := 11, ground := Go.Ground.data }, { on := 11, ground := Go.Ground.chain }, { on := 0, ground := Go.Ground.phase }, { on := 1, ground := Go.Ground.phase }, { on := 2, ground := Go.Ground.phase }, { on := 3, ground := Go.Ground.phase }, { on := 4, ground := Go.Ground.phase }, { on := 5, ground := Go.Ground.phase }, { on := 6, ground := Go.Ground.phase }, { on := 7, ground := Go.Ground.phase }, { on := 8, ground := Go.Ground.phase }, { on := 9, ground := Go.Ground.phase }, { on := 10, ground := Go.Ground.phase }, { on := 11, ground := Go.Ground.phase }], guard := none }) (v := .int .i64 C) rfl (by kernel_rfl) (by kernel_rfl) (by kernel_rfl) (fun _ _ _ h => h) (Or.inl ⟨by rfl, fun W hSw => by (try dsimp only at hSw); go_simp⟩) k1 ?_
  try simp only [Act.put, List.setIfInBounds_toArray, List.set_cons_zero, List.set_cons_succ]
  refine wpAnyH_done (by kernel_rfl) ?_ _
  refine id ?_
  have HK := Lib.hid k1
  clear k0 k1 H0 HF
  by_cases h0 : C = 0
  · have hCb : (C == 0) = true := by simpa using h0
    go_wp2_with fail
    refine (HR.out _).mono ?_
    rintro e w3 ⟨rfl, rfl⟩
    go_wp2
    go_end0
    exact ⟨.inl ⟨h0, rfl⟩, HK.out.2, HS.out, HK.out.1⟩
  · have hCb : (C == 0) = false := by simpa using h0
    go_wp2_with fail
    refine (HN.out _).mono ?_
    rintro e w3 ⟨rfl, rfl⟩
    unfold Stop
    go_wp2
    exact ⟨rfl, .inr ⟨h0, rfl⟩, HK.out.2, HS.out, HK.out.1⟩
/-- The bytes of a list as numbers. -/
def byF (l : List UInt8) : Nat → Int := fun j => ((gt l j).toNat : Int)
theorem byF_is (l : List UInt8) (n : Nat) : W.IsBytes (byF l) n := fun j _ => by
  have := (gt l j).toNat_lt
  unfold byF
  omega
def full4 (l : List UInt8) : Int := W.jn (byF l) 4
def half2 (l : List UInt8) : Int := W.h16 (W.jn (byF l) 2)
theorem sh_zero (f : Nat → Int) : W.sh f 0 = f := by funext j; unfold W.sh; rw [Nat.zero_add]
/-- A slice that is not empty lies in a block. -/
theorem hold_some {w : World} {base : Nat} {sv : Value} {l : List UInt8} (h : Hold w base sv l) (hl : 0 < l.length) : ∃ B c, sv = .slice (some ⟨B, 0, none⟩) l.length c ∧ l.length ≤ c ∧ c ≤ 9223372036854775807 ∧ base ≤ B ∧ Row w B 5 (bsU l) c ∧ W.Bytes w B 0 l.length (byF l) := by
  obtain ⟨B, c, rfl, hb, hc, hr⟩ := own_some h hl (bsU_len l)
  refine ⟨B, c, rfl, ?_, hc, hb, hr, fun j hj => ?_⟩
  · have := hr.len
    rwa [bsU_len] at this
  · rw [Nat.zero_add, hr.cell j (by rw [bsU_len]; exact hj), bsU_get l j hj]
    rfl
theorem full_of (l : List UInt8) (hl : l.length = 4) (sv : Value) (base : Nat) (w : World) (h : Hold w base sv l) : Calls Tryz.prog 158 #[sv, .int .i64 0] w fun e w' => e = .returned (.tuple #[.int .u32 (full4 l), .bool true]) ∧ w = w' := by
  obtain ⟨B, c, rfl, h1, h2, _, _, h3⟩ := hold_some h (by omega)
  rw [hl] at h1 h3 ⊢
  have h4 := W.wFull_yes B 0 4 c 0 (byF l) w (by omega) h1 h3 (byF_is l 4) (by omega)
  rw [sh_zero] at h4
  exact h4
theorem half_of (l : List UInt8) (hl : l.length = 2) (sv : Value) (base : Nat) (w : World) (h : Hold w base sv l) : Calls Tryz.prog 196 #[sv, .int .i64 0] w fun e w' => e = .returned (.tuple #[.int .u32 (half2 l), .bool true]) ∧ w = w' := by
  obtain ⟨B, c, rfl, h1, h2, _, _, h3⟩ := hold_some h (by omega)
  rw [hl] at h1 h3 ⊢
  have h4 := W.wHalf_yes B 0 2 c 0 (byF l) w (by omega) h1 h3 (byF_is l 2) (by omega)
  rw [sh_zero] at h4
  exact h4
theorem code_len {P : UInt8 → Bool} {n : Nat} {bs ks : List UInt8} {a k : Nat} (hb : bs.length = n) (hc : codeV P n ks (a : Int) (k : Int) = 0) : (subL bs a k).length = k := by
  obtain ⟨h1, h2, h3⟩ := inB_iff.1 (codeV_in hc)
  exact subL_len (by omega)
/-- Is it an instruction on a halfword? -/
def hfB (q : Qn) : Bool := decide (72 ≤ q.op ∧ q.op ≤ 76)
/-- The code that fetching the operand results in, and the operand. -/
def opC (q : Qn) (R : Nat → Int) (p : Psw) (n : Nat) (ks : List UInt8) : Int :=
  if hfB q = true then (if adT q R % 2 = 0 then codeV (ftP p.k) n ks (adT q R : Int) ((2 : Nat) : Int) else 6)
  else if q.fo = 1 then 0 else (if adT q R % 4 = 0 then codeV (ftP p.k) n ks (adT q R : Int) ((4 : Nat) : Int) else 6)
def opV (q : Qn) (R : Nat → Int) (bs : List UInt8) : Int :=
  if hfB q = true then half2 (subL bs (adT q R) 2) else if q.fo = 1 then R q.r2 else full4 (subL bs (adT q R) 4)
set_option maxRecDepth 100000 in
set_option maxHeartbeats 1000000 in
theorem operand_72 (E A : Nat) (q : Qn) (R : Nat → Int) (p : Psw) (c : Int) (g h n m : Nat) (bs ks : List UInt8) (w : World) (hx : Ex w E A q R p c) (hs : Sto w A g h n m bs ks) (hR : RegOk R) (hq : QOk q) (hop : q.op = 72) : Calls Tryz.prog 124 #[.pointer (some ⟨E, 0, none⟩)] w (OrStop w (.int .u32 (opV q R bs)) (opC q R p n ks)) := by
  have c0 := hx.op
  have HAL := Lib.hid (aligned2 E A q R p c w hx hR hq)
  have e1 : hfB q = true := by unfold hfB; rw [hop]; rfl
  unfold opV opC
  rw [if_pos e1, if_pos e1]
  rw [hop] at c0
  clear hop hR hq e1
  by_cases hal : adT q R % 2 = 0
  · rw [if_pos hal] at HAL ⊢
    by_cases hc : codeV (ftP p.k) n ks (adT q R : Int) ((2 : Nat) : Int) = 0
    · have HF := Lib.hid (fun (W : World) (hW : Below w.heap.size w W) => fetch_ok E A q R p c g h n m bs ks (adT q R) 2 W (hx.below hW) (hs.below hW) (by have := adT_lt q R; omega) hc)
      have HL := Lib.hid (code_len hs.nums.1 hc)
      rw [hc]
      clear hx hs hc hal
      generalize adT q R = a at *
      go_enter Tryz.func124, Tryz.ntmps124
      go_wp2_with fail
      refine HAL.out.mono ?_
      rintro e w1 ⟨hb, ⟨-, rfl⟩ | ⟨hn, -⟩⟩
      · have HB := Lib.hid hb
        clear hb HAL
        go_wp2_with fail
        refine (HF.out _ HB.out).mono ?_
        rintro e w2 ⟨sv, rfl, hh, hb⟩
        have HC := Lib.hid (half_of _ HL.out sv _ _ hh)
        have HB2 := Lib.hid (bel0 HB.out hb)
        clear hh hb HB HF
        go_wp2_with fail
        refine HC.out.mono ?_
        rintro e w3 ⟨rfl, rfl⟩
        go_wp2
        go_ret
        exact ⟨HB2.out, .inl ⟨rfl, rfl⟩⟩
      · exact absurd rfl hn
    · have HF := Lib.hid (fun (W : World) (hW : Below w.heap.size w W) => fetch_no E A q R p c g h n m bs ks (adT q R) 2 _ hc W (hx.below hW) (hs.below hW) (by have := adT_lt q R; omega) rfl)
      have hc' := hc
      generalize codeV (ftP p.k) n ks (adT q R : Int) ((2 : Nat) : Int) = C at HF hc' ⊢
      clear hx hs hc hal
      generalize adT q R = a at *
      go_enter Tryz.func124, Tryz.ntmps124
      go_wp2_with fail
      refine HAL.out.mono ?_
      rintro e w1 ⟨hb, ⟨-, rfl⟩ | ⟨hn, -⟩⟩
      · have HB := Lib.hid hb
        clear hb HAL
        go_wp2_with fail
        refine (HF.out _ HB.out).mono ?_
        rintro e w2 ⟨rfl, hb⟩
        have HB2 := Lib.hid (bel0 HB.out hb)
        have HC := Lib.hid hc'
        clear hb HB HF hc'
        unfold Stop
        go_wp2
        exact ⟨rfl, HB2.out, .inr ⟨HC.out, rfl⟩⟩
      · exact absurd rfl hn
  · rw [if_neg hal] at HAL ⊢
    clear hx hs hal
    generalize adT q R = a at *
    go_enter Tryz.func124, Tryz.ntmps124
    go_wp2_with fail
    refine HAL.out.mono ?_
    rintro e w1 ⟨hb, ⟨h6, -⟩ | ⟨-, rfl⟩⟩
    · exact absurd h6 (by decide)
    · have HB := Lib.hid hb
      clear hb HAL
      unfold Stop
      go_wp2
      exact ⟨rfl, HB.out, .inr ⟨by decide, rfl⟩⟩
set_option maxRecDepth 100000 in
set_option maxHeartbeats 1000000 in
theorem operand_73 (E A : Nat) (q : Qn) (R : Nat → Int) (p : Psw) (c : Int) (g h n m : Nat) (bs ks : List UInt8) (w : World) (hx : Ex w E A q R p c) (hs : Sto w A g h n m bs ks) (hR : RegOk R) (hq : QOk q) (hop : q.op = 73) : Calls Tryz.prog 124 #[.pointer (some ⟨E, 0, none⟩)] w (OrStop w (.int .u32 (opV q R bs)) (opC q R p n ks)) := by
  have c0 := hx.op
  have HAL := Lib.hid (aligned2 E A q R p c w hx hR hq)
  have e1 : hfB q = true := by unfold hfB; rw [hop]; rfl
  unfold opV opC
  rw [if_pos e1, if_pos e1]
  rw [hop] at c0
  clear hop hR hq e1
  by_cases hal : adT q R % 2 = 0
  · rw [if_pos hal] at HAL ⊢
    by_cases hc : codeV (ftP p.k) n ks (adT q R : Int) ((2 : Nat) : Int) = 0
    · have HF := Lib.hid (fun (W : World) (hW : Below w.heap.size w W) => fetch_ok E A q R p c g h n m bs ks (adT q R) 2 W (hx.below hW) (hs.below hW) (by have := adT_lt q R; omega) hc)
      have HL := Lib.hid (code_len hs.nums.1 hc)
      rw [hc]
      clear hx hs hc hal
      generalize adT q R = a at *
      go_enter Tryz.func124, Tryz.ntmps124
      go_wp2_with fail
      refine HAL.out.mono ?_
      rintro e w1 ⟨hb, ⟨-, rfl⟩ | ⟨hn, -⟩⟩
      · have HB := Lib.hid hb
        clear hb HAL
        go_wp2_with fail
        refine (HF.out _ HB.out).mono ?_
        rintro e w2 ⟨sv, rfl, hh, hb⟩
        have HC := Lib.hid (half_of _ HL.out sv _ _ hh)
        have HB2 := Lib.hid (bel0 HB.out hb)
        clear hh hb HB HF
        go_wp2_with fail
        refine HC.out.mono ?_
        rintro e w3 ⟨rfl, rfl⟩
        go_wp2
        go_ret
        exact ⟨HB2.out, .inl ⟨rfl, rfl⟩⟩
      · exact absurd rfl hn
    · have HF := Lib.hid (fun (W : World) (hW : Below w.heap.size w W) => fetch_no E A q R p c g h n m bs ks (adT q R) 2 _ hc W (hx.below hW) (hs.below hW) (by have := adT_lt q R; omega) rfl)
      have hc' := hc
      generalize codeV (ftP p.k) n ks (adT q R : Int) ((2 : Nat) : Int) = C at HF hc' ⊢
      clear hx hs hc hal
      generalize adT q R = a at *
      go_enter Tryz.func124, Tryz.ntmps124
      go_wp2_with fail
      refine HAL.out.mono ?_
      rintro e w1 ⟨hb, ⟨-, rfl⟩ | ⟨hn, -⟩⟩
      · have HB := Lib.hid hb
        clear hb HAL
        go_wp2_with fail
        refine (HF.out _ HB.out).mono ?_
        rintro e w2 ⟨rfl, hb⟩
        have HB2 := Lib.hid (bel0 HB.out hb)
        have HC := Lib.hid hc'
        clear hb HB HF hc'
        unfold Stop
        go_wp2
        exact ⟨rfl, HB2.out, .inr ⟨HC.out, rfl⟩⟩
      · exact absurd rfl hn
  · rw [if_neg hal] at HAL ⊢
    clear hx hs hal
    generalize adT q R = a at *
    go_enter Tryz.func124, Tryz.ntmps124
    go_wp2_with fail
    refine HAL.out.mono ?_
    rintro e w1 ⟨hb, ⟨h6, -⟩ | ⟨-, rfl⟩⟩
    · exact absurd h6 (by decide)
    · have HB := Lib.hid hb
      clear hb HAL
      unfold Stop
      go_wp2
      exact ⟨rfl, HB.out, .inr ⟨by decide, rfl⟩⟩
set_option maxRecDepth 100000 in
set_option maxHeartbeats 1000000 in
theorem operand_74 (E A : Nat) (q : Qn) (R : Nat → Int) (p : Psw) (c : Int) (g h n m : Nat) (bs ks : List UInt8) (w : World) (hx : Ex w E A q R p c) (hs : Sto w A g h n m bs ks) (hR : RegOk R) (hq : QOk q) (hop : q.op = 74) : Calls Tryz.prog 124 #[.pointer (some ⟨E, 0, none⟩)] w (OrStop w (.int .u32 (opV q R bs)) (opC q R p n ks)) := by
  have c0 := hx.op
  have HAL := Lib.hid (aligned2 E A q R p c w hx hR hq)
  have e1 : hfB q = true := by unfold hfB; rw [hop]; rfl
  unfold opV opC
  rw [if_pos e1, if_pos e1]
  rw [hop] at c0
  clear hop hR hq e1
  by_cases hal : adT q R % 2 = 0
  · rw [if_pos hal] at HAL ⊢
    by_cases hc : codeV (ftP p.k) n ks (adT q R : Int) ((2 : Nat) : Int) = 0
    · have HF := Lib.hid (fun (W : World) (hW : Below w.heap.size w W) => fetch_ok E A q R p c g h n m bs ks (adT q R) 2 W (hx.below hW) (hs.below hW) (by have := adT_lt q R; omega) hc)
      have HL := Lib.hid (code_len hs.nums.1 hc)
      rw [hc]
      clear hx hs hc hal
      generalize adT q R = a at *
      go_enter Tryz.func124, Tryz.ntmps124
      go_wp2_with fail
      refine HAL.out.mono ?_
      rintro e w1 ⟨hb, ⟨-, rfl⟩ | ⟨hn, -⟩⟩
      · have HB := Lib.hid hb
        clear hb HAL
        go_wp2_with fail
        refine (HF.out _ HB.out).mono ?_
        rintro e w2 ⟨sv, rfl, hh, hb⟩
        have HC := Lib.hid (half_of _ HL.out sv _ _ hh)
        have HB2 := Lib.hid (bel0 HB.out hb)
        clear hh hb HB HF
        go_wp2_with fail
        refine HC.out.mono ?_
        rintro e w3 ⟨rfl, rfl⟩
        go_wp2
        go_ret
        exact ⟨HB2.out, .inl ⟨rfl, rfl⟩⟩
      · exact absurd rfl hn
    · have HF := Lib.hid (fun (W : World) (hW : Below w.heap.size w W) => fetch_no E A q R p c g h n m bs ks (adT q R) 2 _ hc W (hx.below hW) (hs.below hW) (by have := adT_lt q R; omega) rfl)
      have hc' := hc
      generalize codeV (ftP p.k) n ks (adT q R : Int) ((2 : Nat) : Int) = C at HF hc' ⊢
      clear hx hs hc hal
      generalize adT q R = a at *
      go_enter Tryz.func124, Tryz.ntmps124
      go_wp2_with fail
      refine HAL.out.mono ?_
      rintro e w1 ⟨hb, ⟨-, rfl⟩ | ⟨hn, -⟩⟩
      · have HB := Lib.hid hb
        clear hb HAL
        go_wp2_with fail
        refine (HF.out _ HB.out).mono ?_
        rintro e w2 ⟨rfl, hb⟩
        have HB2 := Lib.hid (bel0 HB.out hb)
        have HC := Lib.hid hc'
        clear hb HB HF hc'
        unfold Stop
        go_wp2
        exact ⟨rfl, HB2.out, .inr ⟨HC.out, rfl⟩⟩
      · exact absurd rfl hn
  · rw [if_neg hal] at HAL ⊢
    clear hx hs hal
    generalize adT q R = a at *
    go_enter Tryz.func124, Tryz.ntmps124
    go_wp2_with fail
    refine HAL.out.mono ?_
    rintro e w1 ⟨hb, ⟨h6, -⟩ | ⟨-, rfl⟩⟩
    · exact absurd h6 (by decide)
    · have HB := Lib.hid hb
      clear hb HAL
      unfold Stop
      go_wp2
      exact ⟨rfl, HB.out, .inr ⟨by decide, rfl⟩⟩
set_option maxRecDepth 100000 in
set_option maxHeartbeats 1000000 in
theorem operand_75 (E A : Nat) (q : Qn) (R : Nat → Int) (p : Psw) (c : Int) (g h n m : Nat) (bs ks : List UInt8) (w : World) (hx : Ex w E A q R p c) (hs : Sto w A g h n m bs ks) (hR : RegOk R) (hq : QOk q) (hop : q.op = 75) : Calls Tryz.prog 124 #[.pointer (some ⟨E, 0, none⟩)] w (OrStop w (.int .u32 (opV q R bs)) (opC q R p n ks)) := by
  have c0 := hx.op
  have HAL := Lib.hid (aligned2 E A q R p c w hx hR hq)
  have e1 : hfB q = true := by unfold hfB; rw [hop]; rfl
  unfold opV opC
  rw [if_pos e1, if_pos e1]
  rw [hop] at c0
  clear hop hR hq e1
  by_cases hal : adT q R % 2 = 0
  · rw [if_pos hal] at HAL ⊢
    by_cases hc : codeV (ftP p.k) n ks (adT q R : Int) ((2 : Nat) : Int) = 0
    · have HF := Lib.hid (fun (W : World) (hW : Below w.heap.size w W) => fetch_ok E A q R p c g h n m bs ks (adT q R) 2 W (hx.below hW) (hs.below hW) (by have := adT_lt q R; omega) hc)
      have HL := Lib.hid (code_len hs.nums.1 hc)
      rw [hc]
      clear hx hs hc hal
      generalize adT q R = a at *
      go_enter Tryz.func124, Tryz.ntmps124
      go_wp2_with fail
      refine HAL.out.mono ?_
      rintro e w1 ⟨hb, ⟨-, rfl⟩ | ⟨hn, -⟩⟩
      · have HB := Lib.hid hb
        clear hb HAL
        go_wp2_with fail
        refine (HF.out _ HB.out).mono ?_
        rintro e w2 ⟨sv, rfl, hh, hb⟩
        have HC := Lib.hid (half_of _ HL.out sv _ _ hh)
        have HB2 := Lib.hid (bel0 HB.out hb)
        clear hh hb HB HF
        go_wp2_with fail
        refine HC.out.mono ?_
        rintro e w3 ⟨rfl, rfl⟩
        go_wp2
        go_ret
        exact ⟨HB2.out, .inl ⟨rfl, rfl⟩⟩
      · exact absurd rfl hn
    · have HF := Lib.hid (fun (W : World) (hW : Below w.heap.size w W) => fetch_no E A q R p c g h n m bs ks (adT q R) 2 _ hc W (hx.below hW) (hs.below hW) (by have := adT_lt q R; omega) rfl)
      have hc' := hc
      generalize codeV (ftP p.k) n ks (adT q R : Int) ((2 : Nat) : Int) = C at HF hc' ⊢
      clear hx hs hc hal
      generalize adT q R = a at *
      go_enter Tryz.func124, Tryz.ntmps124
      go_wp2_with fail
      refine HAL.out.mono ?_
      rintro e w1 ⟨hb, ⟨-, rfl⟩ | ⟨hn, -⟩⟩
      · have HB := Lib.hid hb
        clear hb HAL
        go_wp2_with fail
        refine (HF.out _ HB.out).mono ?_
        rintro e w2 ⟨rfl, hb⟩
        have HB2 := Lib.hid (bel0 HB.out hb)
        have HC := Lib.hid hc'
        clear hb HB HF hc'
        unfold Stop
        go_wp2
        exact ⟨rfl, HB2.out, .inr ⟨HC.out, rfl⟩⟩
      · exact absurd rfl hn
  · rw [if_neg hal] at HAL ⊢
    clear hx hs hal
    generalize adT q R = a at *
    go_enter Tryz.func124, Tryz.ntmps124
    go_wp2_with fail
    refine HAL.out.mono ?_
    rintro e w1 ⟨hb, ⟨h6, -⟩ | ⟨-, rfl⟩⟩
    · exact absurd h6 (by decide)
    · have HB := Lib.hid hb
      clear hb HAL
      unfold Stop
      go_wp2
      exact ⟨rfl, HB.out, .inr ⟨by decide, rfl⟩⟩
set_option maxRecDepth 100000 in
set_option maxHeartbeats 1000000 in
theorem operand_76 (E A : Nat) (q : Qn) (R : Nat → Int) (p : Psw) (c : Int) (g h n m : Nat) (bs ks : List UInt8) (w : World) (hx : Ex w E A q R p c) (hs : Sto w A g h n m bs ks) (hR : RegOk R) (hq : QOk q) (hop : q.op = 76) : Calls Tryz.prog 124 #[.pointer (some ⟨E, 0, none⟩)] w (OrStop w (.int .u32 (opV q R bs)) (opC q R p n ks)) := by
  have c0 := hx.op
  have HAL := Lib.hid (aligned2 E A q R p c w hx hR hq)
  have e1 : hfB q = true := by unfold hfB; rw [hop]; rfl
  unfold opV opC
  rw [if_pos e1, if_pos e1]
  rw [hop] at c0
  clear hop hR hq e1
  by_cases hal : adT q R % 2 = 0
  · rw [if_pos hal] at HAL ⊢
    by_cases hc : codeV (ftP p.k) n ks (adT q R : Int) ((2 : Nat) : Int) = 0
    · have HF := Lib.hid (fun (W : World) (hW : Below w.heap.size w W) => fetch_ok E A q R p c g h n m bs ks (adT q R) 2 W (hx.below hW) (hs.below hW) (by have := adT_lt q R; omega) hc)
      have HL := Lib.hid (code_len hs.nums.1 hc)
      rw [hc]
      clear hx hs hc hal
      generalize adT q R = a at *
      go_enter Tryz.func124, Tryz.ntmps124
      go_wp2_with fail
      refine HAL.out.mono ?_
      rintro e w1 ⟨hb, ⟨-, rfl⟩ | ⟨hn, -⟩⟩
      · have HB := Lib.hid hb
        clear hb HAL
        go_wp2_with fail
        refine (HF.out _ HB.out).mono ?_
        rintro e w2 ⟨sv, rfl, hh, hb⟩
        have HC := Lib.hid (half_of _ HL.out sv _ _ hh)
        have HB2 := Lib.hid (bel0 HB.out hb)
        clear hh hb HB HF
        go_wp2_with fail
        refine HC.out.mono ?_
        rintro e w3 ⟨rfl, rfl⟩
        go_wp2
        go_ret
        exact ⟨HB2.out, .inl ⟨rfl, rfl⟩⟩
      · exact absurd rfl hn
    · have HF := Lib.hid (fun (W : World) (hW : Below w.heap.size w W) => fetch_no E A q R p c g h n m bs ks (adT q R) 2 _ hc W (hx.below hW) (hs.below hW) (by have := adT_lt q R; omega) rfl)
      have hc' := hc
      generalize codeV (ftP p.k) n ks (adT q R : Int) ((2 : Nat) : Int) = C at HF hc' ⊢
      clear hx hs hc hal
      generalize adT q R = a at *
      go_enter Tryz.func124, Tryz.ntmps124
      go_wp2_with fail
      refine HAL.out.mono ?_
      rintro e w1 ⟨hb, ⟨-, rfl⟩ | ⟨hn, -⟩⟩
      · have HB := Lib.hid hb
        clear hb HAL
        go_wp2_with fail
        refine (HF.out _ HB.out).mono ?_
        rintro e w2 ⟨rfl, hb⟩
        have HB2 := Lib.hid (bel0 HB.out hb)
        have HC := Lib.hid hc'
        clear hb HB HF hc'
        unfold Stop
        go_wp2
        exact ⟨rfl, HB2.out, .inr ⟨HC.out, rfl⟩⟩
      · exact absurd rfl hn
  · rw [if_neg hal] at HAL ⊢
    clear hx hs hal
    generalize adT q R = a at *
    go_enter Tryz.func124, Tryz.ntmps124
    go_wp2_with fail
    refine HAL.out.mono ?_
    rintro e w1 ⟨hb, ⟨h6, -⟩ | ⟨-, rfl⟩⟩
    · exact absurd h6 (by decide)
    · have HB := Lib.hid hb
      clear hb HAL
      unfold Stop
      go_wp2
      exact ⟨rfl, HB.out, .inr ⟨by decide, rfl⟩⟩
set_option maxRecDepth 100000 in
set_option maxHeartbeats 1000000 in
theorem operand_full (E A : Nat) (q : Qn) (R : Nat → Int) (p : Psw) (c : Int) (g h n m : Nat) (bs ks : List UInt8) (w : World) (hx : Ex w E A q R p c) (hs : Sto w A g h n m bs ks) (hR : RegOk R) (hq : QOk q) (hop : hfB q = false) (hfo : q.fo ≠ 1) : Calls Tryz.prog 124 #[.pointer (some ⟨E, 0, none⟩)] w (OrStop w (.int .u32 (opV q R bs)) (opC q R p n ks)) := by
  have c0 := hx.op
  have c1 := hx.fo
  have HAL := Lib.hid (aligned4 E A q R p c w hx hR hq)
  have n1 : ((q.op : Int) == 72) = false := by simp; rintro e; unfold hfB at hop; simp at hop; omega
  have n2 : ((q.op : Int) == 73) = false := by simp; rintro e; unfold hfB at hop; simp at hop; omega
  have n3 : ((q.op : Int) == 74) = false := by simp; rintro e; unfold hfB at hop; simp at hop; omega
  have n4 : ((q.op : Int) == 75) = false := by simp; rintro e; unfold hfB at hop; simp at hop; omega
  have n5 : ((q.op : Int) == 76) = false := by simp; rintro e; unfold hfB at hop; simp at hop; omega
  have n6 : ((q.fo : Int) == 1) = false := by simp; omega
  have e1 : ¬ hfB q = true := by rw [hop]; simp
  unfold opV opC
  rw [if_neg e1, if_neg e1, if_neg hfo, if_neg hfo]
  clear hop hR hq e1 hfo
  by_cases hal : adT q R % 4 = 0
  · rw [if_pos hal] at HAL ⊢
    by_cases hc : codeV (ftP p.k) n ks (adT q R : Int) ((4 : Nat) : Int) = 0
    · have HF := Lib.hid (fun (W : World) (hW : Below w.heap.size w W) => fetch_ok E A q R p c g h n m bs ks (adT q R) 4 W (hx.below hW) (hs.below hW) (by have := adT_lt q R; omega) hc)
      have HL := Lib.hid (code_len hs.nums.1 hc)
      rw [hc]
      clear hx hs hc hal
      generalize adT q R = a at *
      generalize q.op = o at *
      generalize q.fo = fo at *
      go_enter Tryz.func124, Tryz.ntmps124
      go_wp2_with fail
      refine HAL.out.mono ?_
      rintro e w1 ⟨hb, ⟨-, rfl⟩ | ⟨hn, -⟩⟩
      · have HB := Lib.hid hb
        clear hb HAL
        go_wp2_with fail
        refine (HF.out _ HB.out).mono ?_
        rintro e w2 ⟨sv, rfl, hh, hb⟩
        have HC := Lib.hid (full_of _ HL.out sv _ _ hh)
        have HB2 := Lib.hid (bel0 HB.out hb)
        clear hh hb HB HF
        go_wp2_with fail
        refine HC.out.mono ?_
        rintro e w3 ⟨rfl, rfl⟩
        go_wp2
        go_ret
        exact ⟨HB2.out, .inl ⟨rfl, rfl⟩⟩
      · exact absurd rfl hn
    · have HF := Lib.hid (fun (W : World) (hW : Below w.heap.size w W) => fetch_no E A q R p c g h n m bs ks (adT q R) 4 _ hc W (hx.below hW) (hs.below hW) (by have := adT_lt q R; omega) rfl)
      have hc' := hc
      generalize codeV (ftP p.k) n ks (adT q R : Int) ((4 : Nat) : Int) = C at HF hc' ⊢
      clear hx hs hc hal
      generalize adT q R = a at *
      go_enter Tryz.func124, Tryz.ntmps124
      go_wp2_with fail
      refine HAL.out.mono ?_
      rintro e w1 ⟨hb, ⟨-, rfl⟩ | ⟨hn, -⟩⟩
      · have HB := Lib.hid hb
        clear hb HAL
        go_wp2_with fail
        refine (HF.out _ HB.out).mono ?_
        rintro e w2 ⟨rfl, hb⟩
        have HB2 := Lib.hid (bel0 HB.out hb)
        have HC := Lib.hid hc'
        clear hb HB HF hc'
        unfold Stop
        go_wp2
        exact ⟨rfl, HB2.out, .inr ⟨HC.out, rfl⟩⟩
      · exact absurd rfl hn
  · rw [if_neg hal] at HAL ⊢
    clear hx hs hal
    generalize adT q R = a at *
    go_enter Tryz.func124, Tryz.ntmps124
    go_wp2_with fail
    refine HAL.out.mono ?_
    rintro e w1 ⟨hb, ⟨h6, -⟩ | ⟨-, rfl⟩⟩
    · exact absurd h6 (by decide)
    · have HB := Lib.hid hb
      clear hb HAL
      unfold Stop
      go_wp2
      exact ⟨rfl, HB.out, .inr ⟨by decide, rfl⟩⟩
set_option maxRecDepth 100000 in
set_option maxHeartbeats 1000000 in
theorem operand_rr (E A : Nat) (q : Qn) (R : Nat → Int) (p : Psw) (c : Int) (g h n m : Nat) (bs ks : List UInt8) (w : World) (hx : Ex w E A q R p c) (hs : Sto w A g h n m bs ks) (hR : RegOk R) (hq : QOk q) (hop : hfB q = false) (hfo : q.fo = 1) : Calls Tryz.prog 124 #[.pointer (some ⟨E, 0, none⟩)] w (OrStop w (.int .u32 (opV q R bs)) (opC q R p n ks)) := by
  have c0 := hx.op
  have c1 := hx.fo
  have c3 := hx.r2
  have n1 : ((q.op : Int) == 72) = false := by simp; rintro e; unfold hfB at hop; simp at hop; omega
  have n2 : ((q.op : Int) == 73) = false := by simp; rintro e; unfold hfB at hop; simp at hop; omega
  have n3 : ((q.op : Int) == 74) = false := by simp; rintro e; unfold hfB at hop; simp at hop; omega
  have n4 : ((q.op : Int) == 75) = false := by simp; rintro e; unfold hfB at hop; simp at hop; omega
  have n5 : ((q.op : Int) == 76) = false := by simp; rintro e; unfold hfB at hop; simp at hop; omega
  have e1 : ¬ hfB q = true := by rw [hop]; simp
  unfold opV opC
  rw [if_neg e1, if_neg e1, if_pos hfo, if_pos hfo]
  have cr := hx.reg hq.r2
  have hr := hq.r2
  rw [hfo] at c1
  generalize R q.r2 = x at cr ⊢
  generalize q.op = o at *
  generalize q.r2 = r at *
  have hr' : (r : Int) < 16 := by omega
  clear hop hR hq e1 hfo hx hs hr
  go_enter Tryz.func124, Tryz.ntmps124
  go_wp2_with fail
  go_quiet (fail)
  go_wp2
  go_ret
  exact ⟨belowDraw _ _, .inl ⟨rfl, rfl⟩⟩
theorem operand_any (E A : Nat) (q : Qn) (R : Nat → Int) (p : Psw) (c : Int) (g h n m : Nat) (bs ks : List UInt8) (w : World) (hx : Ex w E A q R p c) (hs : Sto w A g h n m bs ks) (hR : RegOk R) (hq : QOk q) : Calls Tryz.prog 124 #[.pointer (some ⟨E, 0, none⟩)] w (OrStop w (.int .u32 (opV q R bs)) (opC q R p n ks)) := by
  cases hh : hfB q with
  | true =>
    have h1 : 72 ≤ q.op ∧ q.op ≤ 76 := by unfold hfB at hh; simpa using hh
    rcases (by omega : q.op = 72 ∨ q.op = 73 ∨ q.op = 74 ∨ q.op = 75 ∨ q.op = 76) with e | e | e | e | e
    · exact operand_72 E A q R p c g h n m bs ks w hx hs hR hq e
    · exact operand_73 E A q R p c g h n m bs ks w hx hs hR hq e
    · exact operand_74 E A q R p c g h n m bs ks w hx hs hR hq e
    · exact operand_75 E A q R p c g h n m bs ks w hx hs hR hq e
    · exact operand_76 E A q R p c g h n m bs ks w hx hs hR hq e
  | false =>
    by_cases hfo : q.fo = 1
    · exact operand_rr E A q R p c g h n m bs ks w hx hs hR hq hh hfo
    · exact operand_full E A q R p c g h n m bs ks w hx hs hR hq hh hfo

end M
end Go.Proofs.YtfopjnfphlkcgaaGreat

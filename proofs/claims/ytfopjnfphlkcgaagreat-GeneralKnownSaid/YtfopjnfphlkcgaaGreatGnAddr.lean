/- Addresses: what the program reckons. -/
import Derived.Test.YtfopjnfphlkcgaaGreatRows
import Derived.Test.YtfopjnfphlkcgaaGreatGnSet
import Derived.Test.YtfopjnfphlkcgaaGreatStC
namespace Go.Proofs.YtfopjnfphlkcgaaGreat
namespace E
end E
open Go.RowKit Go.Shelf E
set_option linter.unusedVariables false
namespace M

/-- What holds throughout a region: memory has only grown, the execution lies as it did. -/
def ES (E A : Nat) (q : Qn) (R : Nat → Int) (p : Psw) (c : Int) (w W : World) : Prop := Below w.heap.size w W ∧ Ex W E A q R p c
theorem ES.next {E A : Nat} {q : Qn} {R : Nat → Int} {p : Psw} {c : Int} {w W W' : World} (h : ES E A q R p c w W) (hb : Below W.heap.size W W') : ES E A q R p c w W' := ⟨bel0 h.1 hb, h.2.below hb⟩
theorem ES.of {E A : Nat} {q : Qn} {R : Nat → Int} {p : Psw} {c : Int} {w : World} (h : Ex w E A q R p c) : ES E A q R p c w w.drew := ⟨bel_drew w, h.drew⟩
/-- A displacement and registers, summed as words. -/
def adS (R : Nat → Int) (d : Nat) (l : List Nat) : Int := l.foldl (fun s n => if n = 0 then s else (s + R n) % 4294967296) (d : Int)
theorem adS_next (R : Nat → Int) (d : Nat) (l : List Nat) (k : Nat) (hk : k < l.length) : adS R d (l.take (k + 1)) = if l[k] = 0 then adS R d (l.take k) else (adS R d (l.take k) + R l[k]) % 4294967296 := by
  unfold adS
  rw [List.take_succ_eq_append_getElem hk, List.foldl_append]
  rfl
theorem adS_bd {R : Nat → Int} (hR : RegOk R) {d : Nat} (hd : d < 4294967296) : ∀ (l : List Nat), 0 ≤ adS R d l ∧ adS R d l < 4294967296 := by
  have key : ∀ (l : List Nat) (s : Int), 0 ≤ s → s < 4294967296 → 0 ≤ l.foldl (fun s n => if n = 0 then s else (s + R n) % 4294967296) s ∧ l.foldl (fun s n => if n = 0 then s else (s + R n) % 4294967296) s < 4294967296 := by
    intro l
    induction l with
    | nil => intro s h0 h1; exact ⟨h0, h1⟩
    | cons n r ih =>
      intro s h0 h1
      rw [List.foldl_cons]
      refine ih _ ?_ ?_
      · split
        · exact h0
        · omega
      · split
        · exact h1
        · omega
  exact fun l => key l d (by omega) (by omega)
/-- A row of numbers. -/
def Nums (w : World) (g : Nat) (l : List Nat) : Prop := ∀ k (hk : k < l.length), w.cell? ⟨g, k, none⟩ = some (.int .i64 (l[k] : Int))
theorem Nums.below {w w' : World} {g : Nat} {l : List Nat} (h : Nums w g l) (hl : 0 < l.length) (hb : Below w.heap.size w w') : Nums w' g l := fun k hk => by
  rw [hb.cell (World.block_lt_of_cell? w _ (h k hk))]
  exact h k hk
set_option maxRecDepth 100000 in
theorem address_any (E A : Nat) (q : Qn) (R : Nat → Int) (p : Psw) (c : Int) (d : Nat) (g n : Nat) (l : List Nat) (w : World) (h : Ex w E A q R p c) (hR : RegOk R) (hd : d < 4294967296) (hn : l.length = n) (hn2 : n ≤ 2) (hl : ∀ k (hk : k < l.length), l[k] < 16) (hc : Nums w g l) :
    Calls Tryz.prog 205 #[.pointer (some ⟨E, 0, none⟩), .int .i64 (d : Int), .slice (some ⟨g, 0, none⟩) n n] w (New w (.int .i64 (adS R d l % 16777216))) := by
  have hbd := adS_bd hR hd
  have hd2 : (d : Int) % 4294967296 = (d : Int) := by omega
  have HB := Lib.hid hbd
  have HX := Lib.hid h
  have HN := Lib.hid hn
  have HL := Lib.hid hl
  have HC := Lib.hid hc
  have HNX := Lib.hid (adS_next R d l)
  clear h hbd hn hl hc hR hd
  go_enter Tryz.func205, Tryz.ntmps205
  go_wp2
  go_loopw [7, 14] (fun s i wr => ∃ k : Nat, k ≤ n ∧ Below w.heap.size w wr ∧ i = .int .i64 (k : Int) ∧ s = .int .u32 (adS R d (l.take k))) (fun _ i _ => n - (intOf i).toNat)
  case atStart => exact ⟨0, Nat.zero_le _, Below.refl _ _, rfl, by simp [adS]⟩
  case round =>
    obtain ⟨k, hk, hb, rfl, rfl⟩ := hrel
    by_cases hlt : k < n
    · have hk2 : k < l.length := by rw [HN.out]; exact hlt
      have hnx := HNX.out k hk2
      have hx16 := HL.out k hk2
      have hcell : wr.cell? ⟨g, k, none⟩ = some (.int .i64 (l[k] : Int)) := by
        rw [hb.cell (World.block_lt_of_cell? w _ (HC.out k hk2))]
        exact HC.out k hk2
      have hreg := (HX.out.below hb).reg hx16
      have hbd := HB.out (l.take k)
      generalize l[k] = x at hnx hx16 hcell hreg
      generalize adS R d (l.take k) = S at hnx hbd ⊢
      have HT := Lib.hid hnx
      have HBB := Lib.hid hb
      have hlt' : (k : Int) < (n : Int) := by omega
      generalize hRx : R x = v at hreg
      clear hnx hk2 hb
      by_cases hx0 : x = 0
      · subst hx0
        clear hx16 hreg
        go_wp2
        go_roundw
        case rel => exact ⟨k + 1, hlt, HBB.out, by go_num, by rw [HT.out]; rfl⟩
        case measure => simp [intOf]; omega
      · have hxI : ((x : Int) == 0) = false := by simpa using hx0
        have hx16' : (x : Int) < 16 := by omega
        have hT : adS R d (l.take (k + 1)) = (S + v) % 4294967296 := by rw [HT.out, if_neg hx0, hRx]
        clear hx16
        go_wp2
        go_roundw
        case rel => exact ⟨k + 1, hlt, HBB.out, by go_num, by rw [hT]⟩
        case measure => simp [intOf]; omega
    · obtain rfl : k = n := by omega
      have hbd := HB.out l
      have e1 : l.take k = l := by rw [← HN.out]; exact List.take_length
      rw [e1]
      obtain ⟨S, hS⟩ : ∃ S, S = adS R d l := ⟨_, rfl⟩
      rw [← hS] at hbd ⊢
      have HS := Lib.hid hS
      clear e1 hS
      go_wp2
      go_ret
      exact ⟨by rw [← HS.out]; rfl, hb⟩
/-- The address that a base, an index and a displacement give. -/
def adr (R : Nat → Int) (d b x : Nat) : Nat := (adS R d [b, x] % 16777216).toNat
theorem adS_one (R : Nat → Int) (d b : Nat) : adS R d [b, 0] = adS R d [b] := by unfold adS; rfl
theorem adr_of {R : Nat → Int} (hR : RegOk R) {d b x : Nat} (hd : d < 4294967296) : adS R d [b, x] % 16777216 = (adr R d b x : Int) := by
  have := adS_bd hR hd [b, x]
  unfold adr
  omega
theorem adr_of1 {R : Nat → Int} (hR : RegOk R) {d b : Nat} (hd : d < 4294967296) : adS R d [b] % 16777216 = (adr R d b 0 : Int) := by
  rw [← adr_of hR hd, adS_one]
theorem adr_lt (R : Nat → Int) (d b x : Nat) : adr R d b x < 16777216 := by unfold adr; omega
set_option maxRecDepth 100000 in
set_option maxHeartbeats 1000000 in
theorem second_any (E A : Nat) (q : Qn) (R : Nat → Int) (p : Psw) (c : Int) (w : World) (h : Ex w E A q R p c) (hR : RegOk R) (hd : q.d2 < 4096) (hb2 : q.b2 < 16) (hx2 : q.x2 < 16) : Calls Tryz.prog 143 #[.pointer (some ⟨E, 0, none⟩)] w (New w (.int .i64 (adr R q.d2 q.b2 q.x2 : Int))) := by
  have HA : Hid (ES E A q R p c w w.drew → ∀ {x1 : World}, x1 = w.drew.alloc (.cells #[.int .i64 (q.b2 : Int), .int .i64 (q.x2 : Int)] 3) → ES E A q R p c w x1 → Calls Tryz.prog 205 #[.pointer (some ⟨E, 0, none⟩), .int .i64 (q.d2 : Int), .slice (some ⟨w.drew.heap.size, 0, none⟩) 2 2] x1 (New x1 (.int .i64 (adr R q.d2 q.b2 q.x2 : Int)))) := Lib.hid (fun _ x1 hx1 h1 => by
    have h2 := address_any E A q R p c q.d2 w.drew.heap.size 2 [q.b2, q.x2] x1 h1.2 hR (by omega) rfl (by decide) (fun k hk => by
      match k, hk with
      | 0, _ => exact hb2
      | 1, _ => exact hx2) (fun k hk => by
      subst hx1
      match k, hk with
      | 0, _ => exact Bx.cell (Bx.new w.drew 3 #[.int .i64 (q.b2 : Int), .int .i64 (q.x2 : Int)]) 0
      | 1, _ => exact Bx.cell (Bx.new w.drew 3 #[.int .i64 (q.b2 : Int), .int .i64 (q.x2 : Int)]) 1)
    rw [adr_of hR (by omega)] at h2
    exact h2)
  have H0 := Lib.hid (ES.of h)
  clear h hR hd hb2 hx2
  go_enter Tryz.func143, Tryz.ntmps143
  go_wp2_with fail
  refine wp_region_held_drew (S := ES E A q R p c w) (by kernel_rfl) H0.out (fun k0 => ?_)
  show wpAnyH _ _ _ _ _ 19 #[false, false, false, false, false, false, false, false, false, false, false, false, false, false, false, false, false, false, false] _ _
  refine wpAnyH_take (i := 0) (oi := ⟨some 3, _, _, _, _, _⟩) (v := .pointer (some ⟨E, 0, none⟩)) rfl (by kernel_rfl) (by kernel_rfl) (by kernel_rfl) (fun _ _ _ h => h) (Or.inl ⟨by rfl, fun W hSw => by (try dsimp only at hSw); go_simp⟩) k0 ?_
  try simp only [Act.put, List.setIfInBounds_toArray, List.set_cons_zero, List.set_cons_succ]
  refine wpAnyH_take (i := 1) (oi := ⟨some 4, _, _, _, _, _⟩) (v := .pointer (some ⟨E, 0, none⟩)) rfl (by kernel_rfl) (by kernel_rfl) (by kernel_rfl) (fun _ _ _ h => h) (Or.inl ⟨by rfl, fun W hSw => by (try dsimp only at hSw); go_simp⟩) k0 ?_
  try simp only [Act.put, List.setIfInBounds_toArray, List.set_cons_zero, List.set_cons_succ]
  refine wpAnyH_take (i := 2) (oi := ⟨some 5, _, _, _, _, _⟩) (v := .pointer (some ⟨E, 0, none⟩)) rfl (by kernel_rfl) (by kernel_rfl) (by kernel_rfl) (fun _ _ _ h => h) (Or.inl ⟨by rfl, fun W hSw => by (try dsimp only at hSw); go_simp⟩) k0 ?_
  try simp only [Act.put, List.setIfInBounds_toArray, List.set_cons_zero, List.set_cons_succ]
  refine wpAnyH_take (i := 3) (oi := ⟨some 6, _, _, _, _, _⟩) (v := .pointer (some ⟨E, 0, none⟩)) rfl (by kernel_rfl) (by kernel_rfl) (by kernel_rfl) (fun _ _ _ h => h) (Or.inl ⟨by rfl, fun W hSw => by (try dsimp only at hSw); go_simp⟩) k0 ?_
  try simp only [Act.put, List.setIfInBounds_toArray, List.set_cons_zero, List.set_cons_succ]
  refine wpAnyH_take (i := 4) (oi := ⟨some 7, _, _, _, _, _⟩) (v := .pointer (some ⟨E, 8, none⟩)) rfl (by kernel_rfl) (by kernel_rfl) (by kernel_rfl) (fun _ _ _ h => h) (Or.inl ⟨by rfl, fun W hSw => by (try dsimp only at hSw); go_simp⟩) k0 ?_
  try simp only [Act.put, List.setIfInBounds_toArray, List.set_cons_zero, List.set_cons_succ]
  refine wpAnyH_take (i := 5) (oi := ⟨some 8, _, _, _, _, _⟩) (v := .int .i64 (q.d2 : Int)) rfl (by kernel_rfl) (by kernel_rfl) (by kernel_rfl) (fun _ _ _ h => h) (Or.inl ⟨by rfl, fun W hSw => by have cq := hSw.2.d2; clear hSw; go_simp⟩) k0 ?_
  try simp only [Act.put, List.setIfInBounds_toArray, List.set_cons_zero, List.set_cons_succ]
  refine wpAnyH_take (i := 6) (oi := ⟨some 9, _, _, _, _, _⟩) (v := .pointer (some ⟨E, 0, none⟩)) rfl (by kernel_rfl) (by kernel_rfl) (by kernel_rfl) (fun _ _ _ h => h) (Or.inl ⟨by rfl, fun W hSw => by (try dsimp only at hSw); go_simp⟩) k0 ?_
  try simp only [Act.put, List.setIfInBounds_toArray, List.set_cons_zero, List.set_cons_succ]
  refine wpAnyH_take (i := 7) (oi := ⟨some 10, _, _, _, _, _⟩) (v := .pointer (some ⟨E, 0, none⟩)) rfl (by kernel_rfl) (by kernel_rfl) (by kernel_rfl) (fun _ _ _ h => h) (Or.inl ⟨by rfl, fun W hSw => by (try dsimp only at hSw); go_simp⟩) k0 ?_
  try simp only [Act.put, List.setIfInBounds_toArray, List.set_cons_zero, List.set_cons_succ]
  refine wpAnyH_take (i := 8) (oi := ⟨some 11, _, _, _, _, _⟩) (v := .pointer (some ⟨E, 0, none⟩)) rfl (by kernel_rfl) (by kernel_rfl) (by kernel_rfl) (fun _ _ _ h => h) (Or.inl ⟨by rfl, fun W hSw => by (try dsimp only at hSw); go_simp⟩) k0 ?_
  try simp only [Act.put, List.setIfInBounds_toArray, List.set_cons_zero, List.set_cons_succ]
  refine wpAnyH_take (i := 9) (oi := ⟨some 12, _, _, _, _, _⟩) (v := .pointer (some ⟨E, 7, none⟩)) rfl (by kernel_rfl) (by kernel_rfl) (by kernel_rfl) (fun _ _ _ h => h) (Or.inl ⟨by rfl, fun W hSw => by (try dsimp only at hSw); go_simp⟩) k0 ?_
  try simp only [Act.put, List.setIfInBounds_toArray, List.set_cons_zero, List.set_cons_succ]
  refine wpAnyH_take (i := 10) (oi := ⟨some 13, _, _, _, _, _⟩) (v := .int .i64 (q.b2 : Int)) rfl (by kernel_rfl) (by kernel_rfl) (by kernel_rfl) (fun _ _ _ h => h) (Or.inl ⟨by rfl, fun W hSw => by have cq := hSw.2.b2; clear hSw; go_simp⟩) k0 ?_
  try simp only [Act.put, List.setIfInBounds_toArray, List.set_cons_zero, List.set_cons_succ]
  refine wpAnyH_take (i := 11) (oi := ⟨some 14, _, _, _, _, _⟩) (v := .pointer (some ⟨E, 0, none⟩)) rfl (by kernel_rfl) (by kernel_rfl) (by kernel_rfl) (fun _ _ _ h => h) (Or.inl ⟨by rfl, fun W hSw => by (try dsimp only at hSw); go_simp⟩) k0 ?_
  try simp only [Act.put, List.setIfInBounds_toArray, List.set_cons_zero, List.set_cons_succ]
  refine wpAnyH_take (i := 12) (oi := ⟨some 15, _, _, _, _, _⟩) (v := .pointer (some ⟨E, 0, none⟩)) rfl (by kernel_rfl) (by kernel_rfl) (by kernel_rfl) (fun _ _ _ h => h) (Or.inl ⟨by rfl, fun W hSw => by (try dsimp only at hSw); go_simp⟩) k0 ?_
  try simp only [Act.put, List.setIfInBounds_toArray, List.set_cons_zero, List.set_cons_succ]
  refine wpAnyH_take (i := 13) (oi := ⟨some 16, _, _, _, _, _⟩) (v := .pointer (some ⟨E, 0, none⟩)) rfl (by kernel_rfl) (by kernel_rfl) (by kernel_rfl) (fun _ _ _ h => h) (Or.inl ⟨by rfl, fun W hSw => by (try dsimp only at hSw); go_simp⟩) k0 ?_
  try simp only [Act.put, List.setIfInBounds_toArray, List.set_cons_zero, List.set_cons_succ]
  refine wpAnyH_take (i := 14) (oi := ⟨some 17, _, _, _, _, _⟩) (v := .pointer (some ⟨E, 4, none⟩)) rfl (by kernel_rfl) (by kernel_rfl) (by kernel_rfl) (fun _ _ _ h => h) (Or.inl ⟨by rfl, fun W hSw => by (try dsimp only at hSw); go_simp⟩) k0 ?_
  try simp only [Act.put, List.setIfInBounds_toArray, List.set_cons_zero, List.set_cons_succ]
  refine wpAnyH_take (i := 15) (oi := ⟨some 18, _, _, _, _, _⟩) (v := .int .i64 (q.x2 : Int)) rfl (by kernel_rfl) (by kernel_rfl) (by kernel_rfl) (fun _ _ _ h => h) (Or.inl ⟨by rfl, fun W hSw => by have cq := hSw.2.x2; clear hSw; go_simp⟩) k0 ?_
  try simp only [Act.put, List.setIfInBounds_toArray, List.set_cons_zero, List.set_cons_succ]
  refine wpAnyH_ready (rs := [16]) (by kernel_rfl) (by simp) ?_
  refine AllReadyH.cons (o := ⟨some 19, _, _, _, _, _⟩) rfl (fun K hK => ?_) AllReadyH.nil
  go_simp
  refine hK.out _ _ (k0.next (below_new _ _)) (fun k1 => ?_)
  clear hK K
  try simp only [List.setIfInBounds_toArray, List.set_cons_zero, List.set_cons_succ]
  refine wpAnyH_ready (rs := [17]) (by kernel_rfl) (by simp) ?_
  refine AllReadyH.cons (o := ⟨some 20, _, _, _, _, _⟩) rfl (fun K hK => ?_) AllReadyH.nil
  go_simp
  go_at_call 205
  refine (HA.out k0 rfl k1).mono ?_
  rintro e x2 ⟨rfl, hb⟩
  have k3 := k1.next hb
  clear hb
  go_wp2_with fail
  refine hK.out _ _ k3 (fun k2 => ?_)
  clear k3
  clear hK K
  try simp only [List.setIfInBounds_toArray, List.set_cons_zero, List.set_cons_succ]
  refine wpAnyH_take (i := 18) (oi := ⟨some 2, _, _, _, _, _⟩) (v := .int .i64 (adr R q.d2 q.b2 q.x2 : Int)) rfl (by kernel_rfl) (by kernel_rfl) (by kernel_rfl) (fun _ _ _ h => h) (Or.inl ⟨by rfl, fun W hSw => by (try dsimp only at hSw); go_simp⟩) k2 ?_
  try simp only [Act.put, List.setIfInBounds_toArray, List.set_cons_zero, List.set_cons_succ]
  refine wpAnyH_done (by kernel_rfl) ?_ _
  refine id ?_
  go_wp2
  go_ret
  exact ⟨rfl, k2.1⟩
set_option maxRecDepth 100000 in
set_option maxHeartbeats 1000000 in
theorem first_any (E A : Nat) (q : Qn) (R : Nat → Int) (p : Psw) (c : Int) (w : World) (h : Ex w E A q R p c) (hR : RegOk R) (hd : q.d1 < 4096) (hb1 : q.b1 < 16) : Calls Tryz.prog 159 #[.pointer (some ⟨E, 0, none⟩)] w (New w (.int .i64 (adr R q.d1 q.b1 0 : Int))) := by
  have HA : Hid (ES E A q R p c w w.drew → ∀ {x1 : World}, x1 = w.drew.alloc (.cells #[.int .i64 (q.b1 : Int)] 3) → ES E A q R p c w x1 → Calls Tryz.prog 205 #[.pointer (some ⟨E, 0, none⟩), .int .i64 (q.d1 : Int), .slice (some ⟨w.drew.heap.size, 0, none⟩) 1 1] x1 (New x1 (.int .i64 (adr R q.d1 q.b1 0 : Int)))) := Lib.hid (fun _ x1 hx1 h1 => by
    have h2 := address_any E A q R p c q.d1 w.drew.heap.size 1 [q.b1] x1 h1.2 hR (by omega) rfl (by decide) (fun k hk => by
      match k, hk with
      | 0, _ => exact hb1) (fun k hk => by
      subst hx1
      match k, hk with
      | 0, _ => exact Bx.cell (Bx.new w.drew 3 #[.int .i64 (q.b1 : Int)]) 0)
    rw [adr_of1 hR (by omega)] at h2
    exact h2)
  have H0 := Lib.hid (ES.of h)
  clear h hR hd hb1
  go_enter Tryz.func159, Tryz.ntmps159
  go_wp2_with fail
  refine wp_region_held_drew (S := ES E A q R p c w) (by kernel_rfl) H0.out (fun k0 => ?_)
  show wpAnyH _ _ _ _ _ 14 #[false, false, false, false, false, false, false, false, false, false, false, false, false, false] _ _
  refine wpAnyH_take (i := 0) (oi := ⟨some 3, _, _, _, _, _⟩) (v := .pointer (some ⟨E, 0, none⟩)) rfl (by kernel_rfl) (by kernel_rfl) (by kernel_rfl) (fun _ _ _ h => h) (Or.inl ⟨by rfl, fun W hSw => by (try dsimp only at hSw); go_simp⟩) k0 ?_
  try simp only [Act.put, List.setIfInBounds_toArray, List.set_cons_zero, List.set_cons_succ]
  refine wpAnyH_take (i := 1) (oi := ⟨some 4, _, _, _, _, _⟩) (v := .pointer (some ⟨E, 0, none⟩)) rfl (by kernel_rfl) (by kernel_rfl) (by kernel_rfl) (fun _ _ _ h => h) (Or.inl ⟨by rfl, fun W hSw => by (try dsimp only at hSw); go_simp⟩) k0 ?_
  try simp only [Act.put, List.setIfInBounds_toArray, List.set_cons_zero, List.set_cons_succ]
  refine wpAnyH_take (i := 2) (oi := ⟨some 5, _, _, _, _, _⟩) (v := .pointer (some ⟨E, 0, none⟩)) rfl (by kernel_rfl) (by kernel_rfl) (by kernel_rfl) (fun _ _ _ h => h) (Or.inl ⟨by rfl, fun W hSw => by (try dsimp only at hSw); go_simp⟩) k0 ?_
  try simp only [Act.put, List.setIfInBounds_toArray, List.set_cons_zero, List.set_cons_succ]
  refine wpAnyH_take (i := 3) (oi := ⟨some 6, _, _, _, _, _⟩) (v := .pointer (some ⟨E, 0, none⟩)) rfl (by kernel_rfl) (by kernel_rfl) (by kernel_rfl) (fun _ _ _ h => h) (Or.inl ⟨by rfl, fun W hSw => by (try dsimp only at hSw); go_simp⟩) k0 ?_
  try simp only [Act.put, List.setIfInBounds_toArray, List.set_cons_zero, List.set_cons_succ]
  refine wpAnyH_take (i := 4) (oi := ⟨some 7, _, _, _, _, _⟩) (v := .pointer (some ⟨E, 6, none⟩)) rfl (by kernel_rfl) (by kernel_rfl) (by kernel_rfl) (fun _ _ _ h => h) (Or.inl ⟨by rfl, fun W hSw => by (try dsimp only at hSw); go_simp⟩) k0 ?_
  try simp only [Act.put, List.setIfInBounds_toArray, List.set_cons_zero, List.set_cons_succ]
  refine wpAnyH_take (i := 5) (oi := ⟨some 8, _, _, _, _, _⟩) (v := .int .i64 (q.d1 : Int)) rfl (by kernel_rfl) (by kernel_rfl) (by kernel_rfl) (fun _ _ _ h => h) (Or.inl ⟨by rfl, fun W hSw => by have cq := hSw.2.d1; clear hSw; go_simp⟩) k0 ?_
  try simp only [Act.put, List.setIfInBounds_toArray, List.set_cons_zero, List.set_cons_succ]
  refine wpAnyH_take (i := 6) (oi := ⟨some 9, _, _, _, _, _⟩) (v := .pointer (some ⟨E, 0, none⟩)) rfl (by kernel_rfl) (by kernel_rfl) (by kernel_rfl) (fun _ _ _ h => h) (Or.inl ⟨by rfl, fun W hSw => by (try dsimp only at hSw); go_simp⟩) k0 ?_
  try simp only [Act.put, List.setIfInBounds_toArray, List.set_cons_zero, List.set_cons_succ]
  refine wpAnyH_take (i := 7) (oi := ⟨some 10, _, _, _, _, _⟩) (v := .pointer (some ⟨E, 0, none⟩)) rfl (by kernel_rfl) (by kernel_rfl) (by kernel_rfl) (fun _ _ _ h => h) (Or.inl ⟨by rfl, fun W hSw => by (try dsimp only at hSw); go_simp⟩) k0 ?_
  try simp only [Act.put, List.setIfInBounds_toArray, List.set_cons_zero, List.set_cons_succ]
  refine wpAnyH_take (i := 8) (oi := ⟨some 11, _, _, _, _, _⟩) (v := .pointer (some ⟨E, 0, none⟩)) rfl (by kernel_rfl) (by kernel_rfl) (by kernel_rfl) (fun _ _ _ h => h) (Or.inl ⟨by rfl, fun W hSw => by (try dsimp only at hSw); go_simp⟩) k0 ?_
  try simp only [Act.put, List.setIfInBounds_toArray, List.set_cons_zero, List.set_cons_succ]
  refine wpAnyH_take (i := 9) (oi := ⟨some 12, _, _, _, _, _⟩) (v := .pointer (some ⟨E, 5, none⟩)) rfl (by kernel_rfl) (by kernel_rfl) (by kernel_rfl) (fun _ _ _ h => h) (Or.inl ⟨by rfl, fun W hSw => by (try dsimp only at hSw); go_simp⟩) k0 ?_
  try simp only [Act.put, List.setIfInBounds_toArray, List.set_cons_zero, List.set_cons_succ]
  refine wpAnyH_take (i := 10) (oi := ⟨some 13, _, _, _, _, _⟩) (v := .int .i64 (q.b1 : Int)) rfl (by kernel_rfl) (by kernel_rfl) (by kernel_rfl) (fun _ _ _ h => h) (Or.inl ⟨by rfl, fun W hSw => by have cq := hSw.2.b1; clear hSw; go_simp⟩) k0 ?_
  try simp only [Act.put, List.setIfInBounds_toArray, List.set_cons_zero, List.set_cons_succ]
  refine wpAnyH_ready (rs := [11]) (by kernel_rfl) (by simp) ?_
  refine AllReadyH.cons (o := ⟨some 14, _, _, _, _, _⟩) rfl (fun K hK => ?_) AllReadyH.nil
  go_simp
  refine hK.out _ _ (k0.next (below_new _ _)) (fun k1 => ?_)
  clear hK K
  try simp only [List.setIfInBounds_toArray, List.set_cons_zero, List.set_cons_succ]
  refine wpAnyH_ready (rs := [12]) (by kernel_rfl) (by simp) ?_
  refine AllReadyH.cons (o := ⟨some 15, _, _, _, _, _⟩) rfl (fun K hK => ?_) AllReadyH.nil
  go_simp
  go_at_call 205
  refine (HA.out k0 rfl k1).mono ?_
  rintro e x2 ⟨rfl, hb⟩
  have k3 := k1.next hb
  clear hb
  go_wp2_with fail
  refine hK.out _ _ k3 (fun k2 => ?_)
  clear k3
  clear hK K
  try simp only [List.setIfInBounds_toArray, List.set_cons_zero, List.set_cons_succ]
  refine wpAnyH_take (i := 13) (oi := ⟨some 2, _, _, _, _, _⟩) (v := .int .i64 (adr R q.d1 q.b1 0 : Int)) rfl (by kernel_rfl) (by kernel_rfl) (by kernel_rfl) (fun _ _ _ h => h) (Or.inl ⟨by rfl, fun W hSw => by (try dsimp only at hSw); go_simp⟩) k2 ?_
  try simp only [Act.put, List.setIfInBounds_toArray, List.set_cons_zero, List.set_cons_succ]
  refine wpAnyH_done (by kernel_rfl) ?_ _
  refine id ?_
  go_wp2
  go_ret
  exact ⟨rfl, k2.1⟩

end M
end Go.Proofs.YtfopjnfphlkcgaaGreat

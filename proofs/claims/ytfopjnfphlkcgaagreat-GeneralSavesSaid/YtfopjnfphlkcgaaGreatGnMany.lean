/- Registers as bytes, and bytes as registers: lists. -/
import Derived.Test.YtfopjnfphlkcgaaGreatRows
import Derived.Test.YtfopjnfphlkcgaaGreatGnRuns
import Derived.Test.YtfopjnfphlkcgaaGreatGnStr
namespace Go.Proofs.YtfopjnfphlkcgaaGreat
open Go.RowKit Go.Shelf E
set_option linter.unusedVariables false
namespace M

/-- How many registers stand from one number on up to another. -/
def lsC (a b : Nat) : Nat := (if b < a then b + 16 else b) - a + 1
def lsN (a k : Nat) : List Nat := (List.range k).map fun j => (a + j) % 16
theorem lsC_bd {a b : Nat} (ha : a < 16) (hb : b < 16) : 1 ≤ lsC a b ∧ lsC a b ≤ 16 := by
  unfold lsC
  split <;> omega
theorem lsN_len (a k : Nat) : (lsN a k).length = k := by simp [lsN]
theorem lsN_get (a k j : Nat) (hj : j < k) : (lsN a k).getD j 0 = (a + j) % 16 := by
  simp [lsN, List.getD_eq_getElem?_getD, List.getElem?_range hj]
theorem lsN_succ (a k : Nat) : lsN a (k + 1) = lsN a k ++ [(a + k) % 16] := by
  simp [lsN, List.range_succ]
/-- The bytes of words. -/
def mB (ws : List Int) : List UInt8 := ws.flatMap rb
theorem rb_len (v : Int) : (rb v).length = 4 := rfl
theorem mB_len (ws : List Int) : (mB ws).length = 4 * ws.length := by
  induction ws with
  | nil => rfl
  | cons v r ih =>
    show (rb v ++ mB r).length = _
    rw [List.length_append, ih, rb_len, List.length_cons]
    omega
theorem w4_len (ws : List Int) : (ws.flatMap w4).length = 4 * ws.length := by
  induction ws with
  | nil => rfl
  | cons v r ih =>
    show (w4 v ++ r.flatMap w4).length = _
    rw [List.length_append, ih, List.length_cons]
    show 4 + _ = _
    omega
theorem fbL_eq (ws : List Int) (n : Nat) (h : ws.length = n) : ∀ k, k ≤ n → fbL ws n k = (ws.take k).flatMap w4 ++ List.replicate (4 * (n - k)) 0
  | 0, _ => by simp [fbL]
  | k + 1, hk => by
    have hA : ((ws.take k).flatMap w4).length = 4 * k := by
      rw [w4_len, List.length_take, Nat.min_eq_left (by omega)]
    rw [fbL, fbL_eq ws n h k (by omega)]
    unfold W.putL
    have h4 : (w4 (ws.getD k 0)).length = 4 := rfl
    rw [h4, List.take_append_of_le_length (by omega), List.take_of_length_le (by omega), List.drop_append, hA, List.drop_eq_nil_of_le (by omega), List.nil_append, List.drop_replicate, List.take_add_one, List.flatMap_append, List.append_assoc]
    rw [List.getD_eq_getElem?_getD, List.getElem?_eq_getElem (by omega)]
    rw [show 4 * (n - k) - (4 * k + 4 - 4 * k) = 4 * (n - (k + 1)) by omega]
    simp
theorem w4_bs {v : Int} (h0 : 0 ≤ v) (h1 : v < 4294967296) : W.bs (w4 v) = bsU (rb v) := by
  have e0 := u8n (x := v / 16777216) (by omega) (by omega)
  have e1 := u8n (x := v / 65536 % 256) (by omega) (by omega)
  have e2 := u8n (x := v / 256 % 256) (by omega) (by omega)
  have e3 := u8n (x := v % 256) (by omega) (by omega)
  simp only [w4, rb, W.bs, bsU, List.map_cons, List.map_nil, e0, e1, e2, e3]
theorem mB_bs : ∀ (ws : List Int), (∀ v ∈ ws, 0 ≤ v ∧ v < 4294967296) → W.bs (ws.flatMap w4) = bsU (mB ws)
  | [], _ => rfl
  | v :: r, h => by
    have h1 := h v (List.mem_cons_self ..)
    have ih := mB_bs r (fun x hx => h x (List.mem_cons_of_mem _ hx))
    show W.bs (w4 v ++ r.flatMap w4) = bsU (rb v ++ mB r)
    unfold W.bs bsU at ih ⊢
    rw [List.map_append, List.map_append, ih]
    have h2 := w4_bs h1.1 h1.2
    unfold W.bs bsU at h2
    rw [h2]
theorem fb_sv {X : World} {B n : Nat} {ws : List Int} (hn : ws.length = n) (hn2 : n ≤ 16) (hw : ∀ v ∈ ws, 0 ≤ v ∧ v < 4294967296) (h : X.heap[B]? = some (.cells (W.bs (fbL ws n n)).toArray 5 (0, 0))) : SvB X (.slice (some ⟨B, 0, none⟩) (4 * n) (4 * n)) (mB ws) := by
  rw [fbL_eq ws n hn n (Nat.le_refl _), Nat.sub_self, Nat.mul_zero, List.replicate_zero, List.append_nil, List.take_of_length_le (by omega), mB_bs ws hw] at h
  have hl : (mB ws).length = 4 * n := by rw [mB_len, hn]
  refine ⟨some ⟨B, 0, none⟩, 4 * n, by rw [hl], .inr ⟨B, 0, rfl, fun j hj => ?_⟩, by omega, by omega, fun h => by cases h⟩
  have hb : Bx X B 5 (bsU (mB ws)).toArray := h
  rw [Nat.zero_add, hb.cell j, List.getElem?_toArray, bsU_get _ j hj]
/-- A word among bytes. -/
def fullN (b : List UInt8) (k : Nat) : Int := W.jn (W.sh (byF b) (4 * k)) 4
theorem fullN_eq (b : List UInt8) (k : Nat) : fullN b k = ((((gt b (4 * k)).toNat : Int) * 256 + (gt b (4 * k + 1)).toNat) * 256 + (gt b (4 * k + 2)).toNat) * 256 + (gt b (4 * k + 3)).toNat := by
  unfold fullN
  simp only [W.jn, W.sh, byF]
  simp only [Nat.add_zero]
  have h0 := (gt b (4 * k)).toNat_lt
  have h1 := (gt b (4 * k + 1)).toNat_lt
  have h2 := (gt b (4 * k + 2)).toNat_lt
  have h3 := (gt b (4 * k + 3)).toNat_lt
  omega
/-- The registers after the first k words are loaded. -/
def lmR (R : Nat → Int) (b : List UInt8) (a : Nat) : Nat → Nat → Int
  | 0 => R
  | k + 1 => upd (lmR R b a k) ((a + k) % 16) (fullN b k)
/-- What a register holds after it. -/
theorem lmR_at (R : Nat → Int) (b : List UInt8) (a : Nat) : ∀ k, k ≤ 16 → ∀ j, j < k → lmR R b a k ((a + j) % 16) = fullN b j
  | 0, _, j, hj => absurd hj (Nat.not_lt_zero _)
  | k + 1, hk, j, hj => by
    unfold lmR upd
    by_cases h : j = k
    · subst h
      rw [if_pos rfl]
    · rw [if_neg (by omega)]
      exact lmR_at R b a k (by omega) j (by omega)
theorem lmR_no (R : Nat → Int) (b : List UInt8) (a r : Nat) : ∀ k, (∀ j, j < k → (a + j) % 16 ≠ r) → lmR R b a k r = R r
  | 0, _ => rfl
  | k + 1, h => by
    unfold lmR upd
    rw [if_neg (fun e => h k (Nat.lt_succ_self _) e.symm)]
    exact lmR_no R b a r k (fun j hj => h j (by omega))
/-- The words of the registers that are named. -/
def lsW (R : Nat → Int) (a k : Nat) : List Int := (lsN a k).map R
theorem lsW_len (R : Nat → Int) (a k : Nat) : (lsW R a k).length = k := by simp [lsW, lsN_len]
theorem lsW_get (R : Nat → Int) (a k j : Nat) (hj : j < k) : (lsW R a k).getD j 0 = R ((a + j) % 16) := by
  simp [lsW, lsN, List.getD_eq_getElem?_getD, List.getElem?_range hj]
theorem lsW_mem {R : Nat → Int} (hR : RegOk R) (a k : Nat) : ∀ v ∈ lsW R a k, 0 ≤ v ∧ v < 4294967296 := by
  intro v hv
  obtain ⟨x, _, rfl⟩ := List.mem_map.1 hv
  exact hR x
theorem gt_mB (ws : List Int) : ∀ k j, k < ws.length → j < 4 → gt (mB ws) (4 * k + j) = gt (rb (ws.getD k 0)) j := by
  induction ws with
  | nil => intro k j hk; exact absurd hk (Nat.not_lt_zero _)
  | cons v r ih =>
    intro k j hk hj
    show gt (rb v ++ mB r) (4 * k + j) = _
    unfold gt at ih ⊢
    cases k with
    | zero =>
      rw [List.getD_eq_getElem?_getD, List.getElem?_append_left (by rw [rb_len]; omega), Nat.mul_zero, Nat.zero_add, ← List.getD_eq_getElem?_getD]
      rfl
    | succ k =>
      have h1 := ih k j (by simpa using hk) hj
      rw [List.getD_eq_getElem?_getD, List.getElem?_append_right (by rw [rb_len]; omega), rb_len, show 4 * (k + 1) + j - 4 = 4 * k + j by omega, ← List.getD_eq_getElem?_getD, h1]
      rfl
theorem fullN_mB (ws : List Int) (hw : ∀ v ∈ ws, 0 ≤ v ∧ v < 4294967296) (k : Nat) (hk : k < ws.length) : fullN (mB ws) k = ws.getD k 0 := by
  have hv : 0 ≤ ws.getD k 0 ∧ ws.getD k 0 < 4294967296 := by
    rw [List.getD_eq_getElem?_getD, List.getElem?_eq_getElem hk]
    exact hw _ (List.getElem_mem hk)
  have g0 := gt_mB ws k 0 hk (by decide)
  rw [Nat.add_zero] at g0
  rw [fullN_eq, g0, gt_mB ws k 1 hk (by decide), gt_mB ws k 2 hk (by decide), gt_mB ws k 3 hk (by decide)]
  generalize ws.getD k 0 = v at hv ⊢
  have e0 := u8n (x := v / 16777216) (by omega) (by omega)
  have e1 := u8n (x := v / 65536 % 256) (by omega) (by omega)
  have e2 := u8n (x := v / 256 % 256) (by omega) (by omega)
  have e3 := u8n (x := v % 256) (by omega) (by omega)
  show (((((UInt8.ofNat (v / 16777216).toNat).toNat : Int) * 256 + (UInt8.ofNat (v / 65536 % 256).toNat).toNat) * 256 + (UInt8.ofNat (v / 256 % 256).toNat).toNat) * 256 + (UInt8.ofNat (v % 256).toNat).toNat) = v
  rw [e0, e1, e2, e3]
  omega

end M
end Go.Proofs.YtfopjnfphlkcgaaGreat
namespace Go.Proofs.YtfopjnfphlkcgaaGreat
open Go.RowKit Go.Shelf E
set_option linter.unusedVariables false
namespace M

theorem infoN : (Tryz.prog.info? 3).map (fun i => (i.zero, i.size, i.bytes)) = some (some (.int .i64 0), 1, 8) := by kernel_rfl
theorem infoW : (Tryz.prog.info? 26).map (fun i => (i.zero, i.size, i.bytes)) = some (some (.int .u32 0), 1, 4) := by kernel_rfl
def nI (x : Nat) : Value := .int .i64 (x : Int)
set_option maxRecDepth 100000 in
set_option maxHeartbeats 1000000 in
theorem listed_any (E A : Nat) (q : Qn) (R : Nat → Int) (p : Psw) (c : Int) (w : World) (hx : Ex w E A q R p c) (h1 : q.r1 < 16) (h2 : q.r2 < 16) : Calls Tryz.prog 156 #[.pointer (some ⟨E, 0, none⟩)] w fun e w' => ∃ v, e = .returned v ∧ w'.ownsRow w.heap.size 3 1 v (lsC q.r1 q.r2) ((lsN q.r1 (lsC q.r1 q.r2)).map nI) ∧ Below w.heap.size w w' := by
  obtain ⟨i0, hi, hz0, hz1, hz2⟩ := info_parts infoN
  have c2 := hx.r1
  have c3 := hx.r2
  generalize q.r1 = a at c2 h1 ⊢
  generalize q.r2 = b at c3 h2 ⊢
  clear hx
  have ha : (a : Int) < 16 := by omega
  have hb : (b : Int) < 16 := by omega
  obtain ⟨N, hN⟩ : ∃ N, N = lsC a b := ⟨_, rfl⟩
  rw [← hN]
  unfold lsC at hN
  by_cases hab : b < a
  · rw [if_pos hab] at hN
    have hI : (b : Int) < (a : Int) := by omega
    have hN16 : N ≤ 16 := by omega
    have hNa : (N : Int) ≤ (b : Int) + 16 - (a : Int) + 1 := by omega
    have hNb : (b : Int) + 16 - (a : Int) + 1 ≤ (N : Int)  := by omega
    clear hN
    go_enter Tryz.func156, Tryz.ntmps156
    go_wp2
    go_loopw [4, 5] (fun v i wr => ∃ k : Nat, k ≤ N ∧ i = .int .i64 ((a : Int) + (k : Int)) ∧ wr.ownsRow w.heap.size 3 1 v k ((lsN a k).map nI) ∧ Below w.heap.size w wr) (fun _ i _ => a + N - (intOf i).toNat)
    case atStart => exact ⟨0, Nat.zero_le _, by go_num, ⟨rfl, .inl ⟨rfl, rfl⟩⟩, Below.refl _ _⟩
    case round =>
      obtain ⟨k, hk, rfl, ho, hb2⟩ := hrel
      have HO := Lib.hid ho
      have HB := Lib.hid hb2
      clear ho hb2
      by_cases hlt : k < N
      · have HR := Lib.hid (show ((a : Int) + (k : Int)) % 16 = (((a + k) % 16 : Nat) : Int) by omega)
        have hle : (a : Int) + (k : Int) ≤ (b : Int) + 16 := by omega
        go_wp2_with (at_builtin; refine wpList_append_own _ rfl _ _ 67 rfl w.heap.size 3 i0 (.int .i64 0) 1 8 Tryz.underlying67 hi hz0 hz1 hz2 rfl (by decide) _ k _ rfl (HO.out.alloc _) ⟨wr.heap.size, 0, none⟩ 1 1 [_] rfl rfl (cellNew _ _ _) (by intro u hu; simp at hu; subst hu; rfl) (by unfold maxLen; omega) (by omega) (by have := HB.out.size; simp; omega) ?_)
        intro v' w3 hown' hgrow _
        have hb1 := (HB.out.alloc HB.out.size _).grown hgrow (by have := HB.out.size; simp; omega) (fun r hr => (HO.out.lt r hr).1)
        have HO2 : Hid (w3.ownsRow w.heap.size 3 1 v' (k + 1) ((lsN a (k + 1)).map nI)) := Lib.hid (by
          have e : ([nI ((a + k) % 16)] : List Value) = [Value.int .i64 (((a : Int) + (k : Int)) % 16)] := congrArg (fun z => [Value.int .i64 z]) HR.out.symm
          rw [lsN_succ, List.map_append]
          show w3.ownsRow _ _ 1 v' (k + 1) (List.map nI (lsN a k) ++ [nI ((a + k) % 16)])
          rw [e]
          exact hown')
        have HB2 := Lib.hid hb1
        clear hgrow hown' hb1 HO HB
        go_wp2
        go_roundw
        case rel => exact ⟨k + 1, hlt, by go_num, HO2.out, HB2.out⟩
        case measure => simp [intOf]; omega
      · obtain rfl : k = N := by omega
        have hle : ¬ ((a : Int) + (k : Int) ≤ (b : Int) + 16) := by omega
        go_wp2
        go_ret
        exact ⟨_, rfl, HO.out, HB.out⟩
  · rw [if_neg hab] at hN
    have hI : ¬ ((b : Int) < (a : Int)) := by omega
    have hN16 : N ≤ 16 := by omega
    have hNa : (N : Int) ≤ (b : Int) - (a : Int) + 1 := by omega
    have hNb : (b : Int) - (a : Int) + 1 ≤ (N : Int) ∨ (b : Int) < (a : Int) := by omega
    clear hN
    go_enter Tryz.func156, Tryz.ntmps156
    go_wp2
    go_loopw [4, 5] (fun v i wr => ∃ k : Nat, k ≤ N ∧ i = .int .i64 ((a : Int) + (k : Int)) ∧ wr.ownsRow w.heap.size 3 1 v k ((lsN a k).map nI) ∧ Below w.heap.size w wr) (fun _ i _ => a + N - (intOf i).toNat)
    case atStart => exact ⟨0, Nat.zero_le _, by go_num, ⟨rfl, .inl ⟨rfl, rfl⟩⟩, Below.refl _ _⟩
    case round =>
      obtain ⟨k, hk, rfl, ho, hb2⟩ := hrel
      have HO := Lib.hid ho
      have HB := Lib.hid hb2
      clear ho hb2
      by_cases hlt : k < N
      · have HR := Lib.hid (show ((a : Int) + (k : Int)) % 16 = (((a + k) % 16 : Nat) : Int) by omega)
        have hle : (a : Int) + (k : Int) ≤ (b : Int) := by omega
        go_wp2_with (at_builtin; refine wpList_append_own _ rfl _ _ 67 rfl w.heap.size 3 i0 (.int .i64 0) 1 8 Tryz.underlying67 hi hz0 hz1 hz2 rfl (by decide) _ k _ rfl (HO.out.alloc _) ⟨wr.heap.size, 0, none⟩ 1 1 [_] rfl rfl (cellNew _ _ _) (by intro u hu; simp at hu; subst hu; rfl) (by unfold maxLen; omega) (by omega) (by have := HB.out.size; simp; omega) ?_)
        intro v' w3 hown' hgrow _
        have hb1 := (HB.out.alloc HB.out.size _).grown hgrow (by have := HB.out.size; simp; omega) (fun r hr => (HO.out.lt r hr).1)
        have HO2 : Hid (w3.ownsRow w.heap.size 3 1 v' (k + 1) ((lsN a (k + 1)).map nI)) := Lib.hid (by
          have e : ([nI ((a + k) % 16)] : List Value) = [Value.int .i64 (((a : Int) + (k : Int)) % 16)] := congrArg (fun z => [Value.int .i64 z]) HR.out.symm
          rw [lsN_succ, List.map_append]
          show w3.ownsRow _ _ 1 v' (k + 1) (List.map nI (lsN a k) ++ [nI ((a + k) % 16)])
          rw [e]
          exact hown')
        have HB2 := Lib.hid hb1
        clear hgrow hown' hb1 HO HB
        go_wp2
        go_roundw
        case rel => exact ⟨k + 1, hlt, by go_num, HO2.out, HB2.out⟩
        case measure => simp [intOf]; omega
      · obtain rfl : k = N := by omega
        have hle : ¬ ((a : Int) + (k : Int) ≤ (b : Int)) := by omega
        go_wp2
        go_ret
        exact ⟨_, rfl, HO.out, HB.out⟩
/-- What storing several registers comes to: its code, the bytes. -/
def stmC (q : Qn) (R : Nat → Int) (p : Psw) (n : Nat) (ks : List UInt8) : Int := if adT q R % 4 = 0 then codeV (stP p.k) n ks (adT q R : Int) ((4 * lsC q.r1 q.r2 : Nat) : Int) else 6
def stmB (q : Qn) (R : Nat → Int) (p : Psw) (n : Nat) (bs ks : List UInt8) : List UInt8 := if adT q R % 4 = 0 then putB (stP p.k) n bs ks (adT q R : Int) (mB (lsW R q.r1 (lsC q.r1 q.r2))) else bs
def lmC (q : Qn) (R : Nat → Int) (p : Psw) (n : Nat) (ks : List UInt8) : Int := if adT q R % 4 = 0 then codeV (ftP p.k) n ks (adT q R : Int) ((4 * lsC q.r1 q.r2 : Nat) : Int) else 6
set_option maxRecDepth 100000 in
set_option maxHeartbeats 1000000 in
theorem storeMany_any (E A : Nat) (q : Qn) (R : Nat → Int) (p : Psw) (c : Int) (g h n m : Nat) (bs ks : List UInt8) (w : World) (hx : Ex w E A q R p c) (hs : Sto w A g h n m bs ks) (hR : RegOk R) (hq : QOk q) : Calls Tryz.prog 66 #[.pointer (some ⟨E, 0, none⟩)] w (StoPost w E A g h n m q R p c (stmC q R p n ks) bs (stmB q R p n bs ks) ks) := by
  obtain ⟨i0, hi, hz0, hz1, hz2⟩ := info_parts infoW
  have hlt := adT_lt q R
  have HC := Lib.hid (lsC_bd hq.r1 hq.r2)
  have ha0 := aligned4 E A q R p c w hx hR hq
  have HE := Lib.hid (fun X (hX : Below w.heap.size w X) => hx.below hX)
  have HS := Lib.hid (fun X (hX : Below w.heap.size w X) => hs.below hX)
  have HLS := Lib.hid (fun X (hX : Below w.heap.size w X) => listed_any E A q R p c X (hx.below hX) hq.r1 hq.r2)
  have HM := Lib.hid (lsW_mem hR q.r1 (lsC q.r1 q.r2))
  have HL : Hid ((mB (lsW R q.r1 (lsC q.r1 q.r2))).length = 4 * lsC q.r1 q.r2 ∧ (lsW R q.r1 (lsC q.r1 q.r2)).length = lsC q.r1 q.r2) := Lib.hid ⟨by rw [mB_len, lsW_len], lsW_len _ _ _⟩
  have HG := Lib.hid (fun j (hj : j < lsC q.r1 q.r2) => lsW_get R q.r1 (lsC q.r1 q.r2) j hj)
  have HW4 : Hid (∀ j, 0 ≤ (lsW R q.r1 (lsC q.r1 q.r2)).getD j 0 ∧ (lsW R q.r1 (lsC q.r1 q.r2)).getD j 0 < 4294967296) := Lib.hid (fun j => by
    rw [List.getD_eq_getElem?_getD]
    by_cases hj : j < (lsW R q.r1 (lsC q.r1 q.r2)).length
    · rw [List.getElem?_eq_getElem hj]
      exact HM.out _ (List.getElem_mem hj)
    · rw [List.getElem?_eq_none (by omega)]
      exact ⟨Int.le_refl 0, by show (0 : Int) < 4294967296; decide⟩)
  have HP := Lib.hid (fun X v b (hX : Ex X E A q R p c) (hS : Sto X A g h n m bs ks) (hv : SvB X v b) C (hC : codeV (stP p.k) n ks (adT q R : Int) (b.length : Int) = C) => put_raw E A q R p c g h n m bs ks (adT q R) v b C X hX hS hv (by omega) hC)
  have HREG : Hid (∀ X r, Ex X E A q R p c → r < 16 → X.cell? ⟨E, 12 + r, none⟩ = some (.int .u32 (R r))) := Lib.hid (fun X r hX hr => hX.reg hr)
  have HLW : Hid (∀ k, lsW R q.r1 (k + 1) = lsW R q.r1 k ++ [R ((q.r1 + k) % 16)]) := Lib.hid (fun k => by unfold lsW; rw [lsN_succ, List.map_append]; rfl)
  have HLN := Lib.hid (fun k (hk : k < lsC q.r1 q.r2) => lsN_get q.r1 (lsC q.r1 q.r2) k hk)
  have HLNL := Lib.hid (lsN_len q.r1 (lsC q.r1 q.r2))
  unfold stmC stmB
  by_cases ha : adT q R % 4 = 0
  · rw [if_pos ha] at ha0
    rw [if_pos ha, if_pos ha]
    have HA := Lib.hid ha0
    have HNB := Lib.hid (fun (h0 : codeV (stP p.k) n ks (adT q R : Int) ((4 * lsC q.r1 q.r2 : Nat) : Int) ≠ 0) => putB_no (P := stP p.k) (n := n) (bs := bs) (ks := ks) (x := (adT q R : Int)) (b := mB (lsW R q.r1 (lsC q.r1 q.r2))) (by rw [HL.out.1]; exact h0))
    have HP2 : Hid (∀ X v, Ex X E A q R p c → Sto X A g h n m bs ks → SvB X v (mB (lsW R q.r1 (lsC q.r1 q.r2))) → Calls Tryz.prog 152 #[.pointer (some ⟨E, 0, none⟩), .int .i64 (adT q R : Int), v] X fun e w' => ((codeV (stP p.k) n ks (adT q R : Int) ((4 * lsC q.r1 q.r2 : Nat) : Int) = 0 ∧ e = .returned (.tuple #[])) ∨ (codeV (stP p.k) n ks (adT q R : Int) ((4 * lsC q.r1 q.r2 : Nat) : Int) ≠ 0 ∧ e = Stop (codeV (stP p.k) n ks (adT q R : Int) ((4 * lsC q.r1 q.r2 : Nat) : Int)))) ∧ Ex w' E A q R p c ∧ Sto w' A g h n m (putB (stP p.k) n bs ks (adT q R : Int) (mB (lsW R q.r1 (lsC q.r1 q.r2)))) ks ∧ Kp X w' [g]) := Lib.hid (fun X v hX hS hv => HP.out X v _ hX hS hv _ (by rw [HL.out.1]))
    generalize putB (stP p.k) n bs ks (adT q R : Int) (mB (lsW R q.r1 (lsC q.r1 q.r2))) = bs' at HNB HP2 ⊢
    generalize codeV (stP p.k) n ks (adT q R : Int) ((4 * lsC q.r1 q.r2 : Nat) : Int) = C2 at HNB HP2 ⊢
    clear ha0 ha HP
    generalize adT q R = a at *
    generalize lsC q.r1 q.r2 = N at *
    obtain ⟨hN1, hN2⟩ := HC.out
    clear hx hs hR hq hlt HC
    go_enter Tryz.func66, Tryz.ntmps66
    go_wp2_with fail
    refine HA.out.mono ?_
    rintro e w1 ⟨hb, ⟨-, rfl⟩ | ⟨hn, -⟩⟩
    rotate_left
    · exact absurd rfl hn
    have HB := Lib.hid hb
    clear hb HA
    go_wp2_with fail
    refine (HLS.out w1 HB.out).mono ?_
    rintro e w2 ⟨v2, rfl, ho, hb⟩
    obtain ⟨B2, cp2, rfl, hB2, hcp2, hrow⟩ := own_some ho (by omega) (by rw [List.length_map, HLNL.out])
    have HB2 := Lib.hid (bel0 HB.out hb)
    have HROW := Lib.hid hrow
    clear ho hb HB HLS hrow hB2
    go_wp2
    go_loopw [3, 11] (fun v i wr => ∃ k : Nat, k ≤ N ∧ i = .int .i64 (k : Int) ∧ wr.ownsRow w2.heap.size 26 1 v k ((lsW R q.r1 k).map (Value.int .u32)) ∧ Below w2.heap.size w2 wr) (fun _ i _ => N - (intOf i).toNat)
    case atStart => exact ⟨0, Nat.zero_le _, by go_num, ⟨rfl, .inl ⟨rfl, rfl⟩⟩, Below.refl _ _⟩
    case round =>
      obtain ⟨k, hk, rfl, ho, hb2⟩ := hrel
      have HO := Lib.hid ho
      have HB3 := Lib.hid hb2
      clear ho hb2
      by_cases hlt : k < N
      · have hlt' : (k : Int) < (N : Int) := by omega
        have hcell := (HROW.out.below HB3.out).cell k (by rw [List.length_map, HLNL.out]; exact hlt)
        have hval : ((lsN q.r1 N).map nI)[k]? = some (.int .i64 (((q.r1 + k) % 16 : Nat) : Int)) := by
          rw [List.getElem?_map, List.getElem?_eq_getElem (by rw [HLNL.out]; exact hlt)]
          have h1 := HLN.out k hlt
          rw [List.getD_eq_getElem?_getD, List.getElem?_eq_getElem (by rw [HLNL.out]; exact hlt)] at h1
          exact congrArg (fun z : Nat => some (Value.int .i64 (z : Int))) h1
        rw [hval] at hcell
        clear hval
        have hreg := HREG.out wr ((q.r1 + k) % 16) (HE.out wr (bel0 HB2.out HB3.out)) (Nat.mod_lt _ (by decide))
        have hx16 : ((((q.r1 + k) % 16 : Nat)) : Int) < 16 := by omega
        have HLK := Lib.hid (HLW.out k)
        generalize (q.r1 + k) % 16 = x at hcell hreg hx16 HLK
        generalize R x = y at hreg HLK
        go_wp2_with (at_builtin; refine wpList_append_own _ rfl _ _ 153 rfl w2.heap.size 26 i0 (.int .u32 0) 1 4 Tryz.underlying153 hi hz0 hz1 hz2 rfl (by decide) _ k _ rfl (HO.out.alloc _) ⟨wr.heap.size, 0, none⟩ 1 1 [_] rfl rfl (cellNew _ _ _) (by intro u hu; simp at hu; subst hu; rfl) (by unfold maxLen; omega) (by omega) (by have := HB3.out.size; simp; omega) ?_)
        intro v' w3 hown' hgrow _
        have hb1 := (HB3.out.alloc HB3.out.size _).grown hgrow (by have := HB3.out.size; simp; omega) (fun r hr => (HO.out.lt r hr).1)
        have HO2 : Hid (w3.ownsRow w2.heap.size 26 1 v' (k + 1) ((lsW R q.r1 (k + 1)).map (Value.int .u32))) := Lib.hid (by
          rw [HLK.out, List.map_append]
          exact hown')
        have HB4 := Lib.hid hb1
        clear hgrow hown' hb1 HO HB3 hreg hcell HLK
        go_wp2
        go_roundw
        case rel => exact ⟨k + 1, hlt, by go_num, HO2.out, HB4.out⟩
        case measure => simp [intOf]; omega
      · obtain rfl : k = N := by omega
        obtain ⟨B3, cp3, rfl, hB3, hcp3, hrow3⟩ := own_some HO.out (by omega) (by rw [List.length_map]; exact HL.out.2)
        have HFU := Lib.hid (fullBytes_any (lsW R q.r1 k) B3 k cp3 wr HW4.out (by omega) hN2 HL.out.2 hrow3)
        clear hrow3 HO
        go_wp2_with fail
        refine HFU.out.mono ?_
        rintro e w4 ⟨B4, rfl, hB4, hb4, hc4⟩
        have HB4 := Lib.hid (bel0 (bel0 HB2.out HB3.out) hb4)
        have HSV := Lib.hid (fb_sv HL.out.2 hN2 HM.out hc4)
        clear hB4 hb4 hc4 HFU
        go_wp2_with fail
        refine (HP2.out w4 _ (HE.out _ HB4.out) (HS.out _ HB4.out) HSV.out).mono ?_
        rintro e w5 ⟨he, h5, hs5, hk5⟩
        have HX5 := Lib.hid (And.intro h5 (And.intro hs5 hk5))
        have HKK := Lib.hid ((Kp.bel HB4.out : Kp w w4 [E, g]).trans (Kp.more2 hk5))
        clear h5 hs5 hk5 HP2
        rcases he with ⟨hC, rfl⟩ | ⟨hC, rfl⟩
        · go_wp2
          go_end0
          exact ⟨.inl ⟨hC, rfl, HX5.out.2.1, HX5.out.1⟩, HKK.out⟩
        · have HS6 := Lib.hid (show Sto w5 A g h n m bs ks by have h1 := HX5.out.2.1; rw [HNB.out hC] at h1; exact h1)
          unfold Stop
          go_wp2
          exact ⟨rfl, .inr ⟨hC, rfl, HS6.out⟩, HKK.out⟩
  · rw [if_neg ha] at ha0
    rw [if_neg ha, if_neg ha]
    have HA := Lib.hid ha0
    clear ha0 ha
    generalize adT q R = a at *
    clear hx hR hq hlt HP HLS HE HREG HLW HLN HLNL HC HM HL HG HW4
    go_enter Tryz.func66, Tryz.ntmps66
    go_wp2_with fail
    refine HA.out.mono ?_
    rintro e w1 ⟨hb, ⟨hn, -⟩ | ⟨-, rfl⟩⟩
    · exact absurd hn (by decide)
    have HB := Lib.hid hb
    clear hb HA
    unfold Stop
    go_wp2
    exact ⟨rfl, .inr ⟨by decide, rfl, HS.out _ HB.out⟩, Kp.bel HB.out⟩

end M
end Go.Proofs.YtfopjnfphlkcgaaGreat
namespace Go.Proofs.YtfopjnfphlkcgaaGreat
open Go.RowKit Go.Shelf E
set_option linter.unusedVariables false
namespace M

theorem wrap_four (k : Nat) (h : k < 4294967296) : IntKind.i64.wrap (4 * (k : Int)) = 4 * (k : Int) := by
  simp [IntKind.wrap, IntKind.bits, IntKind.signed]
  omega
set_option maxRecDepth 100000 in
set_option maxHeartbeats 1000000 in
theorem loadMany_any (E A : Nat) (q : Qn) (R : Nat → Int) (p : Psw) (c : Int) (g h n m : Nat) (bs ks : List UInt8) (w : World) (hx : Ex w E A q R p c) (hs : Sto w A g h n m bs ks) (hR : RegOk R) (hq : QOk q) : Calls Tryz.prog 65 #[.pointer (some ⟨E, 0, none⟩)] w (RegPost w E A q (lmC q R p n ks) (lmR R (subL bs (adT q R) (4 * lsC q.r1 q.r2)) q.r1 (lsC q.r1 q.r2)) p c) := by
  have hlt := adT_lt q R
  have HC := Lib.hid (lsC_bd hq.r1 hq.r2)
  have ha0 := aligned4 E A q R p c w hx hR hq
  have HLS := Lib.hid (fun X (hX : Below w.heap.size w X) => listed_any E A q R p c X (hx.below hX) hq.r1 hq.r2)
  have HE := Lib.hid (fun X (hX : Below w.heap.size w X) => hx.below hX)
  have hEw := hx.lt
  have HFO := Lib.hid (fun X (hX : Below w.heap.size w X) (h0 : codeV (ftP p.k) n ks (adT q R : Int) ((4 * lsC q.r1 q.r2 : Nat) : Int) = 0) => fetch_ok E A q R p c g h n m bs ks (adT q R) (4 * lsC q.r1 q.r2) X (hx.below hX) (hs.below hX) (by omega) h0)
  have HFN := Lib.hid (fun X (hX : Below w.heap.size w X) (h0 : codeV (ftP p.k) n ks (adT q R : Int) ((4 * lsC q.r1 q.r2 : Nat) : Int) ≠ 0) => fetch_no E A q R p c g h n m bs ks (adT q R) (4 * lsC q.r1 q.r2) _ h0 X (hx.below hX) (hs.below hX) (by omega) rfl)
  have HLEN := Lib.hid (fun (h0 : codeV (ftP p.k) n ks (adT q R : Int) ((4 * lsC q.r1 q.r2 : Nat) : Int) = 0) => code_len (bs := bs) hs.2.2.2.1 h0)
  have HLN := Lib.hid (fun k (hk : k < lsC q.r1 q.r2) => lsN_get q.r1 (lsC q.r1 q.r2) k hk)
  have HLNL := Lib.hid (lsN_len q.r1 (lsC q.r1 q.r2))
  unfold lmC
  by_cases ha : adT q R % 4 = 0
  · rw [if_pos ha] at ha0
    rw [if_pos ha]
    have HA := Lib.hid ha0
    clear ha0 ha
    have HBYT := Lib.hid (rfl : subL bs (adT q R) (4 * lsC q.r1 q.r2) = subL bs (adT q R) (4 * lsC q.r1 q.r2))
    generalize codeV (ftP p.k) n ks (adT q R : Int) ((4 * lsC q.r1 q.r2 : Nat) : Int) = C2 at HFO HFN HLEN ⊢
    clear HBYT
    generalize subL bs (adT q R) (4 * lsC q.r1 q.r2) = bb at HFO HLEN ⊢
    generalize adT q R = a at *
    generalize lsC q.r1 q.r2 = N at *
    obtain ⟨hN1, hN2⟩ := HC.out
    clear hx hs hR hq hlt HC
    have HN4 := Lib.hid (show 4 * (N : Int) = ((4 * N : Nat) : Int) by omega)
    go_enter Tryz.func65, Tryz.ntmps65
    go_wp2_with fail
    refine HA.out.mono ?_
    rintro e w1 ⟨hb, ⟨-, rfl⟩ | ⟨hn, -⟩⟩
    rotate_left
    · exact absurd rfl hn
    have HB := Lib.hid hb
    clear hb HA
    go_wp2_with fail
    refine (HLS.out w1 HB.out).mono ?_
    rintro e w2 ⟨v2, rfl, ho, hb⟩
    obtain ⟨B2, cp2, rfl, hB2, hcp2, hrow⟩ := own_some ho (by omega) (by rw [List.length_map, HLNL.out])
    have HB2 := Lib.hid (bel0 HB.out hb)
    have HROW := Lib.hid hrow
    have HB2E := Lib.hid (show B2 ≠ E by have := HB.out.size; omega)
    clear ho hb HB HLS hrow
    by_cases h0 : C2 = 0
    · subst h0
      have HF1 := Lib.hid (HFO.out w2 HB2.out rfl)
      have hlen := HLEN.out rfl
      have HLE := Lib.hid hlen
      clear HFO HFN HLEN hlen
      go_wp2_with fail
      rw [HN4.out]
      refine HF1.out.mono ?_
      rintro e w3 ⟨v3, rfl, ho3, hb3⟩
      obtain ⟨B3, cp3, rfl, hl3, hcp3, hB3, hrow3, hby3⟩ := hold_some ho3 (by rw [HLE.out]; omega)
      rw [HLE.out] at hl3 hby3 ⊢
      have HB3 := Lib.hid (bel0 HB2.out hb3)
      have HROW2 := Lib.hid (HROW.out.below hb3)
      have HBY3 := Lib.hid hrow3
      have hB3E : B3 ≠ E := by have := HB2.out.size; omega
      have HB3E := Lib.hid hB3E
      have HFL : Hid (∀ X k, k < N → Kp w3 X [E] → Calls Tryz.prog 158 #[.slice (some ⟨B3, 0, none⟩) (4 * N) cp3, .int .i64 (4 * (k : Int))] X fun e w' => e = .returned (.tuple #[.int .u32 (fullN bb k), .bool true]) ∧ X = w') := Lib.hid (fun X k hk hX => by
        have hr := HBY3.out.kp hX (by simpa using hB3E)
        have hby : W.Bytes X B3 0 (4 * N) (byF bb) := fun j hj => by
          rw [Nat.zero_add, hr.cell j (by rw [bsU_len, HLE.out]; exact hj), bsU_get bb j (by rw [HLE.out]; exact hj)]
          rfl
        have h4 := W.wFull_yes B3 0 (4 * N) cp3 (4 * k) (byF bb) X (by omega) hl3 hby (byF_is bb (4 * N)) (by omega)
        rw [show ((4 * k : Nat) : Int) = 4 * (k : Int) by omega] at h4
        exact h4)
      clear ho3 hb3 hrow3 hby3 hB3 HF1 HROW HBY3
      go_wp2
      go_loopw [19] (fun i wr => ∃ k : Nat, k ≤ N ∧ i = .int .i64 (k : Int) ∧ Ex wr E A q (lmR R bb q.r1 k) p c ∧ Kp w3 wr [E]) (fun i _ => N - (intOf i).toNat)
      case atStart => exact ⟨0, Nat.zero_le _, by go_num, HE.out _ HB3.out, Kp.refl _ _⟩
      case round =>
        obtain ⟨k, hk, rfl, hxr, hkr⟩ := hrel
        by_cases hlt : k < N
        · have hlt' : (k : Int) < (N : Int) := by omega
          have hcell := (HROW2.out.kp hkr (by simpa using HB2E.out)).cell k (by rw [List.length_map, HLNL.out]; exact hlt)
          have hval : ((lsN q.r1 N).map nI)[k]? = some (.int .i64 (((q.r1 + k) % 16 : Nat) : Int)) := by
            rw [List.getElem?_map, List.getElem?_eq_getElem (by rw [HLNL.out]; exact hlt)]
            have h1 := HLN.out k hlt
            rw [List.getD_eq_getElem?_getD, List.getElem?_eq_getElem (by rw [HLNL.out]; exact hlt)] at h1
            exact congrArg (fun z : Nat => some (Value.int .i64 (z : Int))) h1
          rw [hval] at hcell
          clear hval
          have hx16 : ((((q.r1 + k) % 16 : Nat)) : Int) < 16 := by omega
          have HF2 : Hid (Calls Tryz.prog 158 #[.slice (some ⟨B3, 0, none⟩) (4 * N) cp3, .int .i64 (IntKind.i64.wrap (4 * (k : Int)))] wr.drew fun e w' => e = .returned (.tuple #[.int .u32 (fullN bb k), .bool true]) ∧ wr.drew = w') := Lib.hid (by
            rw [wrap_four k (by omega)]
            exact HFL.out wr.drew k hlt (hkr.trans (kp_drew wr _)))
          have cr := hxr.drew.reg (n := (q.r1 + k) % 16) (Nat.mod_lt _ (by decide))
          have fr := hxr.drew.fz (12 + (q.r1 + k) % 16)
          have HNX := Lib.hid (show ∀ v, Ex (wr.drew.setCell ⟨E, 12 + (q.r1 + k) % 16, none⟩ (.int .u32 v)) E A q (upd (lmR R bb q.r1 k) ((q.r1 + k) % 16) v) p c ∧ Kp w3 (wr.drew.setCell ⟨E, 12 + (q.r1 + k) % 16, none⟩ (.int .u32 v)) [E] from fun v => ⟨hxr.drew.setReg (Nat.mod_lt _ (by decide)) v, (hkr.trans (kp_drew wr _)).trans (kp_set _ _ _ _ _ (by simp))⟩)
          have HLK : Hid (lmR R bb q.r1 (k + 1) = upd (lmR R bb q.r1 k) ((q.r1 + k) % 16) (fullN bb k)) := Lib.hid rfl
          generalize (lmR R bb q.r1 k) ((q.r1 + k) % 16) = u at cr
          generalize (q.r1 + k) % 16 = x at hcell cr fr hx16 HLK HNX
          generalize fullN bb k = y at HF2 HLK
          have HKD := Lib.hid (hkr.trans (kp_drew wr [E]))
          clear hxr hkr HFL
          go_wp2_with fail
          refine wp_region_held_drew (S := fun W => Kp w3 W [E]) (by kernel_rfl) HKD.out (fun k0 => ?_)
          show wpAnyH _ _ _ _ _ 13 #[false, false, false, false, false, false, false, false, false, false, false, false, false] _ _
          refine wpAnyH_take (i := 0) (oi := ⟨some 25, _, _, _, _, _⟩) (v := .pointer (some ⟨E, 0, none⟩)) rfl (by kernel_rfl) (by kernel_rfl) (by kernel_rfl) (fun _ _ _ h => h) (Or.inl ⟨by rfl, fun W hSw => by (try dsimp only at hSw); go_simp⟩) k0 ?_
          try simp only [Act.put, List.setIfInBounds_toArray, List.set_cons_zero, List.set_cons_succ]
          refine wpAnyH_take (i := 1) (oi := ⟨some 26, _, _, _, _, _⟩) (v := .int .i64 (x : Int)) rfl (by kernel_rfl) (by kernel_rfl) (by kernel_rfl) (fun _ _ _ h => h) (Or.inl ⟨by rfl, fun W hSw => by (try dsimp only at hSw); go_simp⟩) k0 ?_
          try simp only [Act.put, List.setIfInBounds_toArray, List.set_cons_zero, List.set_cons_succ]
          refine wpAnyH_take (i := 2) (oi := ⟨some 27, _, _, _, _, _⟩) (v := .slice (some ⟨B3, 0, none⟩) (4 * N) cp3) rfl (by kernel_rfl) (by kernel_rfl) (by kernel_rfl) (fun _ _ _ h => h) (Or.inl ⟨by rfl, fun W hSw => by (try dsimp only at hSw); go_simp⟩) k0 ?_
          try simp only [Act.put, List.setIfInBounds_toArray, List.set_cons_zero, List.set_cons_succ]
          refine wpAnyH_take (i := 3) (oi := ⟨some 28, _, _, _, _, _⟩) (v := .int .i64 (k : Int)) rfl (by kernel_rfl) (by kernel_rfl) (by kernel_rfl) (fun _ _ _ h => h) (Or.inl ⟨by rfl, fun W hSw => by (try dsimp only at hSw); go_simp⟩) k0 ?_
          try simp only [Act.put, List.setIfInBounds_toArray, List.set_cons_zero, List.set_cons_succ]
          refine wpAnyH_take (i := 4) (oi := ⟨some 29, _, _, _, _, _⟩) (v := .int .i64 (IntKind.i64.wrap (4 * (k : Int)))) rfl (by kernel_rfl) (by kernel_rfl) (by kernel_rfl) (fun _ _ _ h => h) (Or.inl ⟨by rfl, fun W hSw => by (try dsimp only at hSw); go_simp⟩) k0 ?_
          try simp only [Act.put, List.setIfInBounds_toArray, List.set_cons_zero, List.set_cons_succ]
          refine wpAnyH_take (i := 9) (oi := ⟨some 33, _, _, _, _, _⟩) (v := .pointer (some ⟨E, 0, none⟩)) rfl (by kernel_rfl) (by kernel_rfl) (by kernel_rfl) (fun _ _ _ h => h) (Or.inl ⟨by rfl, fun W hSw => by (try dsimp only at hSw); go_simp⟩) k0 ?_
          try simp only [Act.put, List.setIfInBounds_toArray, List.set_cons_zero, List.set_cons_succ]
          refine wpAnyH_take (i := 10) (oi := ⟨some 34, _, _, _, _, _⟩) (v := .pointer (some ⟨E, 12, none⟩)) rfl (by kernel_rfl) (by kernel_rfl) (by kernel_rfl) (fun _ _ _ h => h) (Or.inl ⟨by rfl, fun W hSw => by (try dsimp only at hSw); go_simp⟩) k0 ?_
          try simp only [Act.put, List.setIfInBounds_toArray, List.set_cons_zero, List.set_cons_succ]
          refine wpAnyH_ready (rs := [5]) (by kernel_rfl) (by simp) ?_
          refine AllReadyH.cons (o := ⟨some 30, _, _, _, _, _⟩) rfl (fun K hK => ?_) AllReadyH.nil
          go_simp
          go_at_call 158
          refine HF2.out.mono ?_
          rintro e x1 ⟨rfl, rfl⟩
          go_wp2_with fail
          refine hK.out _ _ k0 (fun k1 => ?_)
          clear hK K
          try simp only [List.setIfInBounds_toArray, List.set_cons_zero, List.set_cons_succ]
          refine wpAnyH_take (i := 6) (oi := ⟨some 24, _, _, _, _, _⟩) (v := .tuple #[.int .u32 y, .bool true]) rfl (by kernel_rfl) (by kernel_rfl) (by kernel_rfl) (fun _ _ _ h => h) (Or.inl ⟨by rfl, fun W hSw => by (try dsimp only at hSw); go_simp⟩) k1 ?_
          try simp only [Act.put, List.setIfInBounds_toArray, List.set_cons_zero, List.set_cons_succ]
          refine wpAnyH_take (i := 7) (oi := ⟨some 31, _, _, _, _, _⟩) (v := .int .u32 y) rfl (by kernel_rfl) (by kernel_rfl) (by kernel_rfl) (fun _ _ _ h => h) (Or.inl ⟨by rfl, fun W hSw => by (try dsimp only at hSw); go_simp⟩) k1 ?_
          try simp only [Act.put, List.setIfInBounds_toArray, List.set_cons_zero, List.set_cons_succ]
          refine wpAnyH_take (i := 8) (oi := ⟨some 32, _, _, _, _, _⟩) (v := .bool true) rfl (by kernel_rfl) (by kernel_rfl) (by kernel_rfl) (fun _ _ _ h => h) (Or.inl ⟨by rfl, fun W hSw => by (try dsimp only at hSw); go_simp⟩) k1 ?_
          try simp only [Act.put, List.setIfInBounds_toArray, List.set_cons_zero, List.set_cons_succ]
          refine wpAnyH_take (i := 11) (oi := ⟨some 35, _, _, _, _, _⟩) (v := .pointer (some ⟨E, 12 + x, none⟩)) rfl (by kernel_rfl) (by kernel_rfl) (by kernel_rfl) (fun _ _ _ h => h) (Or.inl ⟨by rfl, fun W hSw => by (try dsimp only at hSw); go_simp⟩) k1 ?_
          try simp only [Act.put, List.setIfInBounds_toArray, List.set_cons_zero, List.set_cons_succ]
          refine wpAnyH_ready (rs := [12]) (by kernel_rfl) (by simp) ?_
          refine AllReadyH.cons (o := ⟨none, _, _, _, _, _⟩) rfl (fun K hK => ?_) AllReadyH.nil
          go_simp
          refine hK.out _ _ (HNX.out y).2 (fun k2 => ?_)
          clear hK K
          try simp only [List.setIfInBounds_toArray, List.set_cons_zero, List.set_cons_succ]
          refine wpAnyH_done (by kernel_rfl) ?_ _
          refine id ?_
          clear k0 k1 k2 HF2
          go_wp2
          go_roundw
          case rel => exact ⟨k + 1, hlt, by go_num, by rw [HLK.out]; exact (HNX.out y).1, (HNX.out y).2⟩
          case measure => simp [intOf]; omega
        · obtain rfl : k = N := by omega
          have HX := Lib.hid hxr
          have HK := Lib.hid ((Kp.bel HB3.out : Kp w w3 [E]).trans hkr)
          clear hxr hkr
          go_wp2
          go_end0
          exact .inr ⟨rfl, rfl, HX.out, HK.out⟩
    · have HF1 := Lib.hid (HFN.out w2 HB2.out h0)
      clear HFO HFN HLEN
      go_wp2_with fail
      rw [HN4.out]
      refine HF1.out.mono ?_
      rintro e w3 ⟨rfl, hb3⟩
      have HB3 := Lib.hid (bel0 HB2.out hb3)
      clear hb3 HF1
      unfold Stop
      go_wp2
      exact ⟨rfl, .inl ⟨h0, rfl, Kp.bel HB3.out⟩⟩
  · rw [if_neg ha] at ha0
    rw [if_neg ha]
    have HA := Lib.hid ha0
    clear ha0 ha
    clear hx hR hq hlt HLS HE HFO HFN HLEN HLN HLNL HC
    generalize adT q R = a at *
    go_enter Tryz.func65, Tryz.ntmps65
    go_wp2_with fail
    refine HA.out.mono ?_
    rintro e w1 ⟨hb, ⟨hn, -⟩ | ⟨-, rfl⟩⟩
    · exact absurd hn (by decide)
    have HB := Lib.hid hb
    clear hb HA
    unfold Stop
    go_wp2
    exact ⟨rfl, .inl ⟨by decide, rfl, Kp.bel HB.out⟩⟩
theorem runs_144 (q : Qn) (R : Nat → Int) (p : Psw) (n : Nat) (bs ks : List UInt8) (hR : RegOk R) (hq : QOk q) (hop : q.op = 144) : Runs q R p n bs ks (regO (stmC q R p n ks) R p 0 (stmB q R p n bs ks)) :=
  ⟨regO_stop, 66, enters_of Tryz.func66 (by kernel_rfl) rfl, fun X => by rw [hop]; exact action_144 X, fun E A g h m X hX hsX => by
    exact (storeMany_any E A q R p 0 g h n m bs ks X hX hsX hR hq).mono fun e X' hp => act_of_sto hp⟩
theorem runs_152 (q : Qn) (R : Nat → Int) (p : Psw) (n : Nat) (bs ks : List UInt8) (hR : RegOk R) (hq : QOk q) (hop : q.op = 152) : Runs q R p n bs ks (regO (lmC q R p n ks) (lmR R (subL bs (adT q R) (4 * lsC q.r1 q.r2)) q.r1 (lsC q.r1 q.r2)) p 0 bs) :=
  ⟨regO_stop, 65, enters_of Tryz.func65 (by kernel_rfl) rfl, fun X => by rw [hop]; exact action_152 X, fun E A g h m X hX hsX => by
    exact (loadMany_any E A q R p 0 g h n m bs ks X hX hsX hR hq).mono fun e X' hp => act_of_reg hX hsX hp⟩

end M
end Go.Proofs.YtfopjnfphlkcgaaGreat

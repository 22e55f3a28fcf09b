/- The walk of the statement GeneralSwaps. -/
import Derived.Test.YtfopjnfphlkcgaaGreatRows
import Derived.Deep.MidRow
import Derived.Deep.Slices
import Derived.Test.YtfopjnfphlkcgaaGreatGnFs
import Derived.Test.YtfopjnfphlkcgaaGreatGnMe
import Derived.Test.YtfopjnfphlkcgaaGreatGnWorks
import Derived.Test.YtfopjnfphlkcgaaGreatPsLaid
namespace Go.Proofs.YtfopjnfphlkcgaaGreat
open Go.RowKit Go.Shelf E
set_option linter.unusedVariables false
namespace M

theorem cut_mk {f : (Nat → Value) → Act} {a : Act} (h : a = f (fun i => a.tmps.getD i undef)) : ∃ u, a = f u := ⟨_, h⟩
theorem byt_of {bs l : List UInt8} {x k : Nat} (h : x + k ≤ 2048) (hs : subL bs x k = l) : bytL 2048 bs (x : Int) (k : Int) = l := by
  unfold bytL
  rw [if_pos (inB_iff.2 ⟨by omega, by omega, by omega⟩), Int.toNat_natCast, Int.toNat_natCast]
  exact hs
theorem byts_any (A g h : Nat) (ks : List UInt8) (bs l : List UInt8) (x k : Nat) (X : World) (hX : Sto X A g h 2048 1 bs ks) (hk : x + k ≤ 2048) (hs : subL bs x k = l) : Calls Tryz.prog 20 #[.pointer (some ⟨A, 0, none⟩), .int .i64 (x : Int), .int .i64 (k : Int)] X (BytPost X l) := by
  have h1 := bytes_any A g h 2048 1 (x : Int) (k : Int) bs ks X (by omega) hX
  rw [byt_of hk hs] at h1
  exact h1
theorem exec_st {P : Program} {o : Oper} {a : Act} {w w' : World} (t : TypeId) (x y : Operand) (hop : o.op = Op.store t x y) (ad : Addr) (hp : a.eval x = .pointer (some ad)) (v : Value) (hv : a.eval y = v) (hs : (storeVar t ad v).run P w = .ok () w') : (execOp a.eval o).run P w = .ok .skip w' := by
  simp [execOp, hop, hp, hv, Instr.storeAt, Instr.sureAddr, hs, Result.andThen]
theorem sv_first {w : World} {p : Option Addr} {n c : Nat} {l : List UInt8} (h : SvB w (.slice p n c) l) (hn : 1 ≤ l.length) : ∃ B o, p = some ⟨B, o, none⟩ ∧ w.cell? ⟨B, o, none⟩ = some (.int .u8 ((gt l 0).toNat : Int)) := by
  obtain ⟨q, d, hv, hr, -, -, -⟩ := h
  cases hv
  rcases hr with h0 | ⟨B, o, rfl, hc⟩
  · rw [h0] at hn
    exact absurd hn (by decide)
  · have := hc 0 (by omega)
    rw [Nat.add_zero] at this
    exact ⟨B, o, rfl, this⟩
theorem gt_rep {n k : Nat} {x : UInt8} (h : k < n) : gt (List.replicate n x) k = x := by
  unfold gt
  simp [List.getD_eq_getElem?_getD, h]
/-- The second operand: as many bytes as the first one has. -/
def cL (l : List UInt8) (n k : Nat) : List UInt8 := (List.range n).map fun j => if j < k then gt l j else 0
theorem cL_len (l : List UInt8) (n k : Nat) : (cL l n k).length = n := by simp [cL]
theorem gt_cL {l : List UInt8} {n k j : Nat} (hj : j < n) : gt (cL l n k) j = if j < k then gt l j else 0 := by
  unfold cL
  show List.getD _ _ _ = _
  rw [List.getD_eq_getElem?_getD, List.getElem?_map, List.getElem?_range hj]
  rfl
theorem cL_zero (l : List UInt8) (n : Nat) : cL l n 0 = List.replicate n 0 := by
  refine ext_gt (by rw [cL_len, List.length_replicate]) (fun j hj => ?_)
  rw [List.length_replicate] at hj
  rw [gt_cL hj, if_neg (Nat.not_lt_zero _), gt_rep hj]
theorem cL_step {l : List UInt8} {n k : Nat} (hk : k < n) : (cL l n k).set k (gt l k) = cL l n (k + 1) := by
  refine ext_gt (by rw [List.length_set, cL_len, cL_len]) (fun j hj => ?_)
  rw [cL_len] at hj
  rw [gt_set _ _ _ _ (by rw [cL_len]; exact hk), gt_cL hj, gt_cL hj]
  by_cases h : k = j
  · subst h
    rw [if_pos rfl, if_pos (Nat.lt_succ_self _)]
  · rw [if_neg h]
    by_cases h2 : j < k
    · rw [if_pos h2, if_pos (by omega)]
    · rw [if_neg h2, if_neg (by omega)]
theorem cL_end {l : List UInt8} {n k : Nat} (h : n ≤ k ∨ l.length ≤ k) : cL l n k = cL l n n := by
  refine ext_gt (by rw [cL_len, cL_len]) (fun j hj => ?_)
  rw [cL_len] at hj
  rw [gt_cL hj, gt_cL hj, if_pos hj]
  by_cases h2 : j < k
  · rw [if_pos h2]
  · rw [if_neg h2]
    unfold gt
    rw [List.getD_eq_getElem?_getD, List.getElem?_eq_none (by omega)]
    rfl
theorem u8_x1 (x y : UInt8) : y ^^^ (x ^^^ y) = x := by
  apply UInt8.eq_of_toBitVec_eq
  simp only [UInt8.toBitVec_xor]
  ext i
  simp
  cases x.toBitVec[i] <;> cases y.toBitVec[i] <;> rfl
theorem u8_x2 (x y : UInt8) : (x ^^^ y) ^^^ x = y := by
  apply UInt8.eq_of_toBitVec_eq
  simp only [UInt8.toBitVec_xor]
  ext i
  simp
  cases x.toBitVec[i] <;> cases y.toBitVec[i] <;> rfl
/-- What the three instructions leave. -/
theorem swaps_exec (l lc : List UInt8) (n : Nat) (ks : List UInt8) (hl : l.length = n) (hc : lc.length = n) (hn : 1 ≤ n) (hn2 : n ≤ 256) : ∃ (b1 b2 b3 : List UInt8) (c1 c2 c3 : Int), subL b3 100 n = lc ∧ subL b3 1000 n = l ∧
    (∀ A g h m w, Sto w A g h 2048 m (E.putL (E.putL (List.replicate 2048 0) 100 l) 1000 lc) ks → Calls Tryz.prog 17 #[.agg #[.int .i64 215, .int .i64 5, .int .i64 0, .int .i64 0, .int .i64 0, .int .i64 14, .int .i64 0, .int .i64 15, .int .i64 0, .int .i64 ((n : Int) - 1), .int .i64 0, .int .i64 0], .agg #[.int .u32 0, .int .u32 0, .int .u32 0, .int .u32 0, .int .u32 0, .int .u32 0, .int .u32 0, .int .u32 0, .int .u32 0, .int .u32 0, .int .u32 0, .int .u32 0, .int .u32 0, .int .u32 0, .int .u32 100, .int .u32 1000], .agg #[.int .i64 0, .int .i64 0, .bool false, .bool false, .bool false, .int .i64 0, .int .i64 0, .int .i64 0, .int .i64 0, .int .i64 0], .pointer (some ⟨A, 0, none⟩)] w fun e w' => e = .returned (.tuple #[.agg #[.int .u32 0, .int .u32 0, .int .u32 0, .int .u32 0, .int .u32 0, .int .u32 0, .int .u32 0, .int .u32 0, .int .u32 0, .int .u32 0, .int .u32 0, .int .u32 0, .int .u32 0, .int .u32 0, .int .u32 100, .int .u32 1000], .agg #[.int .i64 0, .int .i64 0, .bool false, .bool false, .bool false, .int .i64 0, .int .i64 0, .int .i64 c1, .int .i64 0, .int .i64 0], .int .i64 0]) ∧ Sto w' A g h 2048 m b1 ks ∧ Kp w w' [g]) ∧
    (∀ A g h m w, Sto w A g h 2048 m b1 ks → Calls Tryz.prog 17 #[.agg #[.int .i64 215, .int .i64 5, .int .i64 0, .int .i64 0, .int .i64 0, .int .i64 14, .int .i64 0, .int .i64 15, .int .i64 0, .int .i64 ((n : Int) - 1), .int .i64 0, .int .i64 0], .agg #[.int .u32 0, .int .u32 0, .int .u32 0, .int .u32 0, .int .u32 0, .int .u32 0, .int .u32 0, .int .u32 0, .int .u32 0, .int .u32 0, .int .u32 0, .int .u32 0, .int .u32 0, .int .u32 0, .int .u32 1000, .int .u32 100], .agg #[.int .i64 0, .int .i64 0, .bool false, .bool false, .bool false, .int .i64 0, .int .i64 0, .int .i64 0, .int .i64 0, .int .i64 0], .pointer (some ⟨A, 0, none⟩)] w fun e w' => e = .returned (.tuple #[.agg #[.int .u32 0, .int .u32 0, .int .u32 0, .int .u32 0, .int .u32 0, .int .u32 0, .int .u32 0, .int .u32 0, .int .u32 0, .int .u32 0, .int .u32 0, .int .u32 0, .int .u32 0, .int .u32 0, .int .u32 1000, .int .u32 100], .agg #[.int .i64 0, .int .i64 0, .bool false, .bool false, .bool false, .int .i64 0, .int .i64 0, .int .i64 c2, .int .i64 0, .int .i64 0], .int .i64 0]) ∧ Sto w' A g h 2048 m b2 ks ∧ Kp w w' [g]) ∧
    (∀ A g h m w, Sto w A g h 2048 m b2 ks → Calls Tryz.prog 17 #[.agg #[.int .i64 215, .int .i64 5, .int .i64 0, .int .i64 0, .int .i64 0, .int .i64 14, .int .i64 0, .int .i64 15, .int .i64 0, .int .i64 ((n : Int) - 1), .int .i64 0, .int .i64 0], .agg #[.int .u32 0, .int .u32 0, .int .u32 0, .int .u32 0, .int .u32 0, .int .u32 0, .int .u32 0, .int .u32 0, .int .u32 0, .int .u32 0, .int .u32 0, .int .u32 0, .int .u32 0, .int .u32 0, .int .u32 100, .int .u32 1000], .agg #[.int .i64 0, .int .i64 0, .bool false, .bool false, .bool false, .int .i64 0, .int .i64 0, .int .i64 0, .int .i64 0, .int .i64 0], .pointer (some ⟨A, 0, none⟩)] w fun e w' => e = .returned (.tuple #[.agg #[.int .u32 0, .int .u32 0, .int .u32 0, .int .u32 0, .int .u32 0, .int .u32 0, .int .u32 0, .int .u32 0, .int .u32 0, .int .u32 0, .int .u32 0, .int .u32 0, .int .u32 0, .int .u32 0, .int .u32 100, .int .u32 1000], .agg #[.int .i64 0, .int .i64 0, .bool false, .bool false, .bool false, .int .i64 0, .int .i64 0, .int .i64 c3, .int .i64 0, .int .i64 0], .int .i64 0]) ∧ Sto w' A g h 2048 m b3 ks ∧ Kp w w' [g]) := by
  have hZ : (List.replicate 2048 (0 : UInt8)).length = 2048 := List.length_replicate ..
  obtain ⟨b00, hb00⟩ : ∃ b, b = E.putL (List.replicate 2048 0) 100 l := ⟨_, rfl⟩
  have l00 : b00.length = 2048 := by rw [hb00, E.putL_len (by omega), hZ]
  obtain ⟨b0, hb0⟩ : ∃ b, b = E.putL b00 1000 lc := ⟨_, rfl⟩
  have l0 : b0.length = 2048 := by rw [hb0, E.putL_len (by omega), l00]
  have s0 : subL b0 1000 n = lc := by rw [hb0]; exact subL_at hc (by omega)
  have s1 : subL b0 100 n = l := by rw [hb0, subL_far (by omega) (by omega) (by omega), hb00]; exact subL_at hl (by omega)
  obtain ⟨F1, hF1⟩ : ∃ F, F = ssF 215 n 100 1000 b0 := ⟨_, rfl⟩
  have lF1 : F1.length = n := by rw [hF1]; exact ssF_len (by omega)
  have g1 : ∀ j, j < n → gt F1 j = gt l j ^^^ gt lc j := fun j hj => by
    rw [hF1, ssF_xor (by omega) (by omega) (by omega) j hj, s0, s1]
  obtain ⟨b1, hb1⟩ : ∃ b, b = E.putL b0 100 F1 := ⟨_, rfl⟩
  have l1 : b1.length = 2048 := by rw [hb1, E.putL_len (by omega), l0]
  have s2 : subL b1 100 n = F1 := by rw [hb1]; exact subL_at lF1 (by omega)
  have s3 : subL b1 1000 n = lc := by rw [hb1, subL_far (by omega) (by omega) (by omega), s0]
  have f2 : ssF 215 n 1000 100 b1 = l := by
    refine ext_gt (by rw [ssF_len (by omega), hl]) (fun j hj => ?_)
    rw [hl] at hj
    rw [ssF_xor (by omega) (by omega) (by omega) j hj, s2, s3, g1 j hj]
    exact u8_x1 _ _
  obtain ⟨b2, hb2⟩ : ∃ b, b = E.putL b1 1000 l := ⟨_, rfl⟩
  have l2 : b2.length = 2048 := by rw [hb2, E.putL_len (by omega), l1]
  have s4 : subL b2 1000 n = l := by rw [hb2]; exact subL_at hl (by omega)
  have s5 : subL b2 100 n = F1 := by rw [hb2, subL_far (by omega) (by omega) (by omega), s2]
  have f3 : ssF 215 n 100 1000 b2 = lc := by
    refine ext_gt (by rw [ssF_len (by omega), hc]) (fun j hj => ?_)
    rw [hc] at hj
    rw [ssF_xor (by omega) (by omega) (by omega) j hj, s4, s5, g1 j hj]
    exact u8_x2 _ _
  obtain ⟨b3, hb3⟩ : ∃ b, b = E.putL b2 100 lc := ⟨_, rfl⟩
  have s6 : subL b3 100 n = lc := by rw [hb3]; exact subL_at hc (by omega)
  have s7 : subL b3 1000 n = l := by rw [hb3, subL_far (by omega) (by omega) (by omega), s4]
  refine ⟨b1, b2, b3, ccB F1, ccB l, ccB lc, s6, s7, ?_, ?_, ?_⟩
  · intro A g h m w hst
    rw [← hb00, ← hb0] at hst
    have h1 := ss_exec 215 n 100 1000 0 b0 ks (.inr rfl) hn hn2 (by omega) (by omega) l0 (by kernel_rfl) A g h m w hst
    rw [if_pos rfl, ← hF1, ← hb1] at h1
    exact h1
  · intro A g h m w hst
    have h1 := ss_exec 215 n 1000 100 0 b1 ks (.inr rfl) hn hn2 (by omega) (by omega) l1 (by kernel_rfl) A g h m w hst
    rw [if_pos rfl, f2, ← hb2] at h1
    exact h1
  · intro A g h m w hst
    have h1 := ss_exec 215 n 100 1000 0 b2 ks (.inr rfl) hn hn2 (by omega) (by omega) l2 (by kernel_rfl) A g h m w hst
    rw [if_pos rfl, f3, ← hb3] at h1
    exact h1
theorem sv_take {w : World} {p : Option Addr} {n c k : Nat} {l : List UInt8} (h : SvB w (.slice p n c) l) (hk : k ≤ l.length) : SvB w (.slice p k c) (l.take k) := by
  obtain ⟨q, d, hv, hr, h1, h2, h3⟩ := h
  cases hv
  have hl : (l.take k).length = k := by rw [List.length_take]; omega
  refine ⟨p, c, by rw [hl], ?_, by omega, h2, h3⟩
  rcases hr with h0 | ⟨B, o, rfl, hc⟩
  · subst h0
    exact .inl (by simp)
  · refine .inr ⟨B, o, rfl, fun j hj => ?_⟩
    rw [hl] at hj
    rw [hc j (by omega)]
    unfold gt
    rw [List.getD_eq_getElem?_getD, List.getD_eq_getElem?_getD, List.getElem?_take_of_lt hj]
theorem sv_le {w : World} {p : Option Addr} {n c : Nat} {l : List UInt8} (h : SvB w (.slice p n c) l) : n = l.length ∧ n ≤ c ∧ c ≤ 9223372036854775807 := by
  obtain ⟨q, d, hv, hr, h1, h2, h3⟩ := h
  cases hv
  exact ⟨rfl, h1, h2⟩
def swA (v v1 : Value) (u : Nat → Value) : Act := { tmps := #[v, v1, u 2, u 3, .bool false, u 5, u 6, u 7, u 8, u 9, u 10, u 11, u 12, u 13, u 14, u 15, u 16, u 17, u 18, u 19, u 20, u 21, u 22, u 23, u 24, u 25, u 26, u 27, u 28, u 29, u 30, u 31, u 32, u 33, u 34, u 35, u 36, u 37, u 38, u 39, u 40, u 41, u 42, u 43, u 44, u 45, u 46, u 47, u 48, u 49, u 50, u 51, u 52, u 53, u 54, u 55, u 56, u 57, u 58, u 59, u 60, u 61, u 62, u 63, u 64, u 65, u 66, u 67, u 68, u 69, u 70, u 71, u 72, u 73, u 74, u 75, u 76, u 77, u 78, u 79, u 80, u 81, u 82, u 83, u 84, u 85, u 86, u 87, u 88, u 89, u 90, u 91, u 92, u 93, u 94, u 95, u 96, u 97, u 98, u 99, u 100, u 101, u 102, u 103, u 104, u 105, u 106, u 107, u 108, u 109, u 110, u 111, u 112, u 113, u 114, u 115, u 116, u 117, u 118, u 119, u 120, u 121, u 122, u 123, u 124, u 125, u 126, u 127, u 128, u 129, u 130, u 131, u 132, u 133], defers := [] }
/-- The first operand: at least one byte; at most 256 bytes. -/
def SwP (M : Nat) (v1 : Value) (W : World) (e : Exit) (a : Act) (W' : World) : Prop := e = .normal ∧ ∃ (PB po n c : Nat) (l : List UInt8), (∃ u : Nat → Value, a = swA (.slice (some ⟨PB, po, none⟩) n c) v1 u) ∧ SvB W' (.slice (some ⟨PB, po, none⟩) n c) l ∧ n = l.length ∧ (1 ≤ n ∧ n ≤ M) ∧ Below W.heap.size W W'
def swB (BM n : Nat) (v v1 : Value) (u : Nat → Value) : Act := { tmps := #[v, v1, u 2, u 3, .bool false, .int .i64 (n : Int), .slice (some ⟨BM, 0, none⟩) n n, u 7, u 8, u 9, u 10, u 11, u 12, u 13, u 14, u 15, u 16, u 17, u 18, u 19, u 20, u 21, u 22, u 23, u 24, u 25, u 26, u 27, u 28, u 29, u 30, u 31, u 32, u 33, u 34, u 35, u 36, u 37, u 38, u 39, u 40, u 41, u 42, u 43, u 44, u 45, u 46, u 47, u 48, u 49, u 50, u 51, u 52, u 53, u 54, u 55, u 56, u 57, u 58, u 59, u 60, u 61, u 62, u 63, u 64, u 65, u 66, u 67, u 68, u 69, u 70, u 71, u 72, u 73, u 74, u 75, u 76, u 77, u 78, u 79, u 80, u 81, u 82, u 83, u 84, u 85, u 86, u 87, u 88, u 89, u 90, u 91, u 92, u 93, u 94, u 95, u 96, u 97, u 98, u 99, u 100, u 101, u 102, u 103, u 104, u 105, u 106, u 107, u 108, u 109, u 110, u 111, u 112, u 113, u 114, u 115, u 116, u 117, u 118, u 119, u 120, u 121, u 122, u 123, u 124, u 125, u 126, u 127, u 128, u 129, u 130, u 131, u 132, u 133], defers := [] }
/-- Behind the loop. -/
def SwQ (BM : Nat) (l1 : List UInt8) (n : Nat) (v v1 : Value) (W : World) (e : Exit) (a : Act) (W' : World) : Prop := e = .exit 0 ∧ (∃ u : Nat → Value, a = swB BM n v v1 u) ∧ Row W' BM 5 (bsU (cL l1 n n)) n ∧ Below W.heap.size W W'
set_option maxRecDepth 100000 in
set_option maxHeartbeats 40000000 in
theorem wk_swaps (v : Value) (l0 : List UInt8) (v1 : Value) (l1 : List UInt8) (w : World) (hv0 : SvB w v l0) (hv1 : SvB w v1 l1) : Calls Tryz.prog 10 #[v, v1] w (New w (.bool true)) := by
  go_enter Tryz.func10, Tryz.ntmps10
  refine wp_seq (Code.wp_mono (Q := fun e a W => Hid (e = .normal ∧ W = w ∧ a = { tmps := #[v, v1, undef, undef, .bool false, undef, undef, undef, undef, undef, undef, undef, undef, undef, undef, undef, undef, undef, undef, undef, undef, undef, undef, undef, undef, undef, undef, undef, undef, undef, undef, undef, undef, undef, undef, undef, undef, undef, undef, undef, undef, undef, undef, undef, undef, undef, undef, undef, undef, undef, undef, undef, undef, undef, undef, undef, undef, undef, undef, undef, undef, undef, undef, undef, undef, undef, undef, undef, undef, undef, undef, undef, undef, undef, undef, undef, undef, undef, undef, undef, undef, undef, undef, undef, undef, undef, undef, undef, undef, undef, undef, undef, undef, undef, undef, undef, undef, undef, undef, undef, undef, undef, undef, undef, undef, undef, undef, undef, undef, undef, undef, undef, undef, undef, undef, undef, undef, undef, undef, undef, undef, undef, undef, undef, undef, undef, undef, undef, undef, undef, undef, undef, undef, undef], defers := [] })) ?_ ?_)
  rotate_left
  · go_wp2
    exact Lib.hid trivial
  intro e a W hH
  obtain ⟨rfl, rfl, rfl⟩ := hH.out
  clear hH
  refine wp_seq (Code.wp_mono (Q := SwP 9223372036854775807 v1 W) ?_ ?_)
  rotate_left
  · obtain ⟨n, hn⟩ : ∃ n, n = l0.length := ⟨_, rfl⟩
    obtain ⟨p, c, hvv, -, -, -, -⟩ := id hv0
    subst hvv
    rw [← hn] at hv0 ⊢
    by_cases h0 : n = 0
    · subst h0
      clear hn hv0
      go_wp2
      unfold SwP
      exact ⟨rfl, W.heap.size, 0, 1, 1, [1], cut_mk rfl, svb_new W [1] (by decide), rfl, ⟨by decide, by decide⟩, below_new _ _⟩
    · have hle := sv_le hv0
      obtain ⟨PB, po, rfl, -⟩ := sv_first hv0 (by omega)
      have HV := Lib.hid hv0
      have HLN := Lib.hid hn
      have hz : ((n : Int) == 0) = false := by simpa using h0
      have HLE := Lib.hid hle
      clear hn hv0 hle
      go_wp2
      unfold SwP
      exact ⟨rfl, PB, po, n, c, l0, cut_mk rfl, HV.out, HLN.out, ⟨by omega, by have := HLE.out; omega⟩, Below.refl _ _⟩
  clear hv0
  intro e a W1 hH
  unfold SwP at hH
  obtain ⟨rfl, PB1, po1, n1, c1, la, ⟨u1, rfl⟩, hv, hn, ⟨hn1, hn2⟩, hb1⟩ := hH
  unfold swA
  have HV1 := Lib.hid (hv1.below hb1)
  have HB1 := Lib.hid hb1
  clear hv1 hb1
  refine wp_seq (Code.wp_mono (Q := SwP 256 v1 W1) ?_ ?_)
  rotate_left
  · have hle := sv_le hv
    by_cases h2 : n1 ≤ 256
    · have HV := Lib.hid hv
      have HLN := Lib.hid hn
      have h2' : ¬ (256 < (n1 : Int)) := by omega
      clear hn hv hle
      go_wp2
      unfold SwP
      exact ⟨rfl, PB1, po1, n1, c1, la, cut_mk rfl, HV.out, HLN.out, ⟨hn1, h2⟩, Below.refl _ _⟩
    · have HV := Lib.hid (sv_take (k := 256) hv (by omega))
      have HLN := Lib.hid (show 256 = (la.take 256).length by rw [List.length_take]; omega)
      have h2' : 256 < (n1 : Int) := by omega
      have hc1 : 256 ≤ c1 := by omega
      have hc1' : (256 : Int) ≤ (c1 : Int) := by omega
      have hc2' : (c1 : Int) ≤ 9223372036854775807 := by omega
      clear hn hv hle
      go_wp2
      unfold SwP
      exact ⟨rfl, PB1, po1, 256, c1, la.take 256, cut_mk rfl, HV.out, HLN.out, ⟨by decide, by decide⟩, Below.refl _ _⟩
  clear hv hn hn1 hn2
  intro e a W0 hH
  unfold SwP at hH
  obtain ⟨rfl, PB, po, n, c, l, ⟨u, rfl⟩, hv, hn, ⟨hn1, hn2⟩, hb0⟩ := hH
  unfold swA
  have HV := Lib.hid hv
  have HLN := Lib.hid hn
  have HVB := Lib.hid (HV1.out.below hb0)
  have HB0 := Lib.hid (bel0 HB1.out hb0)
  have hw1 : W.heap.size ≤ W0.heap.size := HB0.out.size
  obtain ⟨b1, b2, b3, cc1, cc2, cc3, s1, s2, h1, h2, h3⟩ := swaps_exec l (cL l1 n n) n (List.replicate 1 0) hn.symm (cL_len _ _ _) hn1 hn2
  have HE1 := Lib.hid h1
  have HE2 := Lib.hid h2
  have HE3 := Lib.hid h3
  clear h1 h2 h3 hv hn HV1 HB1 hb0
  have HNEW := Lib.hid (fun X => new_any 2048 X (by decide))
  have HW := Lib.hid (fun X => works_any X)
  have HSS1 : Hid (∀ X, Calls Tryz.prog 27 #[.int .i64 215, .int .i64 (n : Int)] X (New X (.agg #[.int .i64 215, .int .i64 5, .int .i64 0, .int .i64 0, .int .i64 0, .int .i64 14, .int .i64 0, .int .i64 15, .int .i64 0, .int .i64 ((n : Int) - 1), .int .i64 0, .int .i64 0]))) := Lib.hid (fun X => ss_any 215 n X hn1 hn2)
  have HSR1 : Hid (∀ (W : World) B x, Bx W B 28 x → x.size = 16 → (storeVar 28 ⟨B, 0, none⟩ (.agg #[.int .u32 0, .int .u32 0, .int .u32 0, .int .u32 0, .int .u32 0, .int .u32 0, .int .u32 0, .int .u32 0, .int .u32 0, .int .u32 0, .int .u32 0, .int .u32 0, .int .u32 0, .int .u32 0, .int .u32 100, .int .u32 1000])).run Tryz.prog W = .ok () (W.setRow B (regA (mvR 100 1000)))) := Lib.hid (fun W B x h hx => store_regs h hx (mvR 100 1000))
  have HSR2 : Hid (∀ (W : World) B x, Bx W B 28 x → x.size = 16 → (storeVar 28 ⟨B, 0, none⟩ (.agg #[.int .u32 0, .int .u32 0, .int .u32 0, .int .u32 0, .int .u32 0, .int .u32 0, .int .u32 0, .int .u32 0, .int .u32 0, .int .u32 0, .int .u32 0, .int .u32 0, .int .u32 0, .int .u32 0, .int .u32 1000, .int .u32 100])).run Tryz.prog W = .ok () (W.setRow B (regA (mvR 1000 100)))) := Lib.hid (fun W B x h hx => store_regs h hx (mvR 1000 100))
  have HSP1 : Hid (∀ (W : World) B x, Bx W B 30 x → x.size = 10 → (storeVar 30 ⟨B, 0, none⟩ (.agg #[.int .i64 0, .int .i64 0, .bool false, .bool false, .bool false, .int .i64 0, .int .i64 0, .int .i64 cc1, .int .i64 0, .int .i64 0])).run Tryz.prog W = .ok () (W.setRow B (pswA ⟨0, 0, false, false, false, 0, 0, cc1, 0, 0⟩))) := Lib.hid (fun W B x h hx => store_psw h hx ⟨0, 0, false, false, false, 0, 0, cc1, 0, 0⟩)
  have HSP2 : Hid (∀ (W : World) B x, Bx W B 30 x → x.size = 10 → (storeVar 30 ⟨B, 0, none⟩ (.agg #[.int .i64 0, .int .i64 0, .bool false, .bool false, .bool false, .int .i64 0, .int .i64 0, .int .i64 cc2, .int .i64 0, .int .i64 0])).run Tryz.prog W = .ok () (W.setRow B (pswA ⟨0, 0, false, false, false, 0, 0, cc2, 0, 0⟩))) := Lib.hid (fun W B x h hx => store_psw h hx ⟨0, 0, false, false, false, 0, 0, cc2, 0, 0⟩)
  have HSP3 : Hid (∀ (W : World) B x, Bx W B 30 x → x.size = 10 → (storeVar 30 ⟨B, 0, none⟩ (.agg #[.int .i64 0, .int .i64 0, .bool false, .bool false, .bool false, .int .i64 0, .int .i64 0, .int .i64 cc3, .int .i64 0, .int .i64 0])).run Tryz.prog W = .ok () (W.setRow B (pswA ⟨0, 0, false, false, false, 0, 0, cc3, 0, 0⟩))) := Lib.hid (fun W B x h hx => store_psw h hx ⟨0, 0, false, false, false, 0, 0, cc3, 0, 0⟩)
  have HY1 := Lib.hid (fun A g h (X : World) (hX : Sto X A g h 2048 1 b3 (List.replicate 1 0)) => byts_any A g h _ b3 _ 100 n X hX (by omega) s1)
  have HY2 := Lib.hid (fun A g h (X : World) (hX : Sto X A g h 2048 1 b3 (List.replicate 1 0)) => byts_any A g h _ b3 _ 1000 n X hX (by omega) s2)
  clear s1 s2
  have hn1' : (1 : Int) ≤ (n : Int) := by omega
  obtain ⟨q, d, hvv, hrd, hd1, hd2, -⟩ := id HVB.out
  subst hvv
  have HRD := Lib.hid hrd
  clear hrd HVB
  obtain ⟨m1, hm1⟩ : ∃ m, m = l1.length := ⟨_, rfl⟩
  rw [← hm1] at hd1 ⊢
  have HM1 := Lib.hid hm1
  clear hm1
  obtain ⟨i0, hi, hz0, hz1, hz2⟩ := info_parts info5
  go_wp2_with (at_make; refine wpList_make_full _ rfl _ _ 31 rfl W0.heap.size 5 i0 (.int .u8 0) 1 Tryz.underlying31 hi hz0 hz1 .i64 .i64 (n : Int) (n : Int) n rfl rfl rfl rfl (by rw [hz2]; omega) (by unfold maxLen; omega) (Nat.le_refl _) ?_; intro w1 hown hgrow)
  have HBM := Lib.hid (below_of hgrow)
  have HRM : Hid (Row w1 W0.heap.size 5 (bsU (cL l1 n 0)) n) := Lib.hid (by rw [cL_zero]; exact Row.rep (row_made (k := .u8) hown (Below.refl _ _)) (Below.refl _ _))
  clear hown hgrow
  obtain ⟨BM, hBM⟩ : ∃ B, B = W0.heap.size := ⟨_, rfl⟩
  rw [← hBM] at HRM ⊢
  have HBMW : Hid (W0.heap.size ≤ BM) := Lib.hid (by omega)
  clear hBM
  refine Code.wp_mono (Q := SwQ BM l1 n (.slice (some ⟨PB, po, none⟩) n c) (.slice q m1 d) W0) ?_ ?_
  rotate_left
  · go_loopw [7] (fun i wr => ∃ k : Nat, k ≤ n ∧ k ≤ m1 ∧ i = .int .i64 (k : Int) ∧ Row wr BM 5 (bsU (cL l1 n k)) n ∧ Below W0.heap.size W0 wr) (fun i _ => n - (intOf i).toNat)
    case atStart => exact ⟨0, Nat.zero_le _, Nat.zero_le _, rfl, HRM.out, HBM.out⟩
    case round =>
      clear HRM HBM
      obtain ⟨k, hk, hk1, rfl, hrow, hb⟩ := hrel
      by_cases hlt : k < n ∧ k < m1
      · obtain ⟨hlt1, hlt2⟩ := hlt
        have hlt1' : (k : Int) < (n : Int) := by omega
        have hlt2' : (k : Int) < (m1 : Int) := by omega
        obtain ⟨QB, qo, rfl, hq⟩ : ∃ QB qo, q = some ⟨QB, qo, none⟩ ∧ ∀ j, j < m1 → W0.cell? ⟨QB, qo + j, none⟩ = some (.int .u8 ((gt l1 j).toNat : Int)) := by
          rcases HRD.out with h0 | ⟨QB, qo, hq1, hq2⟩
          · have := HM1.out
            rw [h0] at this
            simp at this
            omega
          · exact ⟨QB, qo, hq1, fun j hj => hq2 j (by rw [← HM1.out]; exact hj)⟩
        have f1 := (hb.cell (World.block_lt_of_cell? W0 _ (hq k hlt2))).trans (hq k hlt2)
        have f3 := hrow.cell k (by rw [bsU_len, cL_len]; exact hlt1)
        rw [bsU_get _ k (by rw [cL_len]; exact hlt1)] at f3
        have f4 := hrow.frozen k
        have HRW : Hid (Row (wr.setCell ⟨BM, k, none⟩ (.int .u8 ((gt l1 k).toNat : Int))) BM 5 (bsU (cL l1 n (k + 1))) n) := Lib.hid (by rw [← cL_step hlt1, ← bsU_set]; exact (hrow.set k _).1)
        have HBB : Hid (Below W0.heap.size W0 (wr.setCell ⟨BM, k, none⟩ (.int .u8 ((gt l1 k).toNat : Int)))) := Lib.hid (kp_nil (kp_set_new (Kp.bel hb) BM k _ HBMW.out))
        clear hrow hb hq
        generalize ((gt l1 k).toNat : Int) = x at f1 HRW HBB
        go_wp2
        go_roundw
        case rel => exact ⟨k + 1, hlt1, hlt2, by go_num, HRW.out, HBB.out⟩
        case measure => simp [intOf]; omega
      · have hend : cL l1 n k = cL l1 n n := cL_end (by have := HM1.out; omega)
        rw [hend] at hrow
        have HROW := Lib.hid hrow
        have HBW := Lib.hid hb
        clear hrow hb hend HRD
        by_cases hkn : k < n
        · have hkn' : (k : Int) < (n : Int) := by omega
          have hkm' : ¬ ((k : Int) < (m1 : Int)) := by omega
          go_wp2
          unfold SwQ
          exact ⟨rfl, cut_mk rfl, HROW.out, HBW.out⟩
        · have hkn' : ¬ ((k : Int) < (n : Int)) := by omega
          go_wp2
          unfold SwQ
          exact ⟨rfl, cut_mk rfl, HROW.out, HBW.out⟩
  clear HRM HBM HRD
  intro e a wr hH
  unfold SwQ at hH
  obtain ⟨rfl, ⟨u2, rfl⟩, hrow, hb⟩ := hH
  unfold swB
  have HCV : Hid (SvB wr (.slice (some ⟨BM, 0, none⟩) n n) (cL l1 n n)) := Lib.hid ⟨some ⟨BM, 0, none⟩, n, by rw [cL_len], by
    have h1 := hrow.rd 0 n (by rw [cL_len]; omega)
    rw [List.drop_zero, List.take_of_length_le (by rw [cL_len]; exact Nat.le_refl _)] at h1
    exact h1, by rw [cL_len]; exact Nat.le_refl _, by omega, fun h => by cases h⟩
  have HAV := Lib.hid (HV.out.below hb)
  have HBW := Lib.hid (bel0 HB0.out hb)
  clear hrow hb HV HB0
  go_wp2_with fail
  refine (HNEW.out wr).mono ?_
  rintro e x1 ⟨A, g, h, rfl, hst, hA, hg, hh, hb⟩
  have HG : Hid (wr.heap.size ≤ g) := Lib.hid hg
  change Sto x1 A g h 2048 1 (List.replicate 2048 0) (List.replicate 1 0) at hst
  have HP1 : Hid (Calls Tryz.prog 26 #[.pointer (some ⟨A, 0, none⟩), .int .i64 100, .slice (some ⟨PB, po, none⟩) n c, .int .i64 0] x1 (PutPost x1 A g h 2048 1 (E.putL (List.replicate 2048 0) 100 l) (List.replicate 1 0) (.int .i64 0))) := Lib.hid (by
    have h1 := put_any A g h 2048 1 100 0 (.slice (some ⟨PB, po, none⟩) n c) l _ _ x1 (by decide) hst (HAV.out.below hb)
    have hc : codeV (stP 0) 2048 (List.replicate 1 0) (100 : Int) (n : Int) = 0 := code_zero (a := 100) (k := n) stP_zero (by omega)
    unfold putB at h1
    rw [← HLN.out, hc, if_pos rfl] at h1
    exact h1)
  have HP2 : Hid (∀ X bs, Below wr.heap.size wr X → Sto X A g h 2048 1 bs (List.replicate 1 0) → Calls Tryz.prog 26 #[.pointer (some ⟨A, 0, none⟩), .int .i64 1000, .slice (some ⟨BM, 0, none⟩) n n, .int .i64 0] X (PutPost X A g h 2048 1 (E.putL bs 1000 (cL l1 n n)) (List.replicate 1 0) (.int .i64 0))) := Lib.hid (fun X bs hX hS => by
    have h1 := put_any A g h 2048 1 1000 0 _ (cL l1 n n) _ _ X (by decide) hS (HCV.out.below hX)
    have hc : codeV (stP 0) 2048 (List.replicate 1 0) (1000 : Int) (n : Int) = 0 := code_zero (a := 1000) (k := n) stP_zero (by omega)
    unfold putB at h1
    rw [cL_len, hc, if_pos rfl] at h1
    exact h1)
  have HB := Lib.hid hb
  clear hst hA hh hb hg HNEW
  go_wp2_with fail
  refine HP1.out.mono ?_
  rintro e x2 ⟨rfl, hgr, hst⟩
  have HB2 := Lib.hid (Kp.below HB.out (Kp.of hgr (List.mem_singleton.2 rfl) : Kp x1 x2 [g]) (by simpa using HG.out))
  have HST := Lib.hid hst
  clear hgr hst HP1 HB
  go_wp2_with fail
  refine (HP2.out x2 _ HB2.out HST.out).mono ?_
  rintro e x3 ⟨rfl, hgr, hst⟩
  have HB3 := Lib.hid (Kp.below HB2.out (Kp.of hgr (List.mem_singleton.2 rfl) : Kp x2 x3 [g]) (by simpa using HG.out))
  have HST3 := Lib.hid hst
  clear hgr hst HP2 HB2 HST
  go_wp2_with fail
  refine (HW.out _).mono ?_
  rintro e x4 ⟨rfl, hb⟩
  have HB4 := Lib.hid (bel0 HB3.out hb)
  have HST4 := Lib.hid (HST3.out.below hb)
  clear hb HW HB3 HST3
  go_wp2_with fail
  obtain ⟨y4, hy4⟩ : ∃ y, y = x4.alloc (.cells #[.int .u32 0, .int .u32 0, .int .u32 0, .int .u32 0, .int .u32 0, .int .u32 0, .int .u32 0, .int .u32 0, .int .u32 0, .int .u32 0, .int .u32 0, .int .u32 0, .int .u32 0, .int .u32 0, .int .u32 100, .int .u32 1000] 28) := ⟨_, rfl⟩
  obtain ⟨B6, hB6⟩ : ∃ b, b = x4.heap.size := ⟨_, rfl⟩
  have b4 : Below x4.heap.size x4 y4 := by rw [hy4]; exact below_new _ _
  have s4 : y4.heap.size = x4.heap.size + 1 := by rw [hy4]; simp
  have r4 : Bx y4 B6 28 #[.int .u32 0, .int .u32 0, .int .u32 0, .int .u32 0, .int .u32 0, .int .u32 0, .int .u32 0, .int .u32 0, .int .u32 0, .int .u32 0, .int .u32 0, .int .u32 0, .int .u32 0, .int .u32 0, .int .u32 100, .int .u32 1000] := by rw [hy4, hB6]; exact Bx.new x4 _ _
  obtain ⟨y5, hy5⟩ : ∃ y, y = y4.alloc (.cells #[.int .u32 0, .int .u32 0, .int .u32 0, .int .u32 0, .int .u32 0, .int .u32 0, .int .u32 0, .int .u32 0, .int .u32 0, .int .u32 0, .int .u32 0, .int .u32 0, .int .u32 0, .int .u32 0, .int .u32 1000, .int .u32 100] 28) := ⟨_, rfl⟩
  obtain ⟨B11, hB11⟩ : ∃ b, b = x4.heap.size + 1 := ⟨_, rfl⟩
  have b5 : Below y4.heap.size y4 y5 := by rw [hy5]; exact below_new _ _
  have HR6 := Lib.hid (r4.below b5)
  have HR11 : Hid (Bx y5 B11 28 #[.int .u32 0, .int .u32 0, .int .u32 0, .int .u32 0, .int .u32 0, .int .u32 0, .int .u32 0, .int .u32 0, .int .u32 0, .int .u32 0, .int .u32 0, .int .u32 0, .int .u32 0, .int .u32 0, .int .u32 1000, .int .u32 100]) := Lib.hid (by rw [hy5, hB11, ← s4]; exact Bx.new y4 _ _)
  have HB5 := Lib.hid (bel0 HB4.out (bel0 b4 b5))
  have HST5 := Lib.hid (HST4.out.below (bel0 b4 b5))
  rw [← hy4, ← hy5, ← hB11, ← hB6]
  clear hy4 hB6 b4 s4 r4 hy5 hB11 b5 HB4 HST4
  have HGN : Hid (B6 ≠ g ∧ B11 ≠ g) := Lib.hid ⟨Row.ne HR6.out.row HST5.out.2.1 (by decide), Row.ne HR11.out.row HST5.out.2.1 (by decide)⟩
  have HB6 := Lib.hid HR6.out.lt
  have F0 : Hid (FS y5 B6 A g h 2048 1 #[.int .u32 0, .int .u32 0, .int .u32 0, .int .u32 0, .int .u32 0, .int .u32 0, .int .u32 0, .int .u32 0, .int .u32 0, .int .u32 0, .int .u32 0, .int .u32 0, .int .u32 0, .int .u32 0, .int .u32 100, .int .u32 1000] (E.putL (E.putL (List.replicate 2048 0) 100 l) 1000 (cL l1 n n)) (List.replicate 1 0) none none y5) := Lib.hid ⟨Kp.refl _ _, HR6.out, HST5.out, (fun _ h => by cases h), (fun _ h => by cases h)⟩
  refine Code.wp_mono (Q := fun e a W => e = .normal ∧ ∃ B7 B8 : Nat, (∃ u : Nat → Value, a = { tmps := #[.slice (some ⟨PB, po, none⟩) n c, .slice q m1 d, u 2, u 3, .bool false, .int .i64 (n : Int), .slice (some ⟨BM, 0, none⟩) n n, u 7, .pointer (some ⟨A, 0, none⟩), .int .i64 0, .pointer (some ⟨B6, 0, none⟩), .pointer (some ⟨B11, 0, none⟩), u 12, u 13, .int .i64 0, u 15, u 16, u 17, u 18, u 19, u 20, u 21, u 22, u 23, u 24, u 25, u 26, u 27, u 28, u 29, u 30, u 31, u 32, u 33, u 34, u 35, u 36, u 37, u 38, u 39, u 40, u 41, u 42, u 43, u 44, u 45, u 46, u 47, u 48, u 49, u 50, u 51, u 52, u 53, u 54, u 55, u 56, u 57, u 58, u 59, u 60, u 61, u 62, u 63, u 64, u 65, u 66, u 67, u 68, u 69, u 70, u 71, u 72, u 73, u 74, u 75, u 76, u 77, u 78, u 79, u 80, u 81, u 82, u 83, u 84, u 85, u 86, u 87, u 88, u 89, u 90, u 91, u 92, u 93, u 94, u 95, u 96, u 97, u 98, u 99, u 100, u 101, u 102, u 103, u 104, u 105, u 106, u 107, u 108, u 109, u 110, u 111, u 112, u 113, u 114, u 115, u 116, u 117, u 118, u 119, u 120, u 121, u 122, u 123, u 124, u 125, u 126, u 127, u 128, u 129, u 130, u 131, u 132, u 133], defers := [] }) ∧ Kp y5 W [g] ∧ Bx W B6 28 #[.int .u32 0, .int .u32 0, .int .u32 0, .int .u32 0, .int .u32 0, .int .u32 0, .int .u32 0, .int .u32 0, .int .u32 0, .int .u32 0, .int .u32 0, .int .u32 0, .int .u32 0, .int .u32 0, .int .u32 100, .int .u32 1000] ∧ Sto W A g h 2048 1 b1 (List.replicate 1 0) ∧ Bx W B8 30 (pswA (⟨0, 0, false, false, false, 0, 0, cc1, 0, 0⟩))) ?_ ?_
  rotate_left
  · refine wp_region_held_drew (S := FB y5 B6 g #[.int .u32 0, .int .u32 0, .int .u32 0, .int .u32 0, .int .u32 0, .int .u32 0, .int .u32 0, .int .u32 0, .int .u32 0, .int .u32 0, .int .u32 0, .int .u32 0, .int .u32 0, .int .u32 0, .int .u32 100, .int .u32 1000]) (by kernel_rfl) F0.out.drew.fb (fun k0 => ?_)
    have f00 := F0.out.drew
    obtain ⟨Y0, hY0⟩ : ∃ y, y = y5.drew := ⟨_, rfl⟩
    rw [← hY0] at f00 k0 ⊢
    have F00 := Lib.hid f00
    clear F0 f00 hY0
    show wpAnyH _ _ _ _ _ 15 #[false, false, false, false, false, false, false, false, false, false, false, false, false, false, false] _ _
    refine wpAnyH_take (i := 0) (oi := ⟨some 81, _, _, _, _, _⟩) (v := .int .i64 (n : Int)) rfl (by kernel_rfl) (by kernel_rfl) (by kernel_rfl) (fun _ _ _ h => by cases h.1) (Or.inl ⟨by rfl, fun W hSw => by (try dsimp only at hSw); go_simp⟩) k0 ?_
    try simp only [Act.put, List.setIfInBounds_toArray, List.set_cons_zero, List.set_cons_succ]
    refine wpAnyH_take (i := 2) (oi := ⟨some 83, _, _, _, _, _⟩) (v := .agg #[.int .u32 0, .int .u32 0, .int .u32 0, .int .u32 0, .int .u32 0, .int .u32 0, .int .u32 0, .int .u32 0, .int .u32 0, .int .u32 0, .int .u32 0, .int .u32 0, .int .u32 0, .int .u32 0, .int .u32 100, .int .u32 1000]) rfl (by kernel_rfl) (by kernel_rfl) (by kernel_rfl) (fun _ _ _ h => by cases h.1) (Or.inl ⟨by rfl, fun W hSw => exec_load _ _ rfl _ rfl (run_loadVar_row (P := Tryz.prog) W B6 _ 28 _ _ _ hSw.2 Tryz.underlying28 rfl (by kernel_rfl))⟩) k0 ?_
    try simp only [Act.put, List.setIfInBounds_toArray, List.set_cons_zero, List.set_cons_succ]
    refine wpAnyH_take (i := 3) (oi := ⟨some 84, _, _, _, _, _⟩) (v := .agg #[.int .i64 0, .int .i64 0, .bool false, .bool false, .bool false, .int .i64 0, .int .i64 0, .int .i64 0, .int .i64 0, .int .i64 0]) rfl (by kernel_rfl) (by kernel_rfl) (by kernel_rfl) (fun _ _ _ h => by cases h.1) (Or.inl ⟨by rfl, fun W hSw => by (try dsimp only at hSw); go_simp⟩) k0 ?_
    try simp only [Act.put, List.setIfInBounds_toArray, List.set_cons_zero, List.set_cons_succ]
    refine wpAnyH_take (i := 4) (oi := ⟨some 85, _, _, _, _, _⟩) (v := .pointer (some ⟨A, 0, none⟩)) rfl (by kernel_rfl) (by kernel_rfl) (by kernel_rfl) (fun _ _ _ h => by cases h.1) (Or.inl ⟨by rfl, fun W hSw => by (try dsimp only at hSw); go_simp⟩) k0 ?_
    try simp only [Act.put, List.setIfInBounds_toArray, List.set_cons_zero, List.set_cons_succ]
    refine wpAnyH_ready (rs := [1, 10, 11]) (by kernel_rfl) (by simp) ?_
    refine AllReadyH.cons (o := ⟨some 82, _, _, _, _, _⟩) rfl (fun K hK => ?_) (AllReadyH.cons (o := ⟨some 12, _, _, _, _, _⟩) rfl (fun K hK => ?_) (AllReadyH.cons (o := ⟨some 13, _, _, _, _, _⟩) rfl (fun K hK => ?_) AllReadyH.nil))
    · go_simp
      go_at_call 27
      refine (HSS1.out Y0).mono ?_
      rintro e Y1 ⟨rfl, hb⟩
      have F1 := Lib.hid (F00.out.below hb)
      clear hb
      go_wp2_with fail
      refine hK.out _ _ F1.out.fb (fun k1 => ?_)
      clear hK K
      try simp only [List.setIfInBounds_toArray, List.set_cons_zero, List.set_cons_succ]
      refine wpAnyH_ready (rs := [5, 10, 11]) (by kernel_rfl) (by simp) ?_
      refine AllReadyH.cons (o := ⟨some 86, _, _, _, _, _⟩) rfl (fun K hK => ?_) (AllReadyH.cons (o := ⟨some 12, _, _, _, _, _⟩) rfl (fun K hK => ?_) (AllReadyH.cons (o := ⟨some 13, _, _, _, _, _⟩) rfl (fun K hK => ?_) AllReadyH.nil))
      · go_simp
        go_at_call 17
        refine (HE1.out A g h 1 Y1 F1.out.2.2.1).mono ?_
        rintro e Y2 ⟨rfl, hs, hk⟩
        have F2 := Lib.hid (F1.out.exec hs hk)
        clear hs hk
        go_wp2_with fail
        refine hK.out _ _ F2.out.fb (fun k2 => ?_)
        clear hK K
        try simp only [List.setIfInBounds_toArray, List.set_cons_zero, List.set_cons_succ]
        refine wpAnyH_take (i := 6) (oi := ⟨some 80, _, _, _, _, _⟩) (v := .tuple #[.agg #[.int .u32 0, .int .u32 0, .int .u32 0, .int .u32 0, .int .u32 0, .int .u32 0, .int .u32 0, .int .u32 0, .int .u32 0, .int .u32 0, .int .u32 0, .int .u32 0, .int .u32 0, .int .u32 0, .int .u32 100, .int .u32 1000], .agg #[.int .i64 0, .int .i64 0, .bool false, .bool false, .bool false, .int .i64 0, .int .i64 0, .int .i64 cc1, .int .i64 0, .int .i64 0], .int .i64 0]) rfl (by kernel_rfl) (by kernel_rfl) (by kernel_rfl) (fun _ _ _ h => by cases h.1) (Or.inl ⟨by rfl, fun W hSw => by (try dsimp only at hSw); go_simp⟩) k2 ?_
        try simp only [Act.put, List.setIfInBounds_toArray, List.set_cons_zero, List.set_cons_succ]
        refine wpAnyH_take (i := 7) (oi := ⟨some 87, _, _, _, _, _⟩) (v := .agg #[.int .u32 0, .int .u32 0, .int .u32 0, .int .u32 0, .int .u32 0, .int .u32 0, .int .u32 0, .int .u32 0, .int .u32 0, .int .u32 0, .int .u32 0, .int .u32 0, .int .u32 0, .int .u32 0, .int .u32 100, .int .u32 1000]) rfl (by kernel_rfl) (by kernel_rfl) (by kernel_rfl) (fun _ _ _ h => by cases h.1) (Or.inl ⟨by rfl, fun W hSw => by (try dsimp only at hSw); go_simp⟩) k2 ?_
        try simp only [Act.put, List.setIfInBounds_toArray, List.set_cons_zero, List.set_cons_succ]
        refine wpAnyH_take (i := 8) (oi := ⟨some 88, _, _, _, _, _⟩) (v := .agg #[.int .i64 0, .int .i64 0, .bool false, .bool false, .bool false, .int .i64 0, .int .i64 0, .int .i64 cc1, .int .i64 0, .int .i64 0]) rfl (by kernel_rfl) (by kernel_rfl) (by kernel_rfl) (fun _ _ _ h => by cases h.1) (Or.inl ⟨by rfl, fun W hSw => by (try dsimp only at hSw); go_simp⟩) k2 ?_
        try simp only [Act.put, List.setIfInBounds_toArray, List.set_cons_zero, List.set_cons_succ]
        refine wpAnyH_take (i := 9) (oi := ⟨some 89, _, _, _, _, _⟩) (v := .int .i64 0) rfl (by kernel_rfl) (by kernel_rfl) (by kernel_rfl) (fun _ _ _ h => by cases h.1) (Or.inl ⟨by rfl, fun W hSw => by (try dsimp only at hSw); go_simp⟩) k2 ?_
        try simp only [Act.put, List.setIfInBounds_toArray, List.set_cons_zero, List.set_cons_succ]
        refine wpAnyH_ready (rs := [10, 11]) (by kernel_rfl) (by simp) ?_
        refine AllReadyH.cons (o := ⟨some 12, _, _, _, _, _⟩) rfl (fun K hK => ?_) (AllReadyH.cons (o := ⟨some 13, _, _, _, _, _⟩) rfl (fun K hK => ?_) AllReadyH.nil)
        · go_simp
          have f3 := F2.out.al
          obtain ⟨Y3, hY3⟩ : ∃ y, y = Y2.alloc (.cells #[.int .u32 0, .int .u32 0, .int .u32 0, .int .u32 0, .int .u32 0, .int .u32 0, .int .u32 0, .int .u32 0, .int .u32 0, .int .u32 0, .int .u32 0, .int .u32 0, .int .u32 0, .int .u32 0, .int .u32 0, .int .u32 0] 28) := ⟨_, rfl⟩
          obtain ⟨B7, hB7⟩ : ∃ b, b = Y2.heap.size := ⟨_, rfl⟩
          rw [← hY3, ← hB7] at f3 ⊢
          have F3 := Lib.hid f3
          clear hY3 hB7 f3
          refine hK.out _ _ F3.out.fb (fun k3 => ?_)
          clear hK K
          try simp only [List.setIfInBounds_toArray, List.set_cons_zero, List.set_cons_succ]
          refine wpAnyH_ready (rs := [11]) (by kernel_rfl) (by simp) ?_
          refine AllReadyH.cons (o := ⟨some 13, _, _, _, _, _⟩) rfl (fun K hK => ?_) AllReadyH.nil
          go_simp
          have f4 := F3.out.al2
          obtain ⟨Y4, hY4⟩ : ∃ y, y = Y3.alloc (.cells #[.int .i64 0, .int .i64 0, .bool false, .bool false, .bool false, .int .i64 0, .int .i64 0, .int .i64 0, .int .i64 0, .int .i64 0] 30) := ⟨_, rfl⟩
          obtain ⟨B8, hB8⟩ : ∃ b, b = Y3.heap.size := ⟨_, rfl⟩
          rw [← hY4, ← hB8] at f4 ⊢
          have F4 := Lib.hid f4
          clear hY4 hB8 f4
          refine hK.out _ _ F4.out.fb (fun k4 => ?_)
          clear hK K
          try simp only [List.setIfInBounds_toArray, List.set_cons_zero, List.set_cons_succ]
          refine wpAnyH_ready (rs := [12]) (by kernel_rfl) (by simp) ?_
          refine AllReadyH.cons (o := ⟨none, _, _, _, _, _⟩) rfl (fun K hK => ?_) AllReadyH.nil
          obtain ⟨hb5, x5, hx5, hr5⟩ := F4.out.2.2.2.1 B7 rfl
          rw [if_pos (by rfl)]
          refine op_store _ _ _ rfl _ rfl _ rfl (HSR1.out _ _ _ hr5 hx5) ?_
          have f5 := F4.out.st HB6.out (mvR 100 1000)
          obtain ⟨Y5, hY5⟩ : ∃ y, y = Y4.setRow B7 (regA (mvR 100 1000)) := ⟨_, rfl⟩
          rw [← hY5] at f5 ⊢
          have F5 := Lib.hid f5
          clear hY5 f5 hb5 hx5 hr5 x5
          refine hK.out _ _ F5.out.fb (fun k5 => ?_)
          clear hK K
          try simp only [List.setIfInBounds_toArray, List.set_cons_zero, List.set_cons_succ]
          refine wpAnyH_ready (rs := [13]) (by kernel_rfl) (by simp) ?_
          refine AllReadyH.cons (o := ⟨none, _, _, _, _, _⟩) rfl (fun K hK => ?_) AllReadyH.nil
          obtain ⟨hb6, x6, hx6, hr6⟩ := F5.out.2.2.2.2 B8 rfl
          rw [if_pos (by rfl)]
          refine op_store _ _ _ rfl _ rfl _ rfl (HSP1.out _ _ _ hr6 hx6) ?_
          have f6 := F5.out.st2 (⟨0, 0, false, false, false, 0, 0, cc1, 0, 0⟩)
          obtain ⟨Y6, hY6⟩ : ∃ y, y = Y5.setRow B8 (pswA (⟨0, 0, false, false, false, 0, 0, cc1, 0, 0⟩)) := ⟨_, rfl⟩
          rw [← hY6] at f6 ⊢
          have F6 := Lib.hid f6.1
          have P6 := Lib.hid f6.2
          clear hY6 f6 hb6 hx6 hr6 x6
          refine hK.out _ _ F6.out.fb (fun k6 => ?_)
          clear hK K
          try simp only [List.setIfInBounds_toArray, List.set_cons_zero, List.set_cons_succ]
          refine wpAnyH_take (i := 14) (oi := ⟨some 14, _, _, _, _, _⟩) (v := .int .i64 0) rfl (by kernel_rfl) (by kernel_rfl) (by kernel_rfl) (fun _ _ _ h => by cases h.1) (Or.inl ⟨by rfl, fun W hSw => by (try dsimp only at hSw); go_simp⟩) k6 ?_
          try simp only [Act.put, List.setIfInBounds_toArray, List.set_cons_zero, List.set_cons_succ]
          refine wpAnyH_done (by kernel_rfl) ?_ _
          refine id ?_
          exact ⟨rfl, B7, B8, cut_mk rfl, F6.out.1, F6.out.2.1, F6.out.2.2.1, P6.out⟩
        · go_simp
          have f3 := F2.out.al2
          obtain ⟨Y3, hY3⟩ : ∃ y, y = Y2.alloc (.cells #[.int .i64 0, .int .i64 0, .bool false, .bool false, .bool false, .int .i64 0, .int .i64 0, .int .i64 0, .int .i64 0, .int .i64 0] 30) := ⟨_, rfl⟩
          obtain ⟨B8, hB8⟩ : ∃ b, b = Y2.heap.size := ⟨_, rfl⟩
          rw [← hY3, ← hB8] at f3 ⊢
          have F3 := Lib.hid f3
          clear hY3 hB8 f3
          refine hK.out _ _ F3.out.fb (fun k3 => ?_)
          clear hK K
          try simp only [List.setIfInBounds_toArray, List.set_cons_zero, List.set_cons_succ]
          refine wpAnyH_ready (rs := [10]) (by kernel_rfl) (by simp) ?_
          refine AllReadyH.cons (o := ⟨some 12, _, _, _, _, _⟩) rfl (fun K hK => ?_) AllReadyH.nil
          go_simp
          have f4 := F3.out.al
          obtain ⟨Y4, hY4⟩ : ∃ y, y = Y3.alloc (.cells #[.int .u32 0, .int .u32 0, .int .u32 0, .int .u32 0, .int .u32 0, .int .u32 0, .int .u32 0, .int .u32 0, .int .u32 0, .int .u32 0, .int .u32 0, .int .u32 0, .int .u32 0, .int .u32 0, .int .u32 0, .int .u32 0] 28) := ⟨_, rfl⟩
          obtain ⟨B7, hB7⟩ : ∃ b, b = Y3.heap.size := ⟨_, rfl⟩
          rw [← hY4, ← hB7] at f4 ⊢
          have F4 := Lib.hid f4
          clear hY4 hB7 f4
          refine hK.out _ _ F4.out.fb (fun k4 => ?_)
          clear hK K
          try simp only [List.setIfInBounds_toArray, List.set_cons_zero, List.set_cons_succ]
          refine wpAnyH_ready (rs := [12]) (by kernel_rfl) (by simp) ?_
          refine AllReadyH.cons (o := ⟨none, _, _, _, _, _⟩) rfl (fun K hK => ?_) AllReadyH.nil
          obtain ⟨hb5, x5, hx5, hr5⟩ := F4.out.2.2.2.1 B7 rfl
          rw [if_pos (by rfl)]
          refine op_store _ _ _ rfl _ rfl _ rfl (HSR1.out _ _ _ hr5 hx5) ?_
          have f5 := F4.out.st HB6.out (mvR 100 1000)
          obtain ⟨Y5, hY5⟩ : ∃ y, y = Y4.setRow B7 (regA (mvR 100 1000)) := ⟨_, rfl⟩
          rw [← hY5] at f5 ⊢
          have F5 := Lib.hid f5
          clear hY5 f5 hb5 hx5 hr5 x5
          refine hK.out _ _ F5.out.fb (fun k5 => ?_)
          clear hK K
          try simp only [List.setIfInBounds_toArray, List.set_cons_zero, List.set_cons_succ]
          refine wpAnyH_ready (rs := [13]) (by kernel_rfl) (by simp) ?_
          refine AllReadyH.cons (o := ⟨none, _, _, _, _, _⟩) rfl (fun K hK => ?_) AllReadyH.nil
          obtain ⟨hb6, x6, hx6, hr6⟩ := F5.out.2.2.2.2 B8 rfl
          rw [if_pos (by rfl)]
          refine op_store _ _ _ rfl _ rfl _ rfl (HSP1.out _ _ _ hr6 hx6) ?_
          have f6 := F5.out.st2 (⟨0, 0, false, false, false, 0, 0, cc1, 0, 0⟩)
          obtain ⟨Y6, hY6⟩ : ∃ y, y = Y5.setRow B8 (pswA (⟨0, 0, false, false, false, 0, 0, cc1, 0, 0⟩)) := ⟨_, rfl⟩
          rw [← hY6] at f6 ⊢
          have F6 := Lib.hid f6.1
          have P6 := Lib.hid f6.2
          clear hY6 f6 hb6 hx6 hr6 x6
          refine hK.out _ _ F6.out.fb (fun k6 => ?_)
          clear hK K
          try simp only [List.setIfInBounds_toArray, List.set_cons_zero, List.set_cons_succ]
          refine wpAnyH_take (i := 14) (oi := ⟨some 14, _, _, _, _, _⟩) (v := .int .i64 0) rfl (by kernel_rfl) (by kernel_rfl) (by kernel_rfl) (fun _ _ _ h => by cases h.1) (Or.inl ⟨by rfl, fun W hSw => by (try dsimp only at hSw); go_simp⟩) k6 ?_
          try simp only [Act.put, List.setIfInBounds_toArray, List.set_cons_zero, List.set_cons_succ]
          refine wpAnyH_done (by kernel_rfl) ?_ _
          refine id ?_
          exact ⟨rfl, B7, B8, cut_mk rfl, F6.out.1, F6.out.2.1, F6.out.2.2.1, P6.out⟩
      · go_simp
        have f2 := F1.out.al
        obtain ⟨Y2, hY2⟩ : ∃ y, y = Y1.alloc (.cells #[.int .u32 0, .int .u32 0, .int .u32 0, .int .u32 0, .int .u32 0, .int .u32 0, .int .u32 0, .int .u32 0, .int .u32 0, .int .u32 0, .int .u32 0, .int .u32 0, .int .u32 0, .int .u32 0, .int .u32 0, .int .u32 0] 28) := ⟨_, rfl⟩
        obtain ⟨B7, hB7⟩ : ∃ b, b = Y1.heap.size := ⟨_, rfl⟩
        rw [← hY2, ← hB7] at f2 ⊢
        have F2 := Lib.hid f2
        clear hY2 hB7 f2
        refine hK.out _ _ F2.out.fb (fun k2 => ?_)
        clear hK K
        try simp only [List.setIfInBounds_toArray, List.set_cons_zero, List.set_cons_succ]
        refine wpAnyH_ready (rs := [5, 11]) (by kernel_rfl) (by simp) ?_
        refine AllReadyH.cons (o := ⟨some 86, _, _, _, _, _⟩) rfl (fun K hK => ?_) (AllReadyH.cons (o := ⟨some 13, _, _, _, _, _⟩) rfl (fun K hK => ?_) AllReadyH.nil)
        · go_simp
          go_at_call 17
          refine (HE1.out A g h 1 Y2 F2.out.2.2.1).mono ?_
          rintro e Y3 ⟨rfl, hs, hk⟩
          have F3 := Lib.hid (F2.out.exec hs hk)
          clear hs hk
          go_wp2_with fail
          refine hK.out _ _ F3.out.fb (fun k3 => ?_)
          clear hK K
          try simp only [List.setIfInBounds_toArray, List.set_cons_zero, List.set_cons_succ]
          refine wpAnyH_take (i := 6) (oi := ⟨some 80, _, _, _, _, _⟩) (v := .tuple #[.agg #[.int .u32 0, .int .u32 0, .int .u32 0, .int .u32 0, .int .u32 0, .int .u32 0, .int .u32 0, .int .u32 0, .int .u32 0, .int .u32 0, .int .u32 0, .int .u32 0, .int .u32 0, .int .u32 0, .int .u32 100, .int .u32 1000], .agg #[.int .i64 0, .int .i64 0, .bool false, .bool false, .bool false, .int .i64 0, .int .i64 0, .int .i64 cc1, .int .i64 0, .int .i64 0], .int .i64 0]) rfl (by kernel_rfl) (by kernel_rfl) (by kernel_rfl) (fun _ _ _ h => by cases h.1) (Or.inl ⟨by rfl, fun W hSw => by (try dsimp only at hSw); go_simp⟩) k3 ?_
          try simp only [Act.put, List.setIfInBounds_toArray, List.set_cons_zero, List.set_cons_succ]
          refine wpAnyH_take (i := 7) (oi := ⟨some 87, _, _, _, _, _⟩) (v := .agg #[.int .u32 0, .int .u32 0, .int .u32 0, .int .u32 0, .int .u32 0, .int .u32 0, .int .u32 0, .int .u32 0, .int .u32 0, .int .u32 0, .int .u32 0, .int .u32 0, .int .u32 0, .int .u32 0, .int .u32 100, .int .u32 1000]) rfl (by kernel_rfl) (by kernel_rfl) (by kernel_rfl) (fun _ _ _ h => by cases h.1) (Or.inl ⟨by rfl, fun W hSw => by (try dsimp only at hSw); go_simp⟩) k3 ?_
          try simp only [Act.put, List.setIfInBounds_toArray, List.set_cons_zero, List.set_cons_succ]
          refine wpAnyH_take (i := 8) (oi := ⟨some 88, _, _, _, _, _⟩) (v := .agg #[.int .i64 0, .int .i64 0, .bool false, .bool false, .bool false, .int .i64 0, .int .i64 0, .int .i64 cc1, .int .i64 0, .int .i64 0]) rfl (by kernel_rfl) (by kernel_rfl) (by kernel_rfl) (fun _ _ _ h => by cases h.1) (Or.inl ⟨by rfl, fun W hSw => by (try dsimp only at hSw); go_simp⟩) k3 ?_
          try simp only [Act.put, List.setIfInBounds_toArray, List.set_cons_zero, List.set_cons_succ]
          refine wpAnyH_take (i := 9) (oi := ⟨some 89, _, _, _, _, _⟩) (v := .int .i64 0) rfl (by kernel_rfl) (by kernel_rfl) (by kernel_rfl) (fun _ _ _ h => by cases h.1) (Or.inl ⟨by rfl, fun W hSw => by (try dsimp only at hSw); go_simp⟩) k3 ?_
          try simp only [Act.put, List.setIfInBounds_toArray, List.set_cons_zero, List.set_cons_succ]
          refine wpAnyH_ready (rs := [11]) (by kernel_rfl) (by simp) ?_
          refine AllReadyH.cons (o := ⟨some 13, _, _, _, _, _⟩) rfl (fun K hK => ?_) AllReadyH.nil
          go_simp
          have f4 := F3.out.al2
          obtain ⟨Y4, hY4⟩ : ∃ y, y = Y3.alloc (.cells #[.int .i64 0, .int .i64 0, .bool false, .bool false, .bool false, .int .i64 0, .int .i64 0, .int .i64 0, .int .i64 0, .int .i64 0] 30) := ⟨_, rfl⟩
          obtain ⟨B8, hB8⟩ : ∃ b, b = Y3.heap.size := ⟨_, rfl⟩
          rw [← hY4, ← hB8] at f4 ⊢
          have F4 := Lib.hid f4
          clear hY4 hB8 f4
          refine hK.out _ _ F4.out.fb (fun k4 => ?_)
          clear hK K
          try simp only [List.setIfInBounds_toArray, List.set_cons_zero, List.set_cons_succ]
          refine wpAnyH_ready (rs := [12]) (by kernel_rfl) (by simp) ?_
          refine AllReadyH.cons (o := ⟨none, _, _, _, _, _⟩) rfl (fun K hK => ?_) AllReadyH.nil
          obtain ⟨hb5, x5, hx5, hr5⟩ := F4.out.2.2.2.1 B7 rfl
          rw [if_pos (by rfl)]
          refine op_store _ _ _ rfl _ rfl _ rfl (HSR1.out _ _ _ hr5 hx5) ?_
          have f5 := F4.out.st HB6.out (mvR 100 1000)
          obtain ⟨Y5, hY5⟩ : ∃ y, y = Y4.setRow B7 (regA (mvR 100 1000)) := ⟨_, rfl⟩
          rw [← hY5] at f5 ⊢
          have F5 := Lib.hid f5
          clear hY5 f5 hb5 hx5 hr5 x5
          refine hK.out _ _ F5.out.fb (fun k5 => ?_)
          clear hK K
          try simp only [List.setIfInBounds_toArray, List.set_cons_zero, List.set_cons_succ]
          refine wpAnyH_ready (rs := [13]) (by kernel_rfl) (by simp) ?_
          refine AllReadyH.cons (o := ⟨none, _, _, _, _, _⟩) rfl (fun K hK => ?_) AllReadyH.nil
          obtain ⟨hb6, x6, hx6, hr6⟩ := F5.out.2.2.2.2 B8 rfl
          rw [if_pos (by rfl)]
          refine op_store _ _ _ rfl _ rfl _ rfl (HSP1.out _ _ _ hr6 hx6) ?_
          have f6 := F5.out.st2 (⟨0, 0, false, false, false, 0, 0, cc1, 0, 0⟩)
          obtain ⟨Y6, hY6⟩ : ∃ y, y = Y5.setRow B8 (pswA (⟨0, 0, false, false, false, 0, 0, cc1, 0, 0⟩)) := ⟨_, rfl⟩
          rw [← hY6] at f6 ⊢
          have F6 := Lib.hid f6.1
          have P6 := Lib.hid f6.2
          clear hY6 f6 hb6 hx6 hr6 x6
          refine hK.out _ _ F6.out.fb (fun k6 => ?_)
          clear hK K
          try simp only [List.setIfInBounds_toArray, List.set_cons_zero, List.set_cons_succ]
          refine wpAnyH_take (i := 14) (oi := ⟨some 14, _, _, _, _, _⟩) (v := .int .i64 0) rfl (by kernel_rfl) (by kernel_rfl) (by kernel_rfl) (fun _ _ _ h => by cases h.1) (Or.inl ⟨by rfl, fun W hSw => by (try dsimp only at hSw); go_simp⟩) k6 ?_
          try simp only [Act.put, List.setIfInBounds_toArray, List.set_cons_zero, List.set_cons_succ]
          refine wpAnyH_done (by kernel_rfl) ?_ _
          refine id ?_
          exact ⟨rfl, B7, B8, cut_mk rfl, F6.out.1, F6.out.2.1, F6.out.2.2.1, P6.out⟩
        · go_simp
          have f3 := F2.out.al2
          obtain ⟨Y3, hY3⟩ : ∃ y, y = Y2.alloc (.cells #[.int .i64 0, .int .i64 0, .bool false, .bool false, .bool false, .int .i64 0, .int .i64 0, .int .i64 0, .int .i64 0, .int .i64 0] 30) := ⟨_, rfl⟩
          obtain ⟨B8, hB8⟩ : ∃ b, b = Y2.heap.size := ⟨_, rfl⟩
          rw [← hY3, ← hB8] at f3 ⊢
          have F3 := Lib.hid f3
          clear hY3 hB8 f3
          refine hK.out _ _ F3.out.fb (fun k3 => ?_)
          clear hK K
          try simp only [List.setIfInBounds_toArray, List.set_cons_zero, List.set_cons_succ]
          refine wpAnyH_ready (rs := [5]) (by kernel_rfl) (by simp) ?_
          refine AllReadyH.cons (o := ⟨some 86, _, _, _, _, _⟩) rfl (fun K hK => ?_) AllReadyH.nil
          go_simp
          go_at_call 17
          refine (HE1.out A g h 1 Y3 F3.out.2.2.1).mono ?_
          rintro e Y4 ⟨rfl, hs, hk⟩
          have F4 := Lib.hid (F3.out.exec hs hk)
          clear hs hk
          go_wp2_with fail
          refine hK.out _ _ F4.out.fb (fun k4 => ?_)
          clear hK K
          try simp only [List.setIfInBounds_toArray, List.set_cons_zero, List.set_cons_succ]
          refine wpAnyH_take (i := 6) (oi := ⟨some 80, _, _, _, _, _⟩) (v := .tuple #[.agg #[.int .u32 0, .int .u32 0, .int .u32 0, .int .u32 0, .int .u32 0, .int .u32 0, .int .u32 0, .int .u32 0, .int .u32 0, .int .u32 0, .int .u32 0, .int .u32 0, .int .u32 0, .int .u32 0, .int .u32 100, .int .u32 1000], .agg #[.int .i64 0, .int .i64 0, .bool false, .bool false, .bool false, .int .i64 0, .int .i64 0, .int .i64 cc1, .int .i64 0, .int .i64 0], .int .i64 0]) rfl (by kernel_rfl) (by kernel_rfl) (by kernel_rfl) (fun _ _ _ h => by cases h.1) (Or.inl ⟨by rfl, fun W hSw => by (try dsimp only at hSw); go_simp⟩) k4 ?_
          try simp only [Act.put, List.setIfInBounds_toArray, List.set_cons_zero, List.set_cons_succ]
          refine wpAnyH_take (i := 7) (oi := ⟨some 87, _, _, _, _, _⟩) (v := .agg #[.int .u32 0, .int .u32 0, .int .u32 0, .int .u32 0, .int .u32 0, .int .u32 0, .int .u32 0, .int .u32 0, .int .u32 0, .int .u32 0, .int .u32 0, .int .u32 0, .int .u32 0, .int .u32 0, .int .u32 100, .int .u32 1000]) rfl (by kernel_rfl) (by kernel_rfl) (by kernel_rfl) (fun _ _ _ h => by cases h.1) (Or.inl ⟨by rfl, fun W hSw => by (try dsimp only at hSw); go_simp⟩) k4 ?_
          try simp only [Act.put, List.setIfInBounds_toArray, List.set_cons_zero, List.set_cons_succ]
          refine wpAnyH_take (i := 8) (oi := ⟨some 88, _, _, _, _, _⟩) (v := .agg #[.int .i64 0, .int .i64 0, .bool false, .bool false, .bool false, .int .i64 0, .int .i64 0, .int .i64 cc1, .int .i64 0, .int .i64 0]) rfl (by kernel_rfl) (by kernel_rfl) (by kernel_rfl) (fun _ _ _ h => by cases h.1) (Or.inl ⟨by rfl, fun W hSw => by (try dsimp only at hSw); go_simp⟩) k4 ?_
          try simp only [Act.put, List.setIfInBounds_toArray, List.set_cons_zero, List.set_cons_succ]
          refine wpAnyH_take (i := 9) (oi := ⟨some 89, _, _, _, _, _⟩) (v := .int .i64 0) rfl (by kernel_rfl) (by kernel_rfl) (by kernel_rfl) (fun _ _ _ h => by cases h.1) (Or.inl ⟨by rfl, fun W hSw => by (try dsimp only at hSw); go_simp⟩) k4 ?_
          try simp only [Act.put, List.setIfInBounds_toArray, List.set_cons_zero, List.set_cons_succ]
          refine wpAnyH_ready (rs := [12]) (by kernel_rfl) (by simp) ?_
          refine AllReadyH.cons (o := ⟨none, _, _, _, _, _⟩) rfl (fun K hK => ?_) AllReadyH.nil
          obtain ⟨hb5, x5, hx5, hr5⟩ := F4.out.2.2.2.1 B7 rfl
          rw [if_pos (by rfl)]
          refine op_store _ _ _ rfl _ rfl _ rfl (HSR1.out _ _ _ hr5 hx5) ?_
          have f5 := F4.out.st HB6.out (mvR 100 1000)
          obtain ⟨Y5, hY5⟩ : ∃ y, y = Y4.setRow B7 (regA (mvR 100 1000)) := ⟨_, rfl⟩
          rw [← hY5] at f5 ⊢
          have F5 := Lib.hid f5
          clear hY5 f5 hb5 hx5 hr5 x5
          refine hK.out _ _ F5.out.fb (fun k5 => ?_)
          clear hK K
          try simp only [List.setIfInBounds_toArray, List.set_cons_zero, List.set_cons_succ]
          refine wpAnyH_ready (rs := [13]) (by kernel_rfl) (by simp) ?_
          refine AllReadyH.cons (o := ⟨none, _, _, _, _, _⟩) rfl (fun K hK => ?_) AllReadyH.nil
          obtain ⟨hb6, x6, hx6, hr6⟩ := F5.out.2.2.2.2 B8 rfl
          rw [if_pos (by rfl)]
          refine op_store _ _ _ rfl _ rfl _ rfl (HSP1.out _ _ _ hr6 hx6) ?_
          have f6 := F5.out.st2 (⟨0, 0, false, false, false, 0, 0, cc1, 0, 0⟩)
          obtain ⟨Y6, hY6⟩ : ∃ y, y = Y5.setRow B8 (pswA (⟨0, 0, false, false, false, 0, 0, cc1, 0, 0⟩)) := ⟨_, rfl⟩
          rw [← hY6] at f6 ⊢
          have F6 := Lib.hid f6.1
          have P6 := Lib.hid f6.2
          clear hY6 f6 hb6 hx6 hr6 x6
          refine hK.out _ _ F6.out.fb (fun k6 => ?_)
          clear hK K
          try simp only [List.setIfInBounds_toArray, List.set_cons_zero, List.set_cons_succ]
          refine wpAnyH_take (i := 14) (oi := ⟨some 14, _, _, _, _, _⟩) (v := .int .i64 0) rfl (by kernel_rfl) (by kernel_rfl) (by kernel_rfl) (fun _ _ _ h => by cases h.1) (Or.inl ⟨by rfl, fun W hSw => by (try dsimp only at hSw); go_simp⟩) k6 ?_
          try simp only [Act.put, List.setIfInBounds_toArray, List.set_cons_zero, List.set_cons_succ]
          refine wpAnyH_done (by kernel_rfl) ?_ _
          refine id ?_
          exact ⟨rfl, B7, B8, cut_mk rfl, F6.out.1, F6.out.2.1, F6.out.2.2.1, P6.out⟩
      · go_simp
        have f2 := F1.out.al2
        obtain ⟨Y2, hY2⟩ : ∃ y, y = Y1.alloc (.cells #[.int .i64 0, .int .i64 0, .bool false, .bool false, .bool false, .int .i64 0, .int .i64 0, .int .i64 0, .int .i64 0, .int .i64 0] 30) := ⟨_, rfl⟩
        obtain ⟨B8, hB8⟩ : ∃ b, b = Y1.heap.size := ⟨_, rfl⟩
        rw [← hY2, ← hB8] at f2 ⊢
        have F2 := Lib.hid f2
        clear hY2 hB8 f2
        refine hK.out _ _ F2.out.fb (fun k2 => ?_)
        clear hK K
        try simp only [List.setIfInBounds_toArray, List.set_cons_zero, List.set_cons_succ]
        refine wpAnyH_ready (rs := [5, 10]) (by kernel_rfl) (by simp) ?_
        refine AllReadyH.cons (o := ⟨some 86, _, _, _, _, _⟩) rfl (fun K hK => ?_) (AllReadyH.cons (o := ⟨some 12, _, _, _, _, _⟩) rfl (fun K hK => ?_) AllReadyH.nil)
        · go_simp
          go_at_call 17
          refine (HE1.out A g h 1 Y2 F2.out.2.2.1).mono ?_
          rintro e Y3 ⟨rfl, hs, hk⟩
          have F3 := Lib.hid (F2.out.exec hs hk)
          clear hs hk
          go_wp2_with fail
          refine hK.out _ _ F3.out.fb (fun k3 => ?_)
          clear hK K
          try simp only [List.setIfInBounds_toArray, List.set_cons_zero, List.set_cons_succ]
          refine wpAnyH_take (i := 6) (oi := ⟨some 80, _, _, _, _, _⟩) (v := .tuple #[.agg #[.int .u32 0, .int .u32 0, .int .u32 0, .int .u32 0, .int .u32 0, .int .u32 0, .int .u32 0, .int .u32 0, .int .u32 0, .int .u32 0, .int .u32 0, .int .u32 0, .int .u32 0, .int .u32 0, .int .u32 100, .int .u32 1000], .agg #[.int .i64 0, .int .i64 0, .bool false, .bool false, .bool false, .int .i64 0, .int .i64 0, .int .i64 cc1, .int .i64 0, .int .i64 0], .int .i64 0]) rfl (by kernel_rfl) (by kernel_rfl) (by kernel_rfl) (fun _ _ _ h => by cases h.1) (Or.inl ⟨by rfl, fun W hSw => by (try dsimp only at hSw); go_simp⟩) k3 ?_
          try simp only [Act.put, List.setIfInBounds_toArray, List.set_cons_zero, List.set_cons_succ]
          refine wpAnyH_take (i := 7) (oi := ⟨some 87, _, _, _, _, _⟩) (v := .agg #[.int .u32 0, .int .u32 0, .int .u32 0, .int .u32 0, .int .u32 0, .int .u32 0, .int .u32 0, .int .u32 0, .int .u32 0, .int .u32 0, .int .u32 0, .int .u32 0, .int .u32 0, .int .u32 0, .int .u32 100, .int .u32 1000]) rfl (by kernel_rfl) (by kernel_rfl) (by kernel_rfl) (fun _ _ _ h => by cases h.1) (Or.inl ⟨by rfl, fun W hSw => by (try dsimp only at hSw); go_simp⟩) k3 ?_
          try simp only [Act.put, List.setIfInBounds_toArray, List.set_cons_zero, List.set_cons_succ]
          refine wpAnyH_take (i := 8) (oi := ⟨some 88, _, _, _, _, _⟩) (v := .agg #[.int .i64 0, .int .i64 0, .bool false, .bool false, .bool false, .int .i64 0, .int .i64 0, .int .i64 cc1, .int .i64 0, .int .i64 0]) rfl (by kernel_rfl) (by kernel_rfl) (by kernel_rfl) (fun _ _ _ h => by cases h.1) (Or.inl ⟨by rfl, fun W hSw => by (try dsimp only at hSw); go_simp⟩) k3 ?_
          try simp only [Act.put, List.setIfInBounds_toArray, List.set_cons_zero, List.set_cons_succ]
          refine wpAnyH_take (i := 9) (oi := ⟨some 89, _, _, _, _, _⟩) (v := .int .i64 0) rfl (by kernel_rfl) (by kernel_rfl) (by kernel_rfl) (fun _ _ _ h => by cases h.1) (Or.inl ⟨by rfl, fun W hSw => by (try dsimp only at hSw); go_simp⟩) k3 ?_
          try simp only [Act.put, List.setIfInBounds_toArray, List.set_cons_zero, List.set_cons_succ]
          refine wpAnyH_ready (rs := [10]) (by kernel_rfl) (by simp) ?_
          refine AllReadyH.cons (o := ⟨some 12, _, _, _, _, _⟩) rfl (fun K hK => ?_) AllReadyH.nil
          go_simp
          have f4 := F3.out.al
          obtain ⟨Y4, hY4⟩ : ∃ y, y = Y3.alloc (.cells #[.int .u32 0, .int .u32 0, .int .u32 0, .int .u32 0, .int .u32 0, .int .u32 0, .int .u32 0, .int .u32 0, .int .u32 0, .int .u32 0, .int .u32 0, .int .u32 0, .int .u32 0, .int .u32 0, .int .u32 0, .int .u32 0] 28) := ⟨_, rfl⟩
          obtain ⟨B7, hB7⟩ : ∃ b, b = Y3.heap.size := ⟨_, rfl⟩
          rw [← hY4, ← hB7] at f4 ⊢
          have F4 := Lib.hid f4
          clear hY4 hB7 f4
          refine hK.out _ _ F4.out.fb (fun k4 => ?_)
          clear hK K
          try simp only [List.setIfInBounds_toArray, List.set_cons_zero, List.set_cons_succ]
          refine wpAnyH_ready (rs := [12]) (by kernel_rfl) (by simp) ?_
          refine AllReadyH.cons (o := ⟨none, _, _, _, _, _⟩) rfl (fun K hK => ?_) AllReadyH.nil
          obtain ⟨hb5, x5, hx5, hr5⟩ := F4.out.2.2.2.1 B7 rfl
          rw [if_pos (by rfl)]
          refine op_store _ _ _ rfl _ rfl _ rfl (HSR1.out _ _ _ hr5 hx5) ?_
          have f5 := F4.out.st HB6.out (mvR 100 1000)
          obtain ⟨Y5, hY5⟩ : ∃ y, y = Y4.setRow B7 (regA (mvR 100 1000)) := ⟨_, rfl⟩
          rw [← hY5] at f5 ⊢
          have F5 := Lib.hid f5
          clear hY5 f5 hb5 hx5 hr5 x5
          refine hK.out _ _ F5.out.fb (fun k5 => ?_)
          clear hK K
          try simp only [List.setIfInBounds_toArray, List.set_cons_zero, List.set_cons_succ]
          refine wpAnyH_ready (rs := [13]) (by kernel_rfl) (by simp) ?_
          refine AllReadyH.cons (o := ⟨none, _, _, _, _, _⟩) rfl (fun K hK => ?_) AllReadyH.nil
          obtain ⟨hb6, x6, hx6, hr6⟩ := F5.out.2.2.2.2 B8 rfl
          rw [if_pos (by rfl)]
          refine op_store _ _ _ rfl _ rfl _ rfl (HSP1.out _ _ _ hr6 hx6) ?_
          have f6 := F5.out.st2 (⟨0, 0, false, false, false, 0, 0, cc1, 0, 0⟩)
          obtain ⟨Y6, hY6⟩ : ∃ y, y = Y5.setRow B8 (pswA (⟨0, 0, false, false, false, 0, 0, cc1, 0, 0⟩)) := ⟨_, rfl⟩
          rw [← hY6] at f6 ⊢
          have F6 := Lib.hid f6.1
          have P6 := Lib.hid f6.2
          clear hY6 f6 hb6 hx6 hr6 x6
          refine hK.out _ _ F6.out.fb (fun k6 => ?_)
          clear hK K
          try simp only [List.setIfInBounds_toArray, List.set_cons_zero, List.set_cons_succ]
          refine wpAnyH_take (i := 14) (oi := ⟨some 14, _, _, _, _, _⟩) (v := .int .i64 0) rfl (by kernel_rfl) (by kernel_rfl) (by kernel_rfl) (fun _ _ _ h => by cases h.1) (Or.inl ⟨by rfl, fun W hSw => by (try dsimp only at hSw); go_simp⟩) k6 ?_
          try simp only [Act.put, List.setIfInBounds_toArray, List.set_cons_zero, List.set_cons_succ]
          refine wpAnyH_done (by kernel_rfl) ?_ _
          refine id ?_
          exact ⟨rfl, B7, B8, cut_mk rfl, F6.out.1, F6.out.2.1, F6.out.2.2.1, P6.out⟩
        · go_simp
          have f3 := F2.out.al
          obtain ⟨Y3, hY3⟩ : ∃ y, y = Y2.alloc (.cells #[.int .u32 0, .int .u32 0, .int .u32 0, .int .u32 0, .int .u32 0, .int .u32 0, .int .u32 0, .int .u32 0, .int .u32 0, .int .u32 0, .int .u32 0, .int .u32 0, .int .u32 0, .int .u32 0, .int .u32 0, .int .u32 0] 28) := ⟨_, rfl⟩
          obtain ⟨B7, hB7⟩ : ∃ b, b = Y2.heap.size := ⟨_, rfl⟩
          rw [← hY3, ← hB7] at f3 ⊢
          have F3 := Lib.hid f3
          clear hY3 hB7 f3
          refine hK.out _ _ F3.out.fb (fun k3 => ?_)
          clear hK K
          try simp only [List.setIfInBounds_toArray, List.set_cons_zero, List.set_cons_succ]
          refine wpAnyH_ready (rs := [5]) (by kernel_rfl) (by simp) ?_
          refine AllReadyH.cons (o := ⟨some 86, _, _, _, _, _⟩) rfl (fun K hK => ?_) AllReadyH.nil
          go_simp
          go_at_call 17
          refine (HE1.out A g h 1 Y3 F3.out.2.2.1).mono ?_
          rintro e Y4 ⟨rfl, hs, hk⟩
          have F4 := Lib.hid (F3.out.exec hs hk)
          clear hs hk
          go_wp2_with fail
          refine hK.out _ _ F4.out.fb (fun k4 => ?_)
          clear hK K
          try simp only [List.setIfInBounds_toArray, List.set_cons_zero, List.set_cons_succ]
          refine wpAnyH_take (i := 6) (oi := ⟨some 80, _, _, _, _, _⟩) (v := .tuple #[.agg #[.int .u32 0, .int .u32 0, .int .u32 0, .int .u32 0, .int .u32 0, .int .u32 0, .int .u32 0, .int .u32 0, .int .u32 0, .int .u32 0, .int .u32 0, .int .u32 0, .int .u32 0, .int .u32 0, .int .u32 100, .int .u32 1000], .agg #[.int .i64 0, .int .i64 0, .bool false, .bool false, .bool false, .int .i64 0, .int .i64 0, .int .i64 cc1, .int .i64 0, .int .i64 0], .int .i64 0]) rfl (by kernel_rfl) (by kernel_rfl) (by kernel_rfl) (fun _ _ _ h => by cases h.1) (Or.inl ⟨by rfl, fun W hSw => by (try dsimp only at hSw); go_simp⟩) k4 ?_
          try simp only [Act.put, List.setIfInBounds_toArray, List.set_cons_zero, List.set_cons_succ]
          refine wpAnyH_take (i := 7) (oi := ⟨some 87, _, _, _, _, _⟩) (v := .agg #[.int .u32 0, .int .u32 0, .int .u32 0, .int .u32 0, .int .u32 0, .int .u32 0, .int .u32 0, .int .u32 0, .int .u32 0, .int .u32 0, .int .u32 0, .int .u32 0, .int .u32 0, .int .u32 0, .int .u32 100, .int .u32 1000]) rfl (by kernel_rfl) (by kernel_rfl) (by kernel_rfl) (fun _ _ _ h => by cases h.1) (Or.inl ⟨by rfl, fun W hSw => by (try dsimp only at hSw); go_simp⟩) k4 ?_
          try simp only [Act.put, List.setIfInBounds_toArray, List.set_cons_zero, List.set_cons_succ]
          refine wpAnyH_take (i := 8) (oi := ⟨some 88, _, _, _, _, _⟩) (v := .agg #[.int .i64 0, .int .i64 0, .bool false, .bool false, .bool false, .int .i64 0, .int .i64 0, .int .i64 cc1, .int .i64 0, .int .i64 0]) rfl (by kernel_rfl) (by kernel_rfl) (by kernel_rfl) (fun _ _ _ h => by cases h.1) (Or.inl ⟨by rfl, fun W hSw => by (try dsimp only at hSw); go_simp⟩) k4 ?_
          try simp only [Act.put, List.setIfInBounds_toArray, List.set_cons_zero, List.set_cons_succ]
          refine wpAnyH_take (i := 9) (oi := ⟨some 89, _, _, _, _, _⟩) (v := .int .i64 0) rfl (by kernel_rfl) (by kernel_rfl) (by kernel_rfl) (fun _ _ _ h => by cases h.1) (Or.inl ⟨by rfl, fun W hSw => by (try dsimp only at hSw); go_simp⟩) k4 ?_
          try simp only [Act.put, List.setIfInBounds_toArray, List.set_cons_zero, List.set_cons_succ]
          refine wpAnyH_ready (rs := [12]) (by kernel_rfl) (by simp) ?_
          refine AllReadyH.cons (o := ⟨none, _, _, _, _, _⟩) rfl (fun K hK => ?_) AllReadyH.nil
          obtain ⟨hb5, x5, hx5, hr5⟩ := F4.out.2.2.2.1 B7 rfl
          rw [if_pos (by rfl)]
          refine op_store _ _ _ rfl _ rfl _ rfl (HSR1.out _ _ _ hr5 hx5) ?_
          have f5 := F4.out.st HB6.out (mvR 100 1000)
          obtain ⟨Y5, hY5⟩ : ∃ y, y = Y4.setRow B7 (regA (mvR 100 1000)) := ⟨_, rfl⟩
          rw [← hY5] at f5 ⊢
          have F5 := Lib.hid f5
          clear hY5 f5 hb5 hx5 hr5 x5
          refine hK.out _ _ F5.out.fb (fun k5 => ?_)
          clear hK K
          try simp only [List.setIfInBounds_toArray, List.set_cons_zero, List.set_cons_succ]
          refine wpAnyH_ready (rs := [13]) (by kernel_rfl) (by simp) ?_
          refine AllReadyH.cons (o := ⟨none, _, _, _, _, _⟩) rfl (fun K hK => ?_) AllReadyH.nil
          obtain ⟨hb6, x6, hx6, hr6⟩ := F5.out.2.2.2.2 B8 rfl
          rw [if_pos (by rfl)]
          refine op_store _ _ _ rfl _ rfl _ rfl (HSP1.out _ _ _ hr6 hx6) ?_
          have f6 := F5.out.st2 (⟨0, 0, false, false, false, 0, 0, cc1, 0, 0⟩)
          obtain ⟨Y6, hY6⟩ : ∃ y, y = Y5.setRow B8 (pswA (⟨0, 0, false, false, false, 0, 0, cc1, 0, 0⟩)) := ⟨_, rfl⟩
          rw [← hY6] at f6 ⊢
          have F6 := Lib.hid f6.1
          have P6 := Lib.hid f6.2
          clear hY6 f6 hb6 hx6 hr6 x6
          refine hK.out _ _ F6.out.fb (fun k6 => ?_)
          clear hK K
          try simp only [List.setIfInBounds_toArray, List.set_cons_zero, List.set_cons_succ]
          refine wpAnyH_take (i := 14) (oi := ⟨some 14, _, _, _, _, _⟩) (v := .int .i64 0) rfl (by kernel_rfl) (by kernel_rfl) (by kernel_rfl) (fun _ _ _ h => by cases h.1) (Or.inl ⟨by rfl, fun W hSw => by (try dsimp only at hSw); go_simp⟩) k6 ?_
          try simp only [Act.put, List.setIfInBounds_toArray, List.set_cons_zero, List.set_cons_succ]
          refine wpAnyH_done (by kernel_rfl) ?_ _
          refine id ?_
          exact ⟨rfl, B7, B8, cut_mk rfl, F6.out.1, F6.out.2.1, F6.out.2.2.1, P6.out⟩
    · go_simp
      have f1 := F00.out.al
      obtain ⟨Y1, hY1⟩ : ∃ y, y = Y0.alloc (.cells #[.int .u32 0, .int .u32 0, .int .u32 0, .int .u32 0, .int .u32 0, .int .u32 0, .int .u32 0, .int .u32 0, .int .u32 0, .int .u32 0, .int .u32 0, .int .u32 0, .int .u32 0, .int .u32 0, .int .u32 0, .int .u32 0] 28) := ⟨_, rfl⟩
      obtain ⟨B7, hB7⟩ : ∃ b, b = Y0.heap.size := ⟨_, rfl⟩
      rw [← hY1, ← hB7] at f1 ⊢
      have F1 := Lib.hid f1
      clear hY1 hB7 f1
      refine hK.out _ _ F1.out.fb (fun k1 => ?_)
      clear hK K
      try simp only [List.setIfInBounds_toArray, List.set_cons_zero, List.set_cons_succ]
      refine wpAnyH_ready (rs := [1, 11]) (by kernel_rfl) (by simp) ?_
      refine AllReadyH.cons (o := ⟨some 82, _, _, _, _, _⟩) rfl (fun K hK => ?_) (AllReadyH.cons (o := ⟨some 13, _, _, _, _, _⟩) rfl (fun K hK => ?_) AllReadyH.nil)
      · go_simp
        go_at_call 27
        refine (HSS1.out Y1).mono ?_
        rintro e Y2 ⟨rfl, hb⟩
        have F2 := Lib.hid (F1.out.below hb)
        clear hb
        go_wp2_with fail
        refine hK.out _ _ F2.out.fb (fun k2 => ?_)
        clear hK K
        try simp only [List.setIfInBounds_toArray, List.set_cons_zero, List.set_cons_succ]
        refine wpAnyH_ready (rs := [5, 11]) (by kernel_rfl) (by simp) ?_
        refine AllReadyH.cons (o := ⟨some 86, _, _, _, _, _⟩) rfl (fun K hK => ?_) (AllReadyH.cons (o := ⟨some 13, _, _, _, _, _⟩) rfl (fun K hK => ?_) AllReadyH.nil)
        · go_simp
          go_at_call 17
          refine (HE1.out A g h 1 Y2 F2.out.2.2.1).mono ?_
          rintro e Y3 ⟨rfl, hs, hk⟩
          have F3 := Lib.hid (F2.out.exec hs hk)
          clear hs hk
          go_wp2_with fail
          refine hK.out _ _ F3.out.fb (fun k3 => ?_)
          clear hK K
          try simp only [List.setIfInBounds_toArray, List.set_cons_zero, List.set_cons_succ]
          refine wpAnyH_take (i := 6) (oi := ⟨some 80, _, _, _, _, _⟩) (v := .tuple #[.agg #[.int .u32 0, .int .u32 0, .int .u32 0, .int .u32 0, .int .u32 0, .int .u32 0, .int .u32 0, .int .u32 0, .int .u32 0, .int .u32 0, .int .u32 0, .int .u32 0, .int .u32 0, .int .u32 0, .int .u32 100, .int .u32 1000], .agg #[.int .i64 0, .int .i64 0, .bool false, .bool false, .bool false, .int .i64 0, .int .i64 0, .int .i64 cc1, .int .i64 0, .int .i64 0], .int .i64 0]) rfl (by kernel_rfl) (by kernel_rfl) (by kernel_rfl) (fun _ _ _ h => by cases h.1) (Or.inl ⟨by rfl, fun W hSw => by (try dsimp only at hSw); go_simp⟩) k3 ?_
          try simp only [Act.put, List.setIfInBounds_toArray, List.set_cons_zero, List.set_cons_succ]
          refine wpAnyH_take (i := 7) (oi := ⟨some 87, _, _, _, _, _⟩) (v := .agg #[.int .u32 0, .int .u32 0, .int .u32 0, .int .u32 0, .int .u32 0, .int .u32 0, .int .u32 0, .int .u32 0, .int .u32 0, .int .u32 0, .int .u32 0, .int .u32 0, .int .u32 0, .int .u32 0, .int .u32 100, .int .u32 1000]) rfl (by kernel_rfl) (by kernel_rfl) (by kernel_rfl) (fun _ _ _ h => by cases h.1) (Or.inl ⟨by rfl, fun W hSw => by (try dsimp only at hSw); go_simp⟩) k3 ?_
          try simp only [Act.put, List.setIfInBounds_toArray, List.set_cons_zero, List.set_cons_succ]
          refine wpAnyH_take (i := 8) (oi := ⟨some 88, _, _, _, _, _⟩) (v := .agg #[.int .i64 0, .int .i64 0, .bool false, .bool false, .bool false, .int .i64 0, .int .i64 0, .int .i64 cc1, .int .i64 0, .int .i64 0]) rfl (by kernel_rfl) (by kernel_rfl) (by kernel_rfl) (fun _ _ _ h => by cases h.1) (Or.inl ⟨by rfl, fun W hSw => by (try dsimp only at hSw); go_simp⟩) k3 ?_
          try simp only [Act.put, List.setIfInBounds_toArray, List.set_cons_zero, List.set_cons_succ]
          refine wpAnyH_take (i := 9) (oi := ⟨some 89, _, _, _, _, _⟩) (v := .int .i64 0) rfl (by kernel_rfl) (by kernel_rfl) (by kernel_rfl) (fun _ _ _ h => by cases h.1) (Or.inl ⟨by rfl, fun W hSw => by (try dsimp only at hSw); go_simp⟩) k3 ?_
          try simp only [Act.put, List.setIfInBounds_toArray, List.set_cons_zero, List.set_cons_succ]
          refine wpAnyH_ready (rs := [11]) (by kernel_rfl) (by simp) ?_
          refine AllReadyH.cons (o := ⟨some 13, _, _, _, _, _⟩) rfl (fun K hK => ?_) AllReadyH.nil
          go_simp
          have f4 := F3.out.al2
          obtain ⟨Y4, hY4⟩ : ∃ y, y = Y3.alloc (.cells #[.int .i64 0, .int .i64 0, .bool false, .bool false, .bool false, .int .i64 0, .int .i64 0, .int .i64 0, .int .i64 0, .int .i64 0] 30) := ⟨_, rfl⟩
          obtain ⟨B8, hB8⟩ : ∃ b, b = Y3.heap.size := ⟨_, rfl⟩
          rw [← hY4, ← hB8] at f4 ⊢
          have F4 := Lib.hid f4
          clear hY4 hB8 f4
          refine hK.out _ _ F4.out.fb (fun k4 => ?_)
          clear hK K
          try simp only [List.setIfInBounds_toArray, List.set_cons_zero, List.set_cons_succ]
          refine wpAnyH_ready (rs := [12]) (by kernel_rfl) (by simp) ?_
          refine AllReadyH.cons (o := ⟨none, _, _, _, _, _⟩) rfl (fun K hK => ?_) AllReadyH.nil
          obtain ⟨hb5, x5, hx5, hr5⟩ := F4.out.2.2.2.1 B7 rfl
          rw [if_pos (by rfl)]
          refine op_store _ _ _ rfl _ rfl _ rfl (HSR1.out _ _ _ hr5 hx5) ?_
          have f5 := F4.out.st HB6.out (mvR 100 1000)
          obtain ⟨Y5, hY5⟩ : ∃ y, y = Y4.setRow B7 (regA (mvR 100 1000)) := ⟨_, rfl⟩
          rw [← hY5] at f5 ⊢
          have F5 := Lib.hid f5
          clear hY5 f5 hb5 hx5 hr5 x5
          refine hK.out _ _ F5.out.fb (fun k5 => ?_)
          clear hK K
          try simp only [List.setIfInBounds_toArray, List.set_cons_zero, List.set_cons_succ]
          refine wpAnyH_ready (rs := [13]) (by kernel_rfl) (by simp) ?_
          refine AllReadyH.cons (o := ⟨none, _, _, _, _, _⟩) rfl (fun K hK => ?_) AllReadyH.nil
          obtain ⟨hb6, x6, hx6, hr6⟩ := F5.out.2.2.2.2 B8 rfl
          rw [if_pos (by rfl)]
          refine op_store _ _ _ rfl _ rfl _ rfl (HSP1.out _ _ _ hr6 hx6) ?_
          have f6 := F5.out.st2 (⟨0, 0, false, false, false, 0, 0, cc1, 0, 0⟩)
          obtain ⟨Y6, hY6⟩ : ∃ y, y = Y5.setRow B8 (pswA (⟨0, 0, false, false, false, 0, 0, cc1, 0, 0⟩)) := ⟨_, rfl⟩
          rw [← hY6] at f6 ⊢
          have F6 := Lib.hid f6.1
          have P6 := Lib.hid f6.2
          clear hY6 f6 hb6 hx6 hr6 x6
          refine hK.out _ _ F6.out.fb (fun k6 => ?_)
          clear hK K
          try simp only [List.setIfInBounds_toArray, List.set_cons_zero, List.set_cons_succ]
          refine wpAnyH_take (i := 14) (oi := ⟨some 14, _, _, _, _, _⟩) (v := .int .i64 0) rfl (by kernel_rfl) (by kernel_rfl) (by kernel_rfl) (fun _ _ _ h => by cases h.1) (Or.inl ⟨by rfl, fun W hSw => by (try dsimp only at hSw); go_simp⟩) k6 ?_
          try simp only [Act.put, List.setIfInBounds_toArray, List.set_cons_zero, List.set_cons_succ]
          refine wpAnyH_done (by kernel_rfl) ?_ _
          refine id ?_
          exact ⟨rfl, B7, B8, cut_mk rfl, F6.out.1, F6.out.2.1, F6.out.2.2.1, P6.out⟩
        · go_simp
          have f3 := F2.out.al2
          obtain ⟨Y3, hY3⟩ : ∃ y, y = Y2.alloc (.cells #[.int .i64 0, .int .i64 0, .bool false, .bool false, .bool false, .int .i64 0, .int .i64 0, .int .i64 0, .int .i64 0, .int .i64 0] 30) := ⟨_, rfl⟩
          obtain ⟨B8, hB8⟩ : ∃ b, b = Y2.heap.size := ⟨_, rfl⟩
          rw [← hY3, ← hB8] at f3 ⊢
          have F3 := Lib.hid f3
          clear hY3 hB8 f3
          refine hK.out _ _ F3.out.fb (fun k3 => ?_)
          clear hK K
          try simp only [List.setIfInBounds_toArray, List.set_cons_zero, List.set_cons_succ]
          refine wpAnyH_ready (rs := [5]) (by kernel_rfl) (by simp) ?_
          refine AllReadyH.cons (o := ⟨some 86, _, _, _, _, _⟩) rfl (fun K hK => ?_) AllReadyH.nil
          go_simp
          go_at_call 17
          refine (HE1.out A g h 1 Y3 F3.out.2.2.1).mono ?_
          rintro e Y4 ⟨rfl, hs, hk⟩
          have F4 := Lib.hid (F3.out.exec hs hk)
          clear hs hk
          go_wp2_with fail
          refine hK.out _ _ F4.out.fb (fun k4 => ?_)
          clear hK K
          try simp only [List.setIfInBounds_toArray, List.set_cons_zero, List.set_cons_succ]
          refine wpAnyH_take (i := 6) (oi := ⟨some 80, _, _, _, _, _⟩) (v := .tuple #[.agg #[.int .u32 0, .int .u32 0, .int .u32 0, .int .u32 0, .int .u32 0, .int .u32 0, .int .u32 0, .int .u32 0, .int .u32 0, .int .u32 0, .int .u32 0, .int .u32 0, .int .u32 0, .int .u32 0, .int .u32 100, .int .u32 1000], .agg #[.int .i64 0, .int .i64 0, .bool false, .bool false, .bool false, .int .i64 0, .int .i64 0, .int .i64 cc1, .int .i64 0, .int .i64 0], .int .i64 0]) rfl (by kernel_rfl) (by kernel_rfl) (by kernel_rfl) (fun _ _ _ h => by cases h.1) (Or.inl ⟨by rfl, fun W hSw => by (try dsimp only at hSw); go_simp⟩) k4 ?_
          try simp only [Act.put, List.setIfInBounds_toArray, List.set_cons_zero, List.set_cons_succ]
          refine wpAnyH_take (i := 7) (oi := ⟨some 87, _, _, _, _, _⟩) (v := .agg #[.int .u32 0, .int .u32 0, .int .u32 0, .int .u32 0, .int .u32 0, .int .u32 0, .int .u32 0, .int .u32 0, .int .u32 0, .int .u32 0, .int .u32 0, .int .u32 0, .int .u32 0, .int .u32 0, .int .u32 100, .int .u32 1000]) rfl (by kernel_rfl) (by kernel_rfl) (by kernel_rfl) (fun _ _ _ h => by cases h.1) (Or.inl ⟨by rfl, fun W hSw => by (try dsimp only at hSw); go_simp⟩) k4 ?_
          try simp only [Act.put, List.setIfInBounds_toArray, List.set_cons_zero, List.set_cons_succ]
          refine wpAnyH_take (i := 8) (oi := ⟨some 88, _, _, _, _, _⟩) (v := .agg #[.int .i64 0, .int .i64 0, .bool false, .bool false, .bool false, .int .i64 0, .int .i64 0, .int .i64 cc1, .int .i64 0, .int .i64 0]) rfl (by kernel_rfl) (by kernel_rfl) (by kernel_rfl) (fun _ _ _ h => by cases h.1) (Or.inl ⟨by rfl, fun W hSw => by (try dsimp only at hSw); go_simp⟩) k4 ?_
          try simp only [Act.put, List.setIfInBounds_toArray, List.set_cons_zero, List.set_cons_succ]
          refine wpAnyH_take (i := 9) (oi := ⟨some 89, _, _, _, _, _⟩) (v := .int .i64 0) rfl (by kernel_rfl) (by kernel_rfl) (by kernel_rfl) (fun _ _ _ h => by cases h.1) (Or.inl ⟨by rfl, fun W hSw => by (try dsimp only at hSw); go_simp⟩) k4 ?_
          try simp only [Act.put, List.setIfInBounds_toArray, List.set_cons_zero, List.set_cons_succ]
          refine wpAnyH_ready (rs := [12]) (by kernel_rfl) (by simp) ?_
          refine AllReadyH.cons (o := ⟨none, _, _, _, _, _⟩) rfl (fun K hK => ?_) AllReadyH.nil
          obtain ⟨hb5, x5, hx5, hr5⟩ := F4.out.2.2.2.1 B7 rfl
          rw [if_pos (by rfl)]
          refine op_store _ _ _ rfl _ rfl _ rfl (HSR1.out _ _ _ hr5 hx5) ?_
          have f5 := F4.out.st HB6.out (mvR 100 1000)
          obtain ⟨Y5, hY5⟩ : ∃ y, y = Y4.setRow B7 (regA (mvR 100 1000)) := ⟨_, rfl⟩
          rw [← hY5] at f5 ⊢
          have F5 := Lib.hid f5
          clear hY5 f5 hb5 hx5 hr5 x5
          refine hK.out _ _ F5.out.fb (fun k5 => ?_)
          clear hK K
          try simp only [List.setIfInBounds_toArray, List.set_cons_zero, List.set_cons_succ]
          refine wpAnyH_ready (rs := [13]) (by kernel_rfl) (by simp) ?_
          refine AllReadyH.cons (o := ⟨none, _, _, _, _, _⟩) rfl (fun K hK => ?_) AllReadyH.nil
          obtain ⟨hb6, x6, hx6, hr6⟩ := F5.out.2.2.2.2 B8 rfl
          rw [if_pos (by rfl)]
          refine op_store _ _ _ rfl _ rfl _ rfl (HSP1.out _ _ _ hr6 hx6) ?_
          have f6 := F5.out.st2 (⟨0, 0, false, false, false, 0, 0, cc1, 0, 0⟩)
          obtain ⟨Y6, hY6⟩ : ∃ y, y = Y5.setRow B8 (pswA (⟨0, 0, false, false, false, 0, 0, cc1, 0, 0⟩)) := ⟨_, rfl⟩
          rw [← hY6] at f6 ⊢
          have F6 := Lib.hid f6.1
          have P6 := Lib.hid f6.2
          clear hY6 f6 hb6 hx6 hr6 x6
          refine hK.out _ _ F6.out.fb (fun k6 => ?_)
          clear hK K
          try simp only [List.setIfInBounds_toArray, List.set_cons_zero, List.set_cons_succ]
          refine wpAnyH_take (i := 14) (oi := ⟨some 14, _, _, _, _, _⟩) (v := .int .i64 0) rfl (by kernel_rfl) (by kernel_rfl) (by kernel_rfl) (fun _ _ _ h => by cases h.1) (Or.inl ⟨by rfl, fun W hSw => by (try dsimp only at hSw); go_simp⟩) k6 ?_
          try simp only [Act.put, List.setIfInBounds_toArray, List.set_cons_zero, List.set_cons_succ]
          refine wpAnyH_done (by kernel_rfl) ?_ _
          refine id ?_
          exact ⟨rfl, B7, B8, cut_mk rfl, F6.out.1, F6.out.2.1, F6.out.2.2.1, P6.out⟩
      · go_simp
        have f2 := F1.out.al2
        obtain ⟨Y2, hY2⟩ : ∃ y, y = Y1.alloc (.cells #[.int .i64 0, .int .i64 0, .bool false, .bool false, .bool false, .int .i64 0, .int .i64 0, .int .i64 0, .int .i64 0, .int .i64 0] 30) := ⟨_, rfl⟩
        obtain ⟨B8, hB8⟩ : ∃ b, b = Y1.heap.size := ⟨_, rfl⟩
        rw [← hY2, ← hB8] at f2 ⊢
        have F2 := Lib.hid f2
        clear hY2 hB8 f2
        refine hK.out _ _ F2.out.fb (fun k2 => ?_)
        clear hK K
        try simp only [List.setIfInBounds_toArray, List.set_cons_zero, List.set_cons_succ]
        refine wpAnyH_ready (rs := [1]) (by kernel_rfl) (by simp) ?_
        refine AllReadyH.cons (o := ⟨some 82, _, _, _, _, _⟩) rfl (fun K hK => ?_) AllReadyH.nil
        go_simp
        go_at_call 27
        refine (HSS1.out Y2).mono ?_
        rintro e Y3 ⟨rfl, hb⟩
        have F3 := Lib.hid (F2.out.below hb)
        clear hb
        go_wp2_with fail
        refine hK.out _ _ F3.out.fb (fun k3 => ?_)
        clear hK K
        try simp only [List.setIfInBounds_toArray, List.set_cons_zero, List.set_cons_succ]
        refine wpAnyH_ready (rs := [5]) (by kernel_rfl) (by simp) ?_
        refine AllReadyH.cons (o := ⟨some 86, _, _, _, _, _⟩) rfl (fun K hK => ?_) AllReadyH.nil
        go_simp
        go_at_call 17
        refine (HE1.out A g h 1 Y3 F3.out.2.2.1).mono ?_
        rintro e Y4 ⟨rfl, hs, hk⟩
        have F4 := Lib.hid (F3.out.exec hs hk)
        clear hs hk
        go_wp2_with fail
        refine hK.out _ _ F4.out.fb (fun k4 => ?_)
        clear hK K
        try simp only [List.setIfInBounds_toArray, List.set_cons_zero, List.set_cons_succ]
        refine wpAnyH_take (i := 6) (oi := ⟨some 80, _, _, _, _, _⟩) (v := .tuple #[.agg #[.int .u32 0, .int .u32 0, .int .u32 0, .int .u32 0, .int .u32 0, .int .u32 0, .int .u32 0, .int .u32 0, .int .u32 0, .int .u32 0, .int .u32 0, .int .u32 0, .int .u32 0, .int .u32 0, .int .u32 100, .int .u32 1000], .agg #[.int .i64 0, .int .i64 0, .bool false, .bool false, .bool false, .int .i64 0, .int .i64 0, .int .i64 cc1, .int .i64 0, .int .i64 0], .int .i64 0]) rfl (by kernel_rfl) (by kernel_rfl) (by kernel_rfl) (fun _ _ _ h => by cases h.1) (Or.inl ⟨by rfl, fun W hSw => by (try dsimp only at hSw); go_simp⟩) k4 ?_
        try simp only [Act.put, List.setIfInBounds_toArray, List.set_cons_zero, List.set_cons_succ]
        refine wpAnyH_take (i := 7) (oi := ⟨some 87, _, _, _, _, _⟩) (v := .agg #[.int .u32 0, .int .u32 0, .int .u32 0, .int .u32 0, .int .u32 0, .int .u32 0, .int .u32 0, .int .u32 0, .int .u32 0, .int .u32 0, .int .u32 0, .int .u32 0, .int .u32 0, .int .u32 0, .int .u32 100, .int .u32 1000]) rfl (by kernel_rfl) (by kernel_rfl) (by kernel_rfl) (fun _ _ _ h => by cases h.1) (Or.inl ⟨by rfl, fun W hSw => by (try dsimp only at hSw); go_simp⟩) k4 ?_
        try simp only [Act.put, List.setIfInBounds_toArray, List.set_cons_zero, List.set_cons_succ]
        refine wpAnyH_take (i := 8) (oi := ⟨some 88, _, _, _, _, _⟩) (v := .agg #[.int .i64 0, .int .i64 0, .bool false, .bool false, .bool false, .int .i64 0, .int .i64 0, .int .i64 cc1, .int .i64 0, .int .i64 0]) rfl (by kernel_rfl) (by kernel_rfl) (by kernel_rfl) (fun _ _ _ h => by cases h.1) (Or.inl ⟨by rfl, fun W hSw => by (try dsimp only at hSw); go_simp⟩) k4 ?_
        try simp only [Act.put, List.setIfInBounds_toArray, List.set_cons_zero, List.set_cons_succ]
        refine wpAnyH_take (i := 9) (oi := ⟨some 89, _, _, _, _, _⟩) (v := .int .i64 0) rfl (by kernel_rfl) (by kernel_rfl) (by kernel_rfl) (fun _ _ _ h => by cases h.1) (Or.inl ⟨by rfl, fun W hSw => by (try dsimp only at hSw); go_simp⟩) k4 ?_
        try simp only [Act.put, List.setIfInBounds_toArray, List.set_cons_zero, List.set_cons_succ]
        refine wpAnyH_ready (rs := [12]) (by kernel_rfl) (by simp) ?_
        refine AllReadyH.cons (o := ⟨none, _, _, _, _, _⟩) rfl (fun K hK => ?_) AllReadyH.nil
        obtain ⟨hb5, x5, hx5, hr5⟩ := F4.out.2.2.2.1 B7 rfl
        rw [if_pos (by rfl)]
        refine op_store _ _ _ rfl _ rfl _ rfl (HSR1.out _ _ _ hr5 hx5) ?_
        have f5 := F4.out.st HB6.out (mvR 100 1000)
        obtain ⟨Y5, hY5⟩ : ∃ y, y = Y4.setRow B7 (regA (mvR 100 1000)) := ⟨_, rfl⟩
        rw [← hY5] at f5 ⊢
        have F5 := Lib.hid f5
        clear hY5 f5 hb5 hx5 hr5 x5
        refine hK.out _ _ F5.out.fb (fun k5 => ?_)
        clear hK K
        try simp only [List.setIfInBounds_toArray, List.set_cons_zero, List.set_cons_succ]
        refine wpAnyH_ready (rs := [13]) (by kernel_rfl) (by simp) ?_
        refine AllReadyH.cons (o := ⟨none, _, _, _, _, _⟩) rfl (fun K hK => ?_) AllReadyH.nil
        obtain ⟨hb6, x6, hx6, hr6⟩ := F5.out.2.2.2.2 B8 rfl
        rw [if_pos (by rfl)]
        refine op_store _ _ _ rfl _ rfl _ rfl (HSP1.out _ _ _ hr6 hx6) ?_
        have f6 := F5.out.st2 (⟨0, 0, false, false, false, 0, 0, cc1, 0, 0⟩)
        obtain ⟨Y6, hY6⟩ : ∃ y, y = Y5.setRow B8 (pswA (⟨0, 0, false, false, false, 0, 0, cc1, 0, 0⟩)) := ⟨_, rfl⟩
        rw [← hY6] at f6 ⊢
        have F6 := Lib.hid f6.1
        have P6 := Lib.hid f6.2
        clear hY6 f6 hb6 hx6 hr6 x6
        refine hK.out _ _ F6.out.fb (fun k6 => ?_)
        clear hK K
        try simp only [List.setIfInBounds_toArray, List.set_cons_zero, List.set_cons_succ]
        refine wpAnyH_take (i := 14) (oi := ⟨some 14, _, _, _, _, _⟩) (v := .int .i64 0) rfl (by kernel_rfl) (by kernel_rfl) (by kernel_rfl) (fun _ _ _ h => by cases h.1) (Or.inl ⟨by rfl, fun W hSw => by (try dsimp only at hSw); go_simp⟩) k6 ?_
        try simp only [Act.put, List.setIfInBounds_toArray, List.set_cons_zero, List.set_cons_succ]
        refine wpAnyH_done (by kernel_rfl) ?_ _
        refine id ?_
        exact ⟨rfl, B7, B8, cut_mk rfl, F6.out.1, F6.out.2.1, F6.out.2.2.1, P6.out⟩
    · go_simp
      have f1 := F00.out.al2
      obtain ⟨Y1, hY1⟩ : ∃ y, y = Y0.alloc (.cells #[.int .i64 0, .int .i64 0, .bool false, .bool false, .bool false, .int .i64 0, .int .i64 0, .int .i64 0, .int .i64 0, .int .i64 0] 30) := ⟨_, rfl⟩
      obtain ⟨B8, hB8⟩ : ∃ b, b = Y0.heap.size := ⟨_, rfl⟩
      rw [← hY1, ← hB8] at f1 ⊢
      have F1 := Lib.hid f1
      clear hY1 hB8 f1
      refine hK.out _ _ F1.out.fb (fun k1 => ?_)
      clear hK K
      try simp only [List.setIfInBounds_toArray, List.set_cons_zero, List.set_cons_succ]
      refine wpAnyH_ready (rs := [1, 10]) (by kernel_rfl) (by simp) ?_
      refine AllReadyH.cons (o := ⟨some 82, _, _, _, _, _⟩) rfl (fun K hK => ?_) (AllReadyH.cons (o := ⟨some 12, _, _, _, _, _⟩) rfl (fun K hK => ?_) AllReadyH.nil)
      · go_simp
        go_at_call 27
        refine (HSS1.out Y1).mono ?_
        rintro e Y2 ⟨rfl, hb⟩
        have F2 := Lib.hid (F1.out.below hb)
        clear hb
        go_wp2_with fail
        refine hK.out _ _ F2.out.fb (fun k2 => ?_)
        clear hK K
        try simp only [List.setIfInBounds_toArray, List.set_cons_zero, List.set_cons_succ]
        refine wpAnyH_ready (rs := [5, 10]) (by kernel_rfl) (by simp) ?_
        refine AllReadyH.cons (o := ⟨some 86, _, _, _, _, _⟩) rfl (fun K hK => ?_) (AllReadyH.cons (o := ⟨some 12, _, _, _, _, _⟩) rfl (fun K hK => ?_) AllReadyH.nil)
        · go_simp
          go_at_call 17
          refine (HE1.out A g h 1 Y2 F2.out.2.2.1).mono ?_
          rintro e Y3 ⟨rfl, hs, hk⟩
          have F3 := Lib.hid (F2.out.exec hs hk)
          clear hs hk
          go_wp2_with fail
          refine hK.out _ _ F3.out.fb (fun k3 => ?_)
          clear hK K
          try simp only [List.setIfInBounds_toArray, List.set_cons_zero, List.set_cons_succ]
          refine wpAnyH_take (i := 6) (oi := ⟨some 80, _, _, _, _, _⟩) (v := .tuple #[.agg #[.int .u32 0, .int .u32 0, .int .u32 0, .int .u32 0, .int .u32 0, .int .u32 0, .int .u32 0, .int .u32 0, .int .u32 0, .int .u32 0, .int .u32 0, .int .u32 0, .int .u32 0, .int .u32 0, .int .u32 100, .int .u32 1000], .agg #[.int .i64 0, .int .i64 0, .bool false, .bool false, .bool false, .int .i64 0, .int .i64 0, .int .i64 cc1, .int .i64 0, .int .i64 0], .int .i64 0]) rfl (by kernel_rfl) (by kernel_rfl) (by kernel_rfl) (fun _ _ _ h => by cases h.1) (Or.inl ⟨by rfl, fun W hSw => by (try dsimp only at hSw); go_simp⟩) k3 ?_
          try simp only [Act.put, List.setIfInBounds_toArray, List.set_cons_zero, List.set_cons_succ]
          refine wpAnyH_take (i := 7) (oi := ⟨some 87, _, _, _, _, _⟩) (v := .agg #[.int .u32 0, .int .u32 0, .int .u32 0, .int .u32 0, .int .u32 0, .int .u32 0, .int .u32 0, .int .u32 0, .int .u32 0, .int .u32 0, .int .u32 0, .int .u32 0, .int .u32 0, .int .u32 0, .int .u32 100, .int .u32 1000]) rfl (by kernel_rfl) (by kernel_rfl) (by kernel_rfl) (fun _ _ _ h => by cases h.1) (Or.inl ⟨by rfl, fun W hSw => by (try dsimp only at hSw); go_simp⟩) k3 ?_
          try simp only [Act.put, List.setIfInBounds_toArray, List.set_cons_zero, List.set_cons_succ]
          refine wpAnyH_take (i := 8) (oi := ⟨some 88, _, _, _, _, _⟩) (v := .agg #[.int .i64 0, .int .i64 0, .bool false, .bool false, .bool false, .int .i64 0, .int .i64 0, .int .i64 cc1, .int .i64 0, .int .i64 0]) rfl (by kernel_rfl) (by kernel_rfl) (by kernel_rfl) (fun _ _ _ h => by cases h.1) (Or.inl ⟨by rfl, fun W hSw => by (try dsimp only at hSw); go_simp⟩) k3 ?_
          try simp only [Act.put, List.setIfInBounds_toArray, List.set_cons_zero, List.set_cons_succ]
          refine wpAnyH_take (i := 9) (oi := ⟨some 89, _, _, _, _, _⟩) (v := .int .i64 0) rfl (by kernel_rfl) (by kernel_rfl) (by kernel_rfl) (fun _ _ _ h => by cases h.1) (Or.inl ⟨by rfl, fun W hSw => by (try dsimp only at hSw); go_simp⟩) k3 ?_
          try simp only [Act.put, List.setIfInBounds_toArray, List.set_cons_zero, List.set_cons_succ]
          refine wpAnyH_ready (rs := [10]) (by kernel_rfl) (by simp) ?_
          refine AllReadyH.cons (o := ⟨some 12, _, _, _, _, _⟩) rfl (fun K hK => ?_) AllReadyH.nil
          go_simp
          have f4 := F3.out.al
          obtain ⟨Y4, hY4⟩ : ∃ y, y = Y3.alloc (.cells #[.int .u32 0, .int .u32 0, .int .u32 0, .int .u32 0, .int .u32 0, .int .u32 0, .int .u32 0, .int .u32 0, .int .u32 0, .int .u32 0, .int .u32 0, .int .u32 0, .int .u32 0, .int .u32 0, .int .u32 0, .int .u32 0] 28) := ⟨_, rfl⟩
          obtain ⟨B7, hB7⟩ : ∃ b, b = Y3.heap.size := ⟨_, rfl⟩
          rw [← hY4, ← hB7] at f4 ⊢
          have F4 := Lib.hid f4
          clear hY4 hB7 f4
          refine hK.out _ _ F4.out.fb (fun k4 => ?_)
          clear hK K
          try simp only [List.setIfInBounds_toArray, List.set_cons_zero, List.set_cons_succ]
          refine wpAnyH_ready (rs := [12]) (by kernel_rfl) (by simp) ?_
          refine AllReadyH.cons (o := ⟨none, _, _, _, _, _⟩) rfl (fun K hK => ?_) AllReadyH.nil
          obtain ⟨hb5, x5, hx5, hr5⟩ := F4.out.2.2.2.1 B7 rfl
          rw [if_pos (by rfl)]
          refine op_store _ _ _ rfl _ rfl _ rfl (HSR1.out _ _ _ hr5 hx5) ?_
          have f5 := F4.out.st HB6.out (mvR 100 1000)
          obtain ⟨Y5, hY5⟩ : ∃ y, y = Y4.setRow B7 (regA (mvR 100 1000)) := ⟨_, rfl⟩
          rw [← hY5] at f5 ⊢
          have F5 := Lib.hid f5
          clear hY5 f5 hb5 hx5 hr5 x5
          refine hK.out _ _ F5.out.fb (fun k5 => ?_)
          clear hK K
          try simp only [List.setIfInBounds_toArray, List.set_cons_zero, List.set_cons_succ]
          refine wpAnyH_ready (rs := [13]) (by kernel_rfl) (by simp) ?_
          refine AllReadyH.cons (o := ⟨none, _, _, _, _, _⟩) rfl (fun K hK => ?_) AllReadyH.nil
          obtain ⟨hb6, x6, hx6, hr6⟩ := F5.out.2.2.2.2 B8 rfl
          rw [if_pos (by rfl)]
          refine op_store _ _ _ rfl _ rfl _ rfl (HSP1.out _ _ _ hr6 hx6) ?_
          have f6 := F5.out.st2 (⟨0, 0, false, false, false, 0, 0, cc1, 0, 0⟩)
          obtain ⟨Y6, hY6⟩ : ∃ y, y = Y5.setRow B8 (pswA (⟨0, 0, false, false, false, 0, 0, cc1, 0, 0⟩)) := ⟨_, rfl⟩
          rw [← hY6] at f6 ⊢
          have F6 := Lib.hid f6.1
          have P6 := Lib.hid f6.2
          clear hY6 f6 hb6 hx6 hr6 x6
          refine hK.out _ _ F6.out.fb (fun k6 => ?_)
          clear hK K
          try simp only [List.setIfInBounds_toArray, List.set_cons_zero, List.set_cons_succ]
          refine wpAnyH_take (i := 14) (oi := ⟨some 14, _, _, _, _, _⟩) (v := .int .i64 0) rfl (by kernel_rfl) (by kernel_rfl) (by kernel_rfl) (fun _ _ _ h => by cases h.1) (Or.inl ⟨by rfl, fun W hSw => by (try dsimp only at hSw); go_simp⟩) k6 ?_
          try simp only [Act.put, List.setIfInBounds_toArray, List.set_cons_zero, List.set_cons_succ]
          refine wpAnyH_done (by kernel_rfl) ?_ _
          refine id ?_
          exact ⟨rfl, B7, B8, cut_mk rfl, F6.out.1, F6.out.2.1, F6.out.2.2.1, P6.out⟩
        · go_simp
          have f3 := F2.out.al
          obtain ⟨Y3, hY3⟩ : ∃ y, y = Y2.alloc (.cells #[.int .u32 0, .int .u32 0, .int .u32 0, .int .u32 0, .int .u32 0, .int .u32 0, .int .u32 0, .int .u32 0, .int .u32 0, .int .u32 0, .int .u32 0, .int .u32 0, .int .u32 0, .int .u32 0, .int .u32 0, .int .u32 0] 28) := ⟨_, rfl⟩
          obtain ⟨B7, hB7⟩ : ∃ b, b = Y2.heap.size := ⟨_, rfl⟩
          rw [← hY3, ← hB7] at f3 ⊢
          have F3 := Lib.hid f3
          clear hY3 hB7 f3
          refine hK.out _ _ F3.out.fb (fun k3 => ?_)
          clear hK K
          try simp only [List.setIfInBounds_toArray, List.set_cons_zero, List.set_cons_succ]
          refine wpAnyH_ready (rs := [5]) (by kernel_rfl) (by simp) ?_
          refine AllReadyH.cons (o := ⟨some 86, _, _, _, _, _⟩) rfl (fun K hK => ?_) AllReadyH.nil
          go_simp
          go_at_call 17
          refine (HE1.out A g h 1 Y3 F3.out.2.2.1).mono ?_
          rintro e Y4 ⟨rfl, hs, hk⟩
          have F4 := Lib.hid (F3.out.exec hs hk)
          clear hs hk
          go_wp2_with fail
          refine hK.out _ _ F4.out.fb (fun k4 => ?_)
          clear hK K
          try simp only [List.setIfInBounds_toArray, List.set_cons_zero, List.set_cons_succ]
          refine wpAnyH_take (i := 6) (oi := ⟨some 80, _, _, _, _, _⟩) (v := .tuple #[.agg #[.int .u32 0, .int .u32 0, .int .u32 0, .int .u32 0, .int .u32 0, .int .u32 0, .int .u32 0, .int .u32 0, .int .u32 0, .int .u32 0, .int .u32 0, .int .u32 0, .int .u32 0, .int .u32 0, .int .u32 100, .int .u32 1000], .agg #[.int .i64 0, .int .i64 0, .bool false, .bool false, .bool false, .int .i64 0, .int .i64 0, .int .i64 cc1, .int .i64 0, .int .i64 0], .int .i64 0]) rfl (by kernel_rfl) (by kernel_rfl) (by kernel_rfl) (fun _ _ _ h => by cases h.1) (Or.inl ⟨by rfl, fun W hSw => by (try dsimp only at hSw); go_simp⟩) k4 ?_
          try simp only [Act.put, List.setIfInBounds_toArray, List.set_cons_zero, List.set_cons_succ]
          refine wpAnyH_take (i := 7) (oi := ⟨some 87, _, _, _, _, _⟩) (v := .agg #[.int .u32 0, .int .u32 0, .int .u32 0, .int .u32 0, .int .u32 0, .int .u32 0, .int .u32 0, .int .u32 0, .int .u32 0, .int .u32 0, .int .u32 0, .int .u32 0, .int .u32 0, .int .u32 0, .int .u32 100, .int .u32 1000]) rfl (by kernel_rfl) (by kernel_rfl) (by kernel_rfl) (fun _ _ _ h => by cases h.1) (Or.inl ⟨by rfl, fun W hSw => by (try dsimp only at hSw); go_simp⟩) k4 ?_
          try simp only [Act.put, List.setIfInBounds_toArray, List.set_cons_zero, List.set_cons_succ]
          refine wpAnyH_take (i := 8) (oi := ⟨some 88, _, _, _, _, _⟩) (v := .agg #[.int .i64 0, .int .i64 0, .bool false, .bool false, .bool false, .int .i64 0, .int .i64 0, .int .i64 cc1, .int .i64 0, .int .i64 0]) rfl (by kernel_rfl) (by kernel_rfl) (by kernel_rfl) (fun _ _ _ h => by cases h.1) (Or.inl ⟨by rfl, fun W hSw => by (try dsimp only at hSw); go_simp⟩) k4 ?_
          try simp only [Act.put, List.setIfInBounds_toArray, List.set_cons_zero, List.set_cons_succ]
          refine wpAnyH_take (i := 9) (oi := ⟨some 89, _, _, _, _, _⟩) (v := .int .i64 0) rfl (by kernel_rfl) (by kernel_rfl) (by kernel_rfl) (fun _ _ _ h => by cases h.1) (Or.inl ⟨by rfl, fun W hSw => by (try dsimp only at hSw); go_simp⟩) k4 ?_
          try simp only [Act.put, List.setIfInBounds_toArray, List.set_cons_zero, List.set_cons_succ]
          refine wpAnyH_ready (rs := [12]) (by kernel_rfl) (by simp) ?_
          refine AllReadyH.cons (o := ⟨none, _, _, _, _, _⟩) rfl (fun K hK => ?_) AllReadyH.nil
          obtain ⟨hb5, x5, hx5, hr5⟩ := F4.out.2.2.2.1 B7 rfl
          rw [if_pos (by rfl)]
          refine op_store _ _ _ rfl _ rfl _ rfl (HSR1.out _ _ _ hr5 hx5) ?_
          have f5 := F4.out.st HB6.out (mvR 100 1000)
          obtain ⟨Y5, hY5⟩ : ∃ y, y = Y4.setRow B7 (regA (mvR 100 1000)) := ⟨_, rfl⟩
          rw [← hY5] at f5 ⊢
          have F5 := Lib.hid f5
          clear hY5 f5 hb5 hx5 hr5 x5
          refine hK.out _ _ F5.out.fb (fun k5 => ?_)
          clear hK K
          try simp only [List.setIfInBounds_toArray, List.set_cons_zero, List.set_cons_succ]
          refine wpAnyH_ready (rs := [13]) (by kernel_rfl) (by simp) ?_
          refine AllReadyH.cons (o := ⟨none, _, _, _, _, _⟩) rfl (fun K hK => ?_) AllReadyH.nil
          obtain ⟨hb6, x6, hx6, hr6⟩ := F5.out.2.2.2.2 B8 rfl
          rw [if_pos (by rfl)]
          refine op_store _ _ _ rfl _ rfl _ rfl (HSP1.out _ _ _ hr6 hx6) ?_
          have f6 := F5.out.st2 (⟨0, 0, false, false, false, 0, 0, cc1, 0, 0⟩)
          obtain ⟨Y6, hY6⟩ : ∃ y, y = Y5.setRow B8 (pswA (⟨0, 0, false, false, false, 0, 0, cc1, 0, 0⟩)) := ⟨_, rfl⟩
          rw [← hY6] at f6 ⊢
          have F6 := Lib.hid f6.1
          have P6 := Lib.hid f6.2
          clear hY6 f6 hb6 hx6 hr6 x6
          refine hK.out _ _ F6.out.fb (fun k6 => ?_)
          clear hK K
          try simp only [List.setIfInBounds_toArray, List.set_cons_zero, List.set_cons_succ]
          refine wpAnyH_take (i := 14) (oi := ⟨some 14, _, _, _, _, _⟩) (v := .int .i64 0) rfl (by kernel_rfl) (by kernel_rfl) (by kernel_rfl) (fun _ _ _ h => by cases h.1) (Or.inl ⟨by rfl, fun W hSw => by (try dsimp only at hSw); go_simp⟩) k6 ?_
          try simp only [Act.put, List.setIfInBounds_toArray, List.set_cons_zero, List.set_cons_succ]
          refine wpAnyH_done (by kernel_rfl) ?_ _
          refine id ?_
          exact ⟨rfl, B7, B8, cut_mk rfl, F6.out.1, F6.out.2.1, F6.out.2.2.1, P6.out⟩
      · go_simp
        have f2 := F1.out.al
        obtain ⟨Y2, hY2⟩ : ∃ y, y = Y1.alloc (.cells #[.int .u32 0, .int .u32 0, .int .u32 0, .int .u32 0, .int .u32 0, .int .u32 0, .int .u32 0, .int .u32 0, .int .u32 0, .int .u32 0, .int .u32 0, .int .u32 0, .int .u32 0, .int .u32 0, .int .u32 0, .int .u32 0] 28) := ⟨_, rfl⟩
        obtain ⟨B7, hB7⟩ : ∃ b, b = Y1.heap.size := ⟨_, rfl⟩
        rw [← hY2, ← hB7] at f2 ⊢
        have F2 := Lib.hid f2
        clear hY2 hB7 f2
        refine hK.out _ _ F2.out.fb (fun k2 => ?_)
        clear hK K
        try simp only [List.setIfInBounds_toArray, List.set_cons_zero, List.set_cons_succ]
        refine wpAnyH_ready (rs := [1]) (by kernel_rfl) (by simp) ?_
        refine AllReadyH.cons (o := ⟨some 82, _, _, _, _, _⟩) rfl (fun K hK => ?_) AllReadyH.nil
        go_simp
        go_at_call 27
        refine (HSS1.out Y2).mono ?_
        rintro e Y3 ⟨rfl, hb⟩
        have F3 := Lib.hid (F2.out.below hb)
        clear hb
        go_wp2_with fail
        refine hK.out _ _ F3.out.fb (fun k3 => ?_)
        clear hK K
        try simp only [List.setIfInBounds_toArray, List.set_cons_zero, List.set_cons_succ]
        refine wpAnyH_ready (rs := [5]) (by kernel_rfl) (by simp) ?_
        refine AllReadyH.cons (o := ⟨some 86, _, _, _, _, _⟩) rfl (fun K hK => ?_) AllReadyH.nil
        go_simp
        go_at_call 17
        refine (HE1.out A g h 1 Y3 F3.out.2.2.1).mono ?_
        rintro e Y4 ⟨rfl, hs, hk⟩
        have F4 := Lib.hid (F3.out.exec hs hk)
        clear hs hk
        go_wp2_with fail
        refine hK.out _ _ F4.out.fb (fun k4 => ?_)
        clear hK K
        try simp only [List.setIfInBounds_toArray, List.set_cons_zero, List.set_cons_succ]
        refine wpAnyH_take (i := 6) (oi := ⟨some 80, _, _, _, _, _⟩) (v := .tuple #[.agg #[.int .u32 0, .int .u32 0, .int .u32 0, .int .u32 0, .int .u32 0, .int .u32 0, .int .u32 0, .int .u32 0, .int .u32 0, .int .u32 0, .int .u32 0, .int .u32 0, .int .u32 0, .int .u32 0, .int .u32 100, .int .u32 1000], .agg #[.int .i64 0, .int .i64 0, .bool false, .bool false, .bool false, .int .i64 0, .int .i64 0, .int .i64 cc1, .int .i64 0, .int .i64 0], .int .i64 0]) rfl (by kernel_rfl) (by kernel_rfl) (by kernel_rfl) (fun _ _ _ h => by cases h.1) (Or.inl ⟨by rfl, fun W hSw => by (try dsimp only at hSw); go_simp⟩) k4 ?_
        try simp only [Act.put, List.setIfInBounds_toArray, List.set_cons_zero, List.set_cons_succ]
        refine wpAnyH_take (i := 7) (oi := ⟨some 87, _, _, _, _, _⟩) (v := .agg #[.int .u32 0, .int .u32 0, .int .u32 0, .int .u32 0, .int .u32 0, .int .u32 0, .int .u32 0, .int .u32 0, .int .u32 0, .int .u32 0, .int .u32 0, .int .u32 0, .int .u32 0, .int .u32 0, .int .u32 100, .int .u32 1000]) rfl (by kernel_rfl) (by kernel_rfl) (by kernel_rfl) (fun _ _ _ h => by cases h.1) (Or.inl ⟨by rfl, fun W hSw => by (try dsimp only at hSw); go_simp⟩) k4 ?_
        try simp only [Act.put, List.setIfInBounds_toArray, List.set_cons_zero, List.set_cons_succ]
        refine wpAnyH_take (i := 8) (oi := ⟨some 88, _, _, _, _, _⟩) (v := .agg #[.int .i64 0, .int .i64 0, .bool false, .bool false, .bool false, .int .i64 0, .int .i64 0, .int .i64 cc1, .int .i64 0, .int .i64 0]) rfl (by kernel_rfl) (by kernel_rfl) (by kernel_rfl) (fun _ _ _ h => by cases h.1) (Or.inl ⟨by rfl, fun W hSw => by (try dsimp only at hSw); go_simp⟩) k4 ?_
        try simp only [Act.put, List.setIfInBounds_toArray, List.set_cons_zero, List.set_cons_succ]
        refine wpAnyH_take (i := 9) (oi := ⟨some 89, _, _, _, _, _⟩) (v := .int .i64 0) rfl (by kernel_rfl) (by kernel_rfl) (by kernel_rfl) (fun _ _ _ h => by cases h.1) (Or.inl ⟨by rfl, fun W hSw => by (try dsimp only at hSw); go_simp⟩) k4 ?_
        try simp only [Act.put, List.setIfInBounds_toArray, List.set_cons_zero, List.set_cons_succ]
        refine wpAnyH_ready (rs := [12]) (by kernel_rfl) (by simp) ?_
        refine AllReadyH.cons (o := ⟨none, _, _, _, _, _⟩) rfl (fun K hK => ?_) AllReadyH.nil
        obtain ⟨hb5, x5, hx5, hr5⟩ := F4.out.2.2.2.1 B7 rfl
        rw [if_pos (by rfl)]
        refine op_store _ _ _ rfl _ rfl _ rfl (HSR1.out _ _ _ hr5 hx5) ?_
        have f5 := F4.out.st HB6.out (mvR 100 1000)
        obtain ⟨Y5, hY5⟩ : ∃ y, y = Y4.setRow B7 (regA (mvR 100 1000)) := ⟨_, rfl⟩
        rw [← hY5] at f5 ⊢
        have F5 := Lib.hid f5
        clear hY5 f5 hb5 hx5 hr5 x5
        refine hK.out _ _ F5.out.fb (fun k5 => ?_)
        clear hK K
        try simp only [List.setIfInBounds_toArray, List.set_cons_zero, List.set_cons_succ]
        refine wpAnyH_ready (rs := [13]) (by kernel_rfl) (by simp) ?_
        refine AllReadyH.cons (o := ⟨none, _, _, _, _, _⟩) rfl (fun K hK => ?_) AllReadyH.nil
        obtain ⟨hb6, x6, hx6, hr6⟩ := F5.out.2.2.2.2 B8 rfl
        rw [if_pos (by rfl)]
        refine op_store _ _ _ rfl _ rfl _ rfl (HSP1.out _ _ _ hr6 hx6) ?_
        have f6 := F5.out.st2 (⟨0, 0, false, false, false, 0, 0, cc1, 0, 0⟩)
        obtain ⟨Y6, hY6⟩ : ∃ y, y = Y5.setRow B8 (pswA (⟨0, 0, false, false, false, 0, 0, cc1, 0, 0⟩)) := ⟨_, rfl⟩
        rw [← hY6] at f6 ⊢
        have F6 := Lib.hid f6.1
        have P6 := Lib.hid f6.2
        clear hY6 f6 hb6 hx6 hr6 x6
        refine hK.out _ _ F6.out.fb (fun k6 => ?_)
        clear hK K
        try simp only [List.setIfInBounds_toArray, List.set_cons_zero, List.set_cons_succ]
        refine wpAnyH_take (i := 14) (oi := ⟨some 14, _, _, _, _, _⟩) (v := .int .i64 0) rfl (by kernel_rfl) (by kernel_rfl) (by kernel_rfl) (fun _ _ _ h => by cases h.1) (Or.inl ⟨by rfl, fun W hSw => by (try dsimp only at hSw); go_simp⟩) k6 ?_
        try simp only [Act.put, List.setIfInBounds_toArray, List.set_cons_zero, List.set_cons_succ]
        refine wpAnyH_done (by kernel_rfl) ?_ _
        refine id ?_
        exact ⟨rfl, B7, B8, cut_mk rfl, F6.out.1, F6.out.2.1, F6.out.2.2.1, P6.out⟩
  rintro e a z0 ⟨rfl, B7, B8, ⟨u, rfl⟩, hkp, hr, hst, -⟩
  have HBz0 := Lib.hid (Kp.below HB5.out hkp (by simpa using HG.out))
  have HSTz0 := Lib.hid hst
  have HRa0 := Lib.hid hr
  have HRb0 := Lib.hid (HR11.out.kp hkp (by simpa using HGN.out.2))
  clear hkp hr hst HE1 HB6 HSP1 HR6 HR11 HST5 HB5
  go_wp2_with fail
  have HB6 := Lib.hid HRb0.out.lt
  have F0 : Hid (FS z0 B11 A g h 2048 1 #[.int .u32 0, .int .u32 0, .int .u32 0, .int .u32 0, .int .u32 0, .int .u32 0, .int .u32 0, .int .u32 0, .int .u32 0, .int .u32 0, .int .u32 0, .int .u32 0, .int .u32 0, .int .u32 0, .int .u32 1000, .int .u32 100] b1 (List.replicate 1 0) none none z0) := Lib.hid ⟨Kp.refl _ _, HRb0.out, HSTz0.out, (fun _ h => by cases h), (fun _ h => by cases h)⟩
  refine Code.wp_mono (Q := fun e a W => e = .normal ∧ ∃ B7 B8 : Nat, (∃ u : Nat → Value, a = { tmps := #[.slice (some ⟨PB, po, none⟩) n c, .slice q m1 d, u 2, u 3, .bool false, .int .i64 (n : Int), .slice (some ⟨BM, 0, none⟩) n n, u 7, .pointer (some ⟨A, 0, none⟩), .int .i64 0, .pointer (some ⟨B6, 0, none⟩), .pointer (some ⟨B11, 0, none⟩), u 12, u 13, .int .i64 0, u 15, u 16, .int .i64 0, u 18, u 19, u 20, u 21, u 22, u 23, u 24, u 25, u 26, u 27, u 28, u 29, u 30, u 31, u 32, u 33, u 34, u 35, u 36, u 37, u 38, u 39, u 40, u 41, u 42, u 43, u 44, u 45, u 46, u 47, u 48, u 49, u 50, u 51, u 52, u 53, u 54, u 55, u 56, u 57, u 58, u 59, u 60, u 61, u 62, u 63, u 64, u 65, u 66, u 67, u 68, u 69, u 70, u 71, u 72, u 73, u 74, u 75, u 76, u 77, u 78, u 79, u 80, u 81, u 82, u 83, u 84, u 85, u 86, u 87, u 88, u 89, u 90, u 91, u 92, u 93, u 94, u 95, u 96, u 97, u 98, u 99, u 100, u 101, u 102, u 103, u 104, u 105, u 106, u 107, u 108, u 109, u 110, u 111, u 112, u 113, u 114, u 115, u 116, u 117, u 118, u 119, u 120, u 121, u 122, u 123, u 124, u 125, u 126, u 127, u 128, u 129, u 130, u 131, u 132, u 133], defers := [] }) ∧ Kp z0 W [g] ∧ Bx W B11 28 #[.int .u32 0, .int .u32 0, .int .u32 0, .int .u32 0, .int .u32 0, .int .u32 0, .int .u32 0, .int .u32 0, .int .u32 0, .int .u32 0, .int .u32 0, .int .u32 0, .int .u32 0, .int .u32 0, .int .u32 1000, .int .u32 100] ∧ Sto W A g h 2048 1 b2 (List.replicate 1 0) ∧ Bx W B8 30 (pswA (⟨0, 0, false, false, false, 0, 0, cc2, 0, 0⟩))) ?_ ?_
  rotate_left
  · refine wp_region_held_drew (S := FB z0 B11 g #[.int .u32 0, .int .u32 0, .int .u32 0, .int .u32 0, .int .u32 0, .int .u32 0, .int .u32 0, .int .u32 0, .int .u32 0, .int .u32 0, .int .u32 0, .int .u32 0, .int .u32 0, .int .u32 0, .int .u32 1000, .int .u32 100]) (by kernel_rfl) F0.out.drew.fb (fun k0 => ?_)
    have f00 := F0.out.drew
    obtain ⟨Y0, hY0⟩ : ∃ y, y = z0.drew := ⟨_, rfl⟩
    rw [← hY0] at f00 k0 ⊢
    have F00 := Lib.hid f00
    clear F0 f00 hY0
    show wpAnyH _ _ _ _ _ 15 #[false, false, false, false, false, false, false, false, false, false, false, false, false, false, false] _ _
    refine wpAnyH_take (i := 0) (oi := ⟨some 91, _, _, _, _, _⟩) (v := .int .i64 (n : Int)) rfl (by kernel_rfl) (by kernel_rfl) (by kernel_rfl) (fun _ _ _ h => by cases h.1) (Or.inl ⟨by rfl, fun W hSw => by (try dsimp only at hSw); go_simp⟩) k0 ?_
    try simp only [Act.put, List.setIfInBounds_toArray, List.set_cons_zero, List.set_cons_succ]
    refine wpAnyH_take (i := 2) (oi := ⟨some 93, _, _, _, _, _⟩) (v := .agg #[.int .u32 0, .int .u32 0, .int .u32 0, .int .u32 0, .int .u32 0, .int .u32 0, .int .u32 0, .int .u32 0, .int .u32 0, .int .u32 0, .int .u32 0, .int .u32 0, .int .u32 0, .int .u32 0, .int .u32 1000, .int .u32 100]) rfl (by kernel_rfl) (by kernel_rfl) (by kernel_rfl) (fun _ _ _ h => by cases h.1) (Or.inl ⟨by rfl, fun W hSw => exec_load _ _ rfl _ rfl (run_loadVar_row (P := Tryz.prog) W B11 _ 28 _ _ _ hSw.2 Tryz.underlying28 rfl (by kernel_rfl))⟩) k0 ?_
    try simp only [Act.put, List.setIfInBounds_toArray, List.set_cons_zero, List.set_cons_succ]
    refine wpAnyH_take (i := 3) (oi := ⟨some 94, _, _, _, _, _⟩) (v := .agg #[.int .i64 0, .int .i64 0, .bool false, .bool false, .bool false, .int .i64 0, .int .i64 0, .int .i64 0, .int .i64 0, .int .i64 0]) rfl (by kernel_rfl) (by kernel_rfl) (by kernel_rfl) (fun _ _ _ h => by cases h.1) (Or.inl ⟨by rfl, fun W hSw => by (try dsimp only at hSw); go_simp⟩) k0 ?_
    try simp only [Act.put, List.setIfInBounds_toArray, List.set_cons_zero, List.set_cons_succ]
    refine wpAnyH_take (i := 4) (oi := ⟨some 95, _, _, _, _, _⟩) (v := .pointer (some ⟨A, 0, none⟩)) rfl (by kernel_rfl) (by kernel_rfl) (by kernel_rfl) (fun _ _ _ h => by cases h.1) (Or.inl ⟨by rfl, fun W hSw => by (try dsimp only at hSw); go_simp⟩) k0 ?_
    try simp only [Act.put, List.setIfInBounds_toArray, List.set_cons_zero, List.set_cons_succ]
    refine wpAnyH_ready (rs := [1, 10, 11]) (by kernel_rfl) (by simp) ?_
    refine AllReadyH.cons (o := ⟨some 92, _, _, _, _, _⟩) rfl (fun K hK => ?_) (AllReadyH.cons (o := ⟨some 15, _, _, _, _, _⟩) rfl (fun K hK => ?_) (AllReadyH.cons (o := ⟨some 16, _, _, _, _, _⟩) rfl (fun K hK => ?_) AllReadyH.nil))
    · go_simp
      go_at_call 27
      refine (HSS1.out Y0).mono ?_
      rintro e Y1 ⟨rfl, hb⟩
      have F1 := Lib.hid (F00.out.below hb)
      clear hb
      go_wp2_with fail
      refine hK.out _ _ F1.out.fb (fun k1 => ?_)
      clear hK K
      try simp only [List.setIfInBounds_toArray, List.set_cons_zero, List.set_cons_succ]
      refine wpAnyH_ready (rs := [5, 10, 11]) (by kernel_rfl) (by simp) ?_
      refine AllReadyH.cons (o := ⟨some 96, _, _, _, _, _⟩) rfl (fun K hK => ?_) (AllReadyH.cons (o := ⟨some 15, _, _, _, _, _⟩) rfl (fun K hK => ?_) (AllReadyH.cons (o := ⟨some 16, _, _, _, _, _⟩) rfl (fun K hK => ?_) AllReadyH.nil))
      · go_simp
        go_at_call 17
        refine (HE2.out A g h 1 Y1 F1.out.2.2.1).mono ?_
        rintro e Y2 ⟨rfl, hs, hk⟩
        have F2 := Lib.hid (F1.out.exec hs hk)
        clear hs hk
        go_wp2_with fail
        refine hK.out _ _ F2.out.fb (fun k2 => ?_)
        clear hK K
        try simp only [List.setIfInBounds_toArray, List.set_cons_zero, List.set_cons_succ]
        refine wpAnyH_take (i := 6) (oi := ⟨some 90, _, _, _, _, _⟩) (v := .tuple #[.agg #[.int .u32 0, .int .u32 0, .int .u32 0, .int .u32 0, .int .u32 0, .int .u32 0, .int .u32 0, .int .u32 0, .int .u32 0, .int .u32 0, .int .u32 0, .int .u32 0, .int .u32 0, .int .u32 0, .int .u32 1000, .int .u32 100], .agg #[.int .i64 0, .int .i64 0, .bool false, .bool false, .bool false, .int .i64 0, .int .i64 0, .int .i64 cc2, .int .i64 0, .int .i64 0], .int .i64 0]) rfl (by kernel_rfl) (by kernel_rfl) (by kernel_rfl) (fun _ _ _ h => by cases h.1) (Or.inl ⟨by rfl, fun W hSw => by (try dsimp only at hSw); go_simp⟩) k2 ?_
        try simp only [Act.put, List.setIfInBounds_toArray, List.set_cons_zero, List.set_cons_succ]
        refine wpAnyH_take (i := 7) (oi := ⟨some 97, _, _, _, _, _⟩) (v := .agg #[.int .u32 0, .int .u32 0, .int .u32 0, .int .u32 0, .int .u32 0, .int .u32 0, .int .u32 0, .int .u32 0, .int .u32 0, .int .u32 0, .int .u32 0, .int .u32 0, .int .u32 0, .int .u32 0, .int .u32 1000, .int .u32 100]) rfl (by kernel_rfl) (by kernel_rfl) (by kernel_rfl) (fun _ _ _ h => by cases h.1) (Or.inl ⟨by rfl, fun W hSw => by (try dsimp only at hSw); go_simp⟩) k2 ?_
        try simp only [Act.put, List.setIfInBounds_toArray, List.set_cons_zero, List.set_cons_succ]
        refine wpAnyH_take (i := 8) (oi := ⟨some 98, _, _, _, _, _⟩) (v := .agg #[.int .i64 0, .int .i64 0, .bool false, .bool false, .bool false, .int .i64 0, .int .i64 0, .int .i64 cc2, .int .i64 0, .int .i64 0]) rfl (by kernel_rfl) (by kernel_rfl) (by kernel_rfl) (fun _ _ _ h => by cases h.1) (Or.inl ⟨by rfl, fun W hSw => by (try dsimp only at hSw); go_simp⟩) k2 ?_
        try simp only [Act.put, List.setIfInBounds_toArray, List.set_cons_zero, List.set_cons_succ]
        refine wpAnyH_take (i := 9) (oi := ⟨some 99, _, _, _, _, _⟩) (v := .int .i64 0) rfl (by kernel_rfl) (by kernel_rfl) (by kernel_rfl) (fun _ _ _ h => by cases h.1) (Or.inl ⟨by rfl, fun W hSw => by (try dsimp only at hSw); go_simp⟩) k2 ?_
        try simp only [Act.put, List.setIfInBounds_toArray, List.set_cons_zero, List.set_cons_succ]
        refine wpAnyH_ready (rs := [10, 11]) (by kernel_rfl) (by simp) ?_
        refine AllReadyH.cons (o := ⟨some 15, _, _, _, _, _⟩) rfl (fun K hK => ?_) (AllReadyH.cons (o := ⟨some 16, _, _, _, _, _⟩) rfl (fun K hK => ?_) AllReadyH.nil)
        · go_simp
          have f3 := F2.out.al
          obtain ⟨Y3, hY3⟩ : ∃ y, y = Y2.alloc (.cells #[.int .u32 0, .int .u32 0, .int .u32 0, .int .u32 0, .int .u32 0, .int .u32 0, .int .u32 0, .int .u32 0, .int .u32 0, .int .u32 0, .int .u32 0, .int .u32 0, .int .u32 0, .int .u32 0, .int .u32 0, .int .u32 0] 28) := ⟨_, rfl⟩
          obtain ⟨B7, hB7⟩ : ∃ b, b = Y2.heap.size := ⟨_, rfl⟩
          rw [← hY3, ← hB7] at f3 ⊢
          have F3 := Lib.hid f3
          clear hY3 hB7 f3
          refine hK.out _ _ F3.out.fb (fun k3 => ?_)
          clear hK K
          try simp only [List.setIfInBounds_toArray, List.set_cons_zero, List.set_cons_succ]
          refine wpAnyH_ready (rs := [11]) (by kernel_rfl) (by simp) ?_
          refine AllReadyH.cons (o := ⟨some 16, _, _, _, _, _⟩) rfl (fun K hK => ?_) AllReadyH.nil
          go_simp
          have f4 := F3.out.al2
          obtain ⟨Y4, hY4⟩ : ∃ y, y = Y3.alloc (.cells #[.int .i64 0, .int .i64 0, .bool false, .bool false, .bool false, .int .i64 0, .int .i64 0, .int .i64 0, .int .i64 0, .int .i64 0] 30) := ⟨_, rfl⟩
          obtain ⟨B8, hB8⟩ : ∃ b, b = Y3.heap.size := ⟨_, rfl⟩
          rw [← hY4, ← hB8] at f4 ⊢
          have F4 := Lib.hid f4
          clear hY4 hB8 f4
          refine hK.out _ _ F4.out.fb (fun k4 => ?_)
          clear hK K
          try simp only [List.setIfInBounds_toArray, List.set_cons_zero, List.set_cons_succ]
          refine wpAnyH_ready (rs := [12]) (by kernel_rfl) (by simp) ?_
          refine AllReadyH.cons (o := ⟨none, _, _, _, _, _⟩) rfl (fun K hK => ?_) AllReadyH.nil
          obtain ⟨hb5, x5, hx5, hr5⟩ := F4.out.2.2.2.1 B7 rfl
          rw [if_pos (by rfl)]
          refine op_store _ _ _ rfl _ rfl _ rfl (HSR2.out _ _ _ hr5 hx5) ?_
          have f5 := F4.out.st HB6.out (mvR 1000 100)
          obtain ⟨Y5, hY5⟩ : ∃ y, y = Y4.setRow B7 (regA (mvR 1000 100)) := ⟨_, rfl⟩
          rw [← hY5] at f5 ⊢
          have F5 := Lib.hid f5
          clear hY5 f5 hb5 hx5 hr5 x5
          refine hK.out _ _ F5.out.fb (fun k5 => ?_)
          clear hK K
          try simp only [List.setIfInBounds_toArray, List.set_cons_zero, List.set_cons_succ]
          refine wpAnyH_ready (rs := [13]) (by kernel_rfl) (by simp) ?_
          refine AllReadyH.cons (o := ⟨none, _, _, _, _, _⟩) rfl (fun K hK => ?_) AllReadyH.nil
          obtain ⟨hb6, x6, hx6, hr6⟩ := F5.out.2.2.2.2 B8 rfl
          rw [if_pos (by rfl)]
          refine op_store _ _ _ rfl _ rfl _ rfl (HSP2.out _ _ _ hr6 hx6) ?_
          have f6 := F5.out.st2 (⟨0, 0, false, false, false, 0, 0, cc2, 0, 0⟩)
          obtain ⟨Y6, hY6⟩ : ∃ y, y = Y5.setRow B8 (pswA (⟨0, 0, false, false, false, 0, 0, cc2, 0, 0⟩)) := ⟨_, rfl⟩
          rw [← hY6] at f6 ⊢
          have F6 := Lib.hid f6.1
          have P6 := Lib.hid f6.2
          clear hY6 f6 hb6 hx6 hr6 x6
          refine hK.out _ _ F6.out.fb (fun k6 => ?_)
          clear hK K
          try simp only [List.setIfInBounds_toArray, List.set_cons_zero, List.set_cons_succ]
          refine wpAnyH_take (i := 14) (oi := ⟨some 17, _, _, _, _, _⟩) (v := .int .i64 0) rfl (by kernel_rfl) (by kernel_rfl) (by kernel_rfl) (fun _ _ _ h => by cases h.1) (Or.inl ⟨by rfl, fun W hSw => by (try dsimp only at hSw); go_simp⟩) k6 ?_
          try simp only [Act.put, List.setIfInBounds_toArray, List.set_cons_zero, List.set_cons_succ]
          refine wpAnyH_done (by kernel_rfl) ?_ _
          refine id ?_
          exact ⟨rfl, B7, B8, cut_mk rfl, F6.out.1, F6.out.2.1, F6.out.2.2.1, P6.out⟩
        · go_simp
          have f3 := F2.out.al2
          obtain ⟨Y3, hY3⟩ : ∃ y, y = Y2.alloc (.cells #[.int .i64 0, .int .i64 0, .bool false, .bool false, .bool false, .int .i64 0, .int .i64 0, .int .i64 0, .int .i64 0, .int .i64 0] 30) := ⟨_, rfl⟩
          obtain ⟨B8, hB8⟩ : ∃ b, b = Y2.heap.size := ⟨_, rfl⟩
          rw [← hY3, ← hB8] at f3 ⊢
          have F3 := Lib.hid f3
          clear hY3 hB8 f3
          refine hK.out _ _ F3.out.fb (fun k3 => ?_)
          clear hK K
          try simp only [List.setIfInBounds_toArray, List.set_cons_zero, List.set_cons_succ]
          refine wpAnyH_ready (rs := [10]) (by kernel_rfl) (by simp) ?_
          refine AllReadyH.cons (o := ⟨some 15, _, _, _, _, _⟩) rfl (fun K hK => ?_) AllReadyH.nil
          go_simp
          have f4 := F3.out.al
          obtain ⟨Y4, hY4⟩ : ∃ y, y = Y3.alloc (.cells #[.int .u32 0, .int .u32 0, .int .u32 0, .int .u32 0, .int .u32 0, .int .u32 0, .int .u32 0, .int .u32 0, .int .u32 0, .int .u32 0, .int .u32 0, .int .u32 0, .int .u32 0, .int .u32 0, .int .u32 0, .int .u32 0] 28) := ⟨_, rfl⟩
          obtain ⟨B7, hB7⟩ : ∃ b, b = Y3.heap.size := ⟨_, rfl⟩
          rw [← hY4, ← hB7] at f4 ⊢
          have F4 := Lib.hid f4
          clear hY4 hB7 f4
          refine hK.out _ _ F4.out.fb (fun k4 => ?_)
          clear hK K
          try simp only [List.setIfInBounds_toArray, List.set_cons_zero, List.set_cons_succ]
          refine wpAnyH_ready (rs := [12]) (by kernel_rfl) (by simp) ?_
          refine AllReadyH.cons (o := ⟨none, _, _, _, _, _⟩) rfl (fun K hK => ?_) AllReadyH.nil
          obtain ⟨hb5, x5, hx5, hr5⟩ := F4.out.2.2.2.1 B7 rfl
          rw [if_pos (by rfl)]
          refine op_store _ _ _ rfl _ rfl _ rfl (HSR2.out _ _ _ hr5 hx5) ?_
          have f5 := F4.out.st HB6.out (mvR 1000 100)
          obtain ⟨Y5, hY5⟩ : ∃ y, y = Y4.setRow B7 (regA (mvR 1000 100)) := ⟨_, rfl⟩
          rw [← hY5] at f5 ⊢
          have F5 := Lib.hid f5
          clear hY5 f5 hb5 hx5 hr5 x5
          refine hK.out _ _ F5.out.fb (fun k5 => ?_)
          clear hK K
          try simp only [List.setIfInBounds_toArray, List.set_cons_zero, List.set_cons_succ]
          refine wpAnyH_ready (rs := [13]) (by kernel_rfl) (by simp) ?_
          refine AllReadyH.cons (o := ⟨none, _, _, _, _, _⟩) rfl (fun K hK => ?_) AllReadyH.nil
          obtain ⟨hb6, x6, hx6, hr6⟩ := F5.out.2.2.2.2 B8 rfl
          rw [if_pos (by rfl)]
          refine op_store _ _ _ rfl _ rfl _ rfl (HSP2.out _ _ _ hr6 hx6) ?_
          have f6 := F5.out.st2 (⟨0, 0, false, false, false, 0, 0, cc2, 0, 0⟩)
          obtain ⟨Y6, hY6⟩ : ∃ y, y = Y5.setRow B8 (pswA (⟨0, 0, false, false, false, 0, 0, cc2, 0, 0⟩)) := ⟨_, rfl⟩
          rw [← hY6] at f6 ⊢
          have F6 := Lib.hid f6.1
          have P6 := Lib.hid f6.2
          clear hY6 f6 hb6 hx6 hr6 x6
          refine hK.out _ _ F6.out.fb (fun k6 => ?_)
          clear hK K
          try simp only [List.setIfInBounds_toArray, List.set_cons_zero, List.set_cons_succ]
          refine wpAnyH_take (i := 14) (oi := ⟨some 17, _, _, _, _, _⟩) (v := .int .i64 0) rfl (by kernel_rfl) (by kernel_rfl) (by kernel_rfl) (fun _ _ _ h => by cases h.1) (Or.inl ⟨by rfl, fun W hSw => by (try dsimp only at hSw); go_simp⟩) k6 ?_
          try simp only [Act.put, List.setIfInBounds_toArray, List.set_cons_zero, List.set_cons_succ]
          refine wpAnyH_done (by kernel_rfl) ?_ _
          refine id ?_
          exact ⟨rfl, B7, B8, cut_mk rfl, F6.out.1, F6.out.2.1, F6.out.2.2.1, P6.out⟩
      · go_simp
        have f2 := F1.out.al
        obtain ⟨Y2, hY2⟩ : ∃ y, y = Y1.alloc (.cells #[.int .u32 0, .int .u32 0, .int .u32 0, .int .u32 0, .int .u32 0, .int .u32 0, .int .u32 0, .int .u32 0, .int .u32 0, .int .u32 0, .int .u32 0, .int .u32 0, .int .u32 0, .int .u32 0, .int .u32 0, .int .u32 0] 28) := ⟨_, rfl⟩
        obtain ⟨B7, hB7⟩ : ∃ b, b = Y1.heap.size := ⟨_, rfl⟩
        rw [← hY2, ← hB7] at f2 ⊢
        have F2 := Lib.hid f2
        clear hY2 hB7 f2
        refine hK.out _ _ F2.out.fb (fun k2 => ?_)
        clear hK K
        try simp only [List.setIfInBounds_toArray, List.set_cons_zero, List.set_cons_succ]
        refine wpAnyH_ready (rs := [5, 11]) (by kernel_rfl) (by simp) ?_
        refine AllReadyH.cons (o := ⟨some 96, _, _, _, _, _⟩) rfl (fun K hK => ?_) (AllReadyH.cons (o := ⟨some 16, _, _, _, _, _⟩) rfl (fun K hK => ?_) AllReadyH.nil)
        · go_simp
          go_at_call 17
          refine (HE2.out A g h 1 Y2 F2.out.2.2.1).mono ?_
          rintro e Y3 ⟨rfl, hs, hk⟩
          have F3 := Lib.hid (F2.out.exec hs hk)
          clear hs hk
          go_wp2_with fail
          refine hK.out _ _ F3.out.fb (fun k3 => ?_)
          clear hK K
          try simp only [List.setIfInBounds_toArray, List.set_cons_zero, List.set_cons_succ]
          refine wpAnyH_take (i := 6) (oi := ⟨some 90, _, _, _, _, _⟩) (v := .tuple #[.agg #[.int .u32 0, .int .u32 0, .int .u32 0, .int .u32 0, .int .u32 0, .int .u32 0, .int .u32 0, .int .u32 0, .int .u32 0, .int .u32 0, .int .u32 0, .int .u32 0, .int .u32 0, .int .u32 0, .int .u32 1000, .int .u32 100], .agg #[.int .i64 0, .int .i64 0, .bool false, .bool false, .bool false, .int .i64 0, .int .i64 0, .int .i64 cc2, .int .i64 0, .int .i64 0], .int .i64 0]) rfl (by kernel_rfl) (by kernel_rfl) (by kernel_rfl) (fun _ _ _ h => by cases h.1) (Or.inl ⟨by rfl, fun W hSw => by (try dsimp only at hSw); go_simp⟩) k3 ?_
          try simp only [Act.put, List.setIfInBounds_toArray, List.set_cons_zero, List.set_cons_succ]
          refine wpAnyH_take (i := 7) (oi := ⟨some 97, _, _, _, _, _⟩) (v := .agg #[.int .u32 0, .int .u32 0, .int .u32 0, .int .u32 0, .int .u32 0, .int .u32 0, .int .u32 0, .int .u32 0, .int .u32 0, .int .u32 0, .int .u32 0, .int .u32 0, .int .u32 0, .int .u32 0, .int .u32 1000, .int .u32 100]) rfl (by kernel_rfl) (by kernel_rfl) (by kernel_rfl) (fun _ _ _ h => by cases h.1) (Or.inl ⟨by rfl, fun W hSw => by (try dsimp only at hSw); go_simp⟩) k3 ?_
          try simp only [Act.put, List.setIfInBounds_toArray, List.set_cons_zero, List.set_cons_succ]
          refine wpAnyH_take (i := 8) (oi := ⟨some 98, _, _, _, _, _⟩) (v := .agg #[.int .i64 0, .int .i64 0, .bool false, .bool false, .bool false, .int .i64 0, .int .i64 0, .int .i64 cc2, .int .i64 0, .int .i64 0]) rfl (by kernel_rfl) (by kernel_rfl) (by kernel_rfl) (fun _ _ _ h => by cases h.1) (Or.inl ⟨by rfl, fun W hSw => by (try dsimp only at hSw); go_simp⟩) k3 ?_
          try simp only [Act.put, List.setIfInBounds_toArray, List.set_cons_zero, List.set_cons_succ]
          refine wpAnyH_take (i := 9) (oi := ⟨some 99, _, _, _, _, _⟩) (v := .int .i64 0) rfl (by kernel_rfl) (by kernel_rfl) (by kernel_rfl) (fun _ _ _ h => by cases h.1) (Or.inl ⟨by rfl, fun W hSw => by (try dsimp only at hSw); go_simp⟩) k3 ?_
          try simp only [Act.put, List.setIfInBounds_toArray, List.set_cons_zero, List.set_cons_succ]
          refine wpAnyH_ready (rs := [11]) (by kernel_rfl) (by simp) ?_
          refine AllReadyH.cons (o := ⟨some 16, _, _, _, _, _⟩) rfl (fun K hK => ?_) AllReadyH.nil
          go_simp
          have f4 := F3.out.al2
          obtain ⟨Y4, hY4⟩ : ∃ y, y = Y3.alloc (.cells #[.int .i64 0, .int .i64 0, .bool false, .bool false, .bool false, .int .i64 0, .int .i64 0, .int .i64 0, .int .i64 0, .int .i64 0] 30) := ⟨_, rfl⟩
          obtain ⟨B8, hB8⟩ : ∃ b, b = Y3.heap.size := ⟨_, rfl⟩
          rw [← hY4, ← hB8] at f4 ⊢
          have F4 := Lib.hid f4
          clear hY4 hB8 f4
          refine hK.out _ _ F4.out.fb (fun k4 => ?_)
          clear hK K
          try simp only [List.setIfInBounds_toArray, List.set_cons_zero, List.set_cons_succ]
          refine wpAnyH_ready (rs := [12]) (by kernel_rfl) (by simp) ?_
          refine AllReadyH.cons (o := ⟨none, _, _, _, _, _⟩) rfl (fun K hK => ?_) AllReadyH.nil
          obtain ⟨hb5, x5, hx5, hr5⟩ := F4.out.2.2.2.1 B7 rfl
          rw [if_pos (by rfl)]
          refine op_store _ _ _ rfl _ rfl _ rfl (HSR2.out _ _ _ hr5 hx5) ?_
          have f5 := F4.out.st HB6.out (mvR 1000 100)
          obtain ⟨Y5, hY5⟩ : ∃ y, y = Y4.setRow B7 (regA (mvR 1000 100)) := ⟨_, rfl⟩
          rw [← hY5] at f5 ⊢
          have F5 := Lib.hid f5
          clear hY5 f5 hb5 hx5 hr5 x5
          refine hK.out _ _ F5.out.fb (fun k5 => ?_)
          clear hK K
          try simp only [List.setIfInBounds_toArray, List.set_cons_zero, List.set_cons_succ]
          refine wpAnyH_ready (rs := [13]) (by kernel_rfl) (by simp) ?_
          refine AllReadyH.cons (o := ⟨none, _, _, _, _, _⟩) rfl (fun K hK => ?_) AllReadyH.nil
          obtain ⟨hb6, x6, hx6, hr6⟩ := F5.out.2.2.2.2 B8 rfl
          rw [if_pos (by rfl)]
          refine op_store _ _ _ rfl _ rfl _ rfl (HSP2.out _ _ _ hr6 hx6) ?_
          have f6 := F5.out.st2 (⟨0, 0, false, false, false, 0, 0, cc2, 0, 0⟩)
          obtain ⟨Y6, hY6⟩ : ∃ y, y = Y5.setRow B8 (pswA (⟨0, 0, false, false, false, 0, 0, cc2, 0, 0⟩)) := ⟨_, rfl⟩
          rw [← hY6] at f6 ⊢
          have F6 := Lib.hid f6.1
          have P6 := Lib.hid f6.2
          clear hY6 f6 hb6 hx6 hr6 x6
          refine hK.out _ _ F6.out.fb (fun k6 => ?_)
          clear hK K
          try simp only [List.setIfInBounds_toArray, List.set_cons_zero, List.set_cons_succ]
          refine wpAnyH_take (i := 14) (oi := ⟨some 17, _, _, _, _, _⟩) (v := .int .i64 0) rfl (by kernel_rfl) (by kernel_rfl) (by kernel_rfl) (fun _ _ _ h => by cases h.1) (Or.inl ⟨by rfl, fun W hSw => by (try dsimp only at hSw); go_simp⟩) k6 ?_
          try simp only [Act.put, List.setIfInBounds_toArray, List.set_cons_zero, List.set_cons_succ]
          refine wpAnyH_done (by kernel_rfl) ?_ _
          refine id ?_
          exact ⟨rfl, B7, B8, cut_mk rfl, F6.out.1, F6.out.2.1, F6.out.2.2.1, P6.out⟩
        · go_simp
          have f3 := F2.out.al2
          obtain ⟨Y3, hY3⟩ : ∃ y, y = Y2.alloc (.cells #[.int .i64 0, .int .i64 0, .bool false, .bool false, .bool false, .int .i64 0, .int .i64 0, .int .i64 0, .int .i64 0, .int .i64 0] 30) := ⟨_, rfl⟩
          obtain ⟨B8, hB8⟩ : ∃ b, b = Y2.heap.size := ⟨_, rfl⟩
          rw [← hY3, ← hB8] at f3 ⊢
          have F3 := Lib.hid f3
          clear hY3 hB8 f3
          refine hK.out _ _ F3.out.fb (fun k3 => ?_)
          clear hK K
          try simp only [List.setIfInBounds_toArray, List.set_cons_zero, List.set_cons_succ]
          refine wpAnyH_ready (rs := [5]) (by kernel_rfl) (by simp) ?_
          refine AllReadyH.cons (o := ⟨some 96, _, _, _, _, _⟩) rfl (fun K hK => ?_) AllReadyH.nil
          go_simp
          go_at_call 17
          refine (HE2.out A g h 1 Y3 F3.out.2.2.1).mono ?_
          rintro e Y4 ⟨rfl, hs, hk⟩
          have F4 := Lib.hid (F3.out.exec hs hk)
          clear hs hk
          go_wp2_with fail
          refine hK.out _ _ F4.out.fb (fun k4 => ?_)
          clear hK K
          try simp only [List.setIfInBounds_toArray, List.set_cons_zero, List.set_cons_succ]
          refine wpAnyH_take (i := 6) (oi := ⟨some 90, _, _, _, _, _⟩) (v := .tuple #[.agg #[.int .u32 0, .int .u32 0, .int .u32 0, .int .u32 0, .int .u32 0, .int .u32 0, .int .u32 0, .int .u32 0, .int .u32 0, .int .u32 0, .int .u32 0, .int .u32 0, .int .u32 0, .int .u32 0, .int .u32 1000, .int .u32 100], .agg #[.int .i64 0, .int .i64 0, .bool false, .bool false, .bool false, .int .i64 0, .int .i64 0, .int .i64 cc2, .int .i64 0, .int .i64 0], .int .i64 0]) rfl (by kernel_rfl) (by kernel_rfl) (by kernel_rfl) (fun _ _ _ h => by cases h.1) (Or.inl ⟨by rfl, fun W hSw => by (try dsimp only at hSw); go_simp⟩) k4 ?_
          try simp only [Act.put, List.setIfInBounds_toArray, List.set_cons_zero, List.set_cons_succ]
          refine wpAnyH_take (i := 7) (oi := ⟨some 97, _, _, _, _, _⟩) (v := .agg #[.int .u32 0, .int .u32 0, .int .u32 0, .int .u32 0, .int .u32 0, .int .u32 0, .int .u32 0, .int .u32 0, .int .u32 0, .int .u32 0, .int .u32 0, .int .u32 0, .int .u32 0, .int .u32 0, .int .u32 1000, .int .u32 100]) rfl (by kernel_rfl) (by kernel_rfl) (by kernel_rfl) (fun _ _ _ h => by cases h.1) (Or.inl ⟨by rfl, fun W hSw => by (try dsimp only at hSw); go_simp⟩) k4 ?_
          try simp only [Act.put, List.setIfInBounds_toArray, List.set_cons_zero, List.set_cons_succ]
          refine wpAnyH_take (i := 8) (oi := ⟨some 98, _, _, _, _, _⟩) (v := .agg #[.int .i64 0, .int .i64 0, .bool false, .bool false, .bool false, .int .i64 0, .int .i64 0, .int .i64 cc2, .int .i64 0, .int .i64 0]) rfl (by kernel_rfl) (by kernel_rfl) (by kernel_rfl) (fun _ _ _ h => by cases h.1) (Or.inl ⟨by rfl, fun W hSw => by (try dsimp only at hSw); go_simp⟩) k4 ?_
          try simp only [Act.put, List.setIfInBounds_toArray, List.set_cons_zero, List.set_cons_succ]
          refine wpAnyH_take (i := 9) (oi := ⟨some 99, _, _, _, _, _⟩) (v := .int .i64 0) rfl (by kernel_rfl) (by kernel_rfl) (by kernel_rfl) (fun _ _ _ h => by cases h.1) (Or.inl ⟨by rfl, fun W hSw => by (try dsimp only at hSw); go_simp⟩) k4 ?_
          try simp only [Act.put, List.setIfInBounds_toArray, List.set_cons_zero, List.set_cons_succ]
          refine wpAnyH_ready (rs := [12]) (by kernel_rfl) (by simp) ?_
          refine AllReadyH.cons (o := ⟨none, _, _, _, _, _⟩) rfl (fun K hK => ?_) AllReadyH.nil
          obtain ⟨hb5, x5, hx5, hr5⟩ := F4.out.2.2.2.1 B7 rfl
          rw [if_pos (by rfl)]
          refine op_store _ _ _ rfl _ rfl _ rfl (HSR2.out _ _ _ hr5 hx5) ?_
          have f5 := F4.out.st HB6.out (mvR 1000 100)
          obtain ⟨Y5, hY5⟩ : ∃ y, y = Y4.setRow B7 (regA (mvR 1000 100)) := ⟨_, rfl⟩
          rw [← hY5] at f5 ⊢
          have F5 := Lib.hid f5
          clear hY5 f5 hb5 hx5 hr5 x5
          refine hK.out _ _ F5.out.fb (fun k5 => ?_)
          clear hK K
          try simp only [List.setIfInBounds_toArray, List.set_cons_zero, List.set_cons_succ]
          refine wpAnyH_ready (rs := [13]) (by kernel_rfl) (by simp) ?_
          refine AllReadyH.cons (o := ⟨none, _, _, _, _, _⟩) rfl (fun K hK => ?_) AllReadyH.nil
          obtain ⟨hb6, x6, hx6, hr6⟩ := F5.out.2.2.2.2 B8 rfl
          rw [if_pos (by rfl)]
          refine op_store _ _ _ rfl _ rfl _ rfl (HSP2.out _ _ _ hr6 hx6) ?_
          have f6 := F5.out.st2 (⟨0, 0, false, false, false, 0, 0, cc2, 0, 0⟩)
          obtain ⟨Y6, hY6⟩ : ∃ y, y = Y5.setRow B8 (pswA (⟨0, 0, false, false, false, 0, 0, cc2, 0, 0⟩)) := ⟨_, rfl⟩
          rw [← hY6] at f6 ⊢
          have F6 := Lib.hid f6.1
          have P6 := Lib.hid f6.2
          clear hY6 f6 hb6 hx6 hr6 x6
          refine hK.out _ _ F6.out.fb (fun k6 => ?_)
          clear hK K
          try simp only [List.setIfInBounds_toArray, List.set_cons_zero, List.set_cons_succ]
          refine wpAnyH_take (i := 14) (oi := ⟨some 17, _, _, _, _, _⟩) (v := .int .i64 0) rfl (by kernel_rfl) (by kernel_rfl) (by kernel_rfl) (fun _ _ _ h => by cases h.1) (Or.inl ⟨by rfl, fun W hSw => by (try dsimp only at hSw); go_simp⟩) k6 ?_
          try simp only [Act.put, List.setIfInBounds_toArray, List.set_cons_zero, List.set_cons_succ]
          refine wpAnyH_done (by kernel_rfl) ?_ _
          refine id ?_
          exact ⟨rfl, B7, B8, cut_mk rfl, F6.out.1, F6.out.2.1, F6.out.2.2.1, P6.out⟩
      · go_simp
        have f2 := F1.out.al2
        obtain ⟨Y2, hY2⟩ : ∃ y, y = Y1.alloc (.cells #[.int .i64 0, .int .i64 0, .bool false, .bool false, .bool false, .int .i64 0, .int .i64 0, .int .i64 0, .int .i64 0, .int .i64 0] 30) := ⟨_, rfl⟩
        obtain ⟨B8, hB8⟩ : ∃ b, b = Y1.heap.size := ⟨_, rfl⟩
        rw [← hY2, ← hB8] at f2 ⊢
        have F2 := Lib.hid f2
        clear hY2 hB8 f2
        refine hK.out _ _ F2.out.fb (fun k2 => ?_)
        clear hK K
        try simp only [List.setIfInBounds_toArray, List.set_cons_zero, List.set_cons_succ]
        refine wpAnyH_ready (rs := [5, 10]) (by kernel_rfl) (by simp) ?_
        refine AllReadyH.cons (o := ⟨some 96, _, _, _, _, _⟩) rfl (fun K hK => ?_) (AllReadyH.cons (o := ⟨some 15, _, _, _, _, _⟩) rfl (fun K hK => ?_) AllReadyH.nil)
        · go_simp
          go_at_call 17
          refine (HE2.out A g h 1 Y2 F2.out.2.2.1).mono ?_
          rintro e Y3 ⟨rfl, hs, hk⟩
          have F3 := Lib.hid (F2.out.exec hs hk)
          clear hs hk
          go_wp2_with fail
          refine hK.out _ _ F3.out.fb (fun k3 => ?_)
          clear hK K
          try simp only [List.setIfInBounds_toArray, List.set_cons_zero, List.set_cons_succ]
          refine wpAnyH_take (i := 6) (oi := ⟨some 90, _, _, _, _, _⟩) (v := .tuple #[.agg #[.int .u32 0, .int .u32 0, .int .u32 0, .int .u32 0, .int .u32 0, .int .u32 0, .int .u32 0, .int .u32 0, .int .u32 0, .int .u32 0, .int .u32 0, .int .u32 0, .int .u32 0, .int .u32 0, .int .u32 1000, .int .u32 100], .agg #[.int .i64 0, .int .i64 0, .bool false, .bool false, .bool false, .int .i64 0, .int .i64 0, .int .i64 cc2, .int .i64 0, .int .i64 0], .int .i64 0]) rfl (by kernel_rfl) (by kernel_rfl) (by kernel_rfl) (fun _ _ _ h => by cases h.1) (Or.inl ⟨by rfl, fun W hSw => by (try dsimp only at hSw); go_simp⟩) k3 ?_
          try simp only [Act.put, List.setIfInBounds_toArray, List.set_cons_zero, List.set_cons_succ]
          refine wpAnyH_take (i := 7) (oi := ⟨some 97, _, _, _, _, _⟩) (v := .agg #[.int .u32 0, .int .u32 0, .int .u32 0, .int .u32 0, .int .u32 0, .int .u32 0, .int .u32 0, .int .u32 0, .int .u32 0, .int .u32 0, .int .u32 0, .int .u32 0, .int .u32 0, .int .u32 0, .int .u32 1000, .int .u32 100]) rfl (by kernel_rfl) (by kernel_rfl) (by kernel_rfl) (fun _ _ _ h => by cases h.1) (Or.inl ⟨by rfl, fun W hSw => by (try dsimp only at hSw); go_simp⟩) k3 ?_
          try simp only [Act.put, List.setIfInBounds_toArray, List.set_cons_zero, List.set_cons_succ]
          refine wpAnyH_take (i := 8) (oi := ⟨some 98, _, _, _, _, _⟩) (v := .agg #[.int .i64 0, .int .i64 0, .bool false, .bool false, .bool false, .int .i64 0, .int .i64 0, .int .i64 cc2, .int .i64 0, .int .i64 0]) rfl (by kernel_rfl) (by kernel_rfl) (by kernel_rfl) (fun _ _ _ h => by cases h.1) (Or.inl ⟨by rfl, fun W hSw => by (try dsimp only at hSw); go_simp⟩) k3 ?_
          try simp only [Act.put, List.setIfInBounds_toArray, List.set_cons_zero, List.set_cons_succ]
          refine wpAnyH_take (i := 9) (oi := ⟨some 99, _, _, _, _, _⟩) (v := .int .i64 0) rfl (by kernel_rfl) (by kernel_rfl) (by kernel_rfl) (fun _ _ _ h => by cases h.1) (Or.inl ⟨by rfl, fun W hSw => by (try dsimp only at hSw); go_simp⟩) k3 ?_
          try simp only [Act.put, List.setIfInBounds_toArray, List.set_cons_zero, List.set_cons_succ]
          refine wpAnyH_ready (rs := [10]) (by kernel_rfl) (by simp) ?_
          refine AllReadyH.cons (o := ⟨some 15, _, _, _, _, _⟩) rfl (fun K hK => ?_) AllReadyH.nil
          go_simp
          have f4 := F3.out.al
          obtain ⟨Y4, hY4⟩ : ∃ y, y = Y3.alloc (.cells #[.int .u32 0, .int .u32 0, .int .u32 0, .int .u32 0, .int .u32 0, .int .u32 0, .int .u32 0, .int .u32 0, .int .u32 0, .int .u32 0, .int .u32 0, .int .u32 0, .int .u32 0, .int .u32 0, .int .u32 0, .int .u32 0] 28) := ⟨_, rfl⟩
          obtain ⟨B7, hB7⟩ : ∃ b, b = Y3.heap.size := ⟨_, rfl⟩
          rw [← hY4, ← hB7] at f4 ⊢
          have F4 := Lib.hid f4
          clear hY4 hB7 f4
          refine hK.out _ _ F4.out.fb (fun k4 => ?_)
          clear hK K
          try simp only [List.setIfInBounds_toArray, List.set_cons_zero, List.set_cons_succ]
          refine wpAnyH_ready (rs := [12]) (by kernel_rfl) (by simp) ?_
          refine AllReadyH.cons (o := ⟨none, _, _, _, _, _⟩) rfl (fun K hK => ?_) AllReadyH.nil
          obtain ⟨hb5, x5, hx5, hr5⟩ := F4.out.2.2.2.1 B7 rfl
          rw [if_pos (by rfl)]
          refine op_store _ _ _ rfl _ rfl _ rfl (HSR2.out _ _ _ hr5 hx5) ?_
          have f5 := F4.out.st HB6.out (mvR 1000 100)
          obtain ⟨Y5, hY5⟩ : ∃ y, y = Y4.setRow B7 (regA (mvR 1000 100)) := ⟨_, rfl⟩
          rw [← hY5] at f5 ⊢
          have F5 := Lib.hid f5
          clear hY5 f5 hb5 hx5 hr5 x5
          refine hK.out _ _ F5.out.fb (fun k5 => ?_)
          clear hK K
          try simp only [List.setIfInBounds_toArray, List.set_cons_zero, List.set_cons_succ]
          refine wpAnyH_ready (rs := [13]) (by kernel_rfl) (by simp) ?_
          refine AllReadyH.cons (o := ⟨none, _, _, _, _, _⟩) rfl (fun K hK => ?_) AllReadyH.nil
          obtain ⟨hb6, x6, hx6, hr6⟩ := F5.out.2.2.2.2 B8 rfl
          rw [if_pos (by rfl)]
          refine op_store _ _ _ rfl _ rfl _ rfl (HSP2.out _ _ _ hr6 hx6) ?_
          have f6 := F5.out.st2 (⟨0, 0, false, false, false, 0, 0, cc2, 0, 0⟩)
          obtain ⟨Y6, hY6⟩ : ∃ y, y = Y5.setRow B8 (pswA (⟨0, 0, false, false, false, 0, 0, cc2, 0, 0⟩)) := ⟨_, rfl⟩
          rw [← hY6] at f6 ⊢
          have F6 := Lib.hid f6.1
          have P6 := Lib.hid f6.2
          clear hY6 f6 hb6 hx6 hr6 x6
          refine hK.out _ _ F6.out.fb (fun k6 => ?_)
          clear hK K
          try simp only [List.setIfInBounds_toArray, List.set_cons_zero, List.set_cons_succ]
          refine wpAnyH_take (i := 14) (oi := ⟨some 17, _, _, _, _, _⟩) (v := .int .i64 0) rfl (by kernel_rfl) (by kernel_rfl) (by kernel_rfl) (fun _ _ _ h => by cases h.1) (Or.inl ⟨by rfl, fun W hSw => by (try dsimp only at hSw); go_simp⟩) k6 ?_
          try simp only [Act.put, List.setIfInBounds_toArray, List.set_cons_zero, List.set_cons_succ]
          refine wpAnyH_done (by kernel_rfl) ?_ _
          refine id ?_
          exact ⟨rfl, B7, B8, cut_mk rfl, F6.out.1, F6.out.2.1, F6.out.2.2.1, P6.out⟩
        · go_simp
          have f3 := F2.out.al
          obtain ⟨Y3, hY3⟩ : ∃ y, y = Y2.alloc (.cells #[.int .u32 0, .int .u32 0, .int .u32 0, .int .u32 0, .int .u32 0, .int .u32 0, .int .u32 0, .int .u32 0, .int .u32 0, .int .u32 0, .int .u32 0, .int .u32 0, .int .u32 0, .int .u32 0, .int .u32 0, .int .u32 0] 28) := ⟨_, rfl⟩
          obtain ⟨B7, hB7⟩ : ∃ b, b = Y2.heap.size := ⟨_, rfl⟩
          rw [← hY3, ← hB7] at f3 ⊢
          have F3 := Lib.hid f3
          clear hY3 hB7 f3
          refine hK.out _ _ F3.out.fb (fun k3 => ?_)
          clear hK K
          try simp only [List.setIfInBounds_toArray, List.set_cons_zero, List.set_cons_succ]
          refine wpAnyH_ready (rs := [5]) (by kernel_rfl) (by simp) ?_
          refine AllReadyH.cons (o := ⟨some 96, _, _, _, _, _⟩) rfl (fun K hK => ?_) AllReadyH.nil
          go_simp
          go_at_call 17
          refine (HE2.out A g h 1 Y3 F3.out.2.2.1).mono ?_
          rintro e Y4 ⟨rfl, hs, hk⟩
          have F4 := Lib.hid (F3.out.exec hs hk)
          clear hs hk
          go_wp2_with fail
          refine hK.out _ _ F4.out.fb (fun k4 => ?_)
          clear hK K
          try simp only [List.setIfInBounds_toArray, List.set_cons_zero, List.set_cons_succ]
          refine wpAnyH_take (i := 6) (oi := ⟨some 90, _, _, _, _, _⟩) (v := .tuple #[.agg #[.int .u32 0, .int .u32 0, .int .u32 0, .int .u32 0, .int .u32 0, .int .u32 0, .int .u32 0, .int .u32 0, .int .u32 0, .int .u32 0, .int .u32 0, .int .u32 0, .int .u32 0, .int .u32 0, .int .u32 1000, .int .u32 100], .agg #[.int .i64 0, .int .i64 0, .bool false, .bool false, .bool false, .int .i64 0, .int .i64 0, .int .i64 cc2, .int .i64 0, .int .i64 0], .int .i64 0]) rfl (by kernel_rfl) (by kernel_rfl) (by kernel_rfl) (fun _ _ _ h => by cases h.1) (Or.inl ⟨by rfl, fun W hSw => by (try dsimp only at hSw); go_simp⟩) k4 ?_
          try simp only [Act.put, List.setIfInBounds_toArray, List.set_cons_zero, List.set_cons_succ]
          refine wpAnyH_take (i := 7) (oi := ⟨some 97, _, _, _, _, _⟩) (v := .agg #[.int .u32 0, .int .u32 0, .int .u32 0, .int .u32 0, .int .u32 0, .int .u32 0, .int .u32 0, .int .u32 0, .int .u32 0, .int .u32 0, .int .u32 0, .int .u32 0, .int .u32 0, .int .u32 0, .int .u32 1000, .int .u32 100]) rfl (by kernel_rfl) (by kernel_rfl) (by kernel_rfl) (fun _ _ _ h => by cases h.1) (Or.inl ⟨by rfl, fun W hSw => by (try dsimp only at hSw); go_simp⟩) k4 ?_
          try simp only [Act.put, List.setIfInBounds_toArray, List.set_cons_zero, List.set_cons_succ]
          refine wpAnyH_take (i := 8) (oi := ⟨some 98, _, _, _, _, _⟩) (v := .agg #[.int .i64 0, .int .i64 0, .bool false, .bool false, .bool false, .int .i64 0, .int .i64 0, .int .i64 cc2, .int .i64 0, .int .i64 0]) rfl (by kernel_rfl) (by kernel_rfl) (by kernel_rfl) (fun _ _ _ h => by cases h.1) (Or.inl ⟨by rfl, fun W hSw => by (try dsimp only at hSw); go_simp⟩) k4 ?_
          try simp only [Act.put, List.setIfInBounds_toArray, List.set_cons_zero, List.set_cons_succ]
          refine wpAnyH_take (i := 9) (oi := ⟨some 99, _, _, _, _, _⟩) (v := .int .i64 0) rfl (by kernel_rfl) (by kernel_rfl) (by kernel_rfl) (fun _ _ _ h => by cases h.1) (Or.inl ⟨by rfl, fun W hSw => by (try dsimp only at hSw); go_simp⟩) k4 ?_
          try simp only [Act.put, List.setIfInBounds_toArray, List.set_cons_zero, List.set_cons_succ]
          refine wpAnyH_ready (rs := [12]) (by kernel_rfl) (by simp) ?_
          refine AllReadyH.cons (o := ⟨none, _, _, _, _, _⟩) rfl (fun K hK => ?_) AllReadyH.nil
          obtain ⟨hb5, x5, hx5, hr5⟩ := F4.out.2.2.2.1 B7 rfl
          rw [if_pos (by rfl)]
          refine op_store _ _ _ rfl _ rfl _ rfl (HSR2.out _ _ _ hr5 hx5) ?_
          have f5 := F4.out.st HB6.out (mvR 1000 100)
          obtain ⟨Y5, hY5⟩ : ∃ y, y = Y4.setRow B7 (regA (mvR 1000 100)) := ⟨_, rfl⟩
          rw [← hY5] at f5 ⊢
          have F5 := Lib.hid f5
          clear hY5 f5 hb5 hx5 hr5 x5
          refine hK.out _ _ F5.out.fb (fun k5 => ?_)
          clear hK K
          try simp only [List.setIfInBounds_toArray, List.set_cons_zero, List.set_cons_succ]
          refine wpAnyH_ready (rs := [13]) (by kernel_rfl) (by simp) ?_
          refine AllReadyH.cons (o := ⟨none, _, _, _, _, _⟩) rfl (fun K hK => ?_) AllReadyH.nil
          obtain ⟨hb6, x6, hx6, hr6⟩ := F5.out.2.2.2.2 B8 rfl
          rw [if_pos (by rfl)]
          refine op_store _ _ _ rfl _ rfl _ rfl (HSP2.out _ _ _ hr6 hx6) ?_
          have f6 := F5.out.st2 (⟨0, 0, false, false, false, 0, 0, cc2, 0, 0⟩)
          obtain ⟨Y6, hY6⟩ : ∃ y, y = Y5.setRow B8 (pswA (⟨0, 0, false, false, false, 0, 0, cc2, 0, 0⟩)) := ⟨_, rfl⟩
          rw [← hY6] at f6 ⊢
          have F6 := Lib.hid f6.1
          have P6 := Lib.hid f6.2
          clear hY6 f6 hb6 hx6 hr6 x6
          refine hK.out _ _ F6.out.fb (fun k6 => ?_)
          clear hK K
          try simp only [List.setIfInBounds_toArray, List.set_cons_zero, List.set_cons_succ]
          refine wpAnyH_take (i := 14) (oi := ⟨some 17, _, _, _, _, _⟩) (v := .int .i64 0) rfl (by kernel_rfl) (by kernel_rfl) (by kernel_rfl) (fun _ _ _ h => by cases h.1) (Or.inl ⟨by rfl, fun W hSw => by (try dsimp only at hSw); go_simp⟩) k6 ?_
          try simp only [Act.put, List.setIfInBounds_toArray, List.set_cons_zero, List.set_cons_succ]
          refine wpAnyH_done (by kernel_rfl) ?_ _
          refine id ?_
          exact ⟨rfl, B7, B8, cut_mk rfl, F6.out.1, F6.out.2.1, F6.out.2.2.1, P6.out⟩
    · go_simp
      have f1 := F00.out.al
      obtain ⟨Y1, hY1⟩ : ∃ y, y = Y0.alloc (.cells #[.int .u32 0, .int .u32 0, .int .u32 0, .int .u32 0, .int .u32 0, .int .u32 0, .int .u32 0, .int .u32 0, .int .u32 0, .int .u32 0, .int .u32 0, .int .u32 0, .int .u32 0, .int .u32 0, .int .u32 0, .int .u32 0] 28) := ⟨_, rfl⟩
      obtain ⟨B7, hB7⟩ : ∃ b, b = Y0.heap.size := ⟨_, rfl⟩
      rw [← hY1, ← hB7] at f1 ⊢
      have F1 := Lib.hid f1
      clear hY1 hB7 f1
      refine hK.out _ _ F1.out.fb (fun k1 => ?_)
      clear hK K
      try simp only [List.setIfInBounds_toArray, List.set_cons_zero, List.set_cons_succ]
      refine wpAnyH_ready (rs := [1, 11]) (by kernel_rfl) (by simp) ?_
      refine AllReadyH.cons (o := ⟨some 92, _, _, _, _, _⟩) rfl (fun K hK => ?_) (AllReadyH.cons (o := ⟨some 16, _, _, _, _, _⟩) rfl (fun K hK => ?_) AllReadyH.nil)
      · go_simp
        go_at_call 27
        refine (HSS1.out Y1).mono ?_
        rintro e Y2 ⟨rfl, hb⟩
        have F2 := Lib.hid (F1.out.below hb)
        clear hb
        go_wp2_with fail
        refine hK.out _ _ F2.out.fb (fun k2 => ?_)
        clear hK K
        try simp only [List.setIfInBounds_toArray, List.set_cons_zero, List.set_cons_succ]
        refine wpAnyH_ready (rs := [5, 11]) (by kernel_rfl) (by simp) ?_
        refine AllReadyH.cons (o := ⟨some 96, _, _, _, _, _⟩) rfl (fun K hK => ?_) (AllReadyH.cons (o := ⟨some 16, _, _, _, _, _⟩) rfl (fun K hK => ?_) AllReadyH.nil)
        · go_simp
          go_at_call 17
          refine (HE2.out A g h 1 Y2 F2.out.2.2.1).mono ?_
          rintro e Y3 ⟨rfl, hs, hk⟩
          have F3 := Lib.hid (F2.out.exec hs hk)
          clear hs hk
          go_wp2_with fail
          refine hK.out _ _ F3.out.fb (fun k3 => ?_)
          clear hK K
          try simp only [List.setIfInBounds_toArray, List.set_cons_zero, List.set_cons_succ]
          refine wpAnyH_take (i := 6) (oi := ⟨some 90, _, _, _, _, _⟩) (v := .tuple #[.agg #[.int .u32 0, .int .u32 0, .int .u32 0, .int .u32 0, .int .u32 0, .int .u32 0, .int .u32 0, .int .u32 0, .int .u32 0, .int .u32 0, .int .u32 0, .int .u32 0, .int .u32 0, .int .u32 0, .int .u32 1000, .int .u32 100], .agg #[.int .i64 0, .int .i64 0, .bool false, .bool false, .bool false, .int .i64 0, .int .i64 0, .int .i64 cc2, .int .i64 0, .int .i64 0], .int .i64 0]) rfl (by kernel_rfl) (by kernel_rfl) (by kernel_rfl) (fun _ _ _ h => by cases h.1) (Or.inl ⟨by rfl, fun W hSw => by (try dsimp only at hSw); go_simp⟩) k3 ?_
          try simp only [Act.put, List.setIfInBounds_toArray, List.set_cons_zero, List.set_cons_succ]
          refine wpAnyH_take (i := 7) (oi := ⟨some 97, _, _, _, _, _⟩) (v := .agg #[.int .u32 0, .int .u32 0, .int .u32 0, .int .u32 0, .int .u32 0, .int .u32 0, .int .u32 0, .int .u32 0, .int .u32 0, .int .u32 0, .int .u32 0, .int .u32 0, .int .u32 0, .int .u32 0, .int .u32 1000, .int .u32 100]) rfl (by kernel_rfl) (by kernel_rfl) (by kernel_rfl) (fun _ _ _ h => by cases h.1) (Or.inl ⟨by rfl, fun W hSw => by (try dsimp only at hSw); go_simp⟩) k3 ?_
          try simp only [Act.put, List.setIfInBounds_toArray, List.set_cons_zero, List.set_cons_succ]
          refine wpAnyH_take (i := 8) (oi := ⟨some 98, _, _, _, _, _⟩) (v := .agg #[.int .i64 0, .int .i64 0, .bool false, .bool false, .bool false, .int .i64 0, .int .i64 0, .int .i64 cc2, .int .i64 0, .int .i64 0]) rfl (by kernel_rfl) (by kernel_rfl) (by kernel_rfl) (fun _ _ _ h => by cases h.1) (Or.inl ⟨by rfl, fun W hSw => by (try dsimp only at hSw); go_simp⟩) k3 ?_
          try simp only [Act.put, List.setIfInBounds_toArray, List.set_cons_zero, List.set_cons_succ]
          refine wpAnyH_take (i := 9) (oi := ⟨some 99, _, _, _, _, _⟩) (v := .int .i64 0) rfl (by kernel_rfl) (by kernel_rfl) (by kernel_rfl) (fun _ _ _ h => by cases h.1) (Or.inl ⟨by rfl, fun W hSw => by (try dsimp only at hSw); go_simp⟩) k3 ?_
          try simp only [Act.put, List.setIfInBounds_toArray, List.set_cons_zero, List.set_cons_succ]
          refine wpAnyH_ready (rs := [11]) (by kernel_rfl) (by simp) ?_
          refine AllReadyH.cons (o := ⟨some 16, _, _, _, _, _⟩) rfl (fun K hK => ?_) AllReadyH.nil
          go_simp
          have f4 := F3.out.al2
          obtain ⟨Y4, hY4⟩ : ∃ y, y = Y3.alloc (.cells #[.int .i64 0, .int .i64 0, .bool false, .bool false, .bool false, .int .i64 0, .int .i64 0, .int .i64 0, .int .i64 0, .int .i64 0] 30) := ⟨_, rfl⟩
          obtain ⟨B8, hB8⟩ : ∃ b, b = Y3.heap.size := ⟨_, rfl⟩
          rw [← hY4, ← hB8] at f4 ⊢
          have F4 := Lib.hid f4
          clear hY4 hB8 f4
          refine hK.out _ _ F4.out.fb (fun k4 => ?_)
          clear hK K
          try simp only [List.setIfInBounds_toArray, List.set_cons_zero, List.set_cons_succ]
          refine wpAnyH_ready (rs := [12]) (by kernel_rfl) (by simp) ?_
          refine AllReadyH.cons (o := ⟨none, _, _, _, _, _⟩) rfl (fun K hK => ?_) AllReadyH.nil
          obtain ⟨hb5, x5, hx5, hr5⟩ := F4.out.2.2.2.1 B7 rfl
          rw [if_pos (by rfl)]
          refine op_store _ _ _ rfl _ rfl _ rfl (HSR2.out _ _ _ hr5 hx5) ?_
          have f5 := F4.out.st HB6.out (mvR 1000 100)
          obtain ⟨Y5, hY5⟩ : ∃ y, y = Y4.setRow B7 (regA (mvR 1000 100)) := ⟨_, rfl⟩
          rw [← hY5] at f5 ⊢
          have F5 := Lib.hid f5
          clear hY5 f5 hb5 hx5 hr5 x5
          refine hK.out _ _ F5.out.fb (fun k5 => ?_)
          clear hK K
          try simp only [List.setIfInBounds_toArray, List.set_cons_zero, List.set_cons_succ]
          refine wpAnyH_ready (rs := [13]) (by kernel_rfl) (by simp) ?_
          refine AllReadyH.cons (o := ⟨none, _, _, _, _, _⟩) rfl (fun K hK => ?_) AllReadyH.nil
          obtain ⟨hb6, x6, hx6, hr6⟩ := F5.out.2.2.2.2 B8 rfl
          rw [if_pos (by rfl)]
          refine op_store _ _ _ rfl _ rfl _ rfl (HSP2.out _ _ _ hr6 hx6) ?_
          have f6 := F5.out.st2 (⟨0, 0, false, false, false, 0, 0, cc2, 0, 0⟩)
          obtain ⟨Y6, hY6⟩ : ∃ y, y = Y5.setRow B8 (pswA (⟨0, 0, false, false, false, 0, 0, cc2, 0, 0⟩)) := ⟨_, rfl⟩
          rw [← hY6] at f6 ⊢
          have F6 := Lib.hid f6.1
          have P6 := Lib.hid f6.2
          clear hY6 f6 hb6 hx6 hr6 x6
          refine hK.out _ _ F6.out.fb (fun k6 => ?_)
          clear hK K
          try simp only [List.setIfInBounds_toArray, List.set_cons_zero, List.set_cons_succ]
          refine wpAnyH_take (i := 14) (oi := ⟨some 17, _, _, _, _, _⟩) (v := .int .i64 0) rfl (by kernel_rfl) (by kernel_rfl) (by kernel_rfl) (fun _ _ _ h => by cases h.1) (Or.inl ⟨by rfl, fun W hSw => by (try dsimp only at hSw); go_simp⟩) k6 ?_
          try simp only [Act.put, List.setIfInBounds_toArray, List.set_cons_zero, List.set_cons_succ]
          refine wpAnyH_done (by kernel_rfl) ?_ _
          refine id ?_
          exact ⟨rfl, B7, B8, cut_mk rfl, F6.out.1, F6.out.2.1, F6.out.2.2.1, P6.out⟩
        · go_simp
          have f3 := F2.out.al2
          obtain ⟨Y3, hY3⟩ : ∃ y, y = Y2.alloc (.cells #[.int .i64 0, .int .i64 0, .bool false, .bool false, .bool false, .int .i64 0, .int .i64 0, .int .i64 0, .int .i64 0, .int .i64 0] 30) := ⟨_, rfl⟩
          obtain ⟨B8, hB8⟩ : ∃ b, b = Y2.heap.size := ⟨_, rfl⟩
          rw [← hY3, ← hB8] at f3 ⊢
          have F3 := Lib.hid f3
          clear hY3 hB8 f3
          refine hK.out _ _ F3.out.fb (fun k3 => ?_)
          clear hK K
          try simp only [List.setIfInBounds_toArray, List.set_cons_zero, List.set_cons_succ]
          refine wpAnyH_ready (rs := [5]) (by kernel_rfl) (by simp) ?_
          refine AllReadyH.cons (o := ⟨some 96, _, _, _, _, _⟩) rfl (fun K hK => ?_) AllReadyH.nil
          go_simp
          go_at_call 17
          refine (HE2.out A g h 1 Y3 F3.out.2.2.1).mono ?_
          rintro e Y4 ⟨rfl, hs, hk⟩
          have F4 := Lib.hid (F3.out.exec hs hk)
          clear hs hk
          go_wp2_with fail
          refine hK.out _ _ F4.out.fb (fun k4 => ?_)
          clear hK K
          try simp only [List.setIfInBounds_toArray, List.set_cons_zero, List.set_cons_succ]
          refine wpAnyH_take (i := 6) (oi := ⟨some 90, _, _, _, _, _⟩) (v := .tuple #[.agg #[.int .u32 0, .int .u32 0, .int .u32 0, .int .u32 0, .int .u32 0, .int .u32 0, .int .u32 0, .int .u32 0, .int .u32 0, .int .u32 0, .int .u32 0, .int .u32 0, .int .u32 0, .int .u32 0, .int .u32 1000, .int .u32 100], .agg #[.int .i64 0, .int .i64 0, .bool false, .bool false, .bool false, .int .i64 0, .int .i64 0, .int .i64 cc2, .int .i64 0, .int .i64 0], .int .i64 0]) rfl (by kernel_rfl) (by kernel_rfl) (by kernel_rfl) (fun _ _ _ h => by cases h.1) (Or.inl ⟨by rfl, fun W hSw => by (try dsimp only at hSw); go_simp⟩) k4 ?_
          try simp only [Act.put, List.setIfInBounds_toArray, List.set_cons_zero, List.set_cons_succ]
          refine wpAnyH_take (i := 7) (oi := ⟨some 97, _, _, _, _, _⟩) (v := .agg #[.int .u32 0, .int .u32 0, .int .u32 0, .int .u32 0, .int .u32 0, .int .u32 0, .int .u32 0, .int .u32 0, .int .u32 0, .int .u32 0, .int .u32 0, .int .u32 0, .int .u32 0, .int .u32 0, .int .u32 1000, .int .u32 100]) rfl (by kernel_rfl) (by kernel_rfl) (by kernel_rfl) (fun _ _ _ h => by cases h.1) (Or.inl ⟨by rfl, fun W hSw => by (try dsimp only at hSw); go_simp⟩) k4 ?_
          try simp only [Act.put, List.setIfInBounds_toArray, List.set_cons_zero, List.set_cons_succ]
          refine wpAnyH_take (i := 8) (oi := ⟨some 98, _, _, _, _, _⟩) (v := .agg #[.int .i64 0, .int .i64 0, .bool false, .bool false, .bool false, .int .i64 0, .int .i64 0, .int .i64 cc2, .int .i64 0, .int .i64 0]) rfl (by kernel_rfl) (by kernel_rfl) (by kernel_rfl) (fun _ _ _ h => by cases h.1) (Or.inl ⟨by rfl, fun W hSw => by (try dsimp only at hSw); go_simp⟩) k4 ?_
          try simp only [Act.put, List.setIfInBounds_toArray, List.set_cons_zero, List.set_cons_succ]
          refine wpAnyH_take (i := 9) (oi := ⟨some 99, _, _, _, _, _⟩) (v := .int .i64 0) rfl (by kernel_rfl) (by kernel_rfl) (by kernel_rfl) (fun _ _ _ h => by cases h.1) (Or.inl ⟨by rfl, fun W hSw => by (try dsimp only at hSw); go_simp⟩) k4 ?_
          try simp only [Act.put, List.setIfInBounds_toArray, List.set_cons_zero, List.set_cons_succ]
          refine wpAnyH_ready (rs := [12]) (by kernel_rfl) (by simp) ?_
          refine AllReadyH.cons (o := ⟨none, _, _, _, _, _⟩) rfl (fun K hK => ?_) AllReadyH.nil
          obtain ⟨hb5, x5, hx5, hr5⟩ := F4.out.2.2.2.1 B7 rfl
          rw [if_pos (by rfl)]
          refine op_store _ _ _ rfl _ rfl _ rfl (HSR2.out _ _ _ hr5 hx5) ?_
          have f5 := F4.out.st HB6.out (mvR 1000 100)
          obtain ⟨Y5, hY5⟩ : ∃ y, y = Y4.setRow B7 (regA (mvR 1000 100)) := ⟨_, rfl⟩
          rw [← hY5] at f5 ⊢
          have F5 := Lib.hid f5
          clear hY5 f5 hb5 hx5 hr5 x5
          refine hK.out _ _ F5.out.fb (fun k5 => ?_)
          clear hK K
          try simp only [List.setIfInBounds_toArray, List.set_cons_zero, List.set_cons_succ]
          refine wpAnyH_ready (rs := [13]) (by kernel_rfl) (by simp) ?_
          refine AllReadyH.cons (o := ⟨none, _, _, _, _, _⟩) rfl (fun K hK => ?_) AllReadyH.nil
          obtain ⟨hb6, x6, hx6, hr6⟩ := F5.out.2.2.2.2 B8 rfl
          rw [if_pos (by rfl)]
          refine op_store _ _ _ rfl _ rfl _ rfl (HSP2.out _ _ _ hr6 hx6) ?_
          have f6 := F5.out.st2 (⟨0, 0, false, false, false, 0, 0, cc2, 0, 0⟩)
          obtain ⟨Y6, hY6⟩ : ∃ y, y = Y5.setRow B8 (pswA (⟨0, 0, false, false, false, 0, 0, cc2, 0, 0⟩)) := ⟨_, rfl⟩
          rw [← hY6] at f6 ⊢
          have F6 := Lib.hid f6.1
          have P6 := Lib.hid f6.2
          clear hY6 f6 hb6 hx6 hr6 x6
          refine hK.out _ _ F6.out.fb (fun k6 => ?_)
          clear hK K
          try simp only [List.setIfInBounds_toArray, List.set_cons_zero, List.set_cons_succ]
          refine wpAnyH_take (i := 14) (oi := ⟨some 17, _, _, _, _, _⟩) (v := .int .i64 0) rfl (by kernel_rfl) (by kernel_rfl) (by kernel_rfl) (fun _ _ _ h => by cases h.1) (Or.inl ⟨by rfl, fun W hSw => by (try dsimp only at hSw); go_simp⟩) k6 ?_
          try simp only [Act.put, List.setIfInBounds_toArray, List.set_cons_zero, List.set_cons_succ]
          refine wpAnyH_done (by kernel_rfl) ?_ _
          refine id ?_
          exact ⟨rfl, B7, B8, cut_mk rfl, F6.out.1, F6.out.2.1, F6.out.2.2.1, P6.out⟩
      · go_simp
        have f2 := F1.out.al2
        obtain ⟨Y2, hY2⟩ : ∃ y, y = Y1.alloc (.cells #[.int .i64 0, .int .i64 0, .bool false, .bool false, .bool false, .int .i64 0, .int .i64 0, .int .i64 0, .int .i64 0, .int .i64 0] 30) := ⟨_, rfl⟩
        obtain ⟨B8, hB8⟩ : ∃ b, b = Y1.heap.size := ⟨_, rfl⟩
        rw [← hY2, ← hB8] at f2 ⊢
        have F2 := Lib.hid f2
        clear hY2 hB8 f2
        refine hK.out _ _ F2.out.fb (fun k2 => ?_)
        clear hK K
        try simp only [List.setIfInBounds_toArray, List.set_cons_zero, List.set_cons_succ]
        refine wpAnyH_ready (rs := [1]) (by kernel_rfl) (by simp) ?_
        refine AllReadyH.cons (o := ⟨some 92, _, _, _, _, _⟩) rfl (fun K hK => ?_) AllReadyH.nil
        go_simp
        go_at_call 27
        refine (HSS1.out Y2).mono ?_
        rintro e Y3 ⟨rfl, hb⟩
        have F3 := Lib.hid (F2.out.below hb)
        clear hb
        go_wp2_with fail
        refine hK.out _ _ F3.out.fb (fun k3 => ?_)
        clear hK K
        try simp only [List.setIfInBounds_toArray, List.set_cons_zero, List.set_cons_succ]
        refine wpAnyH_ready (rs := [5]) (by kernel_rfl) (by simp) ?_
        refine AllReadyH.cons (o := ⟨some 96, _, _, _, _, _⟩) rfl (fun K hK => ?_) AllReadyH.nil
        go_simp
        go_at_call 17
        refine (HE2.out A g h 1 Y3 F3.out.2.2.1).mono ?_
        rintro e Y4 ⟨rfl, hs, hk⟩
        have F4 := Lib.hid (F3.out.exec hs hk)
        clear hs hk
        go_wp2_with fail
        refine hK.out _ _ F4.out.fb (fun k4 => ?_)
        clear hK K
        try simp only [List.setIfInBounds_toArray, List.set_cons_zero, List.set_cons_succ]
        refine wpAnyH_take (i := 6) (oi := ⟨some 90, _, _, _, _, _⟩) (v := .tuple #[.agg #[.int .u32 0, .int .u32 0, .int .u32 0, .int .u32 0, .int .u32 0, .int .u32 0, .int .u32 0, .int .u32 0, .int .u32 0, .int .u32 0, .int .u32 0, .int .u32 0, .int .u32 0, .int .u32 0, .int .u32 1000, .int .u32 100], .agg #[.int .i64 0, .int .i64 0, .bool false, .bool false, .bool false, .int .i64 0, .int .i64 0, .int .i64 cc2, .int .i64 0, .int .i64 0], .int .i64 0]) rfl (by kernel_rfl) (by kernel_rfl) (by kernel_rfl) (fun _ _ _ h => by cases h.1) (Or.inl ⟨by rfl, fun W hSw => by (try dsimp only at hSw); go_simp⟩) k4 ?_
        try simp only [Act.put, List.setIfInBounds_toArray, List.set_cons_zero, List.set_cons_succ]
        refine wpAnyH_take (i := 7) (oi := ⟨some 97, _, _, _, _, _⟩) (v := .agg #[.int .u32 0, .int .u32 0, .int .u32 0, .int .u32 0, .int .u32 0, .int .u32 0, .int .u32 0, .int .u32 0, .int .u32 0, .int .u32 0, .int .u32 0, .int .u32 0, .int .u32 0, .int .u32 0, .int .u32 1000, .int .u32 100]) rfl (by kernel_rfl) (by kernel_rfl) (by kernel_rfl) (fun _ _ _ h => by cases h.1) (Or.inl ⟨by rfl, fun W hSw => by (try dsimp only at hSw); go_simp⟩) k4 ?_
        try simp only [Act.put, List.setIfInBounds_toArray, List.set_cons_zero, List.set_cons_succ]
        refine wpAnyH_take (i := 8) (oi := ⟨some 98, _, _, _, _, _⟩) (v := .agg #[.int .i64 0, .int .i64 0, .bool false, .bool false, .bool false, .int .i64 0, .int .i64 0, .int .i64 cc2, .int .i64 0, .int .i64 0]) rfl (by kernel_rfl) (by kernel_rfl) (by kernel_rfl) (fun _ _ _ h => by cases h.1) (Or.inl ⟨by rfl, fun W hSw => by (try dsimp only at hSw); go_simp⟩) k4 ?_
        try simp only [Act.put, List.setIfInBounds_toArray, List.set_cons_zero, List.set_cons_succ]
        refine wpAnyH_take (i := 9) (oi := ⟨some 99, _, _, _, _, _⟩) (v := .int .i64 0) rfl (by kernel_rfl) (by kernel_rfl) (by kernel_rfl) (fun _ _ _ h => by cases h.1) (Or.inl ⟨by rfl, fun W hSw => by (try dsimp only at hSw); go_simp⟩) k4 ?_
        try simp only [Act.put, List.setIfInBounds_toArray, List.set_cons_zero, List.set_cons_succ]
        refine wpAnyH_ready (rs := [12]) (by kernel_rfl) (by simp) ?_
        refine AllReadyH.cons (o := ⟨none, _, _, _, _, _⟩) rfl (fun K hK => ?_) AllReadyH.nil
        obtain ⟨hb5, x5, hx5, hr5⟩ := F4.out.2.2.2.1 B7 rfl
        rw [if_pos (by rfl)]
        refine op_store _ _ _ rfl _ rfl _ rfl (HSR2.out _ _ _ hr5 hx5) ?_
        have f5 := F4.out.st HB6.out (mvR 1000 100)
        obtain ⟨Y5, hY5⟩ : ∃ y, y = Y4.setRow B7 (regA (mvR 1000 100)) := ⟨_, rfl⟩
        rw [← hY5] at f5 ⊢
        have F5 := Lib.hid f5
        clear hY5 f5 hb5 hx5 hr5 x5
        refine hK.out _ _ F5.out.fb (fun k5 => ?_)
        clear hK K
        try simp only [List.setIfInBounds_toArray, List.set_cons_zero, List.set_cons_succ]
        refine wpAnyH_ready (rs := [13]) (by kernel_rfl) (by simp) ?_
        refine AllReadyH.cons (o := ⟨none, _, _, _, _, _⟩) rfl (fun K hK => ?_) AllReadyH.nil
        obtain ⟨hb6, x6, hx6, hr6⟩ := F5.out.2.2.2.2 B8 rfl
        rw [if_pos (by rfl)]
        refine op_store _ _ _ rfl _ rfl _ rfl (HSP2.out _ _ _ hr6 hx6) ?_
        have f6 := F5.out.st2 (⟨0, 0, false, false, false, 0, 0, cc2, 0, 0⟩)
        obtain ⟨Y6, hY6⟩ : ∃ y, y = Y5.setRow B8 (pswA (⟨0, 0, false, false, false, 0, 0, cc2, 0, 0⟩)) := ⟨_, rfl⟩
        rw [← hY6] at f6 ⊢
        have F6 := Lib.hid f6.1
        have P6 := Lib.hid f6.2
        clear hY6 f6 hb6 hx6 hr6 x6
        refine hK.out _ _ F6.out.fb (fun k6 => ?_)
        clear hK K
        try simp only [List.setIfInBounds_toArray, List.set_cons_zero, List.set_cons_succ]
        refine wpAnyH_take (i := 14) (oi := ⟨some 17, _, _, _, _, _⟩) (v := .int .i64 0) rfl (by kernel_rfl) (by kernel_rfl) (by kernel_rfl) (fun _ _ _ h => by cases h.1) (Or.inl ⟨by rfl, fun W hSw => by (try dsimp only at hSw); go_simp⟩) k6 ?_
        try simp only [Act.put, List.setIfInBounds_toArray, List.set_cons_zero, List.set_cons_succ]
        refine wpAnyH_done (by kernel_rfl) ?_ _
        refine id ?_
        exact ⟨rfl, B7, B8, cut_mk rfl, F6.out.1, F6.out.2.1, F6.out.2.2.1, P6.out⟩
    · go_simp
      have f1 := F00.out.al2
      obtain ⟨Y1, hY1⟩ : ∃ y, y = Y0.alloc (.cells #[.int .i64 0, .int .i64 0, .bool false, .bool false, .bool false, .int .i64 0, .int .i64 0, .int .i64 0, .int .i64 0, .int .i64 0] 30) := ⟨_, rfl⟩
      obtain ⟨B8, hB8⟩ : ∃ b, b = Y0.heap.size := ⟨_, rfl⟩
      rw [← hY1, ← hB8] at f1 ⊢
      have F1 := Lib.hid f1
      clear hY1 hB8 f1
      refine hK.out _ _ F1.out.fb (fun k1 => ?_)
      clear hK K
      try simp only [List.setIfInBounds_toArray, List.set_cons_zero, List.set_cons_succ]
      refine wpAnyH_ready (rs := [1, 10]) (by kernel_rfl) (by simp) ?_
      refine AllReadyH.cons (o := ⟨some 92, _, _, _, _, _⟩) rfl (fun K hK => ?_) (AllReadyH.cons (o := ⟨some 15, _, _, _, _, _⟩) rfl (fun K hK => ?_) AllReadyH.nil)
      · go_simp
        go_at_call 27
        refine (HSS1.out Y1).mono ?_
        rintro e Y2 ⟨rfl, hb⟩
        have F2 := Lib.hid (F1.out.below hb)
        clear hb
        go_wp2_with fail
        refine hK.out _ _ F2.out.fb (fun k2 => ?_)
        clear hK K
        try simp only [List.setIfInBounds_toArray, List.set_cons_zero, List.set_cons_succ]
        refine wpAnyH_ready (rs := [5, 10]) (by kernel_rfl) (by simp) ?_
        refine AllReadyH.cons (o := ⟨some 96, _, _, _, _, _⟩) rfl (fun K hK => ?_) (AllReadyH.cons (o := ⟨some 15, _, _, _, _, _⟩) rfl (fun K hK => ?_) AllReadyH.nil)
        · go_simp
          go_at_call 17
          refine (HE2.out A g h 1 Y2 F2.out.2.2.1).mono ?_
          rintro e Y3 ⟨rfl, hs, hk⟩
          have F3 := Lib.hid (F2.out.exec hs hk)
          clear hs hk
          go_wp2_with fail
          refine hK.out _ _ F3.out.fb (fun k3 => ?_)
          clear hK K
          try simp only [List.setIfInBounds_toArray, List.set_cons_zero, List.set_cons_succ]
          refine wpAnyH_take (i := 6) (oi := ⟨some 90, _, _, _, _, _⟩) (v := .tuple #[.agg #[.int .u32 0, .int .u32 0, .int .u32 0, .int .u32 0, .int .u32 0, .int .u32 0, .int .u32 0, .int .u32 0, .int .u32 0, .int .u32 0, .int .u32 0, .int .u32 0, .int .u32 0, .int .u32 0, .int .u32 1000, .int .u32 100], .agg #[.int .i64 0, .int .i64 0, .bool false, .bool false, .bool false, .int .i64 0, .int .i64 0, .int .i64 cc2, .int .i64 0, .int .i64 0], .int .i64 0]) rfl (by kernel_rfl) (by kernel_rfl) (by kernel_rfl) (fun _ _ _ h => by cases h.1) (Or.inl ⟨by rfl, fun W hSw => by (try dsimp only at hSw); go_simp⟩) k3 ?_
          try simp only [Act.put, List.setIfInBounds_toArray, List.set_cons_zero, List.set_cons_succ]
          refine wpAnyH_take (i := 7) (oi := ⟨some 97, _, _, _, _, _⟩) (v := .agg #[.int .u32 0, .int .u32 0, .int .u32 0, .int .u32 0, .int .u32 0, .int .u32 0, .int .u32 0, .int .u32 0, .int .u32 0, .int .u32 0, .int .u32 0, .int .u32 0, .int .u32 0, .int .u32 0, .int .u32 1000, .int .u32 100]) rfl (by kernel_rfl) (by kernel_rfl) (by kernel_rfl) (fun _ _ _ h => by cases h.1) (Or.inl ⟨by rfl, fun W hSw => by (try dsimp only at hSw); go_simp⟩) k3 ?_
          try simp only [Act.put, List.setIfInBounds_toArray, List.set_cons_zero, List.set_cons_succ]
          refine wpAnyH_take (i := 8) (oi := ⟨some 98, _, _, _, _, _⟩) (v := .agg #[.int .i64 0, .int .i64 0, .bool false, .bool false, .bool false, .int .i64 0, .int .i64 0, .int .i64 cc2, .int .i64 0, .int .i64 0]) rfl (by kernel_rfl) (by kernel_rfl) (by kernel_rfl) (fun _ _ _ h => by cases h.1) (Or.inl ⟨by rfl, fun W hSw => by (try dsimp only at hSw); go_simp⟩) k3 ?_
          try simp only [Act.put, List.setIfInBounds_toArray, List.set_cons_zero, List.set_cons_succ]
          refine wpAnyH_take (i := 9) (oi := ⟨some 99, _, _, _, _, _⟩) (v := .int .i64 0) rfl (by kernel_rfl) (by kernel_rfl) (by kernel_rfl) (fun _ _ _ h => by cases h.1) (Or.inl ⟨by rfl, fun W hSw => by (try dsimp only at hSw); go_simp⟩) k3 ?_
          try simp only [Act.put, List.setIfInBounds_toArray, List.set_cons_zero, List.set_cons_succ]
          refine wpAnyH_ready (rs := [10]) (by kernel_rfl) (by simp) ?_
          refine AllReadyH.cons (o := ⟨some 15, _, _, _, _, _⟩) rfl (fun K hK => ?_) AllReadyH.nil
          go_simp
          have f4 := F3.out.al
          obtain ⟨Y4, hY4⟩ : ∃ y, y = Y3.alloc (.cells #[.int .u32 0, .int .u32 0, .int .u32 0, .int .u32 0, .int .u32 0, .int .u32 0, .int .u32 0, .int .u32 0, .int .u32 0, .int .u32 0, .int .u32 0, .int .u32 0, .int .u32 0, .int .u32 0, .int .u32 0, .int .u32 0] 28) := ⟨_, rfl⟩
          obtain ⟨B7, hB7⟩ : ∃ b, b = Y3.heap.size := ⟨_, rfl⟩
          rw [← hY4, ← hB7] at f4 ⊢
          have F4 := Lib.hid f4
          clear hY4 hB7 f4
          refine hK.out _ _ F4.out.fb (fun k4 => ?_)
          clear hK K
          try simp only [List.setIfInBounds_toArray, List.set_cons_zero, List.set_cons_succ]
          refine wpAnyH_ready (rs := [12]) (by kernel_rfl) (by simp) ?_
          refine AllReadyH.cons (o := ⟨none, _, _, _, _, _⟩) rfl (fun K hK => ?_) AllReadyH.nil
          obtain ⟨hb5, x5, hx5, hr5⟩ := F4.out.2.2.2.1 B7 rfl
          rw [if_pos (by rfl)]
          refine op_store _ _ _ rfl _ rfl _ rfl (HSR2.out _ _ _ hr5 hx5) ?_
          have f5 := F4.out.st HB6.out (mvR 1000 100)
          obtain ⟨Y5, hY5⟩ : ∃ y, y = Y4.setRow B7 (regA (mvR 1000 100)) := ⟨_, rfl⟩
          rw [← hY5] at f5 ⊢
          have F5 := Lib.hid f5
          clear hY5 f5 hb5 hx5 hr5 x5
          refine hK.out _ _ F5.out.fb (fun k5 => ?_)
          clear hK K
          try simp only [List.setIfInBounds_toArray, List.set_cons_zero, List.set_cons_succ]
          refine wpAnyH_ready (rs := [13]) (by kernel_rfl) (by simp) ?_
          refine AllReadyH.cons (o := ⟨none, _, _, _, _, _⟩) rfl (fun K hK => ?_) AllReadyH.nil
          obtain ⟨hb6, x6, hx6, hr6⟩ := F5.out.2.2.2.2 B8 rfl
          rw [if_pos (by rfl)]
          refine op_store _ _ _ rfl _ rfl _ rfl (HSP2.out _ _ _ hr6 hx6) ?_
          have f6 := F5.out.st2 (⟨0, 0, false, false, false, 0, 0, cc2, 0, 0⟩)
          obtain ⟨Y6, hY6⟩ : ∃ y, y = Y5.setRow B8 (pswA (⟨0, 0, false, false, false, 0, 0, cc2, 0, 0⟩)) := ⟨_, rfl⟩
          rw [← hY6] at f6 ⊢
          have F6 := Lib.hid f6.1
          have P6 := Lib.hid f6.2
          clear hY6 f6 hb6 hx6 hr6 x6
          refine hK.out _ _ F6.out.fb (fun k6 => ?_)
          clear hK K
          try simp only [List.setIfInBounds_toArray, List.set_cons_zero, List.set_cons_succ]
          refine wpAnyH_take (i := 14) (oi := ⟨some 17, _, _, _, _, _⟩) (v := .int .i64 0) rfl (by kernel_rfl) (by kernel_rfl) (by kernel_rfl) (fun _ _ _ h => by cases h.1) (Or.inl ⟨by rfl, fun W hSw => by (try dsimp only at hSw); go_simp⟩) k6 ?_
          try simp only [Act.put, List.setIfInBounds_toArray, List.set_cons_zero, List.set_cons_succ]
          refine wpAnyH_done (by kernel_rfl) ?_ _
          refine id ?_
          exact ⟨rfl, B7, B8, cut_mk rfl, F6.out.1, F6.out.2.1, F6.out.2.2.1, P6.out⟩
        · go_simp
          have f3 := F2.out.al
          obtain ⟨Y3, hY3⟩ : ∃ y, y = Y2.alloc (.cells #[.int .u32 0, .int .u32 0, .int .u32 0, .int .u32 0, .int .u32 0, .int .u32 0, .int .u32 0, .int .u32 0, .int .u32 0, .int .u32 0, .int .u32 0, .int .u32 0, .int .u32 0, .int .u32 0, .int .u32 0, .int .u32 0] 28) := ⟨_, rfl⟩
          obtain ⟨B7, hB7⟩ : ∃ b, b = Y2.heap.size := ⟨_, rfl⟩
          rw [← hY3, ← hB7] at f3 ⊢
          have F3 := Lib.hid f3
          clear hY3 hB7 f3
          refine hK.out _ _ F3.out.fb (fun k3 => ?_)
          clear hK K
          try simp only [List.setIfInBounds_toArray, List.set_cons_zero, List.set_cons_succ]
          refine wpAnyH_ready (rs := [5]) (by kernel_rfl) (by simp) ?_
          refine AllReadyH.cons (o := ⟨some 96, _, _, _, _, _⟩) rfl (fun K hK => ?_) AllReadyH.nil
          go_simp
          go_at_call 17
          refine (HE2.out A g h 1 Y3 F3.out.2.2.1).mono ?_
          rintro e Y4 ⟨rfl, hs, hk⟩
          have F4 := Lib.hid (F3.out.exec hs hk)
          clear hs hk
          go_wp2_with fail
          refine hK.out _ _ F4.out.fb (fun k4 => ?_)
          clear hK K
          try simp only [List.setIfInBounds_toArray, List.set_cons_zero, List.set_cons_succ]
          refine wpAnyH_take (i := 6) (oi := ⟨some 90, _, _, _, _, _⟩) (v := .tuple #[.agg #[.int .u32 0, .int .u32 0, .int .u32 0, .int .u32 0, .int .u32 0, .int .u32 0, .int .u32 0, .int .u32 0, .int .u32 0, .int .u32 0, .int .u32 0, .int .u32 0, .int .u32 0, .int .u32 0, .int .u32 1000, .int .u32 100], .agg #[.int .i64 0, .int .i64 0, .bool false, .bool false, .bool false, .int .i64 0, .int .i64 0, .int .i64 cc2, .int .i64 0, .int .i64 0], .int .i64 0]) rfl (by kernel_rfl) (by kernel_rfl) (by kernel_rfl) (fun _ _ _ h => by cases h.1) (Or.inl ⟨by rfl, fun W hSw => by (try dsimp only at hSw); go_simp⟩) k4 ?_
          try simp only [Act.put, List.setIfInBounds_toArray, List.set_cons_zero, List.set_cons_succ]
          refine wpAnyH_take (i := 7) (oi := ⟨some 97, _, _, _, _, _⟩) (v := .agg #[.int .u32 0, .int .u32 0, .int .u32 0, .int .u32 0, .int .u32 0, .int .u32 0, .int .u32 0, .int .u32 0, .int .u32 0, .int .u32 0, .int .u32 0, .int .u32 0, .int .u32 0, .int .u32 0, .int .u32 1000, .int .u32 100]) rfl (by kernel_rfl) (by kernel_rfl) (by kernel_rfl) (fun _ _ _ h => by cases h.1) (Or.inl ⟨by rfl, fun W hSw => by (try dsimp only at hSw); go_simp⟩) k4 ?_
          try simp only [Act.put, List.setIfInBounds_toArray, List.set_cons_zero, List.set_cons_succ]
          refine wpAnyH_take (i := 8) (oi := ⟨some 98, _, _, _, _, _⟩) (v := .agg #[.int .i64 0, .int .i64 0, .bool false, .bool false, .bool false, .int .i64 0, .int .i64 0, .int .i64 cc2, .int .i64 0, .int .i64 0]) rfl (by kernel_rfl) (by kernel_rfl) (by kernel_rfl) (fun _ _ _ h => by cases h.1) (Or.inl ⟨by rfl, fun W hSw => by (try dsimp only at hSw); go_simp⟩) k4 ?_
          try simp only [Act.put, List.setIfInBounds_toArray, List.set_cons_zero, List.set_cons_succ]
          refine wpAnyH_take (i := 9) (oi := ⟨some 99, _, _, _, _, _⟩) (v := .int .i64 0) rfl (by kernel_rfl) (by kernel_rfl) (by kernel_rfl) (fun _ _ _ h => by cases h.1) (Or.inl ⟨by rfl, fun W hSw => by (try dsimp only at hSw); go_simp⟩) k4 ?_
          try simp only [Act.put, List.setIfInBounds_toArray, List.set_cons_zero, List.set_cons_succ]
          refine wpAnyH_ready (rs := [12]) (by kernel_rfl) (by simp) ?_
          refine AllReadyH.cons (o := ⟨none, _, _, _, _, _⟩) rfl (fun K hK => ?_) AllReadyH.nil
          obtain ⟨hb5, x5, hx5, hr5⟩ := F4.out.2.2.2.1 B7 rfl
          rw [if_pos (by rfl)]
          refine op_store _ _ _ rfl _ rfl _ rfl (HSR2.out _ _ _ hr5 hx5) ?_
          have f5 := F4.out.st HB6.out (mvR 1000 100)
          obtain ⟨Y5, hY5⟩ : ∃ y, y = Y4.setRow B7 (regA (mvR 1000 100)) := ⟨_, rfl⟩
          rw [← hY5] at f5 ⊢
          have F5 := Lib.hid f5
          clear hY5 f5 hb5 hx5 hr5 x5
          refine hK.out _ _ F5.out.fb (fun k5 => ?_)
          clear hK K
          try simp only [List.setIfInBounds_toArray, List.set_cons_zero, List.set_cons_succ]
          refine wpAnyH_ready (rs := [13]) (by kernel_rfl) (by simp) ?_
          refine AllReadyH.cons (o := ⟨none, _, _, _, _, _⟩) rfl (fun K hK => ?_) AllReadyH.nil
          obtain ⟨hb6, x6, hx6, hr6⟩ := F5.out.2.2.2.2 B8 rfl
          rw [if_pos (by rfl)]
          refine op_store _ _ _ rfl _ rfl _ rfl (HSP2.out _ _ _ hr6 hx6) ?_
          have f6 := F5.out.st2 (⟨0, 0, false, false, false, 0, 0, cc2, 0, 0⟩)
          obtain ⟨Y6, hY6⟩ : ∃ y, y = Y5.setRow B8 (pswA (⟨0, 0, false, false, false, 0, 0, cc2, 0, 0⟩)) := ⟨_, rfl⟩
          rw [← hY6] at f6 ⊢
          have F6 := Lib.hid f6.1
          have P6 := Lib.hid f6.2
          clear hY6 f6 hb6 hx6 hr6 x6
          refine hK.out _ _ F6.out.fb (fun k6 => ?_)
          clear hK K
          try simp only [List.setIfInBounds_toArray, List.set_cons_zero, List.set_cons_succ]
          refine wpAnyH_take (i := 14) (oi := ⟨some 17, _, _, _, _, _⟩) (v := .int .i64 0) rfl (by kernel_rfl) (by kernel_rfl) (by kernel_rfl) (fun _ _ _ h => by cases h.1) (Or.inl ⟨by rfl, fun W hSw => by (try dsimp only at hSw); go_simp⟩) k6 ?_
          try simp only [Act.put, List.setIfInBounds_toArray, List.set_cons_zero, List.set_cons_succ]
          refine wpAnyH_done (by kernel_rfl) ?_ _
          refine id ?_
          exact ⟨rfl, B7, B8, cut_mk rfl, F6.out.1, F6.out.2.1, F6.out.2.2.1, P6.out⟩
      · go_simp
        have f2 := F1.out.al
        obtain ⟨Y2, hY2⟩ : ∃ y, y = Y1.alloc (.cells #[.int .u32 0, .int .u32 0, .int .u32 0, .int .u32 0, .int .u32 0, .int .u32 0, .int .u32 0, .int .u32 0, .int .u32 0, .int .u32 0, .int .u32 0, .int .u32 0, .int .u32 0, .int .u32 0, .int .u32 0, .int .u32 0] 28) := ⟨_, rfl⟩
        obtain ⟨B7, hB7⟩ : ∃ b, b = Y1.heap.size := ⟨_, rfl⟩
        rw [← hY2, ← hB7] at f2 ⊢
        have F2 := Lib.hid f2
        clear hY2 hB7 f2
        refine hK.out _ _ F2.out.fb (fun k2 => ?_)
        clear hK K
        try simp only [List.setIfInBounds_toArray, List.set_cons_zero, List.set_cons_succ]
        refine wpAnyH_ready (rs := [1]) (by kernel_rfl) (by simp) ?_
        refine AllReadyH.cons (o := ⟨some 92, _, _, _, _, _⟩) rfl (fun K hK => ?_) AllReadyH.nil
        go_simp
        go_at_call 27
        refine (HSS1.out Y2).mono ?_
        rintro e Y3 ⟨rfl, hb⟩
        have F3 := Lib.hid (F2.out.below hb)
        clear hb
        go_wp2_with fail
        refine hK.out _ _ F3.out.fb (fun k3 => ?_)
        clear hK K
        try simp only [List.setIfInBounds_toArray, List.set_cons_zero, List.set_cons_succ]
        refine wpAnyH_ready (rs := [5]) (by kernel_rfl) (by simp) ?_
        refine AllReadyH.cons (o := ⟨some 96, _, _, _, _, _⟩) rfl (fun K hK => ?_) AllReadyH.nil
        go_simp
        go_at_call 17
        refine (HE2.out A g h 1 Y3 F3.out.2.2.1).mono ?_
        rintro e Y4 ⟨rfl, hs, hk⟩
        have F4 := Lib.hid (F3.out.exec hs hk)
        clear hs hk
        go_wp2_with fail
        refine hK.out _ _ F4.out.fb (fun k4 => ?_)
        clear hK K
        try simp only [List.setIfInBounds_toArray, List.set_cons_zero, List.set_cons_succ]
        refine wpAnyH_take (i := 6) (oi := ⟨some 90, _, _, _, _, _⟩) (v := .tuple #[.agg #[.int .u32 0, .int .u32 0, .int .u32 0, .int .u32 0, .int .u32 0, .int .u32 0, .int .u32 0, .int .u32 0, .int .u32 0, .int .u32 0, .int .u32 0, .int .u32 0, .int .u32 0, .int .u32 0, .int .u32 1000, .int .u32 100], .agg #[.int .i64 0, .int .i64 0, .bool false, .bool false, .bool false, .int .i64 0, .int .i64 0, .int .i64 cc2, .int .i64 0, .int .i64 0], .int .i64 0]) rfl (by kernel_rfl) (by kernel_rfl) (by kernel_rfl) (fun _ _ _ h => by cases h.1) (Or.inl ⟨by rfl, fun W hSw => by (try dsimp only at hSw); go_simp⟩) k4 ?_
        try simp only [Act.put, List.setIfInBounds_toArray, List.set_cons_zero, List.set_cons_succ]
        refine wpAnyH_take (i := 7) (oi := ⟨some 97, _, _, _, _, _⟩) (v := .agg #[.int .u32 0, .int .u32 0, .int .u32 0, .int .u32 0, .int .u32 0, .int .u32 0, .int .u32 0, .int .u32 0, .int .u32 0, .int .u32 0, .int .u32 0, .int .u32 0, .int .u32 0, .int .u32 0, .int .u32 1000, .int .u32 100]) rfl (by kernel_rfl) (by kernel_rfl) (by kernel_rfl) (fun _ _ _ h => by cases h.1) (Or.inl ⟨by rfl, fun W hSw => by (try dsimp only at hSw); go_simp⟩) k4 ?_
        try simp only [Act.put, List.setIfInBounds_toArray, List.set_cons_zero, List.set_cons_succ]
        refine wpAnyH_take (i := 8) (oi := ⟨some 98, _, _, _, _, _⟩) (v := .agg #[.int .i64 0, .int .i64 0, .bool false, .bool false, .bool false, .int .i64 0, .int .i64 0, .int .i64 cc2, .int .i64 0, .int .i64 0]) rfl (by kernel_rfl) (by kernel_rfl) (by kernel_rfl) (fun _ _ _ h => by cases h.1) (Or.inl ⟨by rfl, fun W hSw => by (try dsimp only at hSw); go_simp⟩) k4 ?_
        try simp only [Act.put, List.setIfInBounds_toArray, List.set_cons_zero, List.set_cons_succ]
        refine wpAnyH_take (i := 9) (oi := ⟨some 99, _, _, _, _, _⟩) (v := .int .i64 0) rfl (by kernel_rfl) (by kernel_rfl) (by kernel_rfl) (fun _ _ _ h => by cases h.1) (Or.inl ⟨by rfl, fun W hSw => by (try dsimp only at hSw); go_simp⟩) k4 ?_
        try simp only [Act.put, List.setIfInBounds_toArray, List.set_cons_zero, List.set_cons_succ]
        refine wpAnyH_ready (rs := [12]) (by kernel_rfl) (by simp) ?_
        refine AllReadyH.cons (o := ⟨none, _, _, _, _, _⟩) rfl (fun K hK => ?_) AllReadyH.nil
        obtain ⟨hb5, x5, hx5, hr5⟩ := F4.out.2.2.2.1 B7 rfl
        rw [if_pos (by rfl)]
        refine op_store _ _ _ rfl _ rfl _ rfl (HSR2.out _ _ _ hr5 hx5) ?_
        have f5 := F4.out.st HB6.out (mvR 1000 100)
        obtain ⟨Y5, hY5⟩ : ∃ y, y = Y4.setRow B7 (regA (mvR 1000 100)) := ⟨_, rfl⟩
        rw [← hY5] at f5 ⊢
        have F5 := Lib.hid f5
        clear hY5 f5 hb5 hx5 hr5 x5
        refine hK.out _ _ F5.out.fb (fun k5 => ?_)
        clear hK K
        try simp only [List.setIfInBounds_toArray, List.set_cons_zero, List.set_cons_succ]
        refine wpAnyH_ready (rs := [13]) (by kernel_rfl) (by simp) ?_
        refine AllReadyH.cons (o := ⟨none, _, _, _, _, _⟩) rfl (fun K hK => ?_) AllReadyH.nil
        obtain ⟨hb6, x6, hx6, hr6⟩ := F5.out.2.2.2.2 B8 rfl
        rw [if_pos (by rfl)]
        refine op_store _ _ _ rfl _ rfl _ rfl (HSP2.out _ _ _ hr6 hx6) ?_
        have f6 := F5.out.st2 (⟨0, 0, false, false, false, 0, 0, cc2, 0, 0⟩)
        obtain ⟨Y6, hY6⟩ : ∃ y, y = Y5.setRow B8 (pswA (⟨0, 0, false, false, false, 0, 0, cc2, 0, 0⟩)) := ⟨_, rfl⟩
        rw [← hY6] at f6 ⊢
        have F6 := Lib.hid f6.1
        have P6 := Lib.hid f6.2
        clear hY6 f6 hb6 hx6 hr6 x6
        refine hK.out _ _ F6.out.fb (fun k6 => ?_)
        clear hK K
        try simp only [List.setIfInBounds_toArray, List.set_cons_zero, List.set_cons_succ]
        refine wpAnyH_take (i := 14) (oi := ⟨some 17, _, _, _, _, _⟩) (v := .int .i64 0) rfl (by kernel_rfl) (by kernel_rfl) (by kernel_rfl) (fun _ _ _ h => by cases h.1) (Or.inl ⟨by rfl, fun W hSw => by (try dsimp only at hSw); go_simp⟩) k6 ?_
        try simp only [Act.put, List.setIfInBounds_toArray, List.set_cons_zero, List.set_cons_succ]
        refine wpAnyH_done (by kernel_rfl) ?_ _
        refine id ?_
        exact ⟨rfl, B7, B8, cut_mk rfl, F6.out.1, F6.out.2.1, F6.out.2.2.1, P6.out⟩
  rintro e a z1 ⟨rfl, B7, B8, ⟨u, rfl⟩, hkp, hr, hst, -⟩
  have HBz1 := Lib.hid (Kp.below HBz0.out hkp (by simpa using HG.out))
  have HSTz1 := Lib.hid hst
  have HRa1 := Lib.hid hr
  have HRb1 := Lib.hid (HRa0.out.kp hkp (by simpa using HGN.out.1))
  clear hkp hr hst HE2 HB6 HSP2 HRa0 HRb0 HSTz0 HBz0
  go_wp2_with fail
  have HB6 := Lib.hid HRb1.out.lt
  have F0 : Hid (FS z1 B6 A g h 2048 1 #[.int .u32 0, .int .u32 0, .int .u32 0, .int .u32 0, .int .u32 0, .int .u32 0, .int .u32 0, .int .u32 0, .int .u32 0, .int .u32 0, .int .u32 0, .int .u32 0, .int .u32 0, .int .u32 0, .int .u32 100, .int .u32 1000] b2 (List.replicate 1 0) none none z1) := Lib.hid ⟨Kp.refl _ _, HRb1.out, HSTz1.out, (fun _ h => by cases h), (fun _ h => by cases h)⟩
  refine Code.wp_mono (Q := fun e a W => e = .normal ∧ ∃ B7 B8 : Nat, (∃ u : Nat → Value, a = { tmps := #[.slice (some ⟨PB, po, none⟩) n c, .slice q m1 d, u 2, u 3, .bool false, .int .i64 (n : Int), .slice (some ⟨BM, 0, none⟩) n n, u 7, .pointer (some ⟨A, 0, none⟩), .int .i64 0, .pointer (some ⟨B6, 0, none⟩), .pointer (some ⟨B11, 0, none⟩), u 12, u 13, .int .i64 0, u 15, u 16, .int .i64 0, u 18, u 19, .int .i64 0, u 21, u 22, u 23, u 24, u 25, u 26, u 27, u 28, u 29, u 30, u 31, u 32, u 33, u 34, u 35, u 36, u 37, u 38, u 39, u 40, u 41, u 42, u 43, u 44, u 45, u 46, u 47, u 48, u 49, u 50, u 51, u 52, u 53, u 54, u 55, u 56, u 57, u 58, u 59, u 60, u 61, u 62, u 63, u 64, u 65, u 66, u 67, u 68, u 69, u 70, u 71, u 72, u 73, u 74, u 75, u 76, u 77, u 78, u 79, u 80, u 81, u 82, u 83, u 84, u 85, u 86, u 87, u 88, u 89, u 90, u 91, u 92, u 93, u 94, u 95, u 96, u 97, u 98, u 99, u 100, u 101, u 102, u 103, u 104, u 105, u 106, u 107, u 108, u 109, u 110, u 111, u 112, u 113, u 114, u 115, u 116, u 117, u 118, u 119, u 120, u 121, u 122, u 123, u 124, u 125, u 126, u 127, u 128, u 129, u 130, u 131, u 132, u 133], defers := [] }) ∧ Kp z1 W [g] ∧ Bx W B6 28 #[.int .u32 0, .int .u32 0, .int .u32 0, .int .u32 0, .int .u32 0, .int .u32 0, .int .u32 0, .int .u32 0, .int .u32 0, .int .u32 0, .int .u32 0, .int .u32 0, .int .u32 0, .int .u32 0, .int .u32 100, .int .u32 1000] ∧ Sto W A g h 2048 1 b3 (List.replicate 1 0) ∧ Bx W B8 30 (pswA (⟨0, 0, false, false, false, 0, 0, cc3, 0, 0⟩))) ?_ ?_
  rotate_left
  · refine wp_region_held_drew (S := FB z1 B6 g #[.int .u32 0, .int .u32 0, .int .u32 0, .int .u32 0, .int .u32 0, .int .u32 0, .int .u32 0, .int .u32 0, .int .u32 0, .int .u32 0, .int .u32 0, .int .u32 0, .int .u32 0, .int .u32 0, .int .u32 100, .int .u32 1000]) (by kernel_rfl) F0.out.drew.fb (fun k0 => ?_)
    have f00 := F0.out.drew
    obtain ⟨Y0, hY0⟩ : ∃ y, y = z1.drew := ⟨_, rfl⟩
    rw [← hY0] at f00 k0 ⊢
    have F00 := Lib.hid f00
    clear F0 f00 hY0
    show wpAnyH _ _ _ _ _ 15 #[false, false, false, false, false, false, false, false, false, false, false, false, false, false, false] _ _
    refine wpAnyH_take (i := 0) (oi := ⟨some 101, _, _, _, _, _⟩) (v := .int .i64 (n : Int)) rfl (by kernel_rfl) (by kernel_rfl) (by kernel_rfl) (fun _ _ _ h => by cases h.1) (Or.inl ⟨by rfl, fun W hSw => by (try dsimp only at hSw); go_simp⟩) k0 ?_
    try simp only [Act.put, List.setIfInBounds_toArray, List.set_cons_zero, List.set_cons_succ]
    refine wpAnyH_take (i := 2) (oi := ⟨some 103, _, _, _, _, _⟩) (v := .agg #[.int .u32 0, .int .u32 0, .int .u32 0, .int .u32 0, .int .u32 0, .int .u32 0, .int .u32 0, .int .u32 0, .int .u32 0, .int .u32 0, .int .u32 0, .int .u32 0, .int .u32 0, .int .u32 0, .int .u32 100, .int .u32 1000]) rfl (by kernel_rfl) (by kernel_rfl) (by kernel_rfl) (fun _ _ _ h => by cases h.1) (Or.inl ⟨by rfl, fun W hSw => exec_load _ _ rfl _ rfl (run_loadVar_row (P := Tryz.prog) W B6 _ 28 _ _ _ hSw.2 Tryz.underlying28 rfl (by kernel_rfl))⟩) k0 ?_
    try simp only [Act.put, List.setIfInBounds_toArray, List.set_cons_zero, List.set_cons_succ]
    refine wpAnyH_take (i := 3) (oi := ⟨some 104, _, _, _, _, _⟩) (v := .agg #[.int .i64 0, .int .i64 0, .bool false, .bool false, .bool false, .int .i64 0, .int .i64 0, .int .i64 0, .int .i64 0, .int .i64 0]) rfl (by kernel_rfl) (by kernel_rfl) (by kernel_rfl) (fun _ _ _ h => by cases h.1) (Or.inl ⟨by rfl, fun W hSw => by (try dsimp only at hSw); go_simp⟩) k0 ?_
    try simp only [Act.put, List.setIfInBounds_toArray, List.set_cons_zero, List.set_cons_succ]
    refine wpAnyH_take (i := 4) (oi := ⟨some 105, _, _, _, _, _⟩) (v := .pointer (some ⟨A, 0, none⟩)) rfl (by kernel_rfl) (by kernel_rfl) (by kernel_rfl) (fun _ _ _ h => by cases h.1) (Or.inl ⟨by rfl, fun W hSw => by (try dsimp only at hSw); go_simp⟩) k0 ?_
    try simp only [Act.put, List.setIfInBounds_toArray, List.set_cons_zero, List.set_cons_succ]
    refine wpAnyH_ready (rs := [1, 10, 11]) (by kernel_rfl) (by simp) ?_
    refine AllReadyH.cons (o := ⟨some 102, _, _, _, _, _⟩) rfl (fun K hK => ?_) (AllReadyH.cons (o := ⟨some 18, _, _, _, _, _⟩) rfl (fun K hK => ?_) (AllReadyH.cons (o := ⟨some 19, _, _, _, _, _⟩) rfl (fun K hK => ?_) AllReadyH.nil))
    · go_simp
      go_at_call 27
      refine (HSS1.out Y0).mono ?_
      rintro e Y1 ⟨rfl, hb⟩
      have F1 := Lib.hid (F00.out.below hb)
      clear hb
      go_wp2_with fail
      refine hK.out _ _ F1.out.fb (fun k1 => ?_)
      clear hK K
      try simp only [List.setIfInBounds_toArray, List.set_cons_zero, List.set_cons_succ]
      refine wpAnyH_ready (rs := [5, 10, 11]) (by kernel_rfl) (by simp) ?_
      refine AllReadyH.cons (o := ⟨some 106, _, _, _, _, _⟩) rfl (fun K hK => ?_) (AllReadyH.cons (o := ⟨some 18, _, _, _, _, _⟩) rfl (fun K hK => ?_) (AllReadyH.cons (o := ⟨some 19, _, _, _, _, _⟩) rfl (fun K hK => ?_) AllReadyH.nil))
      · go_simp
        go_at_call 17
        refine (HE3.out A g h 1 Y1 F1.out.2.2.1).mono ?_
        rintro e Y2 ⟨rfl, hs, hk⟩
        have F2 := Lib.hid (F1.out.exec hs hk)
        clear hs hk
        go_wp2_with fail
        refine hK.out _ _ F2.out.fb (fun k2 => ?_)
        clear hK K
        try simp only [List.setIfInBounds_toArray, List.set_cons_zero, List.set_cons_succ]
        refine wpAnyH_take (i := 6) (oi := ⟨some 100, _, _, _, _, _⟩) (v := .tuple #[.agg #[.int .u32 0, .int .u32 0, .int .u32 0, .int .u32 0, .int .u32 0, .int .u32 0, .int .u32 0, .int .u32 0, .int .u32 0, .int .u32 0, .int .u32 0, .int .u32 0, .int .u32 0, .int .u32 0, .int .u32 100, .int .u32 1000], .agg #[.int .i64 0, .int .i64 0, .bool false, .bool false, .bool false, .int .i64 0, .int .i64 0, .int .i64 cc3, .int .i64 0, .int .i64 0], .int .i64 0]) rfl (by kernel_rfl) (by kernel_rfl) (by kernel_rfl) (fun _ _ _ h => by cases h.1) (Or.inl ⟨by rfl, fun W hSw => by (try dsimp only at hSw); go_simp⟩) k2 ?_
        try simp only [Act.put, List.setIfInBounds_toArray, List.set_cons_zero, List.set_cons_succ]
        refine wpAnyH_take (i := 7) (oi := ⟨some 107, _, _, _, _, _⟩) (v := .agg #[.int .u32 0, .int .u32 0, .int .u32 0, .int .u32 0, .int .u32 0, .int .u32 0, .int .u32 0, .int .u32 0, .int .u32 0, .int .u32 0, .int .u32 0, .int .u32 0, .int .u32 0, .int .u32 0, .int .u32 100, .int .u32 1000]) rfl (by kernel_rfl) (by kernel_rfl) (by kernel_rfl) (fun _ _ _ h => by cases h.1) (Or.inl ⟨by rfl, fun W hSw => by (try dsimp only at hSw); go_simp⟩) k2 ?_
        try simp only [Act.put, List.setIfInBounds_toArray, List.set_cons_zero, List.set_cons_succ]
        refine wpAnyH_take (i := 8) (oi := ⟨some 108, _, _, _, _, _⟩) (v := .agg #[.int .i64 0, .int .i64 0, .bool false, .bool false, .bool false, .int .i64 0, .int .i64 0, .int .i64 cc3, .int .i64 0, .int .i64 0]) rfl (by kernel_rfl) (by kernel_rfl) (by kernel_rfl) (fun _ _ _ h => by cases h.1) (Or.inl ⟨by rfl, fun W hSw => by (try dsimp only at hSw); go_simp⟩) k2 ?_
        try simp only [Act.put, List.setIfInBounds_toArray, List.set_cons_zero, List.set_cons_succ]
        refine wpAnyH_take (i := 9) (oi := ⟨some 109, _, _, _, _, _⟩) (v := .int .i64 0) rfl (by kernel_rfl) (by kernel_rfl) (by kernel_rfl) (fun _ _ _ h => by cases h.1) (Or.inl ⟨by rfl, fun W hSw => by (try dsimp only at hSw); go_simp⟩) k2 ?_
        try simp only [Act.put, List.setIfInBounds_toArray, List.set_cons_zero, List.set_cons_succ]
        refine wpAnyH_ready (rs := [10, 11]) (by kernel_rfl) (by simp) ?_
        refine AllReadyH.cons (o := ⟨some 18, _, _, _, _, _⟩) rfl (fun K hK => ?_) (AllReadyH.cons (o := ⟨some 19, _, _, _, _, _⟩) rfl (fun K hK => ?_) AllReadyH.nil)
        · go_simp
          have f3 := F2.out.al
          obtain ⟨Y3, hY3⟩ : ∃ y, y = Y2.alloc (.cells #[.int .u32 0, .int .u32 0, .int .u32 0, .int .u32 0, .int .u32 0, .int .u32 0, .int .u32 0, .int .u32 0, .int .u32 0, .int .u32 0, .int .u32 0, .int .u32 0, .int .u32 0, .int .u32 0, .int .u32 0, .int .u32 0] 28) := ⟨_, rfl⟩
          obtain ⟨B7, hB7⟩ : ∃ b, b = Y2.heap.size := ⟨_, rfl⟩
          rw [← hY3, ← hB7] at f3 ⊢
          have F3 := Lib.hid f3
          clear hY3 hB7 f3
          refine hK.out _ _ F3.out.fb (fun k3 => ?_)
          clear hK K
          try simp only [List.setIfInBounds_toArray, List.set_cons_zero, List.set_cons_succ]
          refine wpAnyH_ready (rs := [11]) (by kernel_rfl) (by simp) ?_
          refine AllReadyH.cons (o := ⟨some 19, _, _, _, _, _⟩) rfl (fun K hK => ?_) AllReadyH.nil
          go_simp
          have f4 := F3.out.al2
          obtain ⟨Y4, hY4⟩ : ∃ y, y = Y3.alloc (.cells #[.int .i64 0, .int .i64 0, .bool false, .bool false, .bool false, .int .i64 0, .int .i64 0, .int .i64 0, .int .i64 0, .int .i64 0] 30) := ⟨_, rfl⟩
          obtain ⟨B8, hB8⟩ : ∃ b, b = Y3.heap.size := ⟨_, rfl⟩
          rw [← hY4, ← hB8] at f4 ⊢
          have F4 := Lib.hid f4
          clear hY4 hB8 f4
          refine hK.out _ _ F4.out.fb (fun k4 => ?_)
          clear hK K
          try simp only [List.setIfInBounds_toArray, List.set_cons_zero, List.set_cons_succ]
          refine wpAnyH_ready (rs := [12]) (by kernel_rfl) (by simp) ?_
          refine AllReadyH.cons (o := ⟨none, _, _, _, _, _⟩) rfl (fun K hK => ?_) AllReadyH.nil
          obtain ⟨hb5, x5, hx5, hr5⟩ := F4.out.2.2.2.1 B7 rfl
          rw [if_pos (by rfl)]
          refine op_store _ _ _ rfl _ rfl _ rfl (HSR1.out _ _ _ hr5 hx5) ?_
          have f5 := F4.out.st HB6.out (mvR 100 1000)
          obtain ⟨Y5, hY5⟩ : ∃ y, y = Y4.setRow B7 (regA (mvR 100 1000)) := ⟨_, rfl⟩
          rw [← hY5] at f5 ⊢
          have F5 := Lib.hid f5
          clear hY5 f5 hb5 hx5 hr5 x5
          refine hK.out _ _ F5.out.fb (fun k5 => ?_)
          clear hK K
          try simp only [List.setIfInBounds_toArray, List.set_cons_zero, List.set_cons_succ]
          refine wpAnyH_ready (rs := [13]) (by kernel_rfl) (by simp) ?_
          refine AllReadyH.cons (o := ⟨none, _, _, _, _, _⟩) rfl (fun K hK => ?_) AllReadyH.nil
          obtain ⟨hb6, x6, hx6, hr6⟩ := F5.out.2.2.2.2 B8 rfl
          rw [if_pos (by rfl)]
          refine op_store _ _ _ rfl _ rfl _ rfl (HSP3.out _ _ _ hr6 hx6) ?_
          have f6 := F5.out.st2 (⟨0, 0, false, false, false, 0, 0, cc3, 0, 0⟩)
          obtain ⟨Y6, hY6⟩ : ∃ y, y = Y5.setRow B8 (pswA (⟨0, 0, false, false, false, 0, 0, cc3, 0, 0⟩)) := ⟨_, rfl⟩
          rw [← hY6] at f6 ⊢
          have F6 := Lib.hid f6.1
          have P6 := Lib.hid f6.2
          clear hY6 f6 hb6 hx6 hr6 x6
          refine hK.out _ _ F6.out.fb (fun k6 => ?_)
          clear hK K
          try simp only [List.setIfInBounds_toArray, List.set_cons_zero, List.set_cons_succ]
          refine wpAnyH_take (i := 14) (oi := ⟨some 20, _, _, _, _, _⟩) (v := .int .i64 0) rfl (by kernel_rfl) (by kernel_rfl) (by kernel_rfl) (fun _ _ _ h => by cases h.1) (Or.inl ⟨by rfl, fun W hSw => by (try dsimp only at hSw); go_simp⟩) k6 ?_
          try simp only [Act.put, List.setIfInBounds_toArray, List.set_cons_zero, List.set_cons_succ]
          refine wpAnyH_done (by kernel_rfl) ?_ _
          refine id ?_
          exact ⟨rfl, B7, B8, cut_mk rfl, F6.out.1, F6.out.2.1, F6.out.2.2.1, P6.out⟩
        · go_simp
          have f3 := F2.out.al2
          obtain ⟨Y3, hY3⟩ : ∃ y, y = Y2.alloc (.cells #[.int .i64 0, .int .i64 0, .bool false, .bool false, .bool false, .int .i64 0, .int .i64 0, .int .i64 0, .int .i64 0, .int .i64 0] 30) := ⟨_, rfl⟩
          obtain ⟨B8, hB8⟩ : ∃ b, b = Y2.heap.size := ⟨_, rfl⟩
          rw [← hY3, ← hB8] at f3 ⊢
          have F3 := Lib.hid f3
          clear hY3 hB8 f3
          refine hK.out _ _ F3.out.fb (fun k3 => ?_)
          clear hK K
          try simp only [List.setIfInBounds_toArray, List.set_cons_zero, List.set_cons_succ]
          refine wpAnyH_ready (rs := [10]) (by kernel_rfl) (by simp) ?_
          refine AllReadyH.cons (o := ⟨some 18, _, _, _, _, _⟩) rfl (fun K hK => ?_) AllReadyH.nil
          go_simp
          have f4 := F3.out.al
          obtain ⟨Y4, hY4⟩ : ∃ y, y = Y3.alloc (.cells #[.int .u32 0, .int .u32 0, .int .u32 0, .int .u32 0, .int .u32 0, .int .u32 0, .int .u32 0, .int .u32 0, .int .u32 0, .int .u32 0, .int .u32 0, .int .u32 0, .int .u32 0, .int .u32 0, .int .u32 0, .int .u32 0] 28) := ⟨_, rfl⟩
          obtain ⟨B7, hB7⟩ : ∃ b, b = Y3.heap.size := ⟨_, rfl⟩
          rw [← hY4, ← hB7] at f4 ⊢
          have F4 := Lib.hid f4
          clear hY4 hB7 f4
          refine hK.out _ _ F4.out.fb (fun k4 => ?_)
          clear hK K
          try simp only [List.setIfInBounds_toArray, List.set_cons_zero, List.set_cons_succ]
          refine wpAnyH_ready (rs := [12]) (by kernel_rfl) (by simp) ?_
          refine AllReadyH.cons (o := ⟨none, _, _, _, _, _⟩) rfl (fun K hK => ?_) AllReadyH.nil
          obtain ⟨hb5, x5, hx5, hr5⟩ := F4.out.2.2.2.1 B7 rfl
          rw [if_pos (by rfl)]
          refine op_store _ _ _ rfl _ rfl _ rfl (HSR1.out _ _ _ hr5 hx5) ?_
          have f5 := F4.out.st HB6.out (mvR 100 1000)
          obtain ⟨Y5, hY5⟩ : ∃ y, y = Y4.setRow B7 (regA (mvR 100 1000)) := ⟨_, rfl⟩
          rw [← hY5] at f5 ⊢
          have F5 := Lib.hid f5
          clear hY5 f5 hb5 hx5 hr5 x5
          refine hK.out _ _ F5.out.fb (fun k5 => ?_)
          clear hK K
          try simp only [List.setIfInBounds_toArray, List.set_cons_zero, List.set_cons_succ]
          refine wpAnyH_ready (rs := [13]) (by kernel_rfl) (by simp) ?_
          refine AllReadyH.cons (o := ⟨none, _, _, _, _, _⟩) rfl (fun K hK => ?_) AllReadyH.nil
          obtain ⟨hb6, x6, hx6, hr6⟩ := F5.out.2.2.2.2 B8 rfl
          rw [if_pos (by rfl)]
          refine op_store _ _ _ rfl _ rfl _ rfl (HSP3.out _ _ _ hr6 hx6) ?_
          have f6 := F5.out.st2 (⟨0, 0, false, false, false, 0, 0, cc3, 0, 0⟩)
          obtain ⟨Y6, hY6⟩ : ∃ y, y = Y5.setRow B8 (pswA (⟨0, 0, false, false, false, 0, 0, cc3, 0, 0⟩)) := ⟨_, rfl⟩
          rw [← hY6] at f6 ⊢
          have F6 := Lib.hid f6.1
          have P6 := Lib.hid f6.2
          clear hY6 f6 hb6 hx6 hr6 x6
          refine hK.out _ _ F6.out.fb (fun k6 => ?_)
          clear hK K
          try simp only [List.setIfInBounds_toArray, List.set_cons_zero, List.set_cons_succ]
          refine wpAnyH_take (i := 14) (oi := ⟨some 20, _, _, _, _, _⟩) (v := .int .i64 0) rfl (by kernel_rfl) (by kernel_rfl) (by kernel_rfl) (fun _ _ _ h => by cases h.1) (Or.inl ⟨by rfl, fun W hSw => by (try dsimp only at hSw); go_simp⟩) k6 ?_
          try simp only [Act.put, List.setIfInBounds_toArray, List.set_cons_zero, List.set_cons_succ]
          refine wpAnyH_done (by kernel_rfl) ?_ _
          refine id ?_
          exact ⟨rfl, B7, B8, cut_mk rfl, F6.out.1, F6.out.2.1, F6.out.2.2.1, P6.out⟩
      · go_simp
        have f2 := F1.out.al
        obtain ⟨Y2, hY2⟩ : ∃ y, y = Y1.alloc (.cells #[.int .u32 0, .int .u32 0, .int .u32 0, .int .u32 0, .int .u32 0, .int .u32 0, .int .u32 0, .int .u32 0, .int .u32 0, .int .u32 0, .int .u32 0, .int .u32 0, .int .u32 0, .int .u32 0, .int .u32 0, .int .u32 0] 28) := ⟨_, rfl⟩
        obtain ⟨B7, hB7⟩ : ∃ b, b = Y1.heap.size := ⟨_, rfl⟩
        rw [← hY2, ← hB7] at f2 ⊢
        have F2 := Lib.hid f2
        clear hY2 hB7 f2
        refine hK.out _ _ F2.out.fb (fun k2 => ?_)
        clear hK K
        try simp only [List.setIfInBounds_toArray, List.set_cons_zero, List.set_cons_succ]
        refine wpAnyH_ready (rs := [5, 11]) (by kernel_rfl) (by simp) ?_
        refine AllReadyH.cons (o := ⟨some 106, _, _, _, _, _⟩) rfl (fun K hK => ?_) (AllReadyH.cons (o := ⟨some 19, _, _, _, _, _⟩) rfl (fun K hK => ?_) AllReadyH.nil)
        · go_simp
          go_at_call 17
          refine (HE3.out A g h 1 Y2 F2.out.2.2.1).mono ?_
          rintro e Y3 ⟨rfl, hs, hk⟩
          have F3 := Lib.hid (F2.out.exec hs hk)
          clear hs hk
          go_wp2_with fail
          refine hK.out _ _ F3.out.fb (fun k3 => ?_)
          clear hK K
          try simp only [List.setIfInBounds_toArray, List.set_cons_zero, List.set_cons_succ]
          refine wpAnyH_take (i := 6) (oi := ⟨some 100, _, _, _, _, _⟩) (v := .tuple #[.agg #[.int .u32 0, .int .u32 0, .int .u32 0, .int .u32 0, .int .u32 0, .int .u32 0, .int .u32 0, .int .u32 0, .int .u32 0, .int .u32 0, .int .u32 0, .int .u32 0, .int .u32 0, .int .u32 0, .int .u32 100, .int .u32 1000], .agg #[.int .i64 0, .int .i64 0, .bool false, .bool false, .bool false, .int .i64 0, .int .i64 0, .int .i64 cc3, .int .i64 0, .int .i64 0], .int .i64 0]) rfl (by kernel_rfl) (by kernel_rfl) (by kernel_rfl) (fun _ _ _ h => by cases h.1) (Or.inl ⟨by rfl, fun W hSw => by (try dsimp only at hSw); go_simp⟩) k3 ?_
          try simp only [Act.put, List.setIfInBounds_toArray, List.set_cons_zero, List.set_cons_succ]
          refine wpAnyH_take (i := 7) (oi := ⟨some 107, _, _, _, _, _⟩) (v := .agg #[.int .u32 0, .int .u32 0, .int .u32 0, .int .u32 0, .int .u32 0, .int .u32 0, .int .u32 0, .int .u32 0, .int .u32 0, .int .u32 0, .int .u32 0, .int .u32 0, .int .u32 0, .int .u32 0, .int .u32 100, .int .u32 1000]) rfl (by kernel_rfl) (by kernel_rfl) (by kernel_rfl) (fun _ _ _ h => by cases h.1) (Or.inl ⟨by rfl, fun W hSw => by (try dsimp only at hSw); go_simp⟩) k3 ?_
          try simp only [Act.put, List.setIfInBounds_toArray, List.set_cons_zero, List.set_cons_succ]
          refine wpAnyH_take (i := 8) (oi := ⟨some 108, _, _, _, _, _⟩) (v := .agg #[.int .i64 0, .int .i64 0, .bool false, .bool false, .bool false, .int .i64 0, .int .i64 0, .int .i64 cc3, .int .i64 0, .int .i64 0]) rfl (by kernel_rfl) (by kernel_rfl) (by kernel_rfl) (fun _ _ _ h => by cases h.1) (Or.inl ⟨by rfl, fun W hSw => by (try dsimp only at hSw); go_simp⟩) k3 ?_
          try simp only [Act.put, List.setIfInBounds_toArray, List.set_cons_zero, List.set_cons_succ]
          refine wpAnyH_take (i := 9) (oi := ⟨some 109, _, _, _, _, _⟩) (v := .int .i64 0) rfl (by kernel_rfl) (by kernel_rfl) (by kernel_rfl) (fun _ _ _ h => by cases h.1) (Or.inl ⟨by rfl, fun W hSw => by (try dsimp only at hSw); go_simp⟩) k3 ?_
          try simp only [Act.put, List.setIfInBounds_toArray, List.set_cons_zero, List.set_cons_succ]
          refine wpAnyH_ready (rs := [11]) (by kernel_rfl) (by simp) ?_
          refine AllReadyH.cons (o := ⟨some 19, _, _, _, _, _⟩) rfl (fun K hK => ?_) AllReadyH.nil
          go_simp
          have f4 := F3.out.al2
          obtain ⟨Y4, hY4⟩ : ∃ y, y = Y3.alloc (.cells #[.int .i64 0, .int .i64 0, .bool false, .bool false, .bool false, .int .i64 0, .int .i64 0, .int .i64 0, .int .i64 0, .int .i64 0] 30) := ⟨_, rfl⟩
          obtain ⟨B8, hB8⟩ : ∃ b, b = Y3.heap.size := ⟨_, rfl⟩
          rw [← hY4, ← hB8] at f4 ⊢
          have F4 := Lib.hid f4
          clear hY4 hB8 f4
          refine hK.out _ _ F4.out.fb (fun k4 => ?_)
          clear hK K
          try simp only [List.setIfInBounds_toArray, List.set_cons_zero, List.set_cons_succ]
          refine wpAnyH_ready (rs := [12]) (by kernel_rfl) (by simp) ?_
          refine AllReadyH.cons (o := ⟨none, _, _, _, _, _⟩) rfl (fun K hK => ?_) AllReadyH.nil
          obtain ⟨hb5, x5, hx5, hr5⟩ := F4.out.2.2.2.1 B7 rfl
          rw [if_pos (by rfl)]
          refine op_store _ _ _ rfl _ rfl _ rfl (HSR1.out _ _ _ hr5 hx5) ?_
          have f5 := F4.out.st HB6.out (mvR 100 1000)
          obtain ⟨Y5, hY5⟩ : ∃ y, y = Y4.setRow B7 (regA (mvR 100 1000)) := ⟨_, rfl⟩
          rw [← hY5] at f5 ⊢
          have F5 := Lib.hid f5
          clear hY5 f5 hb5 hx5 hr5 x5
          refine hK.out _ _ F5.out.fb (fun k5 => ?_)
          clear hK K
          try simp only [List.setIfInBounds_toArray, List.set_cons_zero, List.set_cons_succ]
          refine wpAnyH_ready (rs := [13]) (by kernel_rfl) (by simp) ?_
          refine AllReadyH.cons (o := ⟨none, _, _, _, _, _⟩) rfl (fun K hK => ?_) AllReadyH.nil
          obtain ⟨hb6, x6, hx6, hr6⟩ := F5.out.2.2.2.2 B8 rfl
          rw [if_pos (by rfl)]
          refine op_store _ _ _ rfl _ rfl _ rfl (HSP3.out _ _ _ hr6 hx6) ?_
          have f6 := F5.out.st2 (⟨0, 0, false, false, false, 0, 0, cc3, 0, 0⟩)
          obtain ⟨Y6, hY6⟩ : ∃ y, y = Y5.setRow B8 (pswA (⟨0, 0, false, false, false, 0, 0, cc3, 0, 0⟩)) := ⟨_, rfl⟩
          rw [← hY6] at f6 ⊢
          have F6 := Lib.hid f6.1
          have P6 := Lib.hid f6.2
          clear hY6 f6 hb6 hx6 hr6 x6
          refine hK.out _ _ F6.out.fb (fun k6 => ?_)
          clear hK K
          try simp only [List.setIfInBounds_toArray, List.set_cons_zero, List.set_cons_succ]
          refine wpAnyH_take (i := 14) (oi := ⟨some 20, _, _, _, _, _⟩) (v := .int .i64 0) rfl (by kernel_rfl) (by kernel_rfl) (by kernel_rfl) (fun _ _ _ h => by cases h.1) (Or.inl ⟨by rfl, fun W hSw => by (try dsimp only at hSw); go_simp⟩) k6 ?_
          try simp only [Act.put, List.setIfInBounds_toArray, List.set_cons_zero, List.set_cons_succ]
          refine wpAnyH_done (by kernel_rfl) ?_ _
          refine id ?_
          exact ⟨rfl, B7, B8, cut_mk rfl, F6.out.1, F6.out.2.1, F6.out.2.2.1, P6.out⟩
        · go_simp
          have f3 := F2.out.al2
          obtain ⟨Y3, hY3⟩ : ∃ y, y = Y2.alloc (.cells #[.int .i64 0, .int .i64 0, .bool false, .bool false, .bool false, .int .i64 0, .int .i64 0, .int .i64 0, .int .i64 0, .int .i64 0] 30) := ⟨_, rfl⟩
          obtain ⟨B8, hB8⟩ : ∃ b, b = Y2.heap.size := ⟨_, rfl⟩
          rw [← hY3, ← hB8] at f3 ⊢
          have F3 := Lib.hid f3
          clear hY3 hB8 f3
          refine hK.out _ _ F3.out.fb (fun k3 => ?_)
          clear hK K
          try simp only [List.setIfInBounds_toArray, List.set_cons_zero, List.set_cons_succ]
          refine wpAnyH_ready (rs := [5]) (by kernel_rfl) (by simp) ?_
          refine AllReadyH.cons (o := ⟨some 106, _, _, _, _, _⟩) rfl (fun K hK => ?_) AllReadyH.nil
          go_simp
          go_at_call 17
          refine (HE3.out A g h 1 Y3 F3.out.2.2.1).mono ?_
          rintro e Y4 ⟨rfl, hs, hk⟩
          have F4 := Lib.hid (F3.out.exec hs hk)
          clear hs hk
          go_wp2_with fail
          refine hK.out _ _ F4.out.fb (fun k4 => ?_)
          clear hK K
          try simp only [List.setIfInBounds_toArray, List.set_cons_zero, List.set_cons_succ]
          refine wpAnyH_take (i := 6) (oi := ⟨some 100, _, _, _, _, _⟩) (v := .tuple #[.agg #[.int .u32 0, .int .u32 0, .int .u32 0, .int .u32 0, .int .u32 0, .int .u32 0, .int .u32 0, .int .u32 0, .int .u32 0, .int .u32 0, .int .u32 0, .int .u32 0, .int .u32 0, .int .u32 0, .int .u32 100, .int .u32 1000], .agg #[.int .i64 0, .int .i64 0, .bool false, .bool false, .bool false, .int .i64 0, .int .i64 0, .int .i64 cc3, .int .i64 0, .int .i64 0], .int .i64 0]) rfl (by kernel_rfl) (by kernel_rfl) (by kernel_rfl) (fun _ _ _ h => by cases h.1) (Or.inl ⟨by rfl, fun W hSw => by (try dsimp only at hSw); go_simp⟩) k4 ?_
          try simp only [Act.put, List.setIfInBounds_toArray, List.set_cons_zero, List.set_cons_succ]
          refine wpAnyH_take (i := 7) (oi := ⟨some 107, _, _, _, _, _⟩) (v := .agg #[.int .u32 0, .int .u32 0, .int .u32 0, .int .u32 0, .int .u32 0, .int .u32 0, .int .u32 0, .int .u32 0, .int .u32 0, .int .u32 0, .int .u32 0, .int .u32 0, .int .u32 0, .int .u32 0, .int .u32 100, .int .u32 1000]) rfl (by kernel_rfl) (by kernel_rfl) (by kernel_rfl) (fun _ _ _ h => by cases h.1) (Or.inl ⟨by rfl, fun W hSw => by (try dsimp only at hSw); go_simp⟩) k4 ?_
          try simp only [Act.put, List.setIfInBounds_toArray, List.set_cons_zero, List.set_cons_succ]
          refine wpAnyH_take (i := 8) (oi := ⟨some 108, _, _, _, _, _⟩) (v := .agg #[.int .i64 0, .int .i64 0, .bool false, .bool false, .bool false, .int .i64 0, .int .i64 0, .int .i64 cc3, .int .i64 0, .int .i64 0]) rfl (by kernel_rfl) (by kernel_rfl) (by kernel_rfl) (fun _ _ _ h => by cases h.1) (Or.inl ⟨by rfl, fun W hSw => by (try dsimp only at hSw); go_simp⟩) k4 ?_
          try simp only [Act.put, List.setIfInBounds_toArray, List.set_cons_zero, List.set_cons_succ]
          refine wpAnyH_take (i := 9) (oi := ⟨some 109, _, _, _, _, _⟩) (v := .int .i64 0) rfl (by kernel_rfl) (by kernel_rfl) (by kernel_rfl) (fun _ _ _ h => by cases h.1) (Or.inl ⟨by rfl, fun W hSw => by (try dsimp only at hSw); go_simp⟩) k4 ?_
          try simp only [Act.put, List.setIfInBounds_toArray, List.set_cons_zero, List.set_cons_succ]
          refine wpAnyH_ready (rs := [12]) (by kernel_rfl) (by simp) ?_
          refine AllReadyH.cons (o := ⟨none, _, _, _, _, _⟩) rfl (fun K hK => ?_) AllReadyH.nil
          obtain ⟨hb5, x5, hx5, hr5⟩ := F4.out.2.2.2.1 B7 rfl
          rw [if_pos (by rfl)]
          refine op_store _ _ _ rfl _ rfl _ rfl (HSR1.out _ _ _ hr5 hx5) ?_
          have f5 := F4.out.st HB6.out (mvR 100 1000)
          obtain ⟨Y5, hY5⟩ : ∃ y, y = Y4.setRow B7 (regA (mvR 100 1000)) := ⟨_, rfl⟩
          rw [← hY5] at f5 ⊢
          have F5 := Lib.hid f5
          clear hY5 f5 hb5 hx5 hr5 x5
          refine hK.out _ _ F5.out.fb (fun k5 => ?_)
          clear hK K
          try simp only [List.setIfInBounds_toArray, List.set_cons_zero, List.set_cons_succ]
          refine wpAnyH_ready (rs := [13]) (by kernel_rfl) (by simp) ?_
          refine AllReadyH.cons (o := ⟨none, _, _, _, _, _⟩) rfl (fun K hK => ?_) AllReadyH.nil
          obtain ⟨hb6, x6, hx6, hr6⟩ := F5.out.2.2.2.2 B8 rfl
          rw [if_pos (by rfl)]
          refine op_store _ _ _ rfl _ rfl _ rfl (HSP3.out _ _ _ hr6 hx6) ?_
          have f6 := F5.out.st2 (⟨0, 0, false, false, false, 0, 0, cc3, 0, 0⟩)
          obtain ⟨Y6, hY6⟩ : ∃ y, y = Y5.setRow B8 (pswA (⟨0, 0, false, false, false, 0, 0, cc3, 0, 0⟩)) := ⟨_, rfl⟩
          rw [← hY6] at f6 ⊢
          have F6 := Lib.hid f6.1
          have P6 := Lib.hid f6.2
          clear hY6 f6 hb6 hx6 hr6 x6
          refine hK.out _ _ F6.out.fb (fun k6 => ?_)
          clear hK K
          try simp only [List.setIfInBounds_toArray, List.set_cons_zero, List.set_cons_succ]
          refine wpAnyH_take (i := 14) (oi := ⟨some 20, _, _, _, _, _⟩) (v := .int .i64 0) rfl (by kernel_rfl) (by kernel_rfl) (by kernel_rfl) (fun _ _ _ h => by cases h.1) (Or.inl ⟨by rfl, fun W hSw => by (try dsimp only at hSw); go_simp⟩) k6 ?_
          try simp only [Act.put, List.setIfInBounds_toArray, List.set_cons_zero, List.set_cons_succ]
          refine wpAnyH_done (by kernel_rfl) ?_ _
          refine id ?_
          exact ⟨rfl, B7, B8, cut_mk rfl, F6.out.1, F6.out.2.1, F6.out.2.2.1, P6.out⟩
      · go_simp
        have f2 := F1.out.al2
        obtain ⟨Y2, hY2⟩ : ∃ y, y = Y1.alloc (.cells #[.int .i64 0, .int .i64 0, .bool false, .bool false, .bool false, .int .i64 0, .int .i64 0, .int .i64 0, .int .i64 0, .int .i64 0] 30) := ⟨_, rfl⟩
        obtain ⟨B8, hB8⟩ : ∃ b, b = Y1.heap.size := ⟨_, rfl⟩
        rw [← hY2, ← hB8] at f2 ⊢
        have F2 := Lib.hid f2
        clear hY2 hB8 f2
        refine hK.out _ _ F2.out.fb (fun k2 => ?_)
        clear hK K
        try simp only [List.setIfInBounds_toArray, List.set_cons_zero, List.set_cons_succ]
        refine wpAnyH_ready (rs := [5, 10]) (by kernel_rfl) (by simp) ?_
        refine AllReadyH.cons (o := ⟨some 106, _, _, _, _, _⟩) rfl (fun K hK => ?_) (AllReadyH.cons (o := ⟨some 18, _, _, _, _, _⟩) rfl (fun K hK => ?_) AllReadyH.nil)
        · go_simp
          go_at_call 17
          refine (HE3.out A g h 1 Y2 F2.out.2.2.1).mono ?_
          rintro e Y3 ⟨rfl, hs, hk⟩
          have F3 := Lib.hid (F2.out.exec hs hk)
          clear hs hk
          go_wp2_with fail
          refine hK.out _ _ F3.out.fb (fun k3 => ?_)
          clear hK K
          try simp only [List.setIfInBounds_toArray, List.set_cons_zero, List.set_cons_succ]
          refine wpAnyH_take (i := 6) (oi := ⟨some 100, _, _, _, _, _⟩) (v := .tuple #[.agg #[.int .u32 0, .int .u32 0, .int .u32 0, .int .u32 0, .int .u32 0, .int .u32 0, .int .u32 0, .int .u32 0, .int .u32 0, .int .u32 0, .int .u32 0, .int .u32 0, .int .u32 0, .int .u32 0, .int .u32 100, .int .u32 1000], .agg #[.int .i64 0, .int .i64 0, .bool false, .bool false, .bool false, .int .i64 0, .int .i64 0, .int .i64 cc3, .int .i64 0, .int .i64 0], .int .i64 0]) rfl (by kernel_rfl) (by kernel_rfl) (by kernel_rfl) (fun _ _ _ h => by cases h.1) (Or.inl ⟨by rfl, fun W hSw => by (try dsimp only at hSw); go_simp⟩) k3 ?_
          try simp only [Act.put, List.setIfInBounds_toArray, List.set_cons_zero, List.set_cons_succ]
          refine wpAnyH_take (i := 7) (oi := ⟨some 107, _, _, _, _, _⟩) (v := .agg #[.int .u32 0, .int .u32 0, .int .u32 0, .int .u32 0, .int .u32 0, .int .u32 0, .int .u32 0, .int .u32 0, .int .u32 0, .int .u32 0, .int .u32 0, .int .u32 0, .int .u32 0, .int .u32 0, .int .u32 100, .int .u32 1000]) rfl (by kernel_rfl) (by kernel_rfl) (by kernel_rfl) (fun _ _ _ h => by cases h.1) (Or.inl ⟨by rfl, fun W hSw => by (try dsimp only at hSw); go_simp⟩) k3 ?_
          try simp only [Act.put, List.setIfInBounds_toArray, List.set_cons_zero, List.set_cons_succ]
          refine wpAnyH_take (i := 8) (oi := ⟨some 108, _, _, _, _, _⟩) (v := .agg #[.int .i64 0, .int .i64 0, .bool false, .bool false, .bool false, .int .i64 0, .int .i64 0, .int .i64 cc3, .int .i64 0, .int .i64 0]) rfl (by kernel_rfl) (by kernel_rfl) (by kernel_rfl) (fun _ _ _ h => by cases h.1) (Or.inl ⟨by rfl, fun W hSw => by (try dsimp only at hSw); go_simp⟩) k3 ?_
          try simp only [Act.put, List.setIfInBounds_toArray, List.set_cons_zero, List.set_cons_succ]
          refine wpAnyH_take (i := 9) (oi := ⟨some 109, _, _, _, _, _⟩) (v := .int .i64 0) rfl (by kernel_rfl) (by kernel_rfl) (by kernel_rfl) (fun _ _ _ h => by cases h.1) (Or.inl ⟨by rfl, fun W hSw => by (try dsimp only at hSw); go_simp⟩) k3 ?_
          try simp only [Act.put, List.setIfInBounds_toArray, List.set_cons_zero, List.set_cons_succ]
          refine wpAnyH_ready (rs := [10]) (by kernel_rfl) (by simp) ?_
          refine AllReadyH.cons (o := ⟨some 18, _, _, _, _, _⟩) rfl (fun K hK => ?_) AllReadyH.nil
          go_simp
          have f4 := F3.out.al
          obtain ⟨Y4, hY4⟩ : ∃ y, y = Y3.alloc (.cells #[.int .u32 0, .int .u32 0, .int .u32 0, .int .u32 0, .int .u32 0, .int .u32 0, .int .u32 0, .int .u32 0, .int .u32 0, .int .u32 0, .int .u32 0, .int .u32 0, .int .u32 0, .int .u32 0, .int .u32 0, .int .u32 0] 28) := ⟨_, rfl⟩
          obtain ⟨B7, hB7⟩ : ∃ b, b = Y3.heap.size := ⟨_, rfl⟩
          rw [← hY4, ← hB7] at f4 ⊢
          have F4 := Lib.hid f4
          clear hY4 hB7 f4
          refine hK.out _ _ F4.out.fb (fun k4 => ?_)
          clear hK K
          try simp only [List.setIfInBounds_toArray, List.set_cons_zero, List.set_cons_succ]
          refine wpAnyH_ready (rs := [12]) (by kernel_rfl) (by simp) ?_
          refine AllReadyH.cons (o := ⟨none, _, _, _, _, _⟩) rfl (fun K hK => ?_) AllReadyH.nil
          obtain ⟨hb5, x5, hx5, hr5⟩ := F4.out.2.2.2.1 B7 rfl
          rw [if_pos (by rfl)]
          refine op_store _ _ _ rfl _ rfl _ rfl (HSR1.out _ _ _ hr5 hx5) ?_
          have f5 := F4.out.st HB6.out (mvR 100 1000)
          obtain ⟨Y5, hY5⟩ : ∃ y, y = Y4.setRow B7 (regA (mvR 100 1000)) := ⟨_, rfl⟩
          rw [← hY5] at f5 ⊢
          have F5 := Lib.hid f5
          clear hY5 f5 hb5 hx5 hr5 x5
          refine hK.out _ _ F5.out.fb (fun k5 => ?_)
          clear hK K
          try simp only [List.setIfInBounds_toArray, List.set_cons_zero, List.set_cons_succ]
          refine wpAnyH_ready (rs := [13]) (by kernel_rfl) (by simp) ?_
          refine AllReadyH.cons (o := ⟨none, _, _, _, _, _⟩) rfl (fun K hK => ?_) AllReadyH.nil
          obtain ⟨hb6, x6, hx6, hr6⟩ := F5.out.2.2.2.2 B8 rfl
          rw [if_pos (by rfl)]
          refine op_store _ _ _ rfl _ rfl _ rfl (HSP3.out _ _ _ hr6 hx6) ?_
          have f6 := F5.out.st2 (⟨0, 0, false, false, false, 0, 0, cc3, 0, 0⟩)
          obtain ⟨Y6, hY6⟩ : ∃ y, y = Y5.setRow B8 (pswA (⟨0, 0, false, false, false, 0, 0, cc3, 0, 0⟩)) := ⟨_, rfl⟩
          rw [← hY6] at f6 ⊢
          have F6 := Lib.hid f6.1
          have P6 := Lib.hid f6.2
          clear hY6 f6 hb6 hx6 hr6 x6
          refine hK.out _ _ F6.out.fb (fun k6 => ?_)
          clear hK K
          try simp only [List.setIfInBounds_toArray, List.set_cons_zero, List.set_cons_succ]
          refine wpAnyH_take (i := 14) (oi := ⟨some 20, _, _, _, _, _⟩) (v := .int .i64 0) rfl (by kernel_rfl) (by kernel_rfl) (by kernel_rfl) (fun _ _ _ h => by cases h.1) (Or.inl ⟨by rfl, fun W hSw => by (try dsimp only at hSw); go_simp⟩) k6 ?_
          try simp only [Act.put, List.setIfInBounds_toArray, List.set_cons_zero, List.set_cons_succ]
          refine wpAnyH_done (by kernel_rfl) ?_ _
          refine id ?_
          exact ⟨rfl, B7, B8, cut_mk rfl, F6.out.1, F6.out.2.1, F6.out.2.2.1, P6.out⟩
        · go_simp
          have f3 := F2.out.al
          obtain ⟨Y3, hY3⟩ : ∃ y, y = Y2.alloc (.cells #[.int .u32 0, .int .u32 0, .int .u32 0, .int .u32 0, .int .u32 0, .int .u32 0, .int .u32 0, .int .u32 0, .int .u32 0, .int .u32 0, .int .u32 0, .int .u32 0, .int .u32 0, .int .u32 0, .int .u32 0, .int .u32 0] 28) := ⟨_, rfl⟩
          obtain ⟨B7, hB7⟩ : ∃ b, b = Y2.heap.size := ⟨_, rfl⟩
          rw [← hY3, ← hB7] at f3 ⊢
          have F3 := Lib.hid f3
          clear hY3 hB7 f3
          refine hK.out _ _ F3.out.fb (fun k3 => ?_)
          clear hK K
          try simp only [List.setIfInBounds_toArray, List.set_cons_zero, List.set_cons_succ]
          refine wpAnyH_ready (rs := [5]) (by kernel_rfl) (by simp) ?_
          refine AllReadyH.cons (o := ⟨some 106, _, _, _, _, _⟩) rfl (fun K hK => ?_) AllReadyH.nil
          go_simp
          go_at_call 17
          refine (HE3.out A g h 1 Y3 F3.out.2.2.1).mono ?_
          rintro e Y4 ⟨rfl, hs, hk⟩
          have F4 := Lib.hid (F3.out.exec hs hk)
          clear hs hk
          go_wp2_with fail
          refine hK.out _ _ F4.out.fb (fun k4 => ?_)
          clear hK K
          try simp only [List.setIfInBounds_toArray, List.set_cons_zero, List.set_cons_succ]
          refine wpAnyH_take (i := 6) (oi := ⟨some 100, _, _, _, _, _⟩) (v := .tuple #[.agg #[.int .u32 0, .int .u32 0, .int .u32 0, .int .u32 0, .int .u32 0, .int .u32 0, .int .u32 0, .int .u32 0, .int .u32 0, .int .u32 0, .int .u32 0, .int .u32 0, .int .u32 0, .int .u32 0, .int .u32 100, .int .u32 1000], .agg #[.int .i64 0, .int .i64 0, .bool false, .bool false, .bool false, .int .i64 0, .int .i64 0, .int .i64 cc3, .int .i64 0, .int .i64 0], .int .i64 0]) rfl (by kernel_rfl) (by kernel_rfl) (by kernel_rfl) (fun _ _ _ h => by cases h.1) (Or.inl ⟨by rfl, fun W hSw => by (try dsimp only at hSw); go_simp⟩) k4 ?_
          try simp only [Act.put, List.setIfInBounds_toArray, List.set_cons_zero, List.set_cons_succ]
          refine wpAnyH_take (i := 7) (oi := ⟨some 107, _, _, _, _, _⟩) (v := .agg #[.int .u32 0, .int .u32 0, .int .u32 0, .int .u32 0, .int .u32 0, .int .u32 0, .int .u32 0, .int .u32 0, .int .u32 0, .int .u32 0, .int .u32 0, .int .u32 0, .int .u32 0, .int .u32 0, .int .u32 100, .int .u32 1000]) rfl (by kernel_rfl) (by kernel_rfl) (by kernel_rfl) (fun _ _ _ h => by cases h.1) (Or.inl ⟨by rfl, fun W hSw => by (try dsimp only at hSw); go_simp⟩) k4 ?_
          try simp only [Act.put, List.setIfInBounds_toArray, List.set_cons_zero, List.set_cons_succ]
          refine wpAnyH_take (i := 8) (oi := ⟨some 108, _, _, _, _, _⟩) (v := .agg #[.int .i64 0, .int .i64 0, .bool false, .bool false, .bool false, .int .i64 0, .int .i64 0, .int .i64 cc3, .int .i64 0, .int .i64 0]) rfl (by kernel_rfl) (by kernel_rfl) (by kernel_rfl) (fun _ _ _ h => by cases h.1) (Or.inl ⟨by rfl, fun W hSw => by (try dsimp only at hSw); go_simp⟩) k4 ?_
          try simp only [Act.put, List.setIfInBounds_toArray, List.set_cons_zero, List.set_cons_succ]
          refine wpAnyH_take (i := 9) (oi := ⟨some 109, _, _, _, _, _⟩) (v := .int .i64 0) rfl (by kernel_rfl) (by kernel_rfl) (by kernel_rfl) (fun _ _ _ h => by cases h.1) (Or.inl ⟨by rfl, fun W hSw => by (try dsimp only at hSw); go_simp⟩) k4 ?_
          try simp only [Act.put, List.setIfInBounds_toArray, List.set_cons_zero, List.set_cons_succ]
          refine wpAnyH_ready (rs := [12]) (by kernel_rfl) (by simp) ?_
          refine AllReadyH.cons (o := ⟨none, _, _, _, _, _⟩) rfl (fun K hK => ?_) AllReadyH.nil
          obtain ⟨hb5, x5, hx5, hr5⟩ := F4.out.2.2.2.1 B7 rfl
          rw [if_pos (by rfl)]
          refine op_store _ _ _ rfl _ rfl _ rfl (HSR1.out _ _ _ hr5 hx5) ?_
          have f5 := F4.out.st HB6.out (mvR 100 1000)
          obtain ⟨Y5, hY5⟩ : ∃ y, y = Y4.setRow B7 (regA (mvR 100 1000)) := ⟨_, rfl⟩
          rw [← hY5] at f5 ⊢
          have F5 := Lib.hid f5
          clear hY5 f5 hb5 hx5 hr5 x5
          refine hK.out _ _ F5.out.fb (fun k5 => ?_)
          clear hK K
          try simp only [List.setIfInBounds_toArray, List.set_cons_zero, List.set_cons_succ]
          refine wpAnyH_ready (rs := [13]) (by kernel_rfl) (by simp) ?_
          refine AllReadyH.cons (o := ⟨none, _, _, _, _, _⟩) rfl (fun K hK => ?_) AllReadyH.nil
          obtain ⟨hb6, x6, hx6, hr6⟩ := F5.out.2.2.2.2 B8 rfl
          rw [if_pos (by rfl)]
          refine op_store _ _ _ rfl _ rfl _ rfl (HSP3.out _ _ _ hr6 hx6) ?_
          have f6 := F5.out.st2 (⟨0, 0, false, false, false, 0, 0, cc3, 0, 0⟩)
          obtain ⟨Y6, hY6⟩ : ∃ y, y = Y5.setRow B8 (pswA (⟨0, 0, false, false, false, 0, 0, cc3, 0, 0⟩)) := ⟨_, rfl⟩
          rw [← hY6] at f6 ⊢
          have F6 := Lib.hid f6.1
          have P6 := Lib.hid f6.2
          clear hY6 f6 hb6 hx6 hr6 x6
          refine hK.out _ _ F6.out.fb (fun k6 => ?_)
          clear hK K
          try simp only [List.setIfInBounds_toArray, List.set_cons_zero, List.set_cons_succ]
          refine wpAnyH_take (i := 14) (oi := ⟨some 20, _, _, _, _, _⟩) (v := .int .i64 0) rfl (by kernel_rfl) (by kernel_rfl) (by kernel_rfl) (fun _ _ _ h => by cases h.1) (Or.inl ⟨by rfl, fun W hSw => by (try dsimp only at hSw); go_simp⟩) k6 ?_
          try simp only [Act.put, List.setIfInBounds_toArray, List.set_cons_zero, List.set_cons_succ]
          refine wpAnyH_done (by kernel_rfl) ?_ _
          refine id ?_
          exact ⟨rfl, B7, B8, cut_mk rfl, F6.out.1, F6.out.2.1, F6.out.2.2.1, P6.out⟩
    · go_simp
      have f1 := F00.out.al
      obtain ⟨Y1, hY1⟩ : ∃ y, y = Y0.alloc (.cells #[.int .u32 0, .int .u32 0, .int .u32 0, .int .u32 0, .int .u32 0, .int .u32 0, .int .u32 0, .int .u32 0, .int .u32 0, .int .u32 0, .int .u32 0, .int .u32 0, .int .u32 0, .int .u32 0, .int .u32 0, .int .u32 0] 28) := ⟨_, rfl⟩
      obtain ⟨B7, hB7⟩ : ∃ b, b = Y0.heap.size := ⟨_, rfl⟩
      rw [← hY1, ← hB7] at f1 ⊢
      have F1 := Lib.hid f1
      clear hY1 hB7 f1
      refine hK.out _ _ F1.out.fb (fun k1 => ?_)
      clear hK K
      try simp only [List.setIfInBounds_toArray, List.set_cons_zero, List.set_cons_succ]
      refine wpAnyH_ready (rs := [1, 11]) (by kernel_rfl) (by simp) ?_
      refine AllReadyH.cons (o := ⟨some 102, _, _, _, _, _⟩) rfl (fun K hK => ?_) (AllReadyH.cons (o := ⟨some 19, _, _, _, _, _⟩) rfl (fun K hK => ?_) AllReadyH.nil)
      · go_simp
        go_at_call 27
        refine (HSS1.out Y1).mono ?_
        rintro e Y2 ⟨rfl, hb⟩
        have F2 := Lib.hid (F1.out.below hb)
        clear hb
        go_wp2_with fail
        refine hK.out _ _ F2.out.fb (fun k2 => ?_)
        clear hK K
        try simp only [List.setIfInBounds_toArray, List.set_cons_zero, List.set_cons_succ]
        refine wpAnyH_ready (rs := [5, 11]) (by kernel_rfl) (by simp) ?_
        refine AllReadyH.cons (o := ⟨some 106, _, _, _, _, _⟩) rfl (fun K hK => ?_) (AllReadyH.cons (o := ⟨some 19, _, _, _, _, _⟩) rfl (fun K hK => ?_) AllReadyH.nil)
        · go_simp
          go_at_call 17
          refine (HE3.out A g h 1 Y2 F2.out.2.2.1).mono ?_
          rintro e Y3 ⟨rfl, hs, hk⟩
          have F3 := Lib.hid (F2.out.exec hs hk)
          clear hs hk
          go_wp2_with fail
          refine hK.out _ _ F3.out.fb (fun k3 => ?_)
          clear hK K
          try simp only [List.setIfInBounds_toArray, List.set_cons_zero, List.set_cons_succ]
          refine wpAnyH_take (i := 6) (oi := ⟨some 100, _, _, _, _, _⟩) (v := .tuple #[.agg #[.int .u32 0, .int .u32 0, .int .u32 0, .int .u32 0, .int .u32 0, .int .u32 0, .int .u32 0, .int .u32 0, .int .u32 0, .int .u32 0, .int .u32 0, .int .u32 0, .int .u32 0, .int .u32 0, .int .u32 100, .int .u32 1000], .agg #[.int .i64 0, .int .i64 0, .bool false, .bool false, .bool false, .int .i64 0, .int .i64 0, .int .i64 cc3, .int .i64 0, .int .i64 0], .int .i64 0]) rfl (by kernel_rfl) (by kernel_rfl) (by kernel_rfl) (fun _ _ _ h => by cases h.1) (Or.inl ⟨by rfl, fun W hSw => by (try dsimp only at hSw); go_simp⟩) k3 ?_
          try simp only [Act.put, List.setIfInBounds_toArray, List.set_cons_zero, List.set_cons_succ]
          refine wpAnyH_take (i := 7) (oi := ⟨some 107, _, _, _, _, _⟩) (v := .agg #[.int .u32 0, .int .u32 0, .int .u32 0, .int .u32 0, .int .u32 0, .int .u32 0, .int .u32 0, .int .u32 0, .int .u32 0, .int .u32 0, .int .u32 0, .int .u32 0, .int .u32 0, .int .u32 0, .int .u32 100, .int .u32 1000]) rfl (by kernel_rfl) (by kernel_rfl) (by kernel_rfl) (fun _ _ _ h => by cases h.1) (Or.inl ⟨by rfl, fun W hSw => by (try dsimp only at hSw); go_simp⟩) k3 ?_
          try simp only [Act.put, List.setIfInBounds_toArray, List.set_cons_zero, List.set_cons_succ]
          refine wpAnyH_take (i := 8) (oi := ⟨some 108, _, _, _, _, _⟩) (v := .agg #[.int .i64 0, .int .i64 0, .bool false, .bool false, .bool false, .int .i64 0, .int .i64 0, .int .i64 cc3, .int .i64 0, .int .i64 0]) rfl (by kernel_rfl) (by kernel_rfl) (by kernel_rfl) (fun _ _ _ h => by cases h.1) (Or.inl ⟨by rfl, fun W hSw => by (try dsimp only at hSw); go_simp⟩) k3 ?_
          try simp only [Act.put, List.setIfInBounds_toArray, List.set_cons_zero, List.set_cons_succ]
          refine wpAnyH_take (i := 9) (oi := ⟨some 109, _, _, _, _, _⟩) (v := .int .i64 0) rfl (by kernel_rfl) (by kernel_rfl) (by kernel_rfl) (fun _ _ _ h => by cases h.1) (Or.inl ⟨by rfl, fun W hSw => by (try dsimp only at hSw); go_simp⟩) k3 ?_
          try simp only [Act.put, List.setIfInBounds_toArray, List.set_cons_zero, List.set_cons_succ]
          refine wpAnyH_ready (rs := [11]) (by kernel_rfl) (by simp) ?_
          refine AllReadyH.cons (o := ⟨some 19, _, _, _, _, _⟩) rfl (fun K hK => ?_) AllReadyH.nil
          go_simp
          have f4 := F3.out.al2
          obtain ⟨Y4, hY4⟩ : ∃ y, y = Y3.alloc (.cells #[.int .i64 0, .int .i64 0, .bool false, .bool false, .bool false, .int .i64 0, .int .i64 0, .int .i64 0, .int .i64 0, .int .i64 0] 30) := ⟨_, rfl⟩
          obtain ⟨B8, hB8⟩ : ∃ b, b = Y3.heap.size := ⟨_, rfl⟩
          rw [← hY4, ← hB8] at f4 ⊢
          have F4 := Lib.hid f4
          clear hY4 hB8 f4
          refine hK.out _ _ F4.out.fb (fun k4 => ?_)
          clear hK K
          try simp only [List.setIfInBounds_toArray, List.set_cons_zero, List.set_cons_succ]
          refine wpAnyH_ready (rs := [12]) (by kernel_rfl) (by simp) ?_
          refine AllReadyH.cons (o := ⟨none, _, _, _, _, _⟩) rfl (fun K hK => ?_) AllReadyH.nil
          obtain ⟨hb5, x5, hx5, hr5⟩ := F4.out.2.2.2.1 B7 rfl
          rw [if_pos (by rfl)]
          refine op_store _ _ _ rfl _ rfl _ rfl (HSR1.out _ _ _ hr5 hx5) ?_
          have f5 := F4.out.st HB6.out (mvR 100 1000)
          obtain ⟨Y5, hY5⟩ : ∃ y, y = Y4.setRow B7 (regA (mvR 100 1000)) := ⟨_, rfl⟩
          rw [← hY5] at f5 ⊢
          have F5 := Lib.hid f5
          clear hY5 f5 hb5 hx5 hr5 x5
          refine hK.out _ _ F5.out.fb (fun k5 => ?_)
          clear hK K
          try simp only [List.setIfInBounds_toArray, List.set_cons_zero, List.set_cons_succ]
          refine wpAnyH_ready (rs := [13]) (by kernel_rfl) (by simp) ?_
          refine AllReadyH.cons (o := ⟨none, _, _, _, _, _⟩) rfl (fun K hK => ?_) AllReadyH.nil
          obtain ⟨hb6, x6, hx6, hr6⟩ := F5.out.2.2.2.2 B8 rfl
          rw [if_pos (by rfl)]
          refine op_store _ _ _ rfl _ rfl _ rfl (HSP3.out _ _ _ hr6 hx6) ?_
          have f6 := F5.out.st2 (⟨0, 0, false, false, false, 0, 0, cc3, 0, 0⟩)
          obtain ⟨Y6, hY6⟩ : ∃ y, y = Y5.setRow B8 (pswA (⟨0, 0, false, false, false, 0, 0, cc3, 0, 0⟩)) := ⟨_, rfl⟩
          rw [← hY6] at f6 ⊢
          have F6 := Lib.hid f6.1
          have P6 := Lib.hid f6.2
          clear hY6 f6 hb6 hx6 hr6 x6
          refine hK.out _ _ F6.out.fb (fun k6 => ?_)
          clear hK K
          try simp only [List.setIfInBounds_toArray, List.set_cons_zero, List.set_cons_succ]
          refine wpAnyH_take (i := 14) (oi := ⟨some 20, _, _, _, _, _⟩) (v := .int .i64 0) rfl (by kernel_rfl) (by kernel_rfl) (by kernel_rfl) (fun _ _ _ h => by cases h.1) (Or.inl ⟨by rfl, fun W hSw => by (try dsimp only at hSw); go_simp⟩) k6 ?_
          try simp only [Act.put, List.setIfInBounds_toArray, List.set_cons_zero, List.set_cons_succ]
          refine wpAnyH_done (by kernel_rfl) ?_ _
          refine id ?_
          exact ⟨rfl, B7, B8, cut_mk rfl, F6.out.1, F6.out.2.1, F6.out.2.2.1, P6.out⟩
        · go_simp
          have f3 := F2.out.al2
          obtain ⟨Y3, hY3⟩ : ∃ y, y = Y2.alloc (.cells #[.int .i64 0, .int .i64 0, .bool false, .bool false, .bool false, .int .i64 0, .int .i64 0, .int .i64 0, .int .i64 0, .int .i64 0] 30) := ⟨_, rfl⟩
          obtain ⟨B8, hB8⟩ : ∃ b, b = Y2.heap.size := ⟨_, rfl⟩
          rw [← hY3, ← hB8] at f3 ⊢
          have F3 := Lib.hid f3
          clear hY3 hB8 f3
          refine hK.out _ _ F3.out.fb (fun k3 => ?_)
          clear hK K
          try simp only [List.setIfInBounds_toArray, List.set_cons_zero, List.set_cons_succ]
          refine wpAnyH_ready (rs := [5]) (by kernel_rfl) (by simp) ?_
          refine AllReadyH.cons (o := ⟨some 106, _, _, _, _, _⟩) rfl (fun K hK => ?_) AllReadyH.nil
          go_simp
          go_at_call 17
          refine (HE3.out A g h 1 Y3 F3.out.2.2.1).mono ?_
          rintro e Y4 ⟨rfl, hs, hk⟩
          have F4 := Lib.hid (F3.out.exec hs hk)
          clear hs hk
          go_wp2_with fail
          refine hK.out _ _ F4.out.fb (fun k4 => ?_)
          clear hK K
          try simp only [List.setIfInBounds_toArray, List.set_cons_zero, List.set_cons_succ]
          refine wpAnyH_take (i := 6) (oi := ⟨some 100, _, _, _, _, _⟩) (v := .tuple #[.agg #[.int .u32 0, .int .u32 0, .int .u32 0, .int .u32 0, .int .u32 0, .int .u32 0, .int .u32 0, .int .u32 0, .int .u32 0, .int .u32 0, .int .u32 0, .int .u32 0, .int .u32 0, .int .u32 0, .int .u32 100, .int .u32 1000], .agg #[.int .i64 0, .int .i64 0, .bool false, .bool false, .bool false, .int .i64 0, .int .i64 0, .int .i64 cc3, .int .i64 0, .int .i64 0], .int .i64 0]) rfl (by kernel_rfl) (by kernel_rfl) (by kernel_rfl) (fun _ _ _ h => by cases h.1) (Or.inl ⟨by rfl, fun W hSw => by (try dsimp only at hSw); go_simp⟩) k4 ?_
          try simp only [Act.put, List.setIfInBounds_toArray, List.set_cons_zero, List.set_cons_succ]
          refine wpAnyH_take (i := 7) (oi := ⟨some 107, _, _, _, _, _⟩) (v := .agg #[.int .u32 0, .int .u32 0, .int .u32 0, .int .u32 0, .int .u32 0, .int .u32 0, .int .u32 0, .int .u32 0, .int .u32 0, .int .u32 0, .int .u32 0, .int .u32 0, .int .u32 0, .int .u32 0, .int .u32 100, .int .u32 1000]) rfl (by kernel_rfl) (by kernel_rfl) (by kernel_rfl) (fun _ _ _ h => by cases h.1) (Or.inl ⟨by rfl, fun W hSw => by (try dsimp only at hSw); go_simp⟩) k4 ?_
          try simp only [Act.put, List.setIfInBounds_toArray, List.set_cons_zero, List.set_cons_succ]
          refine wpAnyH_take (i := 8) (oi := ⟨some 108, _, _, _, _, _⟩) (v := .agg #[.int .i64 0, .int .i64 0, .bool false, .bool false, .bool false, .int .i64 0, .int .i64 0, .int .i64 cc3, .int .i64 0, .int .i64 0]) rfl (by kernel_rfl) (by kernel_rfl) (by kernel_rfl) (fun _ _ _ h => by cases h.1) (Or.inl ⟨by rfl, fun W hSw => by (try dsimp only at hSw); go_simp⟩) k4 ?_
          try simp only [Act.put, List.setIfInBounds_toArray, List.set_cons_zero, List.set_cons_succ]
          refine wpAnyH_take (i := 9) (oi := ⟨some 109, _, _, _, _, _⟩) (v := .int .i64 0) rfl (by kernel_rfl) (by kernel_rfl) (by kernel_rfl) (fun _ _ _ h => by cases h.1) (Or.inl ⟨by rfl, fun W hSw => by (try dsimp only at hSw); go_simp⟩) k4 ?_
          try simp only [Act.put, List.setIfInBounds_toArray, List.set_cons_zero, List.set_cons_succ]
          refine wpAnyH_ready (rs := [12]) (by kernel_rfl) (by simp) ?_
          refine AllReadyH.cons (o := ⟨none, _, _, _, _, _⟩) rfl (fun K hK => ?_) AllReadyH.nil
          obtain ⟨hb5, x5, hx5, hr5⟩ := F4.out.2.2.2.1 B7 rfl
          rw [if_pos (by rfl)]
          refine op_store _ _ _ rfl _ rfl _ rfl (HSR1.out _ _ _ hr5 hx5) ?_
          have f5 := F4.out.st HB6.out (mvR 100 1000)
          obtain ⟨Y5, hY5⟩ : ∃ y, y = Y4.setRow B7 (regA (mvR 100 1000)) := ⟨_, rfl⟩
          rw [← hY5] at f5 ⊢
          have F5 := Lib.hid f5
          clear hY5 f5 hb5 hx5 hr5 x5
          refine hK.out _ _ F5.out.fb (fun k5 => ?_)
          clear hK K
          try simp only [List.setIfInBounds_toArray, List.set_cons_zero, List.set_cons_succ]
          refine wpAnyH_ready (rs := [13]) (by kernel_rfl) (by simp) ?_
          refine AllReadyH.cons (o := ⟨none, _, _, _, _, _⟩) rfl (fun K hK => ?_) AllReadyH.nil
          obtain ⟨hb6, x6, hx6, hr6⟩ := F5.out.2.2.2.2 B8 rfl
          rw [if_pos (by rfl)]
          refine op_store _ _ _ rfl _ rfl _ rfl (HSP3.out _ _ _ hr6 hx6) ?_
          have f6 := F5.out.st2 (⟨0, 0, false, false, false, 0, 0, cc3, 0, 0⟩)
          obtain ⟨Y6, hY6⟩ : ∃ y, y = Y5.setRow B8 (pswA (⟨0, 0, false, false, false, 0, 0, cc3, 0, 0⟩)) := ⟨_, rfl⟩
          rw [← hY6] at f6 ⊢
          have F6 := Lib.hid f6.1
          have P6 := Lib.hid f6.2
          clear hY6 f6 hb6 hx6 hr6 x6
          refine hK.out _ _ F6.out.fb (fun k6 => ?_)
          clear hK K
          try simp only [List.setIfInBounds_toArray, List.set_cons_zero, List.set_cons_succ]
          refine wpAnyH_take (i := 14) (oi := ⟨some 20, _, _, _, _, _⟩) (v := .int .i64 0) rfl (by kernel_rfl) (by kernel_rfl) (by kernel_rfl) (fun _ _ _ h => by cases h.1) (Or.inl ⟨by rfl, fun W hSw => by (try dsimp only at hSw); go_simp⟩) k6 ?_
          try simp only [Act.put, List.setIfInBounds_toArray, List.set_cons_zero, List.set_cons_succ]
          refine wpAnyH_done (by kernel_rfl) ?_ _
          refine id ?_
          exact ⟨rfl, B7, B8, cut_mk rfl, F6.out.1, F6.out.2.1, F6.out.2.2.1, P6.out⟩
      · go_simp
        have f2 := F1.out.al2
        obtain ⟨Y2, hY2⟩ : ∃ y, y = Y1.alloc (.cells #[.int .i64 0, .int .i64 0, .bool false, .bool false, .bool false, .int .i64 0, .int .i64 0, .int .i64 0, .int .i64 0, .int .i64 0] 30) := ⟨_, rfl⟩
        obtain ⟨B8, hB8⟩ : ∃ b, b = Y1.heap.size := ⟨_, rfl⟩
        rw [← hY2, ← hB8] at f2 ⊢
        have F2 := Lib.hid f2
        clear hY2 hB8 f2
        refine hK.out _ _ F2.out.fb (fun k2 => ?_)
        clear hK K
        try simp only [List.setIfInBounds_toArray, List.set_cons_zero, List.set_cons_succ]
        refine wpAnyH_ready (rs := [1]) (by kernel_rfl) (by simp) ?_
        refine AllReadyH.cons (o := ⟨some 102, _, _, _, _, _⟩) rfl (fun K hK => ?_) AllReadyH.nil
        go_simp
        go_at_call 27
        refine (HSS1.out Y2).mono ?_
        rintro e Y3 ⟨rfl, hb⟩
        have F3 := Lib.hid (F2.out.below hb)
        clear hb
        go_wp2_with fail
        refine hK.out _ _ F3.out.fb (fun k3 => ?_)
        clear hK K
        try simp only [List.setIfInBounds_toArray, List.set_cons_zero, List.set_cons_succ]
        refine wpAnyH_ready (rs := [5]) (by kernel_rfl) (by simp) ?_
        refine AllReadyH.cons (o := ⟨some 106, _, _, _, _, _⟩) rfl (fun K hK => ?_) AllReadyH.nil
        go_simp
        go_at_call 17
        refine (HE3.out A g h 1 Y3 F3.out.2.2.1).mono ?_
        rintro e Y4 ⟨rfl, hs, hk⟩
        have F4 := Lib.hid (F3.out.exec hs hk)
        clear hs hk
        go_wp2_with fail
        refine hK.out _ _ F4.out.fb (fun k4 => ?_)
        clear hK K
        try simp only [List.setIfInBounds_toArray, List.set_cons_zero, List.set_cons_succ]
        refine wpAnyH_take (i := 6) (oi := ⟨some 100, _, _, _, _, _⟩) (v := .tuple #[.agg #[.int .u32 0, .int .u32 0, .int .u32 0, .int .u32 0, .int .u32 0, .int .u32 0, .int .u32 0, .int .u32 0, .int .u32 0, .int .u32 0, .int .u32 0, .int .u32 0, .int .u32 0, .int .u32 0, .int .u32 100, .int .u32 1000], .agg #[.int .i64 0, .int .i64 0, .bool false, .bool false, .bool false, .int .i64 0, .int .i64 0, .int .i64 cc3, .int .i64 0, .int .i64 0], .int .i64 0]) rfl (by kernel_rfl) (by kernel_rfl) (by kernel_rfl) (fun _ _ _ h => by cases h.1) (Or.inl ⟨by rfl, fun W hSw => by (try dsimp only at hSw); go_simp⟩) k4 ?_
        try simp only [Act.put, List.setIfInBounds_toArray, List.set_cons_zero, List.set_cons_succ]
        refine wpAnyH_take (i := 7) (oi := ⟨some 107, _, _, _, _, _⟩) (v := .agg #[.int .u32 0, .int .u32 0, .int .u32 0, .int .u32 0, .int .u32 0, .int .u32 0, .int .u32 0, .int .u32 0, .int .u32 0, .int .u32 0, .int .u32 0, .int .u32 0, .int .u32 0, .int .u32 0, .int .u32 100, .int .u32 1000]) rfl (by kernel_rfl) (by kernel_rfl) (by kernel_rfl) (fun _ _ _ h => by cases h.1) (Or.inl ⟨by rfl, fun W hSw => by (try dsimp only at hSw); go_simp⟩) k4 ?_
        try simp only [Act.put, List.setIfInBounds_toArray, List.set_cons_zero, List.set_cons_succ]
        refine wpAnyH_take (i := 8) (oi := ⟨some 108, _, _, _, _, _⟩) (v := .agg #[.int .i64 0, .int .i64 0, .bool false, .bool false, .bool false, .int .i64 0, .int .i64 0, .int .i64 cc3, .int .i64 0, .int .i64 0]) rfl (by kernel_rfl) (by kernel_rfl) (by kernel_rfl) (fun _ _ _ h => by cases h.1) (Or.inl ⟨by rfl, fun W hSw => by (try dsimp only at hSw); go_simp⟩) k4 ?_
        try simp only [Act.put, List.setIfInBounds_toArray, List.set_cons_zero, List.set_cons_succ]
        refine wpAnyH_take (i := 9) (oi := ⟨some 109, _, _, _, _, _⟩) (v := .int .i64 0) rfl (by kernel_rfl) (by kernel_rfl) (by kernel_rfl) (fun _ _ _ h => by cases h.1) (Or.inl ⟨by rfl, fun W hSw => by (try dsimp only at hSw); go_simp⟩) k4 ?_
        try simp only [Act.put, List.setIfInBounds_toArray, List.set_cons_zero, List.set_cons_succ]
        refine wpAnyH_ready (rs := [12]) (by kernel_rfl) (by simp) ?_
        refine AllReadyH.cons (o := ⟨none, _, _, _, _, _⟩) rfl (fun K hK => ?_) AllReadyH.nil
        obtain ⟨hb5, x5, hx5, hr5⟩ := F4.out.2.2.2.1 B7 rfl
        rw [if_pos (by rfl)]
        refine op_store _ _ _ rfl _ rfl _ rfl (HSR1.out _ _ _ hr5 hx5) ?_
        have f5 := F4.out.st HB6.out (mvR 100 1000)
        obtain ⟨Y5, hY5⟩ : ∃ y, y = Y4.setRow B7 (regA (mvR 100 1000)) := ⟨_, rfl⟩
        rw [← hY5] at f5 ⊢
        have F5 := Lib.hid f5
        clear hY5 f5 hb5 hx5 hr5 x5
        refine hK.out _ _ F5.out.fb (fun k5 => ?_)
        clear hK K
        try simp only [List.setIfInBounds_toArray, List.set_cons_zero, List.set_cons_succ]
        refine wpAnyH_ready (rs := [13]) (by kernel_rfl) (by simp) ?_
        refine AllReadyH.cons (o := ⟨none, _, _, _, _, _⟩) rfl (fun K hK => ?_) AllReadyH.nil
        obtain ⟨hb6, x6, hx6, hr6⟩ := F5.out.2.2.2.2 B8 rfl
        rw [if_pos (by rfl)]
        refine op_store _ _ _ rfl _ rfl _ rfl (HSP3.out _ _ _ hr6 hx6) ?_
        have f6 := F5.out.st2 (⟨0, 0, false, false, false, 0, 0, cc3, 0, 0⟩)
        obtain ⟨Y6, hY6⟩ : ∃ y, y = Y5.setRow B8 (pswA (⟨0, 0, false, false, false, 0, 0, cc3, 0, 0⟩)) := ⟨_, rfl⟩
        rw [← hY6] at f6 ⊢
        have F6 := Lib.hid f6.1
        have P6 := Lib.hid f6.2
        clear hY6 f6 hb6 hx6 hr6 x6
        refine hK.out _ _ F6.out.fb (fun k6 => ?_)
        clear hK K
        try simp only [List.setIfInBounds_toArray, List.set_cons_zero, List.set_cons_succ]
        refine wpAnyH_take (i := 14) (oi := ⟨some 20, _, _, _, _, _⟩) (v := .int .i64 0) rfl (by kernel_rfl) (by kernel_rfl) (by kernel_rfl) (fun _ _ _ h => by cases h.1) (Or.inl ⟨by rfl, fun W hSw => by (try dsimp only at hSw); go_simp⟩) k6 ?_
        try simp only [Act.put, List.setIfInBounds_toArray, List.set_cons_zero, List.set_cons_succ]
        refine wpAnyH_done (by kernel_rfl) ?_ _
        refine id ?_
        exact ⟨rfl, B7, B8, cut_mk rfl, F6.out.1, F6.out.2.1, F6.out.2.2.1, P6.out⟩
    · go_simp
      have f1 := F00.out.al2
      obtain ⟨Y1, hY1⟩ : ∃ y, y = Y0.alloc (.cells #[.int .i64 0, .int .i64 0, .bool false, .bool false, .bool false, .int .i64 0, .int .i64 0, .int .i64 0, .int .i64 0, .int .i64 0] 30) := ⟨_, rfl⟩
      obtain ⟨B8, hB8⟩ : ∃ b, b = Y0.heap.size := ⟨_, rfl⟩
      rw [← hY1, ← hB8] at f1 ⊢
      have F1 := Lib.hid f1
      clear hY1 hB8 f1
      refine hK.out _ _ F1.out.fb (fun k1 => ?_)
      clear hK K
      try simp only [List.setIfInBounds_toArray, List.set_cons_zero, List.set_cons_succ]
      refine wpAnyH_ready (rs := [1, 10]) (by kernel_rfl) (by simp) ?_
      refine AllReadyH.cons (o := ⟨some 102, _, _, _, _, _⟩) rfl (fun K hK => ?_) (AllReadyH.cons (o := ⟨some 18, _, _, _, _, _⟩) rfl (fun K hK => ?_) AllReadyH.nil)
      · go_simp
        go_at_call 27
        refine (HSS1.out Y1).mono ?_
        rintro e Y2 ⟨rfl, hb⟩
        have F2 := Lib.hid (F1.out.below hb)
        clear hb
        go_wp2_with fail
        refine hK.out _ _ F2.out.fb (fun k2 => ?_)
        clear hK K
        try simp only [List.setIfInBounds_toArray, List.set_cons_zero, List.set_cons_succ]
        refine wpAnyH_ready (rs := [5, 10]) (by kernel_rfl) (by simp) ?_
        refine AllReadyH.cons (o := ⟨some 106, _, _, _, _, _⟩) rfl (fun K hK => ?_) (AllReadyH.cons (o := ⟨some 18, _, _, _, _, _⟩) rfl (fun K hK => ?_) AllReadyH.nil)
        · go_simp
          go_at_call 17
          refine (HE3.out A g h 1 Y2 F2.out.2.2.1).mono ?_
          rintro e Y3 ⟨rfl, hs, hk⟩
          have F3 := Lib.hid (F2.out.exec hs hk)
          clear hs hk
          go_wp2_with fail
          refine hK.out _ _ F3.out.fb (fun k3 => ?_)
          clear hK K
          try simp only [List.setIfInBounds_toArray, List.set_cons_zero, List.set_cons_succ]
          refine wpAnyH_take (i := 6) (oi := ⟨some 100, _, _, _, _, _⟩) (v := .tuple #[.agg #[.int .u32 0, .int .u32 0, .int .u32 0, .int .u32 0, .int .u32 0, .int .u32 0, .int .u32 0, .int .u32 0, .int .u32 0, .int .u32 0, .int .u32 0, .int .u32 0, .int .u32 0, .int .u32 0, .int .u32 100, .int .u32 1000], .agg #[.int .i64 0, .int .i64 0, .bool false, .bool false, .bool false, .int .i64 0, .int .i64 0, .int .i64 cc3, .int .i64 0, .int .i64 0], .int .i64 0]) rfl (by kernel_rfl) (by kernel_rfl) (by kernel_rfl) (fun _ _ _ h => by cases h.1) (Or.inl ⟨by rfl, fun W hSw => by (try dsimp only at hSw); go_simp⟩) k3 ?_
          try simp only [Act.put, List.setIfInBounds_toArray, List.set_cons_zero, List.set_cons_succ]
          refine wpAnyH_take (i := 7) (oi := ⟨some 107, _, _, _, _, _⟩) (v := .agg #[.int .u32 0, .int .u32 0, .int .u32 0, .int .u32 0, .int .u32 0, .int .u32 0, .int .u32 0, .int .u32 0, .int .u32 0, .int .u32 0, .int .u32 0, .int .u32 0, .int .u32 0, .int .u32 0, .int .u32 100, .int .u32 1000]) rfl (by kernel_rfl) (by kernel_rfl) (by kernel_rfl) (fun _ _ _ h => by cases h.1) (Or.inl ⟨by rfl, fun W hSw => by (try dsimp only at hSw); go_simp⟩) k3 ?_
          try simp only [Act.put, List.setIfInBounds_toArray, List.set_cons_zero, List.set_cons_succ]
          refine wpAnyH_take (i := 8) (oi := ⟨some 108, _, _, _, _, _⟩) (v := .agg #[.int .i64 0, .int .i64 0, .bool false, .bool false, .bool false, .int .i64 0, .int .i64 0, .int .i64 cc3, .int .i64 0, .int .i64 0]) rfl (by kernel_rfl) (by kernel_rfl) (by kernel_rfl) (fun _ _ _ h => by cases h.1) (Or.inl ⟨by rfl, fun W hSw => by (try dsimp only at hSw); go_simp⟩) k3 ?_
          try simp only [Act.put, List.setIfInBounds_toArray, List.set_cons_zero, List.set_cons_succ]
          refine wpAnyH_take (i := 9) (oi := ⟨some 109, _, _, _, _, _⟩) (v := .int .i64 0) rfl (by kernel_rfl) (by kernel_rfl) (by kernel_rfl) (fun _ _ _ h => by cases h.1) (Or.inl ⟨by rfl, fun W hSw => by (try dsimp only at hSw); go_simp⟩) k3 ?_
          try simp only [Act.put, List.setIfInBounds_toArray, List.set_cons_zero, List.set_cons_succ]
          refine wpAnyH_ready (rs := [10]) (by kernel_rfl) (by simp) ?_
          refine AllReadyH.cons (o := ⟨some 18, _, _, _, _, _⟩) rfl (fun K hK => ?_) AllReadyH.nil
          go_simp
          have f4 := F3.out.al
          obtain ⟨Y4, hY4⟩ : ∃ y, y = Y3.alloc (.cells #[.int .u32 0, .int .u32 0, .int .u32 0, .int .u32 0, .int .u32 0, .int .u32 0, .int .u32 0, .int .u32 0, .int .u32 0, .int .u32 0, .int .u32 0, .int .u32 0, .int .u32 0, .int .u32 0, .int .u32 0, .int .u32 0] 28) := ⟨_, rfl⟩
          obtain ⟨B7, hB7⟩ : ∃ b, b = Y3.heap.size := ⟨_, rfl⟩
          rw [← hY4, ← hB7] at f4 ⊢
          have F4 := Lib.hid f4
          clear hY4 hB7 f4
          refine hK.out _ _ F4.out.fb (fun k4 => ?_)
          clear hK K
          try simp only [List.setIfInBounds_toArray, List.set_cons_zero, List.set_cons_succ]
          refine wpAnyH_ready (rs := [12]) (by kernel_rfl) (by simp) ?_
          refine AllReadyH.cons (o := ⟨none, _, _, _, _, _⟩) rfl (fun K hK => ?_) AllReadyH.nil
          obtain ⟨hb5, x5, hx5, hr5⟩ := F4.out.2.2.2.1 B7 rfl
          rw [if_pos (by rfl)]
          refine op_store _ _ _ rfl _ rfl _ rfl (HSR1.out _ _ _ hr5 hx5) ?_
          have f5 := F4.out.st HB6.out (mvR 100 1000)
          obtain ⟨Y5, hY5⟩ : ∃ y, y = Y4.setRow B7 (regA (mvR 100 1000)) := ⟨_, rfl⟩
          rw [← hY5] at f5 ⊢
          have F5 := Lib.hid f5
          clear hY5 f5 hb5 hx5 hr5 x5
          refine hK.out _ _ F5.out.fb (fun k5 => ?_)
          clear hK K
          try simp only [List.setIfInBounds_toArray, List.set_cons_zero, List.set_cons_succ]
          refine wpAnyH_ready (rs := [13]) (by kernel_rfl) (by simp) ?_
          refine AllReadyH.cons (o := ⟨none, _, _, _, _, _⟩) rfl (fun K hK => ?_) AllReadyH.nil
          obtain ⟨hb6, x6, hx6, hr6⟩ := F5.out.2.2.2.2 B8 rfl
          rw [if_pos (by rfl)]
          refine op_store _ _ _ rfl _ rfl _ rfl (HSP3.out _ _ _ hr6 hx6) ?_
          have f6 := F5.out.st2 (⟨0, 0, false, false, false, 0, 0, cc3, 0, 0⟩)
          obtain ⟨Y6, hY6⟩ : ∃ y, y = Y5.setRow B8 (pswA (⟨0, 0, false, false, false, 0, 0, cc3, 0, 0⟩)) := ⟨_, rfl⟩
          rw [← hY6] at f6 ⊢
          have F6 := Lib.hid f6.1
          have P6 := Lib.hid f6.2
          clear hY6 f6 hb6 hx6 hr6 x6
          refine hK.out _ _ F6.out.fb (fun k6 => ?_)
          clear hK K
          try simp only [List.setIfInBounds_toArray, List.set_cons_zero, List.set_cons_succ]
          refine wpAnyH_take (i := 14) (oi := ⟨some 20, _, _, _, _, _⟩) (v := .int .i64 0) rfl (by kernel_rfl) (by kernel_rfl) (by kernel_rfl) (fun _ _ _ h => by cases h.1) (Or.inl ⟨by rfl, fun W hSw => by (try dsimp only at hSw); go_simp⟩) k6 ?_
          try simp only [Act.put, List.setIfInBounds_toArray, List.set_cons_zero, List.set_cons_succ]
          refine wpAnyH_done (by kernel_rfl) ?_ _
          refine id ?_
          exact ⟨rfl, B7, B8, cut_mk rfl, F6.out.1, F6.out.2.1, F6.out.2.2.1, P6.out⟩
        · go_simp
          have f3 := F2.out.al
          obtain ⟨Y3, hY3⟩ : ∃ y, y = Y2.alloc (.cells #[.int .u32 0, .int .u32 0, .int .u32 0, .int .u32 0, .int .u32 0, .int .u32 0, .int .u32 0, .int .u32 0, .int .u32 0, .int .u32 0, .int .u32 0, .int .u32 0, .int .u32 0, .int .u32 0, .int .u32 0, .int .u32 0] 28) := ⟨_, rfl⟩
          obtain ⟨B7, hB7⟩ : ∃ b, b = Y2.heap.size := ⟨_, rfl⟩
          rw [← hY3, ← hB7] at f3 ⊢
          have F3 := Lib.hid f3
          clear hY3 hB7 f3
          refine hK.out _ _ F3.out.fb (fun k3 => ?_)
          clear hK K
          try simp only [List.setIfInBounds_toArray, List.set_cons_zero, List.set_cons_succ]
          refine wpAnyH_ready (rs := [5]) (by kernel_rfl) (by simp) ?_
          refine AllReadyH.cons (o := ⟨some 106, _, _, _, _, _⟩) rfl (fun K hK => ?_) AllReadyH.nil
          go_simp
          go_at_call 17
          refine (HE3.out A g h 1 Y3 F3.out.2.2.1).mono ?_
          rintro e Y4 ⟨rfl, hs, hk⟩
          have F4 := Lib.hid (F3.out.exec hs hk)
          clear hs hk
          go_wp2_with fail
          refine hK.out _ _ F4.out.fb (fun k4 => ?_)
          clear hK K
          try simp only [List.setIfInBounds_toArray, List.set_cons_zero, List.set_cons_succ]
          refine wpAnyH_take (i := 6) (oi := ⟨some 100, _, _, _, _, _⟩) (v := .tuple #[.agg #[.int .u32 0, .int .u32 0, .int .u32 0, .int .u32 0, .int .u32 0, .int .u32 0, .int .u32 0, .int .u32 0, .int .u32 0, .int .u32 0, .int .u32 0, .int .u32 0, .int .u32 0, .int .u32 0, .int .u32 100, .int .u32 1000], .agg #[.int .i64 0, .int .i64 0, .bool false, .bool false, .bool false, .int .i64 0, .int .i64 0, .int .i64 cc3, .int .i64 0, .int .i64 0], .int .i64 0]) rfl (by kernel_rfl) (by kernel_rfl) (by kernel_rfl) (fun _ _ _ h => by cases h.1) (Or.inl ⟨by rfl, fun W hSw => by (try dsimp only at hSw); go_simp⟩) k4 ?_
          try simp only [Act.put, List.setIfInBounds_toArray, List.set_cons_zero, List.set_cons_succ]
          refine wpAnyH_take (i := 7) (oi := ⟨some 107, _, _, _, _, _⟩) (v := .agg #[.int .u32 0, .int .u32 0, .int .u32 0, .int .u32 0, .int .u32 0, .int .u32 0, .int .u32 0, .int .u32 0, .int .u32 0, .int .u32 0, .int .u32 0, .int .u32 0, .int .u32 0, .int .u32 0, .int .u32 100, .int .u32 1000]) rfl (by kernel_rfl) (by kernel_rfl) (by kernel_rfl) (fun _ _ _ h => by cases h.1) (Or.inl ⟨by rfl, fun W hSw => by (try dsimp only at hSw); go_simp⟩) k4 ?_
          try simp only [Act.put, List.setIfInBounds_toArray, List.set_cons_zero, List.set_cons_succ]
          refine wpAnyH_take (i := 8) (oi := ⟨some 108, _, _, _, _, _⟩) (v := .agg #[.int .i64 0, .int .i64 0, .bool false, .bool false, .bool false, .int .i64 0, .int .i64 0, .int .i64 cc3, .int .i64 0, .int .i64 0]) rfl (by kernel_rfl) (by kernel_rfl) (by kernel_rfl) (fun _ _ _ h => by cases h.1) (Or.inl ⟨by rfl, fun W hSw => by (try dsimp only at hSw); go_simp⟩) k4 ?_
          try simp only [Act.put, List.setIfInBounds_toArray, List.set_cons_zero, List.set_cons_succ]
          refine wpAnyH_take (i := 9) (oi := ⟨some 109, _, _, _, _, _⟩) (v := .int .i64 0) rfl (by kernel_rfl) (by kernel_rfl) (by kernel_rfl) (fun _ _ _ h => by cases h.1) (Or.inl ⟨by rfl, fun W hSw => by (try dsimp only at hSw); go_simp⟩) k4 ?_
          try simp only [Act.put, List.setIfInBounds_toArray, List.set_cons_zero, List.set_cons_succ]
          refine wpAnyH_ready (rs := [12]) (by kernel_rfl) (by simp) ?_
          refine AllReadyH.cons (o := ⟨none, _, _, _, _, _⟩) rfl (fun K hK => ?_) AllReadyH.nil
          obtain ⟨hb5, x5, hx5, hr5⟩ := F4.out.2.2.2.1 B7 rfl
          rw [if_pos (by rfl)]
          refine op_store _ _ _ rfl _ rfl _ rfl (HSR1.out _ _ _ hr5 hx5) ?_
          have f5 := F4.out.st HB6.out (mvR 100 1000)
          obtain ⟨Y5, hY5⟩ : ∃ y, y = Y4.setRow B7 (regA (mvR 100 1000)) := ⟨_, rfl⟩
          rw [← hY5] at f5 ⊢
          have F5 := Lib.hid f5
          clear hY5 f5 hb5 hx5 hr5 x5
          refine hK.out _ _ F5.out.fb (fun k5 => ?_)
          clear hK K
          try simp only [List.setIfInBounds_toArray, List.set_cons_zero, List.set_cons_succ]
          refine wpAnyH_ready (rs := [13]) (by kernel_rfl) (by simp) ?_
          refine AllReadyH.cons (o := ⟨none, _, _, _, _, _⟩) rfl (fun K hK => ?_) AllReadyH.nil
          obtain ⟨hb6, x6, hx6, hr6⟩ := F5.out.2.2.2.2 B8 rfl
          rw [if_pos (by rfl)]
          refine op_store _ _ _ rfl _ rfl _ rfl (HSP3.out _ _ _ hr6 hx6) ?_
          have f6 := F5.out.st2 (⟨0, 0, false, false, false, 0, 0, cc3, 0, 0⟩)
          obtain ⟨Y6, hY6⟩ : ∃ y, y = Y5.setRow B8 (pswA (⟨0, 0, false, false, false, 0, 0, cc3, 0, 0⟩)) := ⟨_, rfl⟩
          rw [← hY6] at f6 ⊢
          have F6 := Lib.hid f6.1
          have P6 := Lib.hid f6.2
          clear hY6 f6 hb6 hx6 hr6 x6
          refine hK.out _ _ F6.out.fb (fun k6 => ?_)
          clear hK K
          try simp only [List.setIfInBounds_toArray, List.set_cons_zero, List.set_cons_succ]
          refine wpAnyH_take (i := 14) (oi := ⟨some 20, _, _, _, _, _⟩) (v := .int .i64 0) rfl (by kernel_rfl) (by kernel_rfl) (by kernel_rfl) (fun _ _ _ h => by cases h.1) (Or.inl ⟨by rfl, fun W hSw => by (try dsimp only at hSw); go_simp⟩) k6 ?_
          try simp only [Act.put, List.setIfInBounds_toArray, List.set_cons_zero, List.set_cons_succ]
          refine wpAnyH_done (by kernel_rfl) ?_ _
          refine id ?_
          exact ⟨rfl, B7, B8, cut_mk rfl, F6.out.1, F6.out.2.1, F6.out.2.2.1, P6.out⟩
      · go_simp
        have f2 := F1.out.al
        obtain ⟨Y2, hY2⟩ : ∃ y, y = Y1.alloc (.cells #[.int .u32 0, .int .u32 0, .int .u32 0, .int .u32 0, .int .u32 0, .int .u32 0, .int .u32 0, .int .u32 0, .int .u32 0, .int .u32 0, .int .u32 0, .int .u32 0, .int .u32 0, .int .u32 0, .int .u32 0, .int .u32 0] 28) := ⟨_, rfl⟩
        obtain ⟨B7, hB7⟩ : ∃ b, b = Y1.heap.size := ⟨_, rfl⟩
        rw [← hY2, ← hB7] at f2 ⊢
        have F2 := Lib.hid f2
        clear hY2 hB7 f2
        refine hK.out _ _ F2.out.fb (fun k2 => ?_)
        clear hK K
        try simp only [List.setIfInBounds_toArray, List.set_cons_zero, List.set_cons_succ]
        refine wpAnyH_ready (rs := [1]) (by kernel_rfl) (by simp) ?_
        refine AllReadyH.cons (o := ⟨some 102, _, _, _, _, _⟩) rfl (fun K hK => ?_) AllReadyH.nil
        go_simp
        go_at_call 27
        refine (HSS1.out Y2).mono ?_
        rintro e Y3 ⟨rfl, hb⟩
        have F3 := Lib.hid (F2.out.below hb)
        clear hb
        go_wp2_with fail
        refine hK.out _ _ F3.out.fb (fun k3 => ?_)
        clear hK K
        try simp only [List.setIfInBounds_toArray, List.set_cons_zero, List.set_cons_succ]
        refine wpAnyH_ready (rs := [5]) (by kernel_rfl) (by simp) ?_
        refine AllReadyH.cons (o := ⟨some 106, _, _, _, _, _⟩) rfl (fun K hK => ?_) AllReadyH.nil
        go_simp
        go_at_call 17
        refine (HE3.out A g h 1 Y3 F3.out.2.2.1).mono ?_
        rintro e Y4 ⟨rfl, hs, hk⟩
        have F4 := Lib.hid (F3.out.exec hs hk)
        clear hs hk
        go_wp2_with fail
        refine hK.out _ _ F4.out.fb (fun k4 => ?_)
        clear hK K
        try simp only [List.setIfInBounds_toArray, List.set_cons_zero, List.set_cons_succ]
        refine wpAnyH_take (i := 6) (oi := ⟨some 100, _, _, _, _, _⟩) (v := .tuple #[.agg #[.int .u32 0, .int .u32 0, .int .u32 0, .int .u32 0, .int .u32 0, .int .u32 0, .int .u32 0, .int .u32 0, .int .u32 0, .int .u32 0, .int .u32 0, .int .u32 0, .int .u32 0, .int .u32 0, .int .u32 100, .int .u32 1000], .agg #[.int .i64 0, .int .i64 0, .bool false, .bool false, .bool false, .int .i64 0, .int .i64 0, .int .i64 cc3, .int .i64 0, .int .i64 0], .int .i64 0]) rfl (by kernel_rfl) (by kernel_rfl) (by kernel_rfl) (fun _ _ _ h => by cases h.1) (Or.inl ⟨by rfl, fun W hSw => by (try dsimp only at hSw); go_simp⟩) k4 ?_
        try simp only [Act.put, List.setIfInBounds_toArray, List.set_cons_zero, List.set_cons_succ]
        refine wpAnyH_take (i := 7) (oi := ⟨some 107, _, _, _, _, _⟩) (v := .agg #[.int .u32 0, .int .u32 0, .int .u32 0, .int .u32 0, .int .u32 0, .int .u32 0, .int .u32 0, .int .u32 0, .int .u32 0, .int .u32 0, .int .u32 0, .int .u32 0, .int .u32 0, .int .u32 0, .int .u32 100, .int .u32 1000]) rfl (by kernel_rfl) (by kernel_rfl) (by kernel_rfl) (fun _ _ _ h => by cases h.1) (Or.inl ⟨by rfl, fun W hSw => by (try dsimp only at hSw); go_simp⟩) k4 ?_
        try simp only [Act.put, List.setIfInBounds_toArray, List.set_cons_zero, List.set_cons_succ]
        refine wpAnyH_take (i := 8) (oi := ⟨some 108, _, _, _, _, _⟩) (v := .agg #[.int .i64 0, .int .i64 0, .bool false, .bool false, .bool false, .int .i64 0, .int .i64 0, .int .i64 cc3, .int .i64 0, .int .i64 0]) rfl (by kernel_rfl) (by kernel_rfl) (by kernel_rfl) (fun _ _ _ h => by cases h.1) (Or.inl ⟨by rfl, fun W hSw => by (try dsimp only at hSw); go_simp⟩) k4 ?_
        try simp only [Act.put, List.setIfInBounds_toArray, List.set_cons_zero, List.set_cons_succ]
        refine wpAnyH_take (i := 9) (oi := ⟨some 109, _, _, _, _, _⟩) (v := .int .i64 0) rfl (by kernel_rfl) (by kernel_rfl) (by kernel_rfl) (fun _ _ _ h => by cases h.1) (Or.inl ⟨by rfl, fun W hSw => by (try dsimp only at hSw); go_simp⟩) k4 ?_
        try simp only [Act.put, List.setIfInBounds_toArray, List.set_cons_zero, List.set_cons_succ]
        refine wpAnyH_ready (rs := [12]) (by kernel_rfl) (by simp) ?_
        refine AllReadyH.cons (o := ⟨none, _, _, _, _, _⟩) rfl (fun K hK => ?_) AllReadyH.nil
        obtain ⟨hb5, x5, hx5, hr5⟩ := F4.out.2.2.2.1 B7 rfl
        rw [if_pos (by rfl)]
        refine op_store _ _ _ rfl _ rfl _ rfl (HSR1.out _ _ _ hr5 hx5) ?_
        have f5 := F4.out.st HB6.out (mvR 100 1000)
        obtain ⟨Y5, hY5⟩ : ∃ y, y = Y4.setRow B7 (regA (mvR 100 1000)) := ⟨_, rfl⟩
        rw [← hY5] at f5 ⊢
        have F5 := Lib.hid f5
        clear hY5 f5 hb5 hx5 hr5 x5
        refine hK.out _ _ F5.out.fb (fun k5 => ?_)
        clear hK K
        try simp only [List.setIfInBounds_toArray, List.set_cons_zero, List.set_cons_succ]
        refine wpAnyH_ready (rs := [13]) (by kernel_rfl) (by simp) ?_
        refine AllReadyH.cons (o := ⟨none, _, _, _, _, _⟩) rfl (fun K hK => ?_) AllReadyH.nil
        obtain ⟨hb6, x6, hx6, hr6⟩ := F5.out.2.2.2.2 B8 rfl
        rw [if_pos (by rfl)]
        refine op_store _ _ _ rfl _ rfl _ rfl (HSP3.out _ _ _ hr6 hx6) ?_
        have f6 := F5.out.st2 (⟨0, 0, false, false, false, 0, 0, cc3, 0, 0⟩)
        obtain ⟨Y6, hY6⟩ : ∃ y, y = Y5.setRow B8 (pswA (⟨0, 0, false, false, false, 0, 0, cc3, 0, 0⟩)) := ⟨_, rfl⟩
        rw [← hY6] at f6 ⊢
        have F6 := Lib.hid f6.1
        have P6 := Lib.hid f6.2
        clear hY6 f6 hb6 hx6 hr6 x6
        refine hK.out _ _ F6.out.fb (fun k6 => ?_)
        clear hK K
        try simp only [List.setIfInBounds_toArray, List.set_cons_zero, List.set_cons_succ]
        refine wpAnyH_take (i := 14) (oi := ⟨some 20, _, _, _, _, _⟩) (v := .int .i64 0) rfl (by kernel_rfl) (by kernel_rfl) (by kernel_rfl) (fun _ _ _ h => by cases h.1) (Or.inl ⟨by rfl, fun W hSw => by (try dsimp only at hSw); go_simp⟩) k6 ?_
        try simp only [Act.put, List.setIfInBounds_toArray, List.set_cons_zero, List.set_cons_succ]
        refine wpAnyH_done (by kernel_rfl) ?_ _
        refine id ?_
        exact ⟨rfl, B7, B8, cut_mk rfl, F6.out.1, F6.out.2.1, F6.out.2.2.1, P6.out⟩
  rintro e a z2 ⟨rfl, B7, B8, ⟨u, rfl⟩, hkp, hr, hst, -⟩
  have HBz2 := Lib.hid (Kp.below HBz1.out hkp (by simpa using HG.out))
  have HSTz2 := Lib.hid hst
  have HRa2 := Lib.hid hr
  have HRb2 := Lib.hid (HRa1.out.kp hkp (by simpa using HGN.out.2))
  clear hkp hr hst HE3 HB6 HSP3 HRb1 HRa1 HSTz1 HBz1
  go_wp2_with fail
  refine (HY1.out A g h _ HSTz2.out).mono ?_
  rintro e t1 ⟨v6, rfl, ho, hb⟩
  have HSV := Lib.hid ho.svb
  have HBt := Lib.hid (bel0 HBz2.out hb)
  have HST6 := Lib.hid (HSTz2.out.below hb)
  clear ho hb HY1 HBz2 HSTz2
  go_wp2_with fail
  refine (same9 _ _ (cL l1 n n) t1 HSV.out (HCV.out.below HBt.out)).mono ?_
  rintro e t2 ⟨rfl, hb⟩
  have HBu := Lib.hid (bel0 HBt.out hb)
  have HST7 := Lib.hid (HST6.out.below hb)
  clear hb HSV HBt HST6
  go_wp2_with fail
  refine (HY2.out A g h _ HST7.out).mono ?_
  rintro e t3 ⟨v8, rfl, ho, hb⟩
  have HSV := Lib.hid ho.svb
  have HBt := Lib.hid (bel0 HBu.out hb)
  clear ho hb HY2 HBu HST7
  go_wp2_with fail
  refine (same9 _ _ l t3 HSV.out (HAV.out.below HBt.out)).mono ?_
  rintro e t4 ⟨rfl, hb⟩
  have HBF := Lib.hid (bel0 HBW.out (bel0 HBt.out hb))
  clear hb HSV HBt
  go_wp2
  go_ret
  exact ⟨rfl, HBF.out⟩

end M
end Go.Proofs.YtfopjnfphlkcgaaGreat

/- The walk of the statement GeneralMoves. -/
import Derived.Test.YtfopjnfphlkcgaaGreatRows
import Derived.Deep.MidRow
import Derived.Deep.Slices
import Derived.Test.YtfopjnfphlkcgaaGreatGnFs
import Derived.Test.YtfopjnfphlkcgaaGreatGnMe
import Derived.Test.YtfopjnfphlkcgaaGreatGnWorks
import Derived.Test.YtfopjnfphlkcgaaGreatPsLaid
namespace Go.Proofs.YtfopjnfphlkcgaaGreat
open Go.RowKit Go.Shelf E
set_option linter.unusedVariables false
namespace M

theorem cut_mk {f : (Nat → Value) → Act} {a : Act} (h : a = f (fun i => a.tmps.getD i undef)) : ∃ u, a = f u := ⟨_, h⟩
theorem byt_of {bs l : List UInt8} {x k : Nat} (h : x + k ≤ 2048) (hs : subL bs x k = l) : bytL 2048 bs (x : Int) (k : Int) = l := by
  unfold bytL
  rw [if_pos (inB_iff.2 ⟨by omega, by omega, by omega⟩), Int.toNat_natCast, Int.toNat_natCast]
  exact hs
theorem byts_any (A g h : Nat) (ks : List UInt8) (bs l : List UInt8) (x k : Nat) (X : World) (hX : Sto X A g h 2048 1 bs ks) (hk : x + k ≤ 2048) (hs : subL bs x k = l) : Calls Tryz.prog 20 #[.pointer (some ⟨A, 0, none⟩), .int .i64 (x : Int), .int .i64 (k : Int)] X (BytPost X l) := by
  have h1 := bytes_any A g h 2048 1 (x : Int) (k : Int) bs ks X (by omega) hX
  rw [byt_of hk hs] at h1
  exact h1
theorem exec_st {P : Program} {o : Oper} {a : Act} {w w' : World} (t : TypeId) (x y : Operand) (hop : o.op = Op.store t x y) (ad : Addr) (hp : a.eval x = .pointer (some ad)) (v : Value) (hv : a.eval y = v) (hs : (storeVar t ad v).run P w = .ok () w') : (execOp a.eval o).run P w = .ok .skip w' := by
  simp [execOp, hop, hp, hv, Instr.storeAt, Instr.sureAddr, hs, Result.andThen]
theorem sv_first {w : World} {p : Option Addr} {n c : Nat} {l : List UInt8} (h : SvB w (.slice p n c) l) (hn : 1 ≤ l.length) : ∃ B o, p = some ⟨B, o, none⟩ ∧ w.cell? ⟨B, o, none⟩ = some (.int .u8 ((gt l 0).toNat : Int)) := by
  obtain ⟨q, d, hv, hr, -, -, -⟩ := h
  cases hv
  rcases hr with h0 | ⟨B, o, rfl, hc⟩
  · rw [h0] at hn
    exact absurd hn (by decide)
  · have := hc 0 (by omega)
    rw [Nat.add_zero] at this
    exact ⟨B, o, rfl, this⟩
theorem gt_rep {n k : Nat} {x : UInt8} (h : k < n) : gt (List.replicate n x) k = x := by
  unfold gt
  simp [List.getD_eq_getElem?_getD, h]
/-- What the three instructions leave. -/
theorem moves_exec (l : List UInt8) (n : Nat) (ks : List UInt8) (hl : l.length = n) (hn : 1 ≤ n) (hn2 : n ≤ 256) : ∃ b1 b2 b3 : List UInt8, subL b1 1000 n = l ∧ subL b1 100 n = l ∧ subL b2 100 (n + 1) = List.replicate (n + 1) (gt l 0) ∧ subL b3 1000 n = List.replicate n 0 ∧
    (∀ A g h m w, Sto w A g h 2048 m (E.putL (List.replicate 2048 0) 100 l) ks → Calls Tryz.prog 17 #[.agg #[.int .i64 210, .int .i64 5, .int .i64 0, .int .i64 0, .int .i64 0, .int .i64 14, .int .i64 0, .int .i64 15, .int .i64 0, .int .i64 ((n : Int) - 1), .int .i64 0, .int .i64 0], .agg #[.int .u32 0, .int .u32 0, .int .u32 0, .int .u32 0, .int .u32 0, .int .u32 0, .int .u32 0, .int .u32 0, .int .u32 0, .int .u32 0, .int .u32 0, .int .u32 0, .int .u32 0, .int .u32 0, .int .u32 1000, .int .u32 100], .agg #[.int .i64 0, .int .i64 0, .bool false, .bool false, .bool false, .int .i64 0, .int .i64 0, .int .i64 0, .int .i64 0, .int .i64 0], .pointer (some ⟨A, 0, none⟩)] w fun e w' => e = .returned (.tuple #[.agg #[.int .u32 0, .int .u32 0, .int .u32 0, .int .u32 0, .int .u32 0, .int .u32 0, .int .u32 0, .int .u32 0, .int .u32 0, .int .u32 0, .int .u32 0, .int .u32 0, .int .u32 0, .int .u32 0, .int .u32 1000, .int .u32 100], .agg #[.int .i64 0, .int .i64 0, .bool false, .bool false, .bool false, .int .i64 0, .int .i64 0, .int .i64 0, .int .i64 0, .int .i64 0], .int .i64 0]) ∧ Sto w' A g h 2048 m b1 ks ∧ Kp w w' [g]) ∧
    (∀ A g h m w, Sto w A g h 2048 m b1 ks → Calls Tryz.prog 17 #[.agg #[.int .i64 210, .int .i64 5, .int .i64 0, .int .i64 0, .int .i64 0, .int .i64 14, .int .i64 0, .int .i64 15, .int .i64 0, .int .i64 ((n : Int) - 1), .int .i64 0, .int .i64 0], .agg #[.int .u32 0, .int .u32 0, .int .u32 0, .int .u32 0, .int .u32 0, .int .u32 0, .int .u32 0, .int .u32 0, .int .u32 0, .int .u32 0, .int .u32 0, .int .u32 0, .int .u32 0, .int .u32 0, .int .u32 101, .int .u32 100], .agg #[.int .i64 0, .int .i64 0, .bool false, .bool false, .bool false, .int .i64 0, .int .i64 0, .int .i64 0, .int .i64 0, .int .i64 0], .pointer (some ⟨A, 0, none⟩)] w fun e w' => e = .returned (.tuple #[.agg #[.int .u32 0, .int .u32 0, .int .u32 0, .int .u32 0, .int .u32 0, .int .u32 0, .int .u32 0, .int .u32 0, .int .u32 0, .int .u32 0, .int .u32 0, .int .u32 0, .int .u32 0, .int .u32 0, .int .u32 101, .int .u32 100], .agg #[.int .i64 0, .int .i64 0, .bool false, .bool false, .bool false, .int .i64 0, .int .i64 0, .int .i64 0, .int .i64 0, .int .i64 0], .int .i64 0]) ∧ Sto w' A g h 2048 m b2 ks ∧ Kp w w' [g]) ∧
    (∀ A g h m w, Sto w A g h 2048 m b2 ks → Calls Tryz.prog 17 #[.agg #[.int .i64 215, .int .i64 5, .int .i64 0, .int .i64 0, .int .i64 0, .int .i64 14, .int .i64 0, .int .i64 15, .int .i64 0, .int .i64 ((n : Int) - 1), .int .i64 0, .int .i64 0], .agg #[.int .u32 0, .int .u32 0, .int .u32 0, .int .u32 0, .int .u32 0, .int .u32 0, .int .u32 0, .int .u32 0, .int .u32 0, .int .u32 0, .int .u32 0, .int .u32 0, .int .u32 0, .int .u32 0, .int .u32 1000, .int .u32 1000], .agg #[.int .i64 0, .int .i64 0, .bool false, .bool false, .bool false, .int .i64 0, .int .i64 0, .int .i64 2, .int .i64 0, .int .i64 0], .pointer (some ⟨A, 0, none⟩)] w fun e w' => e = .returned (.tuple #[.agg #[.int .u32 0, .int .u32 0, .int .u32 0, .int .u32 0, .int .u32 0, .int .u32 0, .int .u32 0, .int .u32 0, .int .u32 0, .int .u32 0, .int .u32 0, .int .u32 0, .int .u32 0, .int .u32 0, .int .u32 1000, .int .u32 1000], .agg #[.int .i64 0, .int .i64 0, .bool false, .bool false, .bool false, .int .i64 0, .int .i64 0, .int .i64 0, .int .i64 0, .int .i64 0], .int .i64 0]) ∧ Sto w' A g h 2048 m b3 ks ∧ Kp w w' [g]) := by
  have hZ : (List.replicate 2048 (0 : UInt8)).length = 2048 := List.length_replicate ..
  obtain ⟨b0, hb0⟩ : ∃ b, b = E.putL (List.replicate 2048 0) 100 l := ⟨_, rfl⟩
  have l0 : b0.length = 2048 := by rw [hb0, E.putL_len (by omega), hZ]
  have s0 : subL b0 100 n = l := by rw [hb0]; exact subL_at hl (by omega)
  have f1 : ssF 210 n 1000 100 b0 = l := (ssF_move (by omega) (by omega) (by omega)).trans s0
  obtain ⟨b1, hb1⟩ : ∃ b, b = E.putL b0 1000 l := ⟨_, rfl⟩
  have l1 : b1.length = 2048 := by rw [hb1, E.putL_len (by omega), l0]
  have s1 : subL b1 1000 n = l := by rw [hb1]; exact subL_at hl (by omega)
  have s2 : subL b1 100 n = l := by rw [hb1, subL_far (by omega) (by omega) (by omega), s0]
  obtain ⟨F2, hF2⟩ : ∃ F, F = ssF 210 n 101 100 b1 := ⟨_, rfl⟩
  have lF2 : F2.length = n := by rw [hF2]; exact ssF_len (by omega)
  obtain ⟨b2, hb2⟩ : ∃ b, b = E.putL b1 101 F2 := ⟨_, rfl⟩
  have l2 : b2.length = 2048 := by rw [hb2, E.putL_len (by omega), l1]
  have g0 : gt b1 100 = gt l 0 := by
    have h := gt_subL (l := b1) (a := 100) (k := n) 0 (by omega)
    rw [s2] at h
    exact h.symm
  have s3 : subL b2 100 (n + 1) = List.replicate (n + 1) (gt l 0) := by
    refine ext_gt (by rw [subL_len (by omega), List.length_replicate]) (fun j hj => ?_)
    rw [List.length_replicate] at hj
    have e2 : gt (List.replicate (n + 1) (gt l 0)) j = gt l 0 := by
      unfold gt
      simp [List.getD_eq_getElem?_getD, hj]
    rw [gt_subL j hj, hb2, gt_putL (by omega), e2]
    by_cases hj0 : j = 0
    · subst hj0
      rw [if_neg (by omega)]
      exact g0
    · rw [if_pos (by omega), hF2, ssF_spread (b := 100) (by omega) _ (by omega), s2]
  obtain ⟨b3, hb3⟩ : ∃ b, b = E.putL b2 1000 (List.replicate n (0 : UInt8)) := ⟨_, rfl⟩
  have lz : (List.replicate n (0 : UInt8)).length = n := List.length_replicate ..
  have s4 : subL b3 1000 n = List.replicate n 0 := by rw [hb3]; exact subL_at lz (by omega)
  have f3 : ssF 215 n 1000 1000 b2 = List.replicate n 0 := ssF_self (by omega)
  refine ⟨b1, b2, b3, s1, s2, s3, s4, ?_, ?_, ?_⟩
  · intro A g h m w hst
    rw [← hb0] at hst
    have h1 := ss_exec 210 n 1000 100 0 b0 ks (.inl rfl) hn hn2 (by omega) (by omega) l0 (by kernel_rfl) A g h m w hst
    rw [if_neg (by decide), f1, ← hb1] at h1
    exact h1
  · intro A g h m w hst
    have h1 := ss_exec 210 n 101 100 0 b1 ks (.inl rfl) hn hn2 (by omega) (by omega) l1 (by kernel_rfl) A g h m w hst
    rw [if_neg (by decide), ← hF2, ← hb2] at h1
    exact h1
  · intro A g h m w hst
    have h1 := ss_exec 215 n 1000 1000 2 b2 ks (.inr rfl) hn hn2 (by omega) (by omega) l2 (by kernel_rfl) A g h m w hst
    have hc : ccB (List.replicate n (0 : UInt8)) = 0 := by
      unfold ccB
      rw [if_pos]
      rw [List.all_eq_true]
      intro x hx
      rw [(List.mem_replicate.1 hx).2]
      rfl
    rw [if_pos rfl, f3, hc, ← hb3] at h1
    exact h1
def mvA (v : Value) (u : Nat → Value) : Act := { tmps := #[v, u 1, .bool false, u 3, u 4, u 5, u 6, u 7, u 8, u 9, u 10, u 11, u 12, u 13, u 14, u 15, u 16, u 17, u 18, u 19, u 20, u 21, u 22, u 23, u 24, u 25, u 26, u 27, u 28, u 29, u 30, u 31, u 32, u 33, u 34, u 35, u 36, u 37, u 38, u 39, u 40, u 41, u 42, u 43, u 44, u 45, u 46, u 47, u 48, u 49, u 50, u 51, u 52, u 53, u 54, u 55, u 56, u 57, u 58, u 59, u 60, u 61, u 62, u 63, u 64, u 65, u 66, u 67, u 68, u 69, u 70, u 71, u 72, u 73, u 74, u 75, u 76, u 77, u 78, u 79, u 80, u 81, u 82, u 83, u 84, u 85, u 86, u 87, u 88, u 89, u 90, u 91, u 92, u 93, u 94, u 95, u 96, u 97, u 98, u 99, u 100, u 101, u 102, u 103, u 104, u 105, u 106, u 107, u 108, u 109, u 110, u 111, u 112, u 113, u 114, u 115, u 116, u 117, u 118, u 119, u 120, u 121, u 122, u 123, u 124, u 125, u 126, u 127, u 128, u 129, u 130, u 131, u 132, u 133, u 134, u 135, u 136, u 137, u 138, u 139, u 140], defers := [] }
/-- The bytes that are moved: those given, or one. -/
def MvP (W : World) (e : Exit) (a : Act) (W' : World) : Prop := e = .normal ∧ ∃ (PB po n c : Nat) (l : List UInt8), (∃ u : Nat → Value, a = mvA (.slice (some ⟨PB, po, none⟩) n c) u) ∧ SvB W' (.slice (some ⟨PB, po, none⟩) n c) l ∧ n = l.length ∧ (1 ≤ n ∧ n ≤ 256) ∧ Below W.heap.size W W'
set_option maxRecDepth 100000 in
set_option maxHeartbeats 40000000 in
theorem wk_moves (v : Value) (l0 : List UInt8) (w : World) (hv0 : SvB w v l0) : Calls Tryz.prog 9 #[v] w (New w (.bool true)) := by
  go_enter Tryz.func9, Tryz.ntmps9
  refine wp_seq (Code.wp_mono (Q := fun e a W => Hid (e = .normal ∧ W = w ∧ a = { tmps := #[v, undef, .bool false, undef, undef, undef, undef, undef, undef, undef, undef, undef, undef, undef, undef, undef, undef, undef, undef, undef, undef, undef, undef, undef, undef, undef, undef, undef, undef, undef, undef, undef, undef, undef, undef, undef, undef, undef, undef, undef, undef, undef, undef, undef, undef, undef, undef, undef, undef, undef, undef, undef, undef, undef, undef, undef, undef, undef, undef, undef, undef, undef, undef, undef, undef, undef, undef, undef, undef, undef, undef, undef, undef, undef, undef, undef, undef, undef, undef, undef, undef, undef, undef, undef, undef, undef, undef, undef, undef, undef, undef, undef, undef, undef, undef, undef, undef, undef, undef, undef, undef, undef, undef, undef, undef, undef, undef, undef, undef, undef, undef, undef, undef, undef, undef, undef, undef, undef, undef, undef, undef, undef, undef, undef, undef, undef, undef, undef, undef, undef, undef, undef, undef, undef, undef, undef, undef, undef, undef, undef, undef], defers := [] })) ?_ ?_)
  rotate_left
  · go_wp2
    exact Lib.hid trivial
  intro e a W hH
  obtain ⟨rfl, rfl, rfl⟩ := hH.out
  clear hH
  refine wp_seq (Code.wp_mono (Q := MvP W) ?_ ?_)
  rotate_left
  · obtain ⟨n, hn⟩ : ∃ n, n = l0.length := ⟨_, rfl⟩
    by_cases hg : 1 ≤ n ∧ n ≤ 256
    · have hv2 := hv0
      obtain ⟨p, c, hvv, -, -, -, -⟩ := hv2
      subst hvv
      obtain ⟨PB, po, rfl, -⟩ := sv_first hv0 (by omega)
      rw [← hn] at hv0 ⊢
      have HV := Lib.hid hv0
      have HLN := Lib.hid hn
      clear hn hv0
      have hz : ((n : Int) == 0) = false := by
        have : n ≠ 0 := by omega
        simpa using this
      have hn0' : ¬ ((n : Int) = 0) := by omega
      have hn2' : ¬ (256 < (n : Int)) := by omega
      go_wp2
      unfold MvP
      exact ⟨rfl, PB, po, n, c, l0, cut_mk rfl, HV.out, HLN.out, hg, Below.refl _ _⟩
    · obtain ⟨p, c, hvv, -, -, -, -⟩ := hv0
      subst hvv
      rw [← hn]
      clear hn
      by_cases h0 : n = 0
      · subst h0
        go_wp2
        unfold MvP
        exact ⟨rfl, W.heap.size, 0, 1, 1, [7], cut_mk rfl, svb_new W [7] (by decide), rfl, ⟨by decide, by decide⟩, below_new _ _⟩
      · have hz : ((n : Int) == 0) = false := by simpa using h0
        have hn0' : ¬ ((n : Int) = 0) := by omega
        have hn2' : 256 < (n : Int) := by omega
        go_wp2
        unfold MvP
        exact ⟨rfl, W.heap.size, 0, 1, 1, [7], cut_mk rfl, svb_new W [7] (by decide), rfl, ⟨by decide, by decide⟩, below_new _ _⟩
  clear hv0
  intro e a W0 hH
  unfold MvP at hH
  obtain ⟨rfl, PB, po, n, c, l, ⟨u0, rfl⟩, hv, hn, ⟨hn1, hn2⟩, hb0⟩ := hH
  unfold mvA
  have HB0 := Lib.hid hb0
  obtain ⟨b1, b2, b3, s1, s2, s3, s4, h1, h2, h3⟩ := moves_exec l n (List.replicate 1 0) hn.symm hn1 hn2
  obtain ⟨PB', po', hpe, hcell0⟩ := sv_first hv (by omega)
  obtain ⟨rfl, rfl⟩ : PB = PB' ∧ po = po' := by
    injection hpe with h
    injection h with h1 h2
    exact ⟨h1, h2⟩
  clear hpe hb0
  have HV := Lib.hid hv
  have HLN := Lib.hid hn
  clear hn hv
  have HS := Lib.hid (And.intro s1 (And.intro s2 (And.intro s3 s4)))
  have HE1 := Lib.hid h1
  have HE2 := Lib.hid h2
  have HE3 := Lib.hid h3
  clear s1 s2 s3 s4 h1 h2 h3
  have HNEW := Lib.hid (new_any 2048 W0 (by decide))
  have HW := Lib.hid (fun X => works_any X)
  have HSS1 : Hid (∀ X, Calls Tryz.prog 27 #[.int .i64 210, .int .i64 (n : Int)] X (New X (.agg #[.int .i64 210, .int .i64 5, .int .i64 0, .int .i64 0, .int .i64 0, .int .i64 14, .int .i64 0, .int .i64 15, .int .i64 0, .int .i64 ((n : Int) - 1), .int .i64 0, .int .i64 0]))) := Lib.hid (fun X => ss_any 210 n X hn1 hn2)
  have HSS2 : Hid (∀ X, Calls Tryz.prog 27 #[.int .i64 215, .int .i64 (n : Int)] X (New X (.agg #[.int .i64 215, .int .i64 5, .int .i64 0, .int .i64 0, .int .i64 0, .int .i64 14, .int .i64 0, .int .i64 15, .int .i64 0, .int .i64 ((n : Int) - 1), .int .i64 0, .int .i64 0]))) := Lib.hid (fun X => ss_any 215 n X hn1 hn2)
  have HSR1 : Hid (∀ (W : World) B x, Bx W B 28 x → x.size = 16 → (storeVar 28 ⟨B, 0, none⟩ (.agg #[.int .u32 0, .int .u32 0, .int .u32 0, .int .u32 0, .int .u32 0, .int .u32 0, .int .u32 0, .int .u32 0, .int .u32 0, .int .u32 0, .int .u32 0, .int .u32 0, .int .u32 0, .int .u32 0, .int .u32 1000, .int .u32 100])).run Tryz.prog W = .ok () (W.setRow B (regA (mvR 1000 100)))) := Lib.hid (fun W B x h hx => store_regs h hx (mvR 1000 100))
  have HSR3 : Hid (∀ (W : World) B x, Bx W B 28 x → x.size = 16 → (storeVar 28 ⟨B, 0, none⟩ (.agg #[.int .u32 0, .int .u32 0, .int .u32 0, .int .u32 0, .int .u32 0, .int .u32 0, .int .u32 0, .int .u32 0, .int .u32 0, .int .u32 0, .int .u32 0, .int .u32 0, .int .u32 0, .int .u32 0, .int .u32 1000, .int .u32 1000])).run Tryz.prog W = .ok () (W.setRow B (regA (mvR 1000 1000)))) := Lib.hid (fun W B x h hx => store_regs h hx (mvR 1000 1000))
  have HSP1 : Hid (∀ (W : World) B x, Bx W B 30 x → x.size = 10 → (storeVar 30 ⟨B, 0, none⟩ (.agg #[.int .i64 0, .int .i64 0, .bool false, .bool false, .bool false, .int .i64 0, .int .i64 0, .int .i64 0, .int .i64 0, .int .i64 0])).run Tryz.prog W = .ok () (W.setRow B (pswA ⟨0, 0, false, false, false, 0, 0, 0, 0, 0⟩))) := Lib.hid (fun W B x h hx => store_psw h hx ⟨0, 0, false, false, false, 0, 0, 0, 0, 0⟩)
  have HB1000 := Lib.hid (fun A g h (X : World) (hX : Sto X A g h 2048 1 b1 (List.replicate 1 0)) => byts_any A g h _ b1 l 1000 n X hX (by omega) HS.out.1)
  have HB100 := Lib.hid (fun A g h (X : World) (hX : Sto X A g h 2048 1 b1 (List.replicate 1 0)) => byts_any A g h _ b1 l 100 n X hX (by omega) HS.out.2.1)
  have HBALL : Hid (∀ A g h (X : World), Sto X A g h 2048 1 b2 (List.replicate 1 0) → Calls Tryz.prog 20 #[.pointer (some ⟨A, 0, none⟩), .int .i64 100, .int .i64 ((n : Int) + 1)] X (BytPost X (List.replicate (n + 1) (gt l 0)))) := Lib.hid (fun A g h X hX => by
    have h1 := byts_any A g h _ b2 _ 100 (n + 1) X hX (by omega) HS.out.2.2.1
    rw [show ((n + 1 : Nat) : Int) = (n : Int) + 1 by omega] at h1
    exact h1)
  have HBZ := Lib.hid (fun A g h (X : World) (hX : Sto X A g h 2048 1 b3 (List.replicate 1 0)) => byts_any A g h _ b3 _ 1000 n X hX (by omega) HS.out.2.2.2)
  have HC0 : Hid (∀ X, Below W0.heap.size W0 X → X.cell? ⟨PB, po, none⟩ = some (.int .u8 ((gt l 0).toNat : Int))) := Lib.hid (fun X hX => (hX.cell (World.block_lt_of_cell? W0 _ hcell0)).trans hcell0)
  clear hcell0
  have hz : ((n : Int) == 0) = false := by
    have : n ≠ 0 := by omega
    simpa using this
  have hn0' : ¬ ((n : Int) = 0) := by omega
  have hn2' : ¬ (256 < (n : Int)) := by omega
  have hn1' : (1 : Int) ≤ (n : Int) := by omega
  go_wp2_with fail
  refine HNEW.out.mono ?_
  rintro e w1 ⟨A, g, h, rfl, hst, hA, hg, hh, hb⟩
  have HG : Hid (W0.heap.size ≤ g) := Lib.hid hg
  change Sto w1 A g h 2048 1 (List.replicate 2048 0) (List.replicate 1 0) at hst
  have HP : Hid (Calls Tryz.prog 26 #[.pointer (some ⟨A, 0, none⟩), .int .i64 100, .slice (some ⟨PB, po, none⟩) n c, .int .i64 0] w1 (PutPost w1 A g h 2048 1 (E.putL (List.replicate 2048 0) 100 l) (List.replicate 1 0) (.int .i64 0))) := Lib.hid (by
    have h1 := put_any A g h 2048 1 100 0 (.slice (some ⟨PB, po, none⟩) n c) l _ _ w1 (by decide) hst (HV.out.below hb)
    have hc : codeV (stP 0) 2048 (List.replicate 1 0) (100 : Int) (n : Int) = 0 := code_zero (a := 100) (k := n) stP_zero (by omega)
    unfold putB at h1
    rw [← HLN.out, hc, if_pos rfl] at h1
    exact h1)
  have HB := Lib.hid hb
  clear hst hA hh hb hg HNEW
  go_wp2_with fail
  refine HP.out.mono ?_
  rintro e w2 ⟨rfl, hgr, hst⟩
  have HB2 := Lib.hid (Kp.below HB.out (Kp.of hgr (List.mem_singleton.2 rfl) : Kp w1 w2 [g]) (by simpa using HG.out))
  have HST := Lib.hid hst
  clear hgr hst HP HB
  go_wp2_with fail
  refine (HW.out _).mono ?_
  rintro e w3 ⟨rfl, hb⟩
  have HB3 := Lib.hid (bel0 HB2.out hb)
  have HST3 := Lib.hid (HST.out.below hb)
  clear hb HB2 HST
  go_wp2_with fail
  obtain ⟨y4, hy4⟩ : ∃ y, y = w3.alloc (.cells #[.int .u32 0, .int .u32 0, .int .u32 0, .int .u32 0, .int .u32 0, .int .u32 0, .int .u32 0, .int .u32 0, .int .u32 0, .int .u32 0, .int .u32 0, .int .u32 0, .int .u32 0, .int .u32 0, .int .u32 1000, .int .u32 100] 28) := ⟨_, rfl⟩
  obtain ⟨B6, hB6⟩ : ∃ b, b = w3.heap.size := ⟨_, rfl⟩
  have b4 : Below w3.heap.size w3 y4 := by rw [hy4]; exact below_new _ _
  have HB4 := Lib.hid (bel0 HB3.out b4)
  have HST4 := Lib.hid (HST3.out.below b4)
  have HR4 : Hid (Bx y4 B6 28 #[.int .u32 0, .int .u32 0, .int .u32 0, .int .u32 0, .int .u32 0, .int .u32 0, .int .u32 0, .int .u32 0, .int .u32 0, .int .u32 0, .int .u32 0, .int .u32 0, .int .u32 0, .int .u32 0, .int .u32 1000, .int .u32 100]) := Lib.hid (by rw [hy4, hB6]; exact Bx.new w3 _ _)
  have HB6 := Lib.hid HR4.out.lt
  have HB6W : Hid (W0.heap.size ≤ B6) := Lib.hid (by have := HB3.out.size; omega)
  rw [← hy4, ← hB6]
  clear hy4 hB6 b4 HB3 HST3
  have F0 : Hid (FS y4 B6 A g h 2048 1 #[.int .u32 0, .int .u32 0, .int .u32 0, .int .u32 0, .int .u32 0, .int .u32 0, .int .u32 0, .int .u32 0, .int .u32 0, .int .u32 0, .int .u32 0, .int .u32 0, .int .u32 0, .int .u32 0, .int .u32 1000, .int .u32 100] (E.putL (List.replicate 2048 0) 100 l) (List.replicate 1 0) none none y4) := Lib.hid ⟨Kp.refl _ _, HR4.out, HST4.out, (fun _ h => by cases h), (fun _ h => by cases h)⟩
  clear HR4 HST4
  refine Code.wp_mono (Q := fun e a W => e = .normal ∧ ∃ B7 B8 : Nat, (∃ u : Nat → Value, a = { tmps := #[.slice (some ⟨PB, po, none⟩) n c, u 1, .bool false, .pointer (some ⟨A, 0, none⟩), .int .i64 0, .int .i64 (n : Int), .pointer (some ⟨B6, 0, none⟩), u 7, u 8, .int .i64 0, u 10, u 11, u 12, u 13, u 14, u 15, u 16, u 17, u 18, u 19, u 20, u 21, u 22, u 23, u 24, u 25, u 26, u 27, u 28, u 29, u 30, u 31, u 32, u 33, u 34, u 35, u 36, u 37, u 38, u 39, u 40, u 41, u 42, u 43, u 44, u 45, u 46, u 47, u 48, u 49, u 50, u 51, u 52, u 53, u 54, u 55, u 56, u 57, u 58, u 59, u 60, u 61, u 62, u 63, u 64, u 65, u 66, u 67, u 68, u 69, u 70, u 71, u 72, u 73, u 74, u 75, u 76, u 77, u 78, u 79, u 80, u 81, u 82, u 83, u 84, u 85, u 86, u 87, u 88, u 89, u 90, u 91, u 92, u 93, u 94, u 95, u 96, u 97, u 98, u 99, u 100, u 101, u 102, u 103, u 104, u 105, u 106, u 107, u 108, u 109, u 110, u 111, u 112, u 113, u 114, u 115, u 116, u 117, u 118, u 119, u 120, u 121, u 122, u 123, u 124, u 125, u 126, u 127, u 128, u 129, u 130, u 131, u 132, u 133, u 134, u 135, u 136, u 137, u 138, u 139, u 140], defers := [] }) ∧ Kp y4 W [g] ∧ Bx W B6 28 #[.int .u32 0, .int .u32 0, .int .u32 0, .int .u32 0, .int .u32 0, .int .u32 0, .int .u32 0, .int .u32 0, .int .u32 0, .int .u32 0, .int .u32 0, .int .u32 0, .int .u32 0, .int .u32 0, .int .u32 1000, .int .u32 100] ∧ Sto W A g h 2048 1 b1 (List.replicate 1 0) ∧ Bx W B8 30 (pswA (⟨0, 0, false, false, false, 0, 0, 0, 0, 0⟩))) ?_ ?_
  rotate_left
  · refine wp_region_held_drew (S := FB y4 B6 g #[.int .u32 0, .int .u32 0, .int .u32 0, .int .u32 0, .int .u32 0, .int .u32 0, .int .u32 0, .int .u32 0, .int .u32 0, .int .u32 0, .int .u32 0, .int .u32 0, .int .u32 0, .int .u32 0, .int .u32 1000, .int .u32 100]) (by kernel_rfl) F0.out.drew.fb (fun k0 => ?_)
    have f00 := F0.out.drew
    obtain ⟨Y0, hY0⟩ : ∃ y, y = y4.drew := ⟨_, rfl⟩
    rw [← hY0] at f00 k0 ⊢
    have F00 := Lib.hid f00
    clear F0 f00 hY0
    show wpAnyH _ _ _ _ _ 15 #[false, false, false, false, false, false, false, false, false, false, false, false, false, false, false] _ _
    refine wpAnyH_take (i := 0) (oi := ⟨some 48, _, _, _, _, _⟩) (v := .int .i64 (n : Int)) rfl (by kernel_rfl) (by kernel_rfl) (by kernel_rfl) (fun _ _ _ h => by cases h.1) (Or.inl ⟨by rfl, fun W hSw => by (try dsimp only at hSw); go_simp⟩) k0 ?_
    try simp only [Act.put, List.setIfInBounds_toArray, List.set_cons_zero, List.set_cons_succ]
    refine wpAnyH_take (i := 2) (oi := ⟨some 50, _, _, _, _, _⟩) (v := .agg #[.int .u32 0, .int .u32 0, .int .u32 0, .int .u32 0, .int .u32 0, .int .u32 0, .int .u32 0, .int .u32 0, .int .u32 0, .int .u32 0, .int .u32 0, .int .u32 0, .int .u32 0, .int .u32 0, .int .u32 1000, .int .u32 100]) rfl (by kernel_rfl) (by kernel_rfl) (by kernel_rfl) (fun _ _ _ h => by cases h.1) (Or.inl ⟨by rfl, fun W hSw => exec_load _ _ rfl _ rfl (run_loadVar_row (P := Tryz.prog) W B6 _ 28 _ _ _ hSw.2 Tryz.underlying28 rfl (by kernel_rfl))⟩) k0 ?_
    try simp only [Act.put, List.setIfInBounds_toArray, List.set_cons_zero, List.set_cons_succ]
    refine wpAnyH_take (i := 3) (oi := ⟨some 51, _, _, _, _, _⟩) (v := .agg #[.int .i64 0, .int .i64 0, .bool false, .bool false, .bool false, .int .i64 0, .int .i64 0, .int .i64 0, .int .i64 0, .int .i64 0]) rfl (by kernel_rfl) (by kernel_rfl) (by kernel_rfl) (fun _ _ _ h => by cases h.1) (Or.inl ⟨by rfl, fun W hSw => by (try dsimp only at hSw); go_simp⟩) k0 ?_
    try simp only [Act.put, List.setIfInBounds_toArray, List.set_cons_zero, List.set_cons_succ]
    refine wpAnyH_take (i := 4) (oi := ⟨some 52, _, _, _, _, _⟩) (v := .pointer (some ⟨A, 0, none⟩)) rfl (by kernel_rfl) (by kernel_rfl) (by kernel_rfl) (fun _ _ _ h => by cases h.1) (Or.inl ⟨by rfl, fun W hSw => by (try dsimp only at hSw); go_simp⟩) k0 ?_
    try simp only [Act.put, List.setIfInBounds_toArray, List.set_cons_zero, List.set_cons_succ]
    refine wpAnyH_ready (rs := [1, 10, 11]) (by kernel_rfl) (by simp) ?_
    refine AllReadyH.cons (o := ⟨some 49, _, _, _, _, _⟩) rfl (fun K hK => ?_) (AllReadyH.cons (o := ⟨some 7, _, _, _, _, _⟩) rfl (fun K hK => ?_) (AllReadyH.cons (o := ⟨some 8, _, _, _, _, _⟩) rfl (fun K hK => ?_) AllReadyH.nil))
    · go_simp
      go_at_call 27
      refine (HSS1.out Y0).mono ?_
      rintro e Y1 ⟨rfl, hb⟩
      have F1 := Lib.hid (F00.out.below hb)
      clear hb
      go_wp2_with fail
      refine hK.out _ _ F1.out.fb (fun k1 => ?_)
      clear hK K
      try simp only [List.setIfInBounds_toArray, List.set_cons_zero, List.set_cons_succ]
      refine wpAnyH_ready (rs := [5, 10, 11]) (by kernel_rfl) (by simp) ?_
      refine AllReadyH.cons (o := ⟨some 53, _, _, _, _, _⟩) rfl (fun K hK => ?_) (AllReadyH.cons (o := ⟨some 7, _, _, _, _, _⟩) rfl (fun K hK => ?_) (AllReadyH.cons (o := ⟨some 8, _, _, _, _, _⟩) rfl (fun K hK => ?_) AllReadyH.nil))
      · go_simp
        go_at_call 17
        refine (HE1.out A g h 1 Y1 F1.out.2.2.1).mono ?_
        rintro e Y2 ⟨rfl, hs, hk⟩
        have F2 := Lib.hid (F1.out.exec hs hk)
        clear hs hk
        go_wp2_with fail
        refine hK.out _ _ F2.out.fb (fun k2 => ?_)
        clear hK K
        try simp only [List.setIfInBounds_toArray, List.set_cons_zero, List.set_cons_succ]
        refine wpAnyH_take (i := 6) (oi := ⟨some 47, _, _, _, _, _⟩) (v := .tuple #[.agg #[.int .u32 0, .int .u32 0, .int .u32 0, .int .u32 0, .int .u32 0, .int .u32 0, .int .u32 0, .int .u32 0, .int .u32 0, .int .u32 0, .int .u32 0, .int .u32 0, .int .u32 0, .int .u32 0, .int .u32 1000, .int .u32 100], .agg #[.int .i64 0, .int .i64 0, .bool false, .bool false, .bool false, .int .i64 0, .int .i64 0, .int .i64 0, .int .i64 0, .int .i64 0], .int .i64 0]) rfl (by kernel_rfl) (by kernel_rfl) (by kernel_rfl) (fun _ _ _ h => by cases h.1) (Or.inl ⟨by rfl, fun W hSw => by (try dsimp only at hSw); go_simp⟩) k2 ?_
        try simp only [Act.put, List.setIfInBounds_toArray, List.set_cons_zero, List.set_cons_succ]
        refine wpAnyH_take (i := 7) (oi := ⟨some 54, _, _, _, _, _⟩) (v := .agg #[.int .u32 0, .int .u32 0, .int .u32 0, .int .u32 0, .int .u32 0, .int .u32 0, .int .u32 0, .int .u32 0, .int .u32 0, .int .u32 0, .int .u32 0, .int .u32 0, .int .u32 0, .int .u32 0, .int .u32 1000, .int .u32 100]) rfl (by kernel_rfl) (by kernel_rfl) (by kernel_rfl) (fun _ _ _ h => by cases h.1) (Or.inl ⟨by rfl, fun W hSw => by (try dsimp only at hSw); go_simp⟩) k2 ?_
        try simp only [Act.put, List.setIfInBounds_toArray, List.set_cons_zero, List.set_cons_succ]
        refine wpAnyH_take (i := 8) (oi := ⟨some 55, _, _, _, _, _⟩) (v := .agg #[.int .i64 0, .int .i64 0, .bool false, .bool false, .bool false, .int .i64 0, .int .i64 0, .int .i64 0, .int .i64 0, .int .i64 0]) rfl (by kernel_rfl) (by kernel_rfl) (by kernel_rfl) (fun _ _ _ h => by cases h.1) (Or.inl ⟨by rfl, fun W hSw => by (try dsimp only at hSw); go_simp⟩) k2 ?_
        try simp only [Act.put, List.setIfInBounds_toArray, List.set_cons_zero, List.set_cons_succ]
        refine wpAnyH_take (i := 9) (oi := ⟨some 56, _, _, _, _, _⟩) (v := .int .i64 0) rfl (by kernel_rfl) (by kernel_rfl) (by kernel_rfl) (fun _ _ _ h => by cases h.1) (Or.inl ⟨by rfl, fun W hSw => by (try dsimp only at hSw); go_simp⟩) k2 ?_
        try simp only [Act.put, List.setIfInBounds_toArray, List.set_cons_zero, List.set_cons_succ]
        refine wpAnyH_ready (rs := [10, 11]) (by kernel_rfl) (by simp) ?_
        refine AllReadyH.cons (o := ⟨some 7, _, _, _, _, _⟩) rfl (fun K hK => ?_) (AllReadyH.cons (o := ⟨some 8, _, _, _, _, _⟩) rfl (fun K hK => ?_) AllReadyH.nil)
        · go_simp
          have f3 := F2.out.al
          obtain ⟨Y3, hY3⟩ : ∃ y, y = Y2.alloc (.cells #[.int .u32 0, .int .u32 0, .int .u32 0, .int .u32 0, .int .u32 0, .int .u32 0, .int .u32 0, .int .u32 0, .int .u32 0, .int .u32 0, .int .u32 0, .int .u32 0, .int .u32 0, .int .u32 0, .int .u32 0, .int .u32 0] 28) := ⟨_, rfl⟩
          obtain ⟨B7, hB7⟩ : ∃ b, b = Y2.heap.size := ⟨_, rfl⟩
          rw [← hY3, ← hB7] at f3 ⊢
          have F3 := Lib.hid f3
          clear hY3 hB7 f3
          refine hK.out _ _ F3.out.fb (fun k3 => ?_)
          clear hK K
          try simp only [List.setIfInBounds_toArray, List.set_cons_zero, List.set_cons_succ]
          refine wpAnyH_ready (rs := [11]) (by kernel_rfl) (by simp) ?_
          refine AllReadyH.cons (o := ⟨some 8, _, _, _, _, _⟩) rfl (fun K hK => ?_) AllReadyH.nil
          go_simp
          have f4 := F3.out.al2
          obtain ⟨Y4, hY4⟩ : ∃ y, y = Y3.alloc (.cells #[.int .i64 0, .int .i64 0, .bool false, .bool false, .bool false, .int .i64 0, .int .i64 0, .int .i64 0, .int .i64 0, .int .i64 0] 30) := ⟨_, rfl⟩
          obtain ⟨B8, hB8⟩ : ∃ b, b = Y3.heap.size := ⟨_, rfl⟩
          rw [← hY4, ← hB8] at f4 ⊢
          have F4 := Lib.hid f4
          clear hY4 hB8 f4
          refine hK.out _ _ F4.out.fb (fun k4 => ?_)
          clear hK K
          try simp only [List.setIfInBounds_toArray, List.set_cons_zero, List.set_cons_succ]
          refine wpAnyH_ready (rs := [12]) (by kernel_rfl) (by simp) ?_
          refine AllReadyH.cons (o := ⟨none, _, _, _, _, _⟩) rfl (fun K hK => ?_) AllReadyH.nil
          obtain ⟨hb5, x5, hx5, hr5⟩ := F4.out.2.2.2.1 B7 rfl
          rw [if_pos (by rfl)]
          refine op_store _ _ _ rfl _ rfl _ rfl (HSR1.out _ _ _ hr5 hx5) ?_
          have f5 := F4.out.st HB6.out (mvR 1000 100)
          obtain ⟨Y5, hY5⟩ : ∃ y, y = Y4.setRow B7 (regA (mvR 1000 100)) := ⟨_, rfl⟩
          rw [← hY5] at f5 ⊢
          have F5 := Lib.hid f5
          clear hY5 f5 hb5 hx5 hr5 x5
          refine hK.out _ _ F5.out.fb (fun k5 => ?_)
          clear hK K
          try simp only [List.setIfInBounds_toArray, List.set_cons_zero, List.set_cons_succ]
          refine wpAnyH_ready (rs := [13]) (by kernel_rfl) (by simp) ?_
          refine AllReadyH.cons (o := ⟨none, _, _, _, _, _⟩) rfl (fun K hK => ?_) AllReadyH.nil
          obtain ⟨hb6, x6, hx6, hr6⟩ := F5.out.2.2.2.2 B8 rfl
          rw [if_pos (by rfl)]
          refine op_store _ _ _ rfl _ rfl _ rfl (HSP1.out _ _ _ hr6 hx6) ?_
          have f6 := F5.out.st2 (⟨0, 0, false, false, false, 0, 0, 0, 0, 0⟩)
          obtain ⟨Y6, hY6⟩ : ∃ y, y = Y5.setRow B8 (pswA (⟨0, 0, false, false, false, 0, 0, 0, 0, 0⟩)) := ⟨_, rfl⟩
          rw [← hY6] at f6 ⊢
          have F6 := Lib.hid f6.1
          have P6 := Lib.hid f6.2
          clear hY6 f6 hb6 hx6 hr6 x6
          refine hK.out _ _ F6.out.fb (fun k6 => ?_)
          clear hK K
          try simp only [List.setIfInBounds_toArray, List.set_cons_zero, List.set_cons_succ]
          refine wpAnyH_take (i := 14) (oi := ⟨some 9, _, _, _, _, _⟩) (v := .int .i64 0) rfl (by kernel_rfl) (by kernel_rfl) (by kernel_rfl) (fun _ _ _ h => by cases h.1) (Or.inl ⟨by rfl, fun W hSw => by (try dsimp only at hSw); go_simp⟩) k6 ?_
          try simp only [Act.put, List.setIfInBounds_toArray, List.set_cons_zero, List.set_cons_succ]
          refine wpAnyH_done (by kernel_rfl) ?_ _
          refine id ?_
          exact ⟨rfl, B7, B8, cut_mk rfl, F6.out.1, F6.out.2.1, F6.out.2.2.1, P6.out⟩
        · go_simp
          have f3 := F2.out.al2
          obtain ⟨Y3, hY3⟩ : ∃ y, y = Y2.alloc (.cells #[.int .i64 0, .int .i64 0, .bool false, .bool false, .bool false, .int .i64 0, .int .i64 0, .int .i64 0, .int .i64 0, .int .i64 0] 30) := ⟨_, rfl⟩
          obtain ⟨B8, hB8⟩ : ∃ b, b = Y2.heap.size := ⟨_, rfl⟩
          rw [← hY3, ← hB8] at f3 ⊢
          have F3 := Lib.hid f3
          clear hY3 hB8 f3
          refine hK.out _ _ F3.out.fb (fun k3 => ?_)
          clear hK K
          try simp only [List.setIfInBounds_toArray, List.set_cons_zero, List.set_cons_succ]
          refine wpAnyH_ready (rs := [10]) (by kernel_rfl) (by simp) ?_
          refine AllReadyH.cons (o := ⟨some 7, _, _, _, _, _⟩) rfl (fun K hK => ?_) AllReadyH.nil
          go_simp
          have f4 := F3.out.al
          obtain ⟨Y4, hY4⟩ : ∃ y, y = Y3.alloc (.cells #[.int .u32 0, .int .u32 0, .int .u32 0, .int .u32 0, .int .u32 0, .int .u32 0, .int .u32 0, .int .u32 0, .int .u32 0, .int .u32 0, .int .u32 0, .int .u32 0, .int .u32 0, .int .u32 0, .int .u32 0, .int .u32 0] 28) := ⟨_, rfl⟩
          obtain ⟨B7, hB7⟩ : ∃ b, b = Y3.heap.size := ⟨_, rfl⟩
          rw [← hY4, ← hB7] at f4 ⊢
          have F4 := Lib.hid f4
          clear hY4 hB7 f4
          refine hK.out _ _ F4.out.fb (fun k4 => ?_)
          clear hK K
          try simp only [List.setIfInBounds_toArray, List.set_cons_zero, List.set_cons_succ]
          refine wpAnyH_ready (rs := [12]) (by kernel_rfl) (by simp) ?_
          refine AllReadyH.cons (o := ⟨none, _, _, _, _, _⟩) rfl (fun K hK => ?_) AllReadyH.nil
          obtain ⟨hb5, x5, hx5, hr5⟩ := F4.out.2.2.2.1 B7 rfl
          rw [if_pos (by rfl)]
          refine op_store _ _ _ rfl _ rfl _ rfl (HSR1.out _ _ _ hr5 hx5) ?_
          have f5 := F4.out.st HB6.out (mvR 1000 100)
          obtain ⟨Y5, hY5⟩ : ∃ y, y = Y4.setRow B7 (regA (mvR 1000 100)) := ⟨_, rfl⟩
          rw [← hY5] at f5 ⊢
          have F5 := Lib.hid f5
          clear hY5 f5 hb5 hx5 hr5 x5
          refine hK.out _ _ F5.out.fb (fun k5 => ?_)
          clear hK K
          try simp only [List.setIfInBounds_toArray, List.set_cons_zero, List.set_cons_succ]
          refine wpAnyH_ready (rs := [13]) (by kernel_rfl) (by simp) ?_
          refine AllReadyH.cons (o := ⟨none, _, _, _, _, _⟩) rfl (fun K hK => ?_) AllReadyH.nil
          obtain ⟨hb6, x6, hx6, hr6⟩ := F5.out.2.2.2.2 B8 rfl
          rw [if_pos (by rfl)]
          refine op_store _ _ _ rfl _ rfl _ rfl (HSP1.out _ _ _ hr6 hx6) ?_
          have f6 := F5.out.st2 (⟨0, 0, false, false, false, 0, 0, 0, 0, 0⟩)
          obtain ⟨Y6, hY6⟩ : ∃ y, y = Y5.setRow B8 (pswA (⟨0, 0, false, false, false, 0, 0, 0, 0, 0⟩)) := ⟨_, rfl⟩
          rw [← hY6] at f6 ⊢
          have F6 := Lib.hid f6.1
          have P6 := Lib.hid f6.2
          clear hY6 f6 hb6 hx6 hr6 x6
          refine hK.out _ _ F6.out.fb (fun k6 => ?_)
          clear hK K
          try simp only [List.setIfInBounds_toArray, List.set_cons_zero, List.set_cons_succ]
          refine wpAnyH_take (i := 14) (oi := ⟨some 9, _, _, _, _, _⟩) (v := .int .i64 0) rfl (by kernel_rfl) (by kernel_rfl) (by kernel_rfl) (fun _ _ _ h => by cases h.1) (Or.inl ⟨by rfl, fun W hSw => by (try dsimp only at hSw); go_simp⟩) k6 ?_
          try simp only [Act.put, List.setIfInBounds_toArray, List.set_cons_zero, List.set_cons_succ]
          refine wpAnyH_done (by kernel_rfl) ?_ _
          refine id ?_
          exact ⟨rfl, B7, B8, cut_mk rfl, F6.out.1, F6.out.2.1, F6.out.2.2.1, P6.out⟩
      · go_simp
        have f2 := F1.out.al
        obtain ⟨Y2, hY2⟩ : ∃ y, y = Y1.alloc (.cells #[.int .u32 0, .int .u32 0, .int .u32 0, .int .u32 0, .int .u32 0, .int .u32 0, .int .u32 0, .int .u32 0, .int .u32 0, .int .u32 0, .int .u32 0, .int .u32 0, .int .u32 0, .int .u32 0, .int .u32 0, .int .u32 0] 28) := ⟨_, rfl⟩
        obtain ⟨B7, hB7⟩ : ∃ b, b = Y1.heap.size := ⟨_, rfl⟩
        rw [← hY2, ← hB7] at f2 ⊢
        have F2 := Lib.hid f2
        clear hY2 hB7 f2
        refine hK.out _ _ F2.out.fb (fun k2 => ?_)
        clear hK K
        try simp only [List.setIfInBounds_toArray, List.set_cons_zero, List.set_cons_succ]
        refine wpAnyH_ready (rs := [5, 11]) (by kernel_rfl) (by simp) ?_
        refine AllReadyH.cons (o := ⟨some 53, _, _, _, _, _⟩) rfl (fun K hK => ?_) (AllReadyH.cons (o := ⟨some 8, _, _, _, _, _⟩) rfl (fun K hK => ?_) AllReadyH.nil)
        · go_simp
          go_at_call 17
          refine (HE1.out A g h 1 Y2 F2.out.2.2.1).mono ?_
          rintro e Y3 ⟨rfl, hs, hk⟩
          have F3 := Lib.hid (F2.out.exec hs hk)
          clear hs hk
          go_wp2_with fail
          refine hK.out _ _ F3.out.fb (fun k3 => ?_)
          clear hK K
          try simp only [List.setIfInBounds_toArray, List.set_cons_zero, List.set_cons_succ]
          refine wpAnyH_take (i := 6) (oi := ⟨some 47, _, _, _, _, _⟩) (v := .tuple #[.agg #[.int .u32 0, .int .u32 0, .int .u32 0, .int .u32 0, .int .u32 0, .int .u32 0, .int .u32 0, .int .u32 0, .int .u32 0, .int .u32 0, .int .u32 0, .int .u32 0, .int .u32 0, .int .u32 0, .int .u32 1000, .int .u32 100], .agg #[.int .i64 0, .int .i64 0, .bool false, .bool false, .bool false, .int .i64 0, .int .i64 0, .int .i64 0, .int .i64 0, .int .i64 0], .int .i64 0]) rfl (by kernel_rfl) (by kernel_rfl) (by kernel_rfl) (fun _ _ _ h => by cases h.1) (Or.inl ⟨by rfl, fun W hSw => by (try dsimp only at hSw); go_simp⟩) k3 ?_
          try simp only [Act.put, List.setIfInBounds_toArray, List.set_cons_zero, List.set_cons_succ]
          refine wpAnyH_take (i := 7) (oi := ⟨some 54, _, _, _, _, _⟩) (v := .agg #[.int .u32 0, .int .u32 0, .int .u32 0, .int .u32 0, .int .u32 0, .int .u32 0, .int .u32 0, .int .u32 0, .int .u32 0, .int .u32 0, .int .u32 0, .int .u32 0, .int .u32 0, .int .u32 0, .int .u32 1000, .int .u32 100]) rfl (by kernel_rfl) (by kernel_rfl) (by kernel_rfl) (fun _ _ _ h => by cases h.1) (Or.inl ⟨by rfl, fun W hSw => by (try dsimp only at hSw); go_simp⟩) k3 ?_
          try simp only [Act.put, List.setIfInBounds_toArray, List.set_cons_zero, List.set_cons_succ]
          refine wpAnyH_take (i := 8) (oi := ⟨some 55, _, _, _, _, _⟩) (v := .agg #[.int .i64 0, .int .i64 0, .bool false, .bool false, .bool false, .int .i64 0, .int .i64 0, .int .i64 0, .int .i64 0, .int .i64 0]) rfl (by kernel_rfl) (by kernel_rfl) (by kernel_rfl) (fun _ _ _ h => by cases h.1) (Or.inl ⟨by rfl, fun W hSw => by (try dsimp only at hSw); go_simp⟩) k3 ?_
          try simp only [Act.put, List.setIfInBounds_toArray, List.set_cons_zero, List.set_cons_succ]
          refine wpAnyH_take (i := 9) (oi := ⟨some 56, _, _, _, _, _⟩) (v := .int .i64 0) rfl (by kernel_rfl) (by kernel_rfl) (by kernel_rfl) (fun _ _ _ h => by cases h.1) (Or.inl ⟨by rfl, fun W hSw => by (try dsimp only at hSw); go_simp⟩) k3 ?_
          try simp only [Act.put, List.setIfInBounds_toArray, List.set_cons_zero, List.set_cons_succ]
          refine wpAnyH_ready (rs := [11]) (by kernel_rfl) (by simp) ?_
          refine AllReadyH.cons (o := ⟨some 8, _, _, _, _, _⟩) rfl (fun K hK => ?_) AllReadyH.nil
          go_simp
          have f4 := F3.out.al2
          obtain ⟨Y4, hY4⟩ : ∃ y, y = Y3.alloc (.cells #[.int .i64 0, .int .i64 0, .bool false, .bool false, .bool false, .int .i64 0, .int .i64 0, .int .i64 0, .int .i64 0, .int .i64 0] 30) := ⟨_, rfl⟩
          obtain ⟨B8, hB8⟩ : ∃ b, b = Y3.heap.size := ⟨_, rfl⟩
          rw [← hY4, ← hB8] at f4 ⊢
          have F4 := Lib.hid f4
          clear hY4 hB8 f4
          refine hK.out _ _ F4.out.fb (fun k4 => ?_)
          clear hK K
          try simp only [List.setIfInBounds_toArray, List.set_cons_zero, List.set_cons_succ]
          refine wpAnyH_ready (rs := [12]) (by kernel_rfl) (by simp) ?_
          refine AllReadyH.cons (o := ⟨none, _, _, _, _, _⟩) rfl (fun K hK => ?_) AllReadyH.nil
          obtain ⟨hb5, x5, hx5, hr5⟩ := F4.out.2.2.2.1 B7 rfl
          rw [if_pos (by rfl)]
          refine op_store _ _ _ rfl _ rfl _ rfl (HSR1.out _ _ _ hr5 hx5) ?_
          have f5 := F4.out.st HB6.out (mvR 1000 100)
          obtain ⟨Y5, hY5⟩ : ∃ y, y = Y4.setRow B7 (regA (mvR 1000 100)) := ⟨_, rfl⟩
          rw [← hY5] at f5 ⊢
          have F5 := Lib.hid f5
          clear hY5 f5 hb5 hx5 hr5 x5
          refine hK.out _ _ F5.out.fb (fun k5 => ?_)
          clear hK K
          try simp only [List.setIfInBounds_toArray, List.set_cons_zero, List.set_cons_succ]
          refine wpAnyH_ready (rs := [13]) (by kernel_rfl) (by simp) ?_
          refine AllReadyH.cons (o := ⟨none, _, _, _, _, _⟩) rfl (fun K hK => ?_) AllReadyH.nil
          obtain ⟨hb6, x6, hx6, hr6⟩ := F5.out.2.2.2.2 B8 rfl
          rw [if_pos (by rfl)]
          refine op_store _ _ _ rfl _ rfl _ rfl (HSP1.out _ _ _ hr6 hx6) ?_
          have f6 := F5.out.st2 (⟨0, 0, false, false, false, 0, 0, 0, 0, 0⟩)
          obtain ⟨Y6, hY6⟩ : ∃ y, y = Y5.setRow B8 (pswA (⟨0, 0, false, false, false, 0, 0, 0, 0, 0⟩)) := ⟨_, rfl⟩
          rw [← hY6] at f6 ⊢
          have F6 := Lib.hid f6.1
          have P6 := Lib.hid f6.2
          clear hY6 f6 hb6 hx6 hr6 x6
          refine hK.out _ _ F6.out.fb (fun k6 => ?_)
          clear hK K
          try simp only [List.setIfInBounds_toArray, List.set_cons_zero, List.set_cons_succ]
          refine wpAnyH_take (i := 14) (oi := ⟨some 9, _, _, _, _, _⟩) (v := .int .i64 0) rfl (by kernel_rfl) (by kernel_rfl) (by kernel_rfl) (fun _ _ _ h => by cases h.1) (Or.inl ⟨by rfl, fun W hSw => by (try dsimp only at hSw); go_simp⟩) k6 ?_
          try simp only [Act.put, List.setIfInBounds_toArray, List.set_cons_zero, List.set_cons_succ]
          refine wpAnyH_done (by kernel_rfl) ?_ _
          refine id ?_
          exact ⟨rfl, B7, B8, cut_mk rfl, F6.out.1, F6.out.2.1, F6.out.2.2.1, P6.out⟩
        · go_simp
          have f3 := F2.out.al2
          obtain ⟨Y3, hY3⟩ : ∃ y, y = Y2.alloc (.cells #[.int .i64 0, .int .i64 0, .bool false, .bool false, .bool false, .int .i64 0, .int .i64 0, .int .i64 0, .int .i64 0, .int .i64 0] 30) := ⟨_, rfl⟩
          obtain ⟨B8, hB8⟩ : ∃ b, b = Y2.heap.size := ⟨_, rfl⟩
          rw [← hY3, ← hB8] at f3 ⊢
          have F3 := Lib.hid f3
          clear hY3 hB8 f3
          refine hK.out _ _ F3.out.fb (fun k3 => ?_)
          clear hK K
          try simp only [List.setIfInBounds_toArray, List.set_cons_zero, List.set_cons_succ]
          refine wpAnyH_ready (rs := [5]) (by kernel_rfl) (by simp) ?_
          refine AllReadyH.cons (o := ⟨some 53, _, _, _, _, _⟩) rfl (fun K hK => ?_) AllReadyH.nil
          go_simp
          go_at_call 17
          refine (HE1.out A g h 1 Y3 F3.out.2.2.1).mono ?_
          rintro e Y4 ⟨rfl, hs, hk⟩
          have F4 := Lib.hid (F3.out.exec hs hk)
          clear hs hk
          go_wp2_with fail
          refine hK.out _ _ F4.out.fb (fun k4 => ?_)
          clear hK K
          try simp only [List.setIfInBounds_toArray, List.set_cons_zero, List.set_cons_succ]
          refine wpAnyH_take (i := 6) (oi := ⟨some 47, _, _, _, _, _⟩) (v := .tuple #[.agg #[.int .u32 0, .int .u32 0, .int .u32 0, .int .u32 0, .int .u32 0, .int .u32 0, .int .u32 0, .int .u32 0, .int .u32 0, .int .u32 0, .int .u32 0, .int .u32 0, .int .u32 0, .int .u32 0, .int .u32 1000, .int .u32 100], .agg #[.int .i64 0, .int .i64 0, .bool false, .bool false, .bool false, .int .i64 0, .int .i64 0, .int .i64 0, .int .i64 0, .int .i64 0], .int .i64 0]) rfl (by kernel_rfl) (by kernel_rfl) (by kernel_rfl) (fun _ _ _ h => by cases h.1) (Or.inl ⟨by rfl, fun W hSw => by (try dsimp only at hSw); go_simp⟩) k4 ?_
          try simp only [Act.put, List.setIfInBounds_toArray, List.set_cons_zero, List.set_cons_succ]
          refine wpAnyH_take (i := 7) (oi := ⟨some 54, _, _, _, _, _⟩) (v := .agg #[.int .u32 0, .int .u32 0, .int .u32 0, .int .u32 0, .int .u32 0, .int .u32 0, .int .u32 0, .int .u32 0, .int .u32 0, .int .u32 0, .int .u32 0, .int .u32 0, .int .u32 0, .int .u32 0, .int .u32 1000, .int .u32 100]) rfl (by kernel_rfl) (by kernel_rfl) (by kernel_rfl) (fun _ _ _ h => by cases h.1) (Or.inl ⟨by rfl, fun W hSw => by (try dsimp only at hSw); go_simp⟩) k4 ?_
          try simp only [Act.put, List.setIfInBounds_toArray, List.set_cons_zero, List.set_cons_succ]
          refine wpAnyH_take (i := 8) (oi := ⟨some 55, _, _, _, _, _⟩) (v := .agg #[.int .i64 0, .int .i64 0, .bool false, .bool false, .bool false, .int .i64 0, .int .i64 0, .int .i64 0, .int .i64 0, .int .i64 0]) rfl (by kernel_rfl) (by kernel_rfl) (by kernel_rfl) (fun _ _ _ h => by cases h.1) (Or.inl ⟨by rfl, fun W hSw => by (try dsimp only at hSw); go_simp⟩) k4 ?_
          try simp only [Act.put, List.setIfInBounds_toArray, List.set_cons_zero, List.set_cons_succ]
          refine wpAnyH_take (i := 9) (oi := ⟨some 56, _, _, _, _, _⟩) (v := .int .i64 0) rfl (by kernel_rfl) (by kernel_rfl) (by kernel_rfl) (fun _ _ _ h => by cases h.1) (Or.inl ⟨by rfl, fun W hSw => by (try dsimp only at hSw); go_simp⟩) k4 ?_
          try simp only [Act.put, List.setIfInBounds_toArray, List.set_cons_zero, List.set_cons_succ]
          refine wpAnyH_ready (rs := [12]) (by kernel_rfl) (by simp) ?_
          refine AllReadyH.cons (o := ⟨none, _, _, _, _, _⟩) rfl (fun K hK => ?_) AllReadyH.nil
          obtain ⟨hb5, x5, hx5, hr5⟩ := F4.out.2.2.2.1 B7 rfl
          rw [if_pos (by rfl)]
          refine op_store _ _ _ rfl _ rfl _ rfl (HSR1.out _ _ _ hr5 hx5) ?_
          have f5 := F4.out.st HB6.out (mvR 1000 100)
          obtain ⟨Y5, hY5⟩ : ∃ y, y = Y4.setRow B7 (regA (mvR 1000 100)) := ⟨_, rfl⟩
          rw [← hY5] at f5 ⊢
          have F5 := Lib.hid f5
          clear hY5 f5 hb5 hx5 hr5 x5
          refine hK.out _ _ F5.out.fb (fun k5 => ?_)
          clear hK K
          try simp only [List.setIfInBounds_toArray, List.set_cons_zero, List.set_cons_succ]
          refine wpAnyH_ready (rs := [13]) (by kernel_rfl) (by simp) ?_
          refine AllReadyH.cons (o := ⟨none, _, _, _, _, _⟩) rfl (fun K hK => ?_) AllReadyH.nil
          obtain ⟨hb6, x6, hx6, hr6⟩ := F5.out.2.2.2.2 B8 rfl
          rw [if_pos (by rfl)]
          refine op_store _ _ _ rfl _ rfl _ rfl (HSP1.out _ _ _ hr6 hx6) ?_
          have f6 := F5.out.st2 (⟨0, 0, false, false, false, 0, 0, 0, 0, 0⟩)
          obtain ⟨Y6, hY6⟩ : ∃ y, y = Y5.setRow B8 (pswA (⟨0, 0, false, false, false, 0, 0, 0, 0, 0⟩)) := ⟨_, rfl⟩
          rw [← hY6] at f6 ⊢
          have F6 := Lib.hid f6.1
          have P6 := Lib.hid f6.2
          clear hY6 f6 hb6 hx6 hr6 x6
          refine hK.out _ _ F6.out.fb (fun k6 => ?_)
          clear hK K
          try simp only [List.setIfInBounds_toArray, List.set_cons_zero, List.set_cons_succ]
          refine wpAnyH_take (i := 14) (oi := ⟨some 9, _, _, _, _, _⟩) (v := .int .i64 0) rfl (by kernel_rfl) (by kernel_rfl) (by kernel_rfl) (fun _ _ _ h => by cases h.1) (Or.inl ⟨by rfl, fun W hSw => by (try dsimp only at hSw); go_simp⟩) k6 ?_
          try simp only [Act.put, List.setIfInBounds_toArray, List.set_cons_zero, List.set_cons_succ]
          refine wpAnyH_done (by kernel_rfl) ?_ _
          refine id ?_
          exact ⟨rfl, B7, B8, cut_mk rfl, F6.out.1, F6.out.2.1, F6.out.2.2.1, P6.out⟩
      · go_simp
        have f2 := F1.out.al2
        obtain ⟨Y2, hY2⟩ : ∃ y, y = Y1.alloc (.cells #[.int .i64 0, .int .i64 0, .bool false, .bool false, .bool false, .int .i64 0, .int .i64 0, .int .i64 0, .int .i64 0, .int .i64 0] 30) := ⟨_, rfl⟩
        obtain ⟨B8, hB8⟩ : ∃ b, b = Y1.heap.size := ⟨_, rfl⟩
        rw [← hY2, ← hB8] at f2 ⊢
        have F2 := Lib.hid f2
        clear hY2 hB8 f2
        refine hK.out _ _ F2.out.fb (fun k2 => ?_)
        clear hK K
        try simp only [List.setIfInBounds_toArray, List.set_cons_zero, List.set_cons_succ]
        refine wpAnyH_ready (rs := [5, 10]) (by kernel_rfl) (by simp) ?_
        refine AllReadyH.cons (o := ⟨some 53, _, _, _, _, _⟩) rfl (fun K hK => ?_) (AllReadyH.cons (o := ⟨some 7, _, _, _, _, _⟩) rfl (fun K hK => ?_) AllReadyH.nil)
        · go_simp
          go_at_call 17
          refine (HE1.out A g h 1 Y2 F2.out.2.2.1).mono ?_
          rintro e Y3 ⟨rfl, hs, hk⟩
          have F3 := Lib.hid (F2.out.exec hs hk)
          clear hs hk
          go_wp2_with fail
          refine hK.out _ _ F3.out.fb (fun k3 => ?_)
          clear hK K
          try simp only [List.setIfInBounds_toArray, List.set_cons_zero, List.set_cons_succ]
          refine wpAnyH_take (i := 6) (oi := ⟨some 47, _, _, _, _, _⟩) (v := .tuple #[.agg #[.int .u32 0, .int .u32 0, .int .u32 0, .int .u32 0, .int .u32 0, .int .u32 0, .int .u32 0, .int .u32 0, .int .u32 0, .int .u32 0, .int .u32 0, .int .u32 0, .int .u32 0, .int .u32 0, .int .u32 1000, .int .u32 100], .agg #[.int .i64 0, .int .i64 0, .bool false, .bool false, .bool false, .int .i64 0, .int .i64 0, .int .i64 0, .int .i64 0, .int .i64 0], .int .i64 0]) rfl (by kernel_rfl) (by kernel_rfl) (by kernel_rfl) (fun _ _ _ h => by cases h.1) (Or.inl ⟨by rfl, fun W hSw => by (try dsimp only at hSw); go_simp⟩) k3 ?_
          try simp only [Act.put, List.setIfInBounds_toArray, List.set_cons_zero, List.set_cons_succ]
          refine wpAnyH_take (i := 7) (oi := ⟨some 54, _, _, _, _, _⟩) (v := .agg #[.int .u32 0, .int .u32 0, .int .u32 0, .int .u32 0, .int .u32 0, .int .u32 0, .int .u32 0, .int .u32 0, .int .u32 0, .int .u32 0, .int .u32 0, .int .u32 0, .int .u32 0, .int .u32 0, .int .u32 1000, .int .u32 100]) rfl (by kernel_rfl) (by kernel_rfl) (by kernel_rfl) (fun _ _ _ h => by cases h.1) (Or.inl ⟨by rfl, fun W hSw => by (try dsimp only at hSw); go_simp⟩) k3 ?_
          try simp only [Act.put, List.setIfInBounds_toArray, List.set_cons_zero, List.set_cons_succ]
          refine wpAnyH_take (i := 8) (oi := ⟨some 55, _, _, _, _, _⟩) (v := .agg #[.int .i64 0, .int .i64 0, .bool false, .bool false, .bool false, .int .i64 0, .int .i64 0, .int .i64 0, .int .i64 0, .int .i64 0]) rfl (by kernel_rfl) (by kernel_rfl) (by kernel_rfl) (fun _ _ _ h => by cases h.1) (Or.inl ⟨by rfl, fun W hSw => by (try dsimp only at hSw); go_simp⟩) k3 ?_
          try simp only [Act.put, List.setIfInBounds_toArray, List.set_cons_zero, List.set_cons_succ]
          refine wpAnyH_take (i := 9) (oi := ⟨some 56, _, _, _, _, _⟩) (v := .int .i64 0) rfl (by kernel_rfl) (by kernel_rfl) (by kernel_rfl) (fun _ _ _ h => by cases h.1) (Or.inl ⟨by rfl, fun W hSw => by (try dsimp only at hSw); go_simp⟩) k3 ?_
          try simp only [Act.put, List.setIfInBounds_toArray, List.set_cons_zero, List.set_cons_succ]
          refine wpAnyH_ready (rs := [10]) (by kernel_rfl) (by simp) ?_
          refine AllReadyH.cons (o := ⟨some 7, _, _, _, _, _⟩) rfl (fun K hK => ?_) AllReadyH.nil
          go_simp
          have f4 := F3.out.al
          obtain ⟨Y4, hY4⟩ : ∃ y, y = Y3.alloc (.cells #[.int .u32 0, .int .u32 0, .int .u32 0, .int .u32 0, .int .u32 0, .int .u32 0, .int .u32 0, .int .u32 0, .int .u32 0, .int .u32 0, .int .u32 0, .int .u32 0, .int .u32 0, .int .u32 0, .int .u32 0, .int .u32 0] 28) := ⟨_, rfl⟩
          obtain ⟨B7, hB7⟩ : ∃ b, b = Y3.heap.size := ⟨_, rfl⟩
          rw [← hY4, ← hB7] at f4 ⊢
          have F4 := Lib.hid f4
          clear hY4 hB7 f4
          refine hK.out _ _ F4.out.fb (fun k4 => ?_)
          clear hK K
          try simp only [List.setIfInBounds_toArray, List.set_cons_zero, List.set_cons_succ]
          refine wpAnyH_ready (rs := [12]) (by kernel_rfl) (by simp) ?_
          refine AllReadyH.cons (o := ⟨none, _, _, _, _, _⟩) rfl (fun K hK => ?_) AllReadyH.nil
          obtain ⟨hb5, x5, hx5, hr5⟩ := F4.out.2.2.2.1 B7 rfl
          rw [if_pos (by rfl)]
          refine op_store _ _ _ rfl _ rfl _ rfl (HSR1.out _ _ _ hr5 hx5) ?_
          have f5 := F4.out.st HB6.out (mvR 1000 100)
          obtain ⟨Y5, hY5⟩ : ∃ y, y = Y4.setRow B7 (regA (mvR 1000 100)) := ⟨_, rfl⟩
          rw [← hY5] at f5 ⊢
          have F5 := Lib.hid f5
          clear hY5 f5 hb5 hx5 hr5 x5
          refine hK.out _ _ F5.out.fb (fun k5 => ?_)
          clear hK K
          try simp only [List.setIfInBounds_toArray, List.set_cons_zero, List.set_cons_succ]
          refine wpAnyH_ready (rs := [13]) (by kernel_rfl) (by simp) ?_
          refine AllReadyH.cons (o := ⟨none, _, _, _, _, _⟩) rfl (fun K hK => ?_) AllReadyH.nil
          obtain ⟨hb6, x6, hx6, hr6⟩ := F5.out.2.2.2.2 B8 rfl
          rw [if_pos (by rfl)]
          refine op_store _ _ _ rfl _ rfl _ rfl (HSP1.out _ _ _ hr6 hx6) ?_
          have f6 := F5.out.st2 (⟨0, 0, false, false, false, 0, 0, 0, 0, 0⟩)
          obtain ⟨Y6, hY6⟩ : ∃ y, y = Y5.setRow B8 (pswA (⟨0, 0, false, false, false, 0, 0, 0, 0, 0⟩)) := ⟨_, rfl⟩
          rw [← hY6] at f6 ⊢
          have F6 := Lib.hid f6.1
          have P6 := Lib.hid f6.2
          clear hY6 f6 hb6 hx6 hr6 x6
          refine hK.out _ _ F6.out.fb (fun k6 => ?_)
          clear hK K
          try simp only [List.setIfInBounds_toArray, List.set_cons_zero, List.set_cons_succ]
          refine wpAnyH_take (i := 14) (oi := ⟨some 9, _, _, _, _, _⟩) (v := .int .i64 0) rfl (by kernel_rfl) (by kernel_rfl) (by kernel_rfl) (fun _ _ _ h => by cases h.1) (Or.inl ⟨by rfl, fun W hSw => by (try dsimp only at hSw); go_simp⟩) k6 ?_
          try simp only [Act.put, List.setIfInBounds_toArray, List.set_cons_zero, List.set_cons_succ]
          refine wpAnyH_done (by kernel_rfl) ?_ _
          refine id ?_
          exact ⟨rfl, B7, B8, cut_mk rfl, F6.out.1, F6.out.2.1, F6.out.2.2.1, P6.out⟩
        · go_simp
          have f3 := F2.out.al
          obtain ⟨Y3, hY3⟩ : ∃ y, y = Y2.alloc (.cells #[.int .u32 0, .int .u32 0, .int .u32 0, .int .u32 0, .int .u32 0, .int .u32 0, .int .u32 0, .int .u32 0, .int .u32 0, .int .u32 0, .int .u32 0, .int .u32 0, .int .u32 0, .int .u32 0, .int .u32 0, .int .u32 0] 28) := ⟨_, rfl⟩
          obtain ⟨B7, hB7⟩ : ∃ b, b = Y2.heap.size := ⟨_, rfl⟩
          rw [← hY3, ← hB7] at f3 ⊢
          have F3 := Lib.hid f3
          clear hY3 hB7 f3
          refine hK.out _ _ F3.out.fb (fun k3 => ?_)
          clear hK K
          try simp only [List.setIfInBounds_toArray, List.set_cons_zero, List.set_cons_succ]
          refine wpAnyH_ready (rs := [5]) (by kernel_rfl) (by simp) ?_
          refine AllReadyH.cons (o := ⟨some 53, _, _, _, _, _⟩) rfl (fun K hK => ?_) AllReadyH.nil
          go_simp
          go_at_call 17
          refine (HE1.out A g h 1 Y3 F3.out.2.2.1).mono ?_
          rintro e Y4 ⟨rfl, hs, hk⟩
          have F4 := Lib.hid (F3.out.exec hs hk)
          clear hs hk
          go_wp2_with fail
          refine hK.out _ _ F4.out.fb (fun k4 => ?_)
          clear hK K
          try simp only [List.setIfInBounds_toArray, List.set_cons_zero, List.set_cons_succ]
          refine wpAnyH_take (i := 6) (oi := ⟨some 47, _, _, _, _, _⟩) (v := .tuple #[.agg #[.int .u32 0, .int .u32 0, .int .u32 0, .int .u32 0, .int .u32 0, .int .u32 0, .int .u32 0, .int .u32 0, .int .u32 0, .int .u32 0, .int .u32 0, .int .u32 0, .int .u32 0, .int .u32 0, .int .u32 1000, .int .u32 100], .agg #[.int .i64 0, .int .i64 0, .bool false, .bool false, .bool false, .int .i64 0, .int .i64 0, .int .i64 0, .int .i64 0, .int .i64 0], .int .i64 0]) rfl (by kernel_rfl) (by kernel_rfl) (by kernel_rfl) (fun _ _ _ h => by cases h.1) (Or.inl ⟨by rfl, fun W hSw => by (try dsimp only at hSw); go_simp⟩) k4 ?_
          try simp only [Act.put, List.setIfInBounds_toArray, List.set_cons_zero, List.set_cons_succ]
          refine wpAnyH_take (i := 7) (oi := ⟨some 54, _, _, _, _, _⟩) (v := .agg #[.int .u32 0, .int .u32 0, .int .u32 0, .int .u32 0, .int .u32 0, .int .u32 0, .int .u32 0, .int .u32 0, .int .u32 0, .int .u32 0, .int .u32 0, .int .u32 0, .int .u32 0, .int .u32 0, .int .u32 1000, .int .u32 100]) rfl (by kernel_rfl) (by kernel_rfl) (by kernel_rfl) (fun _ _ _ h => by cases h.1) (Or.inl ⟨by rfl, fun W hSw => by (try dsimp only at hSw); go_simp⟩) k4 ?_
          try simp only [Act.put, List.setIfInBounds_toArray, List.set_cons_zero, List.set_cons_succ]
          refine wpAnyH_take (i := 8) (oi := ⟨some 55, _, _, _, _, _⟩) (v := .agg #[.int .i64 0, .int .i64 0, .bool false, .bool false, .bool false, .int .i64 0, .int .i64 0, .int .i64 0, .int .i64 0, .int .i64 0]) rfl (by kernel_rfl) (by kernel_rfl) (by kernel_rfl) (fun _ _ _ h => by cases h.1) (Or.inl ⟨by rfl, fun W hSw => by (try dsimp only at hSw); go_simp⟩) k4 ?_
          try simp only [Act.put, List.setIfInBounds_toArray, List.set_cons_zero, List.set_cons_succ]
          refine wpAnyH_take (i := 9) (oi := ⟨some 56, _, _, _, _, _⟩) (v := .int .i64 0) rfl (by kernel_rfl) (by kernel_rfl) (by kernel_rfl) (fun _ _ _ h => by cases h.1) (Or.inl ⟨by rfl, fun W hSw => by (try dsimp only at hSw); go_simp⟩) k4 ?_
          try simp only [Act.put, List.setIfInBounds_toArray, List.set_cons_zero, List.set_cons_succ]
          refine wpAnyH_ready (rs := [12]) (by kernel_rfl) (by simp) ?_
          refine AllReadyH.cons (o := ⟨none, _, _, _, _, _⟩) rfl (fun K hK => ?_) AllReadyH.nil
          obtain ⟨hb5, x5, hx5, hr5⟩ := F4.out.2.2.2.1 B7 rfl
          rw [if_pos (by rfl)]
          refine op_store _ _ _ rfl _ rfl _ rfl (HSR1.out _ _ _ hr5 hx5) ?_
          have f5 := F4.out.st HB6.out (mvR 1000 100)
          obtain ⟨Y5, hY5⟩ : ∃ y, y = Y4.setRow B7 (regA (mvR 1000 100)) := ⟨_, rfl⟩
          rw [← hY5] at f5 ⊢
          have F5 := Lib.hid f5
          clear hY5 f5 hb5 hx5 hr5 x5
          refine hK.out _ _ F5.out.fb (fun k5 => ?_)
          clear hK K
          try simp only [List.setIfInBounds_toArray, List.set_cons_zero, List.set_cons_succ]
          refine wpAnyH_ready (rs := [13]) (by kernel_rfl) (by simp) ?_
          refine AllReadyH.cons (o := ⟨none, _, _, _, _, _⟩) rfl (fun K hK => ?_) AllReadyH.nil
          obtain ⟨hb6, x6, hx6, hr6⟩ := F5.out.2.2.2.2 B8 rfl
          rw [if_pos (by rfl)]
          refine op_store _ _ _ rfl _ rfl _ rfl (HSP1.out _ _ _ hr6 hx6) ?_
          have f6 := F5.out.st2 (⟨0, 0, false, false, false, 0, 0, 0, 0, 0⟩)
          obtain ⟨Y6, hY6⟩ : ∃ y, y = Y5.setRow B8 (pswA (⟨0, 0, false, false, false, 0, 0, 0, 0, 0⟩)) := ⟨_, rfl⟩
          rw [← hY6] at f6 ⊢
          have F6 := Lib.hid f6.1
          have P6 := Lib.hid f6.2
          clear hY6 f6 hb6 hx6 hr6 x6
          refine hK.out _ _ F6.out.fb (fun k6 => ?_)
          clear hK K
          try simp only [List.setIfInBounds_toArray, List.set_cons_zero, List.set_cons_succ]
          refine wpAnyH_take (i := 14) (oi := ⟨some 9, _, _, _, _, _⟩) (v := .int .i64 0) rfl (by kernel_rfl) (by kernel_rfl) (by kernel_rfl) (fun _ _ _ h => by cases h.1) (Or.inl ⟨by rfl, fun W hSw => by (try dsimp only at hSw); go_simp⟩) k6 ?_
          try simp only [Act.put, List.setIfInBounds_toArray, List.set_cons_zero, List.set_cons_succ]
          refine wpAnyH_done (by kernel_rfl) ?_ _
          refine id ?_
          exact ⟨rfl, B7, B8, cut_mk rfl, F6.out.1, F6.out.2.1, F6.out.2.2.1, P6.out⟩
    · go_simp
      have f1 := F00.out.al
      obtain ⟨Y1, hY1⟩ : ∃ y, y = Y0.alloc (.cells #[.int .u32 0, .int .u32 0, .int .u32 0, .int .u32 0, .int .u32 0, .int .u32 0, .int .u32 0, .int .u32 0, .int .u32 0, .int .u32 0, .int .u32 0, .int .u32 0, .int .u32 0, .int .u32 0, .int .u32 0, .int .u32 0] 28) := ⟨_, rfl⟩
      obtain ⟨B7, hB7⟩ : ∃ b, b = Y0.heap.size := ⟨_, rfl⟩
      rw [← hY1, ← hB7] at f1 ⊢
      have F1 := Lib.hid f1
      clear hY1 hB7 f1
      refine hK.out _ _ F1.out.fb (fun k1 => ?_)
      clear hK K
      try simp only [List.setIfInBounds_toArray, List.set_cons_zero, List.set_cons_succ]
      refine wpAnyH_ready (rs := [1, 11]) (by kernel_rfl) (by simp) ?_
      refine AllReadyH.cons (o := ⟨some 49, _, _, _, _, _⟩) rfl (fun K hK => ?_) (AllReadyH.cons (o := ⟨some 8, _, _, _, _, _⟩) rfl (fun K hK => ?_) AllReadyH.nil)
      · go_simp
        go_at_call 27
        refine (HSS1.out Y1).mono ?_
        rintro e Y2 ⟨rfl, hb⟩
        have F2 := Lib.hid (F1.out.below hb)
        clear hb
        go_wp2_with fail
        refine hK.out _ _ F2.out.fb (fun k2 => ?_)
        clear hK K
        try simp only [List.setIfInBounds_toArray, List.set_cons_zero, List.set_cons_succ]
        refine wpAnyH_ready (rs := [5, 11]) (by kernel_rfl) (by simp) ?_
        refine AllReadyH.cons (o := ⟨some 53, _, _, _, _, _⟩) rfl (fun K hK => ?_) (AllReadyH.cons (o := ⟨some 8, _, _, _, _, _⟩) rfl (fun K hK => ?_) AllReadyH.nil)
        · go_simp
          go_at_call 17
          refine (HE1.out A g h 1 Y2 F2.out.2.2.1).mono ?_
          rintro e Y3 ⟨rfl, hs, hk⟩
          have F3 := Lib.hid (F2.out.exec hs hk)
          clear hs hk
          go_wp2_with fail
          refine hK.out _ _ F3.out.fb (fun k3 => ?_)
          clear hK K
          try simp only [List.setIfInBounds_toArray, List.set_cons_zero, List.set_cons_succ]
          refine wpAnyH_take (i := 6) (oi := ⟨some 47, _, _, _, _, _⟩) (v := .tuple #[.agg #[.int .u32 0, .int .u32 0, .int .u32 0, .int .u32 0, .int .u32 0, .int .u32 0, .int .u32 0, .int .u32 0, .int .u32 0, .int .u32 0, .int .u32 0, .int .u32 0, .int .u32 0, .int .u32 0, .int .u32 1000, .int .u32 100], .agg #[.int .i64 0, .int .i64 0, .bool false, .bool false, .bool false, .int .i64 0, .int .i64 0, .int .i64 0, .int .i64 0, .int .i64 0], .int .i64 0]) rfl (by kernel_rfl) (by kernel_rfl) (by kernel_rfl) (fun _ _ _ h => by cases h.1) (Or.inl ⟨by rfl, fun W hSw => by (try dsimp only at hSw); go_simp⟩) k3 ?_
          try simp only [Act.put, List.setIfInBounds_toArray, List.set_cons_zero, List.set_cons_succ]
          refine wpAnyH_take (i := 7) (oi := ⟨some 54, _, _, _, _, _⟩) (v := .agg #[.int .u32 0, .int .u32 0, .int .u32 0, .int .u32 0, .int .u32 0, .int .u32 0, .int .u32 0, .int .u32 0, .int .u32 0, .int .u32 0, .int .u32 0, .int .u32 0, .int .u32 0, .int .u32 0, .int .u32 1000, .int .u32 100]) rfl (by kernel_rfl) (by kernel_rfl) (by kernel_rfl) (fun _ _ _ h => by cases h.1) (Or.inl ⟨by rfl, fun W hSw => by (try dsimp only at hSw); go_simp⟩) k3 ?_
          try simp only [Act.put, List.setIfInBounds_toArray, List.set_cons_zero, List.set_cons_succ]
          refine wpAnyH_take (i := 8) (oi := ⟨some 55, _, _, _, _, _⟩) (v := .agg #[.int .i64 0, .int .i64 0, .bool false, .bool false, .bool false, .int .i64 0, .int .i64 0, .int .i64 0, .int .i64 0, .int .i64 0]) rfl (by kernel_rfl) (by kernel_rfl) (by kernel_rfl) (fun _ _ _ h => by cases h.1) (Or.inl ⟨by rfl, fun W hSw => by (try dsimp only at hSw); go_simp⟩) k3 ?_
          try simp only [Act.put, List.setIfInBounds_toArray, List.set_cons_zero, List.set_cons_succ]
          refine wpAnyH_take (i := 9) (oi := ⟨some 56, _, _, _, _, _⟩) (v := .int .i64 0) rfl (by kernel_rfl) (by kernel_rfl) (by kernel_rfl) (fun _ _ _ h => by cases h.1) (Or.inl ⟨by rfl, fun W hSw => by (try dsimp only at hSw); go_simp⟩) k3 ?_
          try simp only [Act.put, List.setIfInBounds_toArray, List.set_cons_zero, List.set_cons_succ]
          refine wpAnyH_ready (rs := [11]) (by kernel_rfl) (by simp) ?_
          refine AllReadyH.cons (o := ⟨some 8, _, _, _, _, _⟩) rfl (fun K hK => ?_) AllReadyH.nil
          go_simp
          have f4 := F3.out.al2
          obtain ⟨Y4, hY4⟩ : ∃ y, y = Y3.alloc (.cells #[.int .i64 0, .int .i64 0, .bool false, .bool false, .bool false, .int .i64 0, .int .i64 0, .int .i64 0, .int .i64 0, .int .i64 0] 30) := ⟨_, rfl⟩
          obtain ⟨B8, hB8⟩ : ∃ b, b = Y3.heap.size := ⟨_, rfl⟩
          rw [← hY4, ← hB8] at f4 ⊢
          have F4 := Lib.hid f4
          clear hY4 hB8 f4
          refine hK.out _ _ F4.out.fb (fun k4 => ?_)
          clear hK K
          try simp only [List.setIfInBounds_toArray, List.set_cons_zero, List.set_cons_succ]
          refine wpAnyH_ready (rs := [12]) (by kernel_rfl) (by simp) ?_
          refine AllReadyH.cons (o := ⟨none, _, _, _, _, _⟩) rfl (fun K hK => ?_) AllReadyH.nil
          obtain ⟨hb5, x5, hx5, hr5⟩ := F4.out.2.2.2.1 B7 rfl
          rw [if_pos (by rfl)]
          refine op_store _ _ _ rfl _ rfl _ rfl (HSR1.out _ _ _ hr5 hx5) ?_
          have f5 := F4.out.st HB6.out (mvR 1000 100)
          obtain ⟨Y5, hY5⟩ : ∃ y, y = Y4.setRow B7 (regA (mvR 1000 100)) := ⟨_, rfl⟩
          rw [← hY5] at f5 ⊢
          have F5 := Lib.hid f5
          clear hY5 f5 hb5 hx5 hr5 x5
          refine hK.out _ _ F5.out.fb (fun k5 => ?_)
          clear hK K
          try simp only [List.setIfInBounds_toArray, List.set_cons_zero, List.set_cons_succ]
          refine wpAnyH_ready (rs := [13]) (by kernel_rfl) (by simp) ?_
          refine AllReadyH.cons (o := ⟨none, _, _, _, _, _⟩) rfl (fun K hK => ?_) AllReadyH.nil
          obtain ⟨hb6, x6, hx6, hr6⟩ := F5.out.2.2.2.2 B8 rfl
          rw [if_pos (by rfl)]
          refine op_store _ _ _ rfl _ rfl _ rfl (HSP1.out _ _ _ hr6 hx6) ?_
          have f6 := F5.out.st2 (⟨0, 0, false, false, false, 0, 0, 0, 0, 0⟩)
          obtain ⟨Y6, hY6⟩ : ∃ y, y = Y5.setRow B8 (pswA (⟨0, 0, false, false, false, 0, 0, 0, 0, 0⟩)) := ⟨_, rfl⟩
          rw [← hY6] at f6 ⊢
          have F6 := Lib.hid f6.1
          have P6 := Lib.hid f6.2
          clear hY6 f6 hb6 hx6 hr6 x6
          refine hK.out _ _ F6.out.fb (fun k6 => ?_)
          clear hK K
          try simp only [List.setIfInBounds_toArray, List.set_cons_zero, List.set_cons_succ]
          refine wpAnyH_take (i := 14) (oi := ⟨some 9, _, _, _, _, _⟩) (v := .int .i64 0) rfl (by kernel_rfl) (by kernel_rfl) (by kernel_rfl) (fun _ _ _ h => by cases h.1) (Or.inl ⟨by rfl, fun W hSw => by (try dsimp only at hSw); go_simp⟩) k6 ?_
          try simp only [Act.put, List.setIfInBounds_toArray, List.set_cons_zero, List.set_cons_succ]
          refine wpAnyH_done (by kernel_rfl) ?_ _
          refine id ?_
          exact ⟨rfl, B7, B8, cut_mk rfl, F6.out.1, F6.out.2.1, F6.out.2.2.1, P6.out⟩
        · go_simp
          have f3 := F2.out.al2
          obtain ⟨Y3, hY3⟩ : ∃ y, y = Y2.alloc (.cells #[.int .i64 0, .int .i64 0, .bool false, .bool false, .bool false, .int .i64 0, .int .i64 0, .int .i64 0, .int .i64 0, .int .i64 0] 30) := ⟨_, rfl⟩
          obtain ⟨B8, hB8⟩ : ∃ b, b = Y2.heap.size := ⟨_, rfl⟩
          rw [← hY3, ← hB8] at f3 ⊢
          have F3 := Lib.hid f3
          clear hY3 hB8 f3
          refine hK.out _ _ F3.out.fb (fun k3 => ?_)
          clear hK K
          try simp only [List.setIfInBounds_toArray, List.set_cons_zero, List.set_cons_succ]
          refine wpAnyH_ready (rs := [5]) (by kernel_rfl) (by simp) ?_
          refine AllReadyH.cons (o := ⟨some 53, _, _, _, _, _⟩) rfl (fun K hK => ?_) AllReadyH.nil
          go_simp
          go_at_call 17
          refine (HE1.out A g h 1 Y3 F3.out.2.2.1).mono ?_
          rintro e Y4 ⟨rfl, hs, hk⟩
          have F4 := Lib.hid (F3.out.exec hs hk)
          clear hs hk
          go_wp2_with fail
          refine hK.out _ _ F4.out.fb (fun k4 => ?_)
          clear hK K
          try simp only [List.setIfInBounds_toArray, List.set_cons_zero, List.set_cons_succ]
          refine wpAnyH_take (i := 6) (oi := ⟨some 47, _, _, _, _, _⟩) (v := .tuple #[.agg #[.int .u32 0, .int .u32 0, .int .u32 0, .int .u32 0, .int .u32 0, .int .u32 0, .int .u32 0, .int .u32 0, .int .u32 0, .int .u32 0, .int .u32 0, .int .u32 0, .int .u32 0, .int .u32 0, .int .u32 1000, .int .u32 100], .agg #[.int .i64 0, .int .i64 0, .bool false, .bool false, .bool false, .int .i64 0, .int .i64 0, .int .i64 0, .int .i64 0, .int .i64 0], .int .i64 0]) rfl (by kernel_rfl) (by kernel_rfl) (by kernel_rfl) (fun _ _ _ h => by cases h.1) (Or.inl ⟨by rfl, fun W hSw => by (try dsimp only at hSw); go_simp⟩) k4 ?_
          try simp only [Act.put, List.setIfInBounds_toArray, List.set_cons_zero, List.set_cons_succ]
          refine wpAnyH_take (i := 7) (oi := ⟨some 54, _, _, _, _, _⟩) (v := .agg #[.int .u32 0, .int .u32 0, .int .u32 0, .int .u32 0, .int .u32 0, .int .u32 0, .int .u32 0, .int .u32 0, .int .u32 0, .int .u32 0, .int .u32 0, .int .u32 0, .int .u32 0, .int .u32 0, .int .u32 1000, .int .u32 100]) rfl (by kernel_rfl) (by kernel_rfl) (by kernel_rfl) (fun _ _ _ h => by cases h.1) (Or.inl ⟨by rfl, fun W hSw => by (try dsimp only at hSw); go_simp⟩) k4 ?_
          try simp only [Act.put, List.setIfInBounds_toArray, List.set_cons_zero, List.set_cons_succ]
          refine wpAnyH_take (i := 8) (oi := ⟨some 55, _, _, _, _, _⟩) (v := .agg #[.int .i64 0, .int .i64 0, .bool false, .bool false, .bool false, .int .i64 0, .int .i64 0, .int .i64 0, .int .i64 0, .int .i64 0]) rfl (by kernel_rfl) (by kernel_rfl) (by kernel_rfl) (fun _ _ _ h => by cases h.1) (Or.inl ⟨by rfl, fun W hSw => by (try dsimp only at hSw); go_simp⟩) k4 ?_
          try simp only [Act.put, List.setIfInBounds_toArray, List.set_cons_zero, List.set_cons_succ]
          refine wpAnyH_take (i := 9) (oi := ⟨some 56, _, _, _, _, _⟩) (v := .int .i64 0) rfl (by kernel_rfl) (by kernel_rfl) (by kernel_rfl) (fun _ _ _ h => by cases h.1) (Or.inl ⟨by rfl, fun W hSw => by (try dsimp only at hSw); go_simp⟩) k4 ?_
          try simp only [Act.put, List.setIfInBounds_toArray, List.set_cons_zero, List.set_cons_succ]
          refine wpAnyH_ready (rs := [12]) (by kernel_rfl) (by simp) ?_
          refine AllReadyH.cons (o := ⟨none, _, _, _, _, _⟩) rfl (fun K hK => ?_) AllReadyH.nil
          obtain ⟨hb5, x5, hx5, hr5⟩ := F4.out.2.2.2.1 B7 rfl
          rw [if_pos (by rfl)]
          refine op_store _ _ _ rfl _ rfl _ rfl (HSR1.out _ _ _ hr5 hx5) ?_
          have f5 := F4.out.st HB6.out (mvR 1000 100)
          obtain ⟨Y5, hY5⟩ : ∃ y, y = Y4.setRow B7 (regA (mvR 1000 100)) := ⟨_, rfl⟩
          rw [← hY5] at f5 ⊢
          have F5 := Lib.hid f5
          clear hY5 f5 hb5 hx5 hr5 x5
          refine hK.out _ _ F5.out.fb (fun k5 => ?_)
          clear hK K
          try simp only [List.setIfInBounds_toArray, List.set_cons_zero, List.set_cons_succ]
          refine wpAnyH_ready (rs := [13]) (by kernel_rfl) (by simp) ?_
          refine AllReadyH.cons (o := ⟨none, _, _, _, _, _⟩) rfl (fun K hK => ?_) AllReadyH.nil
          obtain ⟨hb6, x6, hx6, hr6⟩ := F5.out.2.2.2.2 B8 rfl
          rw [if_pos (by rfl)]
          refine op_store _ _ _ rfl _ rfl _ rfl (HSP1.out _ _ _ hr6 hx6) ?_
          have f6 := F5.out.st2 (⟨0, 0, false, false, false, 0, 0, 0, 0, 0⟩)
          obtain ⟨Y6, hY6⟩ : ∃ y, y = Y5.setRow B8 (pswA (⟨0, 0, false, false, false, 0, 0, 0, 0, 0⟩)) := ⟨_, rfl⟩
          rw [← hY6] at f6 ⊢
          have F6 := Lib.hid f6.1
          have P6 := Lib.hid f6.2
          clear hY6 f6 hb6 hx6 hr6 x6
          refine hK.out _ _ F6.out.fb (fun k6 => ?_)
          clear hK K
          try simp only [List.setIfInBounds_toArray, List.set_cons_zero, List.set_cons_succ]
          refine wpAnyH_take (i := 14) (oi := ⟨some 9, _, _, _, _, _⟩) (v := .int .i64 0) rfl (by kernel_rfl) (by kernel_rfl) (by kernel_rfl) (fun _ _ _ h => by cases h.1) (Or.inl ⟨by rfl, fun W hSw => by (try dsimp only at hSw); go_simp⟩) k6 ?_
          try simp only [Act.put, List.setIfInBounds_toArray, List.set_cons_zero, List.set_cons_succ]
          refine wpAnyH_done (by kernel_rfl) ?_ _
          refine id ?_
          exact ⟨rfl, B7, B8, cut_mk rfl, F6.out.1, F6.out.2.1, F6.out.2.2.1, P6.out⟩
      · go_simp
        have f2 := F1.out.al2
        obtain ⟨Y2, hY2⟩ : ∃ y, y = Y1.alloc (.cells #[.int .i64 0, .int .i64 0, .bool false, .bool false, .bool false, .int .i64 0, .int .i64 0, .int .i64 0, .int .i64 0, .int .i64 0] 30) := ⟨_, rfl⟩
        obtain ⟨B8, hB8⟩ : ∃ b, b = Y1.heap.size := ⟨_, rfl⟩
        rw [← hY2, ← hB8] at f2 ⊢
        have F2 := Lib.hid f2
        clear hY2 hB8 f2
        refine hK.out _ _ F2.out.fb (fun k2 => ?_)
        clear hK K
        try simp only [List.setIfInBounds_toArray, List.set_cons_zero, List.set_cons_succ]
        refine wpAnyH_ready (rs := [1]) (by kernel_rfl) (by simp) ?_
        refine AllReadyH.cons (o := ⟨some 49, _, _, _, _, _⟩) rfl (fun K hK => ?_) AllReadyH.nil
        go_simp
        go_at_call 27
        refine (HSS1.out Y2).mono ?_
        rintro e Y3 ⟨rfl, hb⟩
        have F3 := Lib.hid (F2.out.below hb)
        clear hb
        go_wp2_with fail
        refine hK.out _ _ F3.out.fb (fun k3 => ?_)
        clear hK K
        try simp only [List.setIfInBounds_toArray, List.set_cons_zero, List.set_cons_succ]
        refine wpAnyH_ready (rs := [5]) (by kernel_rfl) (by simp) ?_
        refine AllReadyH.cons (o := ⟨some 53, _, _, _, _, _⟩) rfl (fun K hK => ?_) AllReadyH.nil
        go_simp
        go_at_call 17
        refine (HE1.out A g h 1 Y3 F3.out.2.2.1).mono ?_
        rintro e Y4 ⟨rfl, hs, hk⟩
        have F4 := Lib.hid (F3.out.exec hs hk)
        clear hs hk
        go_wp2_with fail
        refine hK.out _ _ F4.out.fb (fun k4 => ?_)
        clear hK K
        try simp only [List.setIfInBounds_toArray, List.set_cons_zero, List.set_cons_succ]
        refine wpAnyH_take (i := 6) (oi := ⟨some 47, _, _, _, _, _⟩) (v := .tuple #[.agg #[.int .u32 0, .int .u32 0, .int .u32 0, .int .u32 0, .int .u32 0, .int .u32 0, .int .u32 0, .int .u32 0, .int .u32 0, .int .u32 0, .int .u32 0, .int .u32 0, .int .u32 0, .int .u32 0, .int .u32 1000, .int .u32 100], .agg #[.int .i64 0, .int .i64 0, .bool false, .bool false, .bool false, .int .i64 0, .int .i64 0, .int .i64 0, .int .i64 0, .int .i64 0], .int .i64 0]) rfl (by kernel_rfl) (by kernel_rfl) (by kernel_rfl) (fun _ _ _ h => by cases h.1) (Or.inl ⟨by rfl, fun W hSw => by (try dsimp only at hSw); go_simp⟩) k4 ?_
        try simp only [Act.put, List.setIfInBounds_toArray, List.set_cons_zero, List.set_cons_succ]
        refine wpAnyH_take (i := 7) (oi := ⟨some 54, _, _, _, _, _⟩) (v := .agg #[.int .u32 0, .int .u32 0, .int .u32 0, .int .u32 0, .int .u32 0, .int .u32 0, .int .u32 0, .int .u32 0, .int .u32 0, .int .u32 0, .int .u32 0, .int .u32 0, .int .u32 0, .int .u32 0, .int .u32 1000, .int .u32 100]) rfl (by kernel_rfl) (by kernel_rfl) (by kernel_rfl) (fun _ _ _ h => by cases h.1) (Or.inl ⟨by rfl, fun W hSw => by (try dsimp only at hSw); go_simp⟩) k4 ?_
        try simp only [Act.put, List.setIfInBounds_toArray, List.set_cons_zero, List.set_cons_succ]
        refine wpAnyH_take (i := 8) (oi := ⟨some 55, _, _, _, _, _⟩) (v := .agg #[.int .i64 0, .int .i64 0, .bool false, .bool false, .bool false, .int .i64 0, .int .i64 0, .int .i64 0, .int .i64 0, .int .i64 0]) rfl (by kernel_rfl) (by kernel_rfl) (by kernel_rfl) (fun _ _ _ h => by cases h.1) (Or.inl ⟨by rfl, fun W hSw => by (try dsimp only at hSw); go_simp⟩) k4 ?_
        try simp only [Act.put, List.setIfInBounds_toArray, List.set_cons_zero, List.set_cons_succ]
        refine wpAnyH_take (i := 9) (oi := ⟨some 56, _, _, _, _, _⟩) (v := .int .i64 0) rfl (by kernel_rfl) (by kernel_rfl) (by kernel_rfl) (fun _ _ _ h => by cases h.1) (Or.inl ⟨by rfl, fun W hSw => by (try dsimp only at hSw); go_simp⟩) k4 ?_
        try simp only [Act.put, List.setIfInBounds_toArray, List.set_cons_zero, List.set_cons_succ]
        refine wpAnyH_ready (rs := [12]) (by kernel_rfl) (by simp) ?_
        refine AllReadyH.cons (o := ⟨none, _, _, _, _, _⟩) rfl (fun K hK => ?_) AllReadyH.nil
        obtain ⟨hb5, x5, hx5, hr5⟩ := F4.out.2.2.2.1 B7 rfl
        rw [if_pos (by rfl)]
        refine op_store _ _ _ rfl _ rfl _ rfl (HSR1.out _ _ _ hr5 hx5) ?_
        have f5 := F4.out.st HB6.out (mvR 1000 100)
        obtain ⟨Y5, hY5⟩ : ∃ y, y = Y4.setRow B7 (regA (mvR 1000 100)) := ⟨_, rfl⟩
        rw [← hY5] at f5 ⊢
        have F5 := Lib.hid f5
        clear hY5 f5 hb5 hx5 hr5 x5
        refine hK.out _ _ F5.out.fb (fun k5 => ?_)
        clear hK K
        try simp only [List.setIfInBounds_toArray, List.set_cons_zero, List.set_cons_succ]
        refine wpAnyH_ready (rs := [13]) (by kernel_rfl) (by simp) ?_
        refine AllReadyH.cons (o := ⟨none, _, _, _, _, _⟩) rfl (fun K hK => ?_) AllReadyH.nil
        obtain ⟨hb6, x6, hx6, hr6⟩ := F5.out.2.2.2.2 B8 rfl
        rw [if_pos (by rfl)]
        refine op_store _ _ _ rfl _ rfl _ rfl (HSP1.out _ _ _ hr6 hx6) ?_
        have f6 := F5.out.st2 (⟨0, 0, false, false, false, 0, 0, 0, 0, 0⟩)
        obtain ⟨Y6, hY6⟩ : ∃ y, y = Y5.setRow B8 (pswA (⟨0, 0, false, false, false, 0, 0, 0, 0, 0⟩)) := ⟨_, rfl⟩
        rw [← hY6] at f6 ⊢
        have F6 := Lib.hid f6.1
        have P6 := Lib.hid f6.2
        clear hY6 f6 hb6 hx6 hr6 x6
        refine hK.out _ _ F6.out.fb (fun k6 => ?_)
        clear hK K
        try simp only [List.setIfInBounds_toArray, List.set_cons_zero, List.set_cons_succ]
        refine wpAnyH_take (i := 14) (oi := ⟨some 9, _, _, _, _, _⟩) (v := .int .i64 0) rfl (by kernel_rfl) (by kernel_rfl) (by kernel_rfl) (fun _ _ _ h => by cases h.1) (Or.inl ⟨by rfl, fun W hSw => by (try dsimp only at hSw); go_simp⟩) k6 ?_
        try simp only [Act.put, List.setIfInBounds_toArray, List.set_cons_zero, List.set_cons_succ]
        refine wpAnyH_done (by kernel_rfl) ?_ _
        refine id ?_
        exact ⟨rfl, B7, B8, cut_mk rfl, F6.out.1, F6.out.2.1, F6.out.2.2.1, P6.out⟩
    · go_simp
      have f1 := F00.out.al2
      obtain ⟨Y1, hY1⟩ : ∃ y, y = Y0.alloc (.cells #[.int .i64 0, .int .i64 0, .bool false, .bool false, .bool false, .int .i64 0, .int .i64 0, .int .i64 0, .int .i64 0, .int .i64 0] 30) := ⟨_, rfl⟩
      obtain ⟨B8, hB8⟩ : ∃ b, b = Y0.heap.size := ⟨_, rfl⟩
      rw [← hY1, ← hB8] at f1 ⊢
      have F1 := Lib.hid f1
      clear hY1 hB8 f1
      refine hK.out _ _ F1.out.fb (fun k1 => ?_)
      clear hK K
      try simp only [List.setIfInBounds_toArray, List.set_cons_zero, List.set_cons_succ]
      refine wpAnyH_ready (rs := [1, 10]) (by kernel_rfl) (by simp) ?_
      refine AllReadyH.cons (o := ⟨some 49, _, _, _, _, _⟩) rfl (fun K hK => ?_) (AllReadyH.cons (o := ⟨some 7, _, _, _, _, _⟩) rfl (fun K hK => ?_) AllReadyH.nil)
      · go_simp
        go_at_call 27
        refine (HSS1.out Y1).mono ?_
        rintro e Y2 ⟨rfl, hb⟩
        have F2 := Lib.hid (F1.out.below hb)
        clear hb
        go_wp2_with fail
        refine hK.out _ _ F2.out.fb (fun k2 => ?_)
        clear hK K
        try simp only [List.setIfInBounds_toArray, List.set_cons_zero, List.set_cons_succ]
        refine wpAnyH_ready (rs := [5, 10]) (by kernel_rfl) (by simp) ?_
        refine AllReadyH.cons (o := ⟨some 53, _, _, _, _, _⟩) rfl (fun K hK => ?_) (AllReadyH.cons (o := ⟨some 7, _, _, _, _, _⟩) rfl (fun K hK => ?_) AllReadyH.nil)
        · go_simp
          go_at_call 17
          refine (HE1.out A g h 1 Y2 F2.out.2.2.1).mono ?_
          rintro e Y3 ⟨rfl, hs, hk⟩
          have F3 := Lib.hid (F2.out.exec hs hk)
          clear hs hk
          go_wp2_with fail
          refine hK.out _ _ F3.out.fb (fun k3 => ?_)
          clear hK K
          try simp only [List.setIfInBounds_toArray, List.set_cons_zero, List.set_cons_succ]
          refine wpAnyH_take (i := 6) (oi := ⟨some 47, _, _, _, _, _⟩) (v := .tuple #[.agg #[.int .u32 0, .int .u32 0, .int .u32 0, .int .u32 0, .int .u32 0, .int .u32 0, .int .u32 0, .int .u32 0, .int .u32 0, .int .u32 0, .int .u32 0, .int .u32 0, .int .u32 0, .int .u32 0, .int .u32 1000, .int .u32 100], .agg #[.int .i64 0, .int .i64 0, .bool false, .bool false, .bool false, .int .i64 0, .int .i64 0, .int .i64 0, .int .i64 0, .int .i64 0], .int .i64 0]) rfl (by kernel_rfl) (by kernel_rfl) (by kernel_rfl) (fun _ _ _ h => by cases h.1) (Or.inl ⟨by rfl, fun W hSw => by (try dsimp only at hSw); go_simp⟩) k3 ?_
          try simp only [Act.put, List.setIfInBounds_toArray, List.set_cons_zero, List.set_cons_succ]
          refine wpAnyH_take (i := 7) (oi := ⟨some 54, _, _, _, _, _⟩) (v := .agg #[.int .u32 0, .int .u32 0, .int .u32 0, .int .u32 0, .int .u32 0, .int .u32 0, .int .u32 0, .int .u32 0, .int .u32 0, .int .u32 0, .int .u32 0, .int .u32 0, .int .u32 0, .int .u32 0, .int .u32 1000, .int .u32 100]) rfl (by kernel_rfl) (by kernel_rfl) (by kernel_rfl) (fun _ _ _ h => by cases h.1) (Or.inl ⟨by rfl, fun W hSw => by (try dsimp only at hSw); go_simp⟩) k3 ?_
          try simp only [Act.put, List.setIfInBounds_toArray, List.set_cons_zero, List.set_cons_succ]
          refine wpAnyH_take (i := 8) (oi := ⟨some 55, _, _, _, _, _⟩) (v := .agg #[.int .i64 0, .int .i64 0, .bool false, .bool false, .bool false, .int .i64 0, .int .i64 0, .int .i64 0, .int .i64 0, .int .i64 0]) rfl (by kernel_rfl) (by kernel_rfl) (by kernel_rfl) (fun _ _ _ h => by cases h.1) (Or.inl ⟨by rfl, fun W hSw => by (try dsimp only at hSw); go_simp⟩) k3 ?_
          try simp only [Act.put, List.setIfInBounds_toArray, List.set_cons_zero, List.set_cons_succ]
          refine wpAnyH_take (i := 9) (oi := ⟨some 56, _, _, _, _, _⟩) (v := .int .i64 0) rfl (by kernel_rfl) (by kernel_rfl) (by kernel_rfl) (fun _ _ _ h => by cases h.1) (Or.inl ⟨by rfl, fun W hSw => by (try dsimp only at hSw); go_simp⟩) k3 ?_
          try simp only [Act.put, List.setIfInBounds_toArray, List.set_cons_zero, List.set_cons_succ]
          refine wpAnyH_ready (rs := [10]) (by kernel_rfl) (by simp) ?_
          refine AllReadyH.cons (o := ⟨some 7, _, _, _, _, _⟩) rfl (fun K hK => ?_) AllReadyH.nil
          go_simp
          have f4 := F3.out.al
          obtain ⟨Y4, hY4⟩ : ∃ y, y = Y3.alloc (.cells #[.int .u32 0, .int .u32 0, .int .u32 0, .int .u32 0, .int .u32 0, .int .u32 0, .int .u32 0, .int .u32 0, .int .u32 0, .int .u32 0, .int .u32 0, .int .u32 0, .int .u32 0, .int .u32 0, .int .u32 0, .int .u32 0] 28) := ⟨_, rfl⟩
          obtain ⟨B7, hB7⟩ : ∃ b, b = Y3.heap.size := ⟨_, rfl⟩
          rw [← hY4, ← hB7] at f4 ⊢
          have F4 := Lib.hid f4
          clear hY4 hB7 f4
          refine hK.out _ _ F4.out.fb (fun k4 => ?_)
          clear hK K
          try simp only [List.setIfInBounds_toArray, List.set_cons_zero, List.set_cons_succ]
          refine wpAnyH_ready (rs := [12]) (by kernel_rfl) (by simp) ?_
          refine AllReadyH.cons (o := ⟨none, _, _, _, _, _⟩) rfl (fun K hK => ?_) AllReadyH.nil
          obtain ⟨hb5, x5, hx5, hr5⟩ := F4.out.2.2.2.1 B7 rfl
          rw [if_pos (by rfl)]
          refine op_store _ _ _ rfl _ rfl _ rfl (HSR1.out _ _ _ hr5 hx5) ?_
          have f5 := F4.out.st HB6.out (mvR 1000 100)
          obtain ⟨Y5, hY5⟩ : ∃ y, y = Y4.setRow B7 (regA (mvR 1000 100)) := ⟨_, rfl⟩
          rw [← hY5] at f5 ⊢
          have F5 := Lib.hid f5
          clear hY5 f5 hb5 hx5 hr5 x5
          refine hK.out _ _ F5.out.fb (fun k5 => ?_)
          clear hK K
          try simp only [List.setIfInBounds_toArray, List.set_cons_zero, List.set_cons_succ]
          refine wpAnyH_ready (rs := [13]) (by kernel_rfl) (by simp) ?_
          refine AllReadyH.cons (o := ⟨none, _, _, _, _, _⟩) rfl (fun K hK => ?_) AllReadyH.nil
          obtain ⟨hb6, x6, hx6, hr6⟩ := F5.out.2.2.2.2 B8 rfl
          rw [if_pos (by rfl)]
          refine op_store _ _ _ rfl _ rfl _ rfl (HSP1.out _ _ _ hr6 hx6) ?_
          have f6 := F5.out.st2 (⟨0, 0, false, false, false, 0, 0, 0, 0, 0⟩)
          obtain ⟨Y6, hY6⟩ : ∃ y, y = Y5.setRow B8 (pswA (⟨0, 0, false, false, false, 0, 0, 0, 0, 0⟩)) := ⟨_, rfl⟩
          rw [← hY6] at f6 ⊢
          have F6 := Lib.hid f6.1
          have P6 := Lib.hid f6.2
          clear hY6 f6 hb6 hx6 hr6 x6
          refine hK.out _ _ F6.out.fb (fun k6 => ?_)
          clear hK K
          try simp only [List.setIfInBounds_toArray, List.set_cons_zero, List.set_cons_succ]
          refine wpAnyH_take (i := 14) (oi := ⟨some 9, _, _, _, _, _⟩) (v := .int .i64 0) rfl (by kernel_rfl) (by kernel_rfl) (by kernel_rfl) (fun _ _ _ h => by cases h.1) (Or.inl ⟨by rfl, fun W hSw => by (try dsimp only at hSw); go_simp⟩) k6 ?_
          try simp only [Act.put, List.setIfInBounds_toArray, List.set_cons_zero, List.set_cons_succ]
          refine wpAnyH_done (by kernel_rfl) ?_ _
          refine id ?_
          exact ⟨rfl, B7, B8, cut_mk rfl, F6.out.1, F6.out.2.1, F6.out.2.2.1, P6.out⟩
        · go_simp
          have f3 := F2.out.al
          obtain ⟨Y3, hY3⟩ : ∃ y, y = Y2.alloc (.cells #[.int .u32 0, .int .u32 0, .int .u32 0, .int .u32 0, .int .u32 0, .int .u32 0, .int .u32 0, .int .u32 0, .int .u32 0, .int .u32 0, .int .u32 0, .int .u32 0, .int .u32 0, .int .u32 0, .int .u32 0, .int .u32 0] 28) := ⟨_, rfl⟩
          obtain ⟨B7, hB7⟩ : ∃ b, b = Y2.heap.size := ⟨_, rfl⟩
          rw [← hY3, ← hB7] at f3 ⊢
          have F3 := Lib.hid f3
          clear hY3 hB7 f3
          refine hK.out _ _ F3.out.fb (fun k3 => ?_)
          clear hK K
          try simp only [List.setIfInBounds_toArray, List.set_cons_zero, List.set_cons_succ]
          refine wpAnyH_ready (rs := [5]) (by kernel_rfl) (by simp) ?_
          refine AllReadyH.cons (o := ⟨some 53, _, _, _, _, _⟩) rfl (fun K hK => ?_) AllReadyH.nil
          go_simp
          go_at_call 17
          refine (HE1.out A g h 1 Y3 F3.out.2.2.1).mono ?_
          rintro e Y4 ⟨rfl, hs, hk⟩
          have F4 := Lib.hid (F3.out.exec hs hk)
          clear hs hk
          go_wp2_with fail
          refine hK.out _ _ F4.out.fb (fun k4 => ?_)
          clear hK K
          try simp only [List.setIfInBounds_toArray, List.set_cons_zero, List.set_cons_succ]
          refine wpAnyH_take (i := 6) (oi := ⟨some 47, _, _, _, _, _⟩) (v := .tuple #[.agg #[.int .u32 0, .int .u32 0, .int .u32 0, .int .u32 0, .int .u32 0, .int .u32 0, .int .u32 0, .int .u32 0, .int .u32 0, .int .u32 0, .int .u32 0, .int .u32 0, .int .u32 0, .int .u32 0, .int .u32 1000, .int .u32 100], .agg #[.int .i64 0, .int .i64 0, .bool false, .bool false, .bool false, .int .i64 0, .int .i64 0, .int .i64 0, .int .i64 0, .int .i64 0], .int .i64 0]) rfl (by kernel_rfl) (by kernel_rfl) (by kernel_rfl) (fun _ _ _ h => by cases h.1) (Or.inl ⟨by rfl, fun W hSw => by (try dsimp only at hSw); go_simp⟩) k4 ?_
          try simp only [Act.put, List.setIfInBounds_toArray, List.set_cons_zero, List.set_cons_succ]
          refine wpAnyH_take (i := 7) (oi := ⟨some 54, _, _, _, _, _⟩) (v := .agg #[.int .u32 0, .int .u32 0, .int .u32 0, .int .u32 0, .int .u32 0, .int .u32 0, .int .u32 0, .int .u32 0, .int .u32 0, .int .u32 0, .int .u32 0, .int .u32 0, .int .u32 0, .int .u32 0, .int .u32 1000, .int .u32 100]) rfl (by kernel_rfl) (by kernel_rfl) (by kernel_rfl) (fun _ _ _ h => by cases h.1) (Or.inl ⟨by rfl, fun W hSw => by (try dsimp only at hSw); go_simp⟩) k4 ?_
          try simp only [Act.put, List.setIfInBounds_toArray, List.set_cons_zero, List.set_cons_succ]
          refine wpAnyH_take (i := 8) (oi := ⟨some 55, _, _, _, _, _⟩) (v := .agg #[.int .i64 0, .int .i64 0, .bool false, .bool false, .bool false, .int .i64 0, .int .i64 0, .int .i64 0, .int .i64 0, .int .i64 0]) rfl (by kernel_rfl) (by kernel_rfl) (by kernel_rfl) (fun _ _ _ h => by cases h.1) (Or.inl ⟨by rfl, fun W hSw => by (try dsimp only at hSw); go_simp⟩) k4 ?_
          try simp only [Act.put, List.setIfInBounds_toArray, List.set_cons_zero, List.set_cons_succ]
          refine wpAnyH_take (i := 9) (oi := ⟨some 56, _, _, _, _, _⟩) (v := .int .i64 0) rfl (by kernel_rfl) (by kernel_rfl) (by kernel_rfl) (fun _ _ _ h => by cases h.1) (Or.inl ⟨by rfl, fun W hSw => by (try dsimp only at hSw); go_simp⟩) k4 ?_
          try simp only [Act.put, List.setIfInBounds_toArray, List.set_cons_zero, List.set_cons_succ]
          refine wpAnyH_ready (rs := [12]) (by kernel_rfl) (by simp) ?_
          refine AllReadyH.cons (o := ⟨none, _, _, _, _, _⟩) rfl (fun K hK => ?_) AllReadyH.nil
          obtain ⟨hb5, x5, hx5, hr5⟩ := F4.out.2.2.2.1 B7 rfl
          rw [if_pos (by rfl)]
          refine op_store _ _ _ rfl _ rfl _ rfl (HSR1.out _ _ _ hr5 hx5) ?_
          have f5 := F4.out.st HB6.out (mvR 1000 100)
          obtain ⟨Y5, hY5⟩ : ∃ y, y = Y4.setRow B7 (regA (mvR 1000 100)) := ⟨_, rfl⟩
          rw [← hY5] at f5 ⊢
          have F5 := Lib.hid f5
          clear hY5 f5 hb5 hx5 hr5 x5
          refine hK.out _ _ F5.out.fb (fun k5 => ?_)
          clear hK K
          try simp only [List.setIfInBounds_toArray, List.set_cons_zero, List.set_cons_succ]
          refine wpAnyH_ready (rs := [13]) (by kernel_rfl) (by simp) ?_
          refine AllReadyH.cons (o := ⟨none, _, _, _, _, _⟩) rfl (fun K hK => ?_) AllReadyH.nil
          obtain ⟨hb6, x6, hx6, hr6⟩ := F5.out.2.2.2.2 B8 rfl
          rw [if_pos (by rfl)]
          refine op_store _ _ _ rfl _ rfl _ rfl (HSP1.out _ _ _ hr6 hx6) ?_
          have f6 := F5.out.st2 (⟨0, 0, false, false, false, 0, 0, 0, 0, 0⟩)
          obtain ⟨Y6, hY6⟩ : ∃ y, y = Y5.setRow B8 (pswA (⟨0, 0, false, false, false, 0, 0, 0, 0, 0⟩)) := ⟨_, rfl⟩
          rw [← hY6] at f6 ⊢
          have F6 := Lib.hid f6.1
          have P6 := Lib.hid f6.2
          clear hY6 f6 hb6 hx6 hr6 x6
          refine hK.out _ _ F6.out.fb (fun k6 => ?_)
          clear hK K
          try simp only [List.setIfInBounds_toArray, List.set_cons_zero, List.set_cons_succ]
          refine wpAnyH_take (i := 14) (oi := ⟨some 9, _, _, _, _, _⟩) (v := .int .i64 0) rfl (by kernel_rfl) (by kernel_rfl) (by kernel_rfl) (fun _ _ _ h => by cases h.1) (Or.inl ⟨by rfl, fun W hSw => by (try dsimp only at hSw); go_simp⟩) k6 ?_
          try simp only [Act.put, List.setIfInBounds_toArray, List.set_cons_zero, List.set_cons_succ]
          refine wpAnyH_done (by kernel_rfl) ?_ _
          refine id ?_
          exact ⟨rfl, B7, B8, cut_mk rfl, F6.out.1, F6.out.2.1, F6.out.2.2.1, P6.out⟩
      · go_simp
        have f2 := F1.out.al
        obtain ⟨Y2, hY2⟩ : ∃ y, y = Y1.alloc (.cells #[.int .u32 0, .int .u32 0, .int .u32 0, .int .u32 0, .int .u32 0, .int .u32 0, .int .u32 0, .int .u32 0, .int .u32 0, .int .u32 0, .int .u32 0, .int .u32 0, .int .u32 0, .int .u32 0, .int .u32 0, .int .u32 0] 28) := ⟨_, rfl⟩
        obtain ⟨B7, hB7⟩ : ∃ b, b = Y1.heap.size := ⟨_, rfl⟩
        rw [← hY2, ← hB7] at f2 ⊢
        have F2 := Lib.hid f2
        clear hY2 hB7 f2
        refine hK.out _ _ F2.out.fb (fun k2 => ?_)
        clear hK K
        try simp only [List.setIfInBounds_toArray, List.set_cons_zero, List.set_cons_succ]
        refine wpAnyH_ready (rs := [1]) (by kernel_rfl) (by simp) ?_
        refine AllReadyH.cons (o := ⟨some 49, _, _, _, _, _⟩) rfl (fun K hK => ?_) AllReadyH.nil
        go_simp
        go_at_call 27
        refine (HSS1.out Y2).mono ?_
        rintro e Y3 ⟨rfl, hb⟩
        have F3 := Lib.hid (F2.out.below hb)
        clear hb
        go_wp2_with fail
        refine hK.out _ _ F3.out.fb (fun k3 => ?_)
        clear hK K
        try simp only [List.setIfInBounds_toArray, List.set_cons_zero, List.set_cons_succ]
        refine wpAnyH_ready (rs := [5]) (by kernel_rfl) (by simp) ?_
        refine AllReadyH.cons (o := ⟨some 53, _, _, _, _, _⟩) rfl (fun K hK => ?_) AllReadyH.nil
        go_simp
        go_at_call 17
        refine (HE1.out A g h 1 Y3 F3.out.2.2.1).mono ?_
        rintro e Y4 ⟨rfl, hs, hk⟩
        have F4 := Lib.hid (F3.out.exec hs hk)
        clear hs hk
        go_wp2_with fail
        refine hK.out _ _ F4.out.fb (fun k4 => ?_)
        clear hK K
        try simp only [List.setIfInBounds_toArray, List.set_cons_zero, List.set_cons_succ]
        refine wpAnyH_take (i := 6) (oi := ⟨some 47, _, _, _, _, _⟩) (v := .tuple #[.agg #[.int .u32 0, .int .u32 0, .int .u32 0, .int .u32 0, .int .u32 0, .int .u32 0, .int .u32 0, .int .u32 0, .int .u32 0, .int .u32 0, .int .u32 0, .int .u32 0, .int .u32 0, .int .u32 0, .int .u32 1000, .int .u32 100], .agg #[.int .i64 0, .int .i64 0, .bool false, .bool false, .bool false, .int .i64 0, .int .i64 0, .int .i64 0, .int .i64 0, .int .i64 0], .int .i64 0]) rfl (by kernel_rfl) (by kernel_rfl) (by kernel_rfl) (fun _ _ _ h => by cases h.1) (Or.inl ⟨by rfl, fun W hSw => by (try dsimp only at hSw); go_simp⟩) k4 ?_
        try simp only [Act.put, List.setIfInBounds_toArray, List.set_cons_zero, List.set_cons_succ]
        refine wpAnyH_take (i := 7) (oi := ⟨some 54, _, _, _, _, _⟩) (v := .agg #[.int .u32 0, .int .u32 0, .int .u32 0, .int .u32 0, .int .u32 0, .int .u32 0, .int .u32 0, .int .u32 0, .int .u32 0, .int .u32 0, .int .u32 0, .int .u32 0, .int .u32 0, .int .u32 0, .int .u32 1000, .int .u32 100]) rfl (by kernel_rfl) (by kernel_rfl) (by kernel_rfl) (fun _ _ _ h => by cases h.1) (Or.inl ⟨by rfl, fun W hSw => by (try dsimp only at hSw); go_simp⟩) k4 ?_
        try simp only [Act.put, List.setIfInBounds_toArray, List.set_cons_zero, List.set_cons_succ]
        refine wpAnyH_take (i := 8) (oi := ⟨some 55, _, _, _, _, _⟩) (v := .agg #[.int .i64 0, .int .i64 0, .bool false, .bool false, .bool false, .int .i64 0, .int .i64 0, .int .i64 0, .int .i64 0, .int .i64 0]) rfl (by kernel_rfl) (by kernel_rfl) (by kernel_rfl) (fun _ _ _ h => by cases h.1) (Or.inl ⟨by rfl, fun W hSw => by (try dsimp only at hSw); go_simp⟩) k4 ?_
        try simp only [Act.put, List.setIfInBounds_toArray, List.set_cons_zero, List.set_cons_succ]
        refine wpAnyH_take (i := 9) (oi := ⟨some 56, _, _, _, _, _⟩) (v := .int .i64 0) rfl (by kernel_rfl) (by kernel_rfl) (by kernel_rfl) (fun _ _ _ h => by cases h.1) (Or.inl ⟨by rfl, fun W hSw => by (try dsimp only at hSw); go_simp⟩) k4 ?_
        try simp only [Act.put, List.setIfInBounds_toArray, List.set_cons_zero, List.set_cons_succ]
        refine wpAnyH_ready (rs := [12]) (by kernel_rfl) (by simp) ?_
        refine AllReadyH.cons (o := ⟨none, _, _, _, _, _⟩) rfl (fun K hK => ?_) AllReadyH.nil
        obtain ⟨hb5, x5, hx5, hr5⟩ := F4.out.2.2.2.1 B7 rfl
        rw [if_pos (by rfl)]
        refine op_store _ _ _ rfl _ rfl _ rfl (HSR1.out _ _ _ hr5 hx5) ?_
        have f5 := F4.out.st HB6.out (mvR 1000 100)
        obtain ⟨Y5, hY5⟩ : ∃ y, y = Y4.setRow B7 (regA (mvR 1000 100)) := ⟨_, rfl⟩
        rw [← hY5] at f5 ⊢
        have F5 := Lib.hid f5
        clear hY5 f5 hb5 hx5 hr5 x5
        refine hK.out _ _ F5.out.fb (fun k5 => ?_)
        clear hK K
        try simp only [List.setIfInBounds_toArray, List.set_cons_zero, List.set_cons_succ]
        refine wpAnyH_ready (rs := [13]) (by kernel_rfl) (by simp) ?_
        refine AllReadyH.cons (o := ⟨none, _, _, _, _, _⟩) rfl (fun K hK => ?_) AllReadyH.nil
        obtain ⟨hb6, x6, hx6, hr6⟩ := F5.out.2.2.2.2 B8 rfl
        rw [if_pos (by rfl)]
        refine op_store _ _ _ rfl _ rfl _ rfl (HSP1.out _ _ _ hr6 hx6) ?_
        have f6 := F5.out.st2 (⟨0, 0, false, false, false, 0, 0, 0, 0, 0⟩)
        obtain ⟨Y6, hY6⟩ : ∃ y, y = Y5.setRow B8 (pswA (⟨0, 0, false, false, false, 0, 0, 0, 0, 0⟩)) := ⟨_, rfl⟩
        rw [← hY6] at f6 ⊢
        have F6 := Lib.hid f6.1
        have P6 := Lib.hid f6.2
        clear hY6 f6 hb6 hx6 hr6 x6
        refine hK.out _ _ F6.out.fb (fun k6 => ?_)
        clear hK K
        try simp only [List.setIfInBounds_toArray, List.set_cons_zero, List.set_cons_succ]
        refine wpAnyH_take (i := 14) (oi := ⟨some 9, _, _, _, _, _⟩) (v := .int .i64 0) rfl (by kernel_rfl) (by kernel_rfl) (by kernel_rfl) (fun _ _ _ h => by cases h.1) (Or.inl ⟨by rfl, fun W hSw => by (try dsimp only at hSw); go_simp⟩) k6 ?_
        try simp only [Act.put, List.setIfInBounds_toArray, List.set_cons_zero, List.set_cons_succ]
        refine wpAnyH_done (by kernel_rfl) ?_ _
        refine id ?_
        exact ⟨rfl, B7, B8, cut_mk rfl, F6.out.1, F6.out.2.1, F6.out.2.2.1, P6.out⟩
  rintro e a w5 ⟨rfl, B7, B8, ⟨u, rfl⟩, hkp, hr, hst, -⟩
  have HB5 := Lib.hid (Kp.below HB4.out hkp (by simpa using HG.out))
  have HST5 := Lib.hid hst
  have HR5 := Lib.hid hr
  clear hkp hr hst HE1 HB4 HB6 HSR1
  go_wp2_with fail
  refine (HB1000.out A g h _ HST5.out).mono ?_
  rintro e w6 ⟨v6, rfl, ho, hb⟩
  have HSV := Lib.hid ho.svb
  have HB6 := Lib.hid (bel0 HB5.out hb)
  have HK6 := Lib.hid (And.intro (HST5.out.below hb) (HR5.out.below hb))
  clear ho hb HB1000 HB5 HST5 HR5
  go_wp2_with fail
  refine (same9 _ _ l w6 HSV.out (HV.out.below HB6.out)).mono ?_
  rintro e w7 ⟨rfl, hb⟩
  have HB7 := Lib.hid (bel0 HB6.out hb)
  have HK7 := Lib.hid (And.intro (HK6.out.1.below hb) (HK6.out.2.below hb))
  clear hb HSV HB6 HK6
  go_wp2_with fail
  refine (HB100.out A g h _ HK7.out.1).mono ?_
  rintro e w8 ⟨v8, rfl, ho, hb⟩
  have HSV := Lib.hid ho.svb
  have HB8 := Lib.hid (bel0 HB7.out hb)
  have HK8 := Lib.hid (And.intro (HK7.out.1.below hb) (HK7.out.2.below hb))
  clear ho hb HB100 HB7 HK7
  go_wp2_with fail
  refine (same9 _ _ l w8 HSV.out (HV.out.below HB8.out)).mono ?_
  rintro e w9 ⟨rfl, hb⟩
  have HB9 := Lib.hid (bel0 HB8.out hb)
  have HST9 := Lib.hid (HK8.out.1.below hb)
  have HR9 := Lib.hid (HK8.out.2.below hb)
  clear hb HSV HB8 HK8
  have c14 := HR9.out.cell 14
  have f14 := HR9.out.frozen 14
  simp only [List.getElem?_toArray, List.getElem?_cons_succ, List.getElem?_cons_zero] at c14
  go_wp2_with fail
  obtain ⟨y9, hy9⟩ : ∃ y, y = w9.setCell ⟨B6, 14, none⟩ (.int .u32 101) := ⟨_, rfl⟩
  have HR10 : Hid (Bx y9 B6 28 #[.int .u32 0, .int .u32 0, .int .u32 0, .int .u32 0, .int .u32 0, .int .u32 0, .int .u32 0, .int .u32 0, .int .u32 0, .int .u32 0, .int .u32 0, .int .u32 0, .int .u32 0, .int .u32 0, .int .u32 101, .int .u32 100]) := Lib.hid (by rw [hy9]; exact Bx.set HR9.out 14 _)
  have k9 : Kp w9 y9 [B6] := by rw [hy9]; exact kp_set _ _ _ _ _ (by simp)
  have HB10 := Lib.hid (Kp.below HB9.out k9 (by simpa using HB6W.out))
  have HST10 := Lib.hid (HST9.out.kp k9 (by simpa using Row.ne HST9.out.1.row HR9.out.row (by decide)) (by simpa using Row.ne HST9.out.2.1 HR9.out.row (by decide)) (by simpa using Row.ne HST9.out.2.2.1 HR9.out.row (by decide)))
  have HB6 := Lib.hid HR10.out.lt
  rw [← hy9]
  clear hy9 k9 c14 f14 HB9 HST9 HR9
  have F0 : Hid (FS y9 B6 A g h 2048 1 #[.int .u32 0, .int .u32 0, .int .u32 0, .int .u32 0, .int .u32 0, .int .u32 0, .int .u32 0, .int .u32 0, .int .u32 0, .int .u32 0, .int .u32 0, .int .u32 0, .int .u32 0, .int .u32 0, .int .u32 101, .int .u32 100] b1 (List.replicate 1 0) none none y9) := Lib.hid ⟨Kp.refl _ _, HR10.out, HST10.out, (fun _ h => by cases h), (fun _ h => by cases h)⟩
  clear HR10 HST10
  refine Code.wp_mono (Q := fun e a W => e = .normal ∧ (∃ u : Nat → Value, a = { tmps := #[.slice (some ⟨PB, po, none⟩) n c, u 1, .bool false, .pointer (some ⟨A, 0, none⟩), .int .i64 0, .int .i64 (n : Int), .pointer (some ⟨B6, 0, none⟩), u 7, u 8, .int .i64 0, u 10, u 11, u 12, u 13, u 14, u 15, u 16, u 17, u 18, u 19, u 20, u 21, u 22, u 23, u 24, u 25, u 26, u 27, u 28, u 29, u 30, u 31, u 32, u 33, u 34, u 35, u 36, u 37, u 38, u 39, u 40, u 41, u 42, u 43, u 44, u 45, u 46, u 47, u 48, u 49, u 50, u 51, u 52, u 53, u 54, u 55, u 56, u 57, u 58, u 59, u 60, u 61, u 62, u 63, u 64, u 65, u 66, u 67, u 68, u 69, u 70, u 71, u 72, u 73, u 74, u 75, u 76, u 77, u 78, u 79, u 80, u 81, u 82, u 83, u 84, u 85, u 86, u 87, u 88, u 89, u 90, u 91, u 92, u 93, u 94, u 95, u 96, u 97, u 98, u 99, u 100, u 101, u 102, u 103, u 104, u 105, u 106, u 107, u 108, u 109, u 110, u 111, u 112, u 113, u 114, u 115, u 116, u 117, u 118, u 119, u 120, u 121, u 122, u 123, u 124, u 125, u 126, u 127, u 128, u 129, u 130, u 131, u 132, u 133, u 134, u 135, u 136, u 137, u 138, u 139, u 140], defers := [] }) ∧ Kp y9 W [g] ∧ Bx W B6 28 #[.int .u32 0, .int .u32 0, .int .u32 0, .int .u32 0, .int .u32 0, .int .u32 0, .int .u32 0, .int .u32 0, .int .u32 0, .int .u32 0, .int .u32 0, .int .u32 0, .int .u32 0, .int .u32 0, .int .u32 101, .int .u32 100] ∧ Sto W A g h 2048 1 b2 (List.replicate 1 0)) ?_ ?_
  rotate_left
  · refine wp_region_held_drew (S := FB y9 B6 g #[.int .u32 0, .int .u32 0, .int .u32 0, .int .u32 0, .int .u32 0, .int .u32 0, .int .u32 0, .int .u32 0, .int .u32 0, .int .u32 0, .int .u32 0, .int .u32 0, .int .u32 0, .int .u32 0, .int .u32 101, .int .u32 100]) (by kernel_rfl) F0.out.drew.fb (fun k0 => ?_)
    have f00 := F0.out.drew
    obtain ⟨Y0, hY0⟩ : ∃ y, y = y9.drew := ⟨_, rfl⟩
    rw [← hY0] at f00 k0 ⊢
    have F00 := Lib.hid f00
    clear F0 f00 hY0
    show wpAnyH _ _ _ _ _ 11 #[false, false, false, false, false, false, false, false, false, false, false] _ _
    refine wpAnyH_take (i := 0) (oi := ⟨some 77, _, _, _, _, _⟩) (v := .int .i64 (n : Int)) rfl (by kernel_rfl) (by kernel_rfl) (by kernel_rfl) (fun _ _ _ h => by cases h.1) (Or.inl ⟨by rfl, fun W hSw => by (try dsimp only at hSw); go_simp⟩) k0 ?_
    try simp only [Act.put, List.setIfInBounds_toArray, List.set_cons_zero, List.set_cons_succ]
    refine wpAnyH_take (i := 2) (oi := ⟨some 79, _, _, _, _, _⟩) (v := .agg #[.int .u32 0, .int .u32 0, .int .u32 0, .int .u32 0, .int .u32 0, .int .u32 0, .int .u32 0, .int .u32 0, .int .u32 0, .int .u32 0, .int .u32 0, .int .u32 0, .int .u32 0, .int .u32 0, .int .u32 101, .int .u32 100]) rfl (by kernel_rfl) (by kernel_rfl) (by kernel_rfl) (fun _ _ _ h => by cases h.1) (Or.inl ⟨by rfl, fun W hSw => exec_load _ _ rfl _ rfl (run_loadVar_row (P := Tryz.prog) W B6 _ 28 _ _ _ hSw.2 Tryz.underlying28 rfl (by kernel_rfl))⟩) k0 ?_
    try simp only [Act.put, List.setIfInBounds_toArray, List.set_cons_zero, List.set_cons_succ]
    refine wpAnyH_take (i := 3) (oi := ⟨some 80, _, _, _, _, _⟩) (v := .agg #[.int .i64 0, .int .i64 0, .bool false, .bool false, .bool false, .int .i64 0, .int .i64 0, .int .i64 0, .int .i64 0, .int .i64 0]) rfl (by kernel_rfl) (by kernel_rfl) (by kernel_rfl) (fun _ _ _ h => by cases h.1) (Or.inl ⟨by rfl, fun W hSw => by (try dsimp only at hSw); go_simp⟩) k0 ?_
    try simp only [Act.put, List.setIfInBounds_toArray, List.set_cons_zero, List.set_cons_succ]
    refine wpAnyH_take (i := 4) (oi := ⟨some 81, _, _, _, _, _⟩) (v := .pointer (some ⟨A, 0, none⟩)) rfl (by kernel_rfl) (by kernel_rfl) (by kernel_rfl) (fun _ _ _ h => by cases h.1) (Or.inl ⟨by rfl, fun W hSw => by (try dsimp only at hSw); go_simp⟩) k0 ?_
    try simp only [Act.put, List.setIfInBounds_toArray, List.set_cons_zero, List.set_cons_succ]
    refine wpAnyH_ready (rs := [1]) (by kernel_rfl) (by simp) ?_
    refine AllReadyH.cons (o := ⟨some 78, _, _, _, _, _⟩) rfl (fun K hK => ?_) AllReadyH.nil
    go_simp
    go_at_call 27
    refine (HSS1.out Y0).mono ?_
    rintro e Y1 ⟨rfl, hb⟩
    have F1 := Lib.hid (F00.out.below hb)
    clear hb
    go_wp2_with fail
    refine hK.out _ _ F1.out.fb (fun k1 => ?_)
    clear hK K
    try simp only [List.setIfInBounds_toArray, List.set_cons_zero, List.set_cons_succ]
    refine wpAnyH_ready (rs := [5]) (by kernel_rfl) (by simp) ?_
    refine AllReadyH.cons (o := ⟨some 82, _, _, _, _, _⟩) rfl (fun K hK => ?_) AllReadyH.nil
    go_simp
    go_at_call 17
    refine (HE2.out A g h 1 Y1 F1.out.2.2.1).mono ?_
    rintro e Y2 ⟨rfl, hs, hk⟩
    have F2 := Lib.hid (F1.out.exec hs hk)
    clear hs hk
    go_wp2_with fail
    refine hK.out _ _ F2.out.fb (fun k2 => ?_)
    clear hK K
    try simp only [List.setIfInBounds_toArray, List.set_cons_zero, List.set_cons_succ]
    refine wpAnyH_take (i := 6) (oi := ⟨some 76, _, _, _, _, _⟩) (v := .tuple #[.agg #[.int .u32 0, .int .u32 0, .int .u32 0, .int .u32 0, .int .u32 0, .int .u32 0, .int .u32 0, .int .u32 0, .int .u32 0, .int .u32 0, .int .u32 0, .int .u32 0, .int .u32 0, .int .u32 0, .int .u32 101, .int .u32 100], .agg #[.int .i64 0, .int .i64 0, .bool false, .bool false, .bool false, .int .i64 0, .int .i64 0, .int .i64 0, .int .i64 0, .int .i64 0], .int .i64 0]) rfl (by kernel_rfl) (by kernel_rfl) (by kernel_rfl) (fun _ _ _ h => by cases h.1) (Or.inl ⟨by rfl, fun W hSw => by (try dsimp only at hSw); go_simp⟩) k2 ?_
    try simp only [Act.put, List.setIfInBounds_toArray, List.set_cons_zero, List.set_cons_succ]
    refine wpAnyH_take (i := 7) (oi := ⟨some 83, _, _, _, _, _⟩) (v := .agg #[.int .u32 0, .int .u32 0, .int .u32 0, .int .u32 0, .int .u32 0, .int .u32 0, .int .u32 0, .int .u32 0, .int .u32 0, .int .u32 0, .int .u32 0, .int .u32 0, .int .u32 0, .int .u32 0, .int .u32 101, .int .u32 100]) rfl (by kernel_rfl) (by kernel_rfl) (by kernel_rfl) (fun _ _ _ h => by cases h.1) (Or.inl ⟨by rfl, fun W hSw => by (try dsimp only at hSw); go_simp⟩) k2 ?_
    try simp only [Act.put, List.setIfInBounds_toArray, List.set_cons_zero, List.set_cons_succ]
    refine wpAnyH_take (i := 8) (oi := ⟨some 84, _, _, _, _, _⟩) (v := .agg #[.int .i64 0, .int .i64 0, .bool false, .bool false, .bool false, .int .i64 0, .int .i64 0, .int .i64 0, .int .i64 0, .int .i64 0]) rfl (by kernel_rfl) (by kernel_rfl) (by kernel_rfl) (fun _ _ _ h => by cases h.1) (Or.inl ⟨by rfl, fun W hSw => by (try dsimp only at hSw); go_simp⟩) k2 ?_
    try simp only [Act.put, List.setIfInBounds_toArray, List.set_cons_zero, List.set_cons_succ]
    refine wpAnyH_take (i := 9) (oi := ⟨some 85, _, _, _, _, _⟩) (v := .int .i64 0) rfl (by kernel_rfl) (by kernel_rfl) (by kernel_rfl) (fun _ _ _ h => by cases h.1) (Or.inl ⟨by rfl, fun W hSw => by (try dsimp only at hSw); go_simp⟩) k2 ?_
    try simp only [Act.put, List.setIfInBounds_toArray, List.set_cons_zero, List.set_cons_succ]
    refine wpAnyH_take (i := 10) (oi := ⟨some 9, _, _, _, _, _⟩) (v := .int .i64 0) rfl (by kernel_rfl) (by kernel_rfl) (by kernel_rfl) (fun _ _ _ h => by cases h.1) (Or.inl ⟨by rfl, fun W hSw => by (try dsimp only at hSw); go_simp⟩) k2 ?_
    try simp only [Act.put, List.setIfInBounds_toArray, List.set_cons_zero, List.set_cons_succ]
    refine wpAnyH_done (by kernel_rfl) ?_ _
    refine id ?_
    exact ⟨rfl, cut_mk rfl, F2.out.1, F2.out.2.1, F2.out.2.2.1⟩
  rintro e a w11 ⟨rfl, ⟨u, rfl⟩, hkp, hr, hst⟩
  have HB11 := Lib.hid (Kp.below HB10.out hkp (by simpa using HG.out))
  have HST11 := Lib.hid hst
  have HR11 := Lib.hid hr
  clear hkp hr hst HE2 HB10 HB6 HSS1
  go_wp2_with fail
  refine (HBALL.out A g h _ HST11.out).mono ?_
  rintro e w12 ⟨v12, rfl, ho, hb⟩
  obtain ⟨BA, cA, rfl, hbA, hrow, hle, hcap⟩ := hold_n ho (List.length_replicate ..) (by omega)
  have HRA := Lib.hid hrow
  have HB12 := Lib.hid (bel0 HB11.out hb)
  have HST12 := Lib.hid (HST11.out.below hb)
  have HR12 := Lib.hid (HR11.out.below hb)
  clear ho hb hbA hrow HBALL HB11 HST11 HR11
  go_wp2
  have HCB := Lib.hid (HC0.out _ HB12.out)
  go_loopw [11] (fun i wr => (∃ m, wr = w12.drewN m) ∧ ∃ k : Nat, k ≤ n + 1 ∧ i = .int .i64 (k : Int)) (fun i _ => n + 1 - (intOf i).toNat)
  case atStart => exact ⟨⟨0, rfl⟩, 0, by omega, rfl⟩
  case round =>
    obtain ⟨⟨m, rfl⟩, k, hk, rfl⟩ := hrel
    by_cases hlt : k < n + 1
    · have hlt' : (k : Int) < (n : Int) + 1 := by omega
      have hcell := HRA.out.cell k (by rw [bsU_len, List.length_replicate]; exact hlt)
      rw [bsU_get _ k (by rw [List.length_replicate]; exact hlt), gt_rep hlt] at hcell
      have hc0 := HCB.out
      generalize (gt l 0).toNat = x at hcell hc0
      go_wp2
      go_quiet (fail)
      go_wp2
      go_roundw
      case rel => exact ⟨⟨_, rfl⟩, k + 1, by omega, by go_num⟩
      case measure => simp [intOf]; omega
    · obtain rfl : k = n + 1 := by omega
      obtain ⟨y12, hy12⟩ : ∃ y, y = w12.drewN m := ⟨_, rfl⟩
      have b12 : Below w12.heap.size w12 y12 := by rw [hy12]; exact E.belowDraw _ _
      have HB13 := Lib.hid (bel0 HB12.out b12)
      have HST13 := Lib.hid (HST12.out.below b12)
      have HR13 := Lib.hid (HR12.out.below b12)
      rw [← hy12]
      clear hy12 b12 HB12 HST12 HR12 HCB HC0
      have hlt9 : ¬ ((n : Int) + 1 < (n : Int) + 1) := by omega
      have HSTR := Lib.hid (HSR3.out y12 B6 _ HR13.out rfl)
      go_wp2_with (refine wpList_skp rfl (exec_st 28 _ _ rfl ⟨B6, 0, none⟩ rfl _ rfl HSTR.out) ?_)
      obtain ⟨y14, hy14⟩ : ∃ y, y = y12.setRow B6 (regA (mvR 1000 1000)) := ⟨_, rfl⟩
      have HR14 : Hid (Bx y14 B6 28 #[.int .u32 0, .int .u32 0, .int .u32 0, .int .u32 0, .int .u32 0, .int .u32 0, .int .u32 0, .int .u32 0, .int .u32 0, .int .u32 0, .int .u32 0, .int .u32 0, .int .u32 0, .int .u32 0, .int .u32 1000, .int .u32 1000]) := Lib.hid (by rw [hy14]; exact bx_row3 HR13.out (regA (mvR 1000 1000)))
      have HST14 : Hid (Sto y14 A g h 2048 1 b2 (List.replicate 1 0)) := Lib.hid (by rw [hy14]; exact sto_st HST13.out HR13.out (by decide) (by decide) (by decide))
      have HB14 : Hid (Below W0.heap.size W0 y14) := Lib.hid (by rw [hy14]; exact kp_nil (kp_row (Kp.bel HB13.out) HB6W.out _))
      have HB6 := Lib.hid HR14.out.lt
      rw [← hy14]
      clear hy14 HR13 HST13 HB13 HSTR
      have F0 : Hid (FS y14 B6 A g h 2048 1 #[.int .u32 0, .int .u32 0, .int .u32 0, .int .u32 0, .int .u32 0, .int .u32 0, .int .u32 0, .int .u32 0, .int .u32 0, .int .u32 0, .int .u32 0, .int .u32 0, .int .u32 0, .int .u32 0, .int .u32 1000, .int .u32 1000] b2 (List.replicate 1 0) none none y14) := Lib.hid ⟨Kp.refl _ _, HR14.out, HST14.out, (fun _ h => by cases h), (fun _ h => by cases h)⟩
      clear HR14 HST14
      refine Code.wp_mono (Q := fun e a W => e = .normal ∧ ∃ B7 B8 : Nat, (∃ u : Nat → Value, a = { tmps := #[.slice (some ⟨PB, po, none⟩) n c, u 1, u 2, .pointer (some ⟨A, 0, none⟩), .int .i64 0, .int .i64 (n : Int), .pointer (some ⟨B6, 0, none⟩), u 7, u 8, .int .i64 0, .slice (some ⟨BA, 0, none⟩) (n + 1) cA, u 11, .pointer (some ⟨B7, 0, none⟩), .pointer (some ⟨B8, 0, none⟩), .int .i64 0, u 15, u 16, u 17, u 18, u 19, u 20, u 21, u 22, u 23, u 24, u 25, u 26, u 27, u 28, u 29, u 30, u 31, u 32, u 33, u 34, u 35, u 36, u 37, u 38, u 39, u 40, u 41, u 42, u 43, u 44, u 45, u 46, u 47, u 48, u 49, u 50, u 51, u 52, u 53, u 54, u 55, u 56, u 57, u 58, u 59, u 60, u 61, u 62, u 63, u 64, u 65, u 66, u 67, u 68, u 69, u 70, u 71, u 72, u 73, u 74, u 75, u 76, u 77, u 78, u 79, u 80, u 81, u 82, u 83, u 84, u 85, u 86, u 87, u 88, u 89, u 90, u 91, u 92, u 93, u 94, u 95, u 96, u 97, u 98, u 99, u 100, u 101, u 102, u 103, u 104, u 105, u 106, u 107, u 108, u 109, u 110, u 111, u 112, u 113, u 114, u 115, u 116, u 117, u 118, u 119, u 120, u 121, u 122, u 123, u 124, u 125, u 126, u 127, u 128, u 129, u 130, u 131, u 132, u 133, u 134, u 135, u 136, u 137, u 138, u 139, u 140], defers := [] }) ∧ Kp y14 W [g] ∧ Bx W B6 28 #[.int .u32 0, .int .u32 0, .int .u32 0, .int .u32 0, .int .u32 0, .int .u32 0, .int .u32 0, .int .u32 0, .int .u32 0, .int .u32 0, .int .u32 0, .int .u32 0, .int .u32 0, .int .u32 0, .int .u32 1000, .int .u32 1000] ∧ Sto W A g h 2048 1 b3 (List.replicate 1 0) ∧ Bx W B8 30 (pswA (⟨0, 0, false, false, false, 0, 0, 0, 0, 0⟩))) ?_ ?_
      rotate_left
      · refine wp_region_held_drew (S := FB y14 B6 g #[.int .u32 0, .int .u32 0, .int .u32 0, .int .u32 0, .int .u32 0, .int .u32 0, .int .u32 0, .int .u32 0, .int .u32 0, .int .u32 0, .int .u32 0, .int .u32 0, .int .u32 0, .int .u32 0, .int .u32 1000, .int .u32 1000]) (by kernel_rfl) F0.out.drew.fb (fun k0 => ?_)
        have f00 := F0.out.drew
        obtain ⟨Y0, hY0⟩ : ∃ y, y = y14.drew := ⟨_, rfl⟩
        rw [← hY0] at f00 k0 ⊢
        have F00 := Lib.hid f00
        clear F0 f00 hY0
        show wpAnyH _ _ _ _ _ 15 #[false, false, false, false, false, false, false, false, false, false, false, false, false, false, false] _ _
        refine wpAnyH_take (i := 0) (oi := ⟨some 106, _, _, _, _, _⟩) (v := .int .i64 (n : Int)) rfl (by kernel_rfl) (by kernel_rfl) (by kernel_rfl) (fun _ _ _ h => by cases h.1) (Or.inl ⟨by rfl, fun W hSw => by (try dsimp only at hSw); go_simp⟩) k0 ?_
        try simp only [Act.put, List.setIfInBounds_toArray, List.set_cons_zero, List.set_cons_succ]
        refine wpAnyH_take (i := 2) (oi := ⟨some 108, _, _, _, _, _⟩) (v := .agg #[.int .u32 0, .int .u32 0, .int .u32 0, .int .u32 0, .int .u32 0, .int .u32 0, .int .u32 0, .int .u32 0, .int .u32 0, .int .u32 0, .int .u32 0, .int .u32 0, .int .u32 0, .int .u32 0, .int .u32 1000, .int .u32 1000]) rfl (by kernel_rfl) (by kernel_rfl) (by kernel_rfl) (fun _ _ _ h => by cases h.1) (Or.inl ⟨by rfl, fun W hSw => exec_load _ _ rfl _ rfl (run_loadVar_row (P := Tryz.prog) W B6 _ 28 _ _ _ hSw.2 Tryz.underlying28 rfl (by kernel_rfl))⟩) k0 ?_
        try simp only [Act.put, List.setIfInBounds_toArray, List.set_cons_zero, List.set_cons_succ]
        refine wpAnyH_take (i := 3) (oi := ⟨some 109, _, _, _, _, _⟩) (v := .agg #[.int .i64 0, .int .i64 0, .bool false, .bool false, .bool false, .int .i64 0, .int .i64 0, .int .i64 2, .int .i64 0, .int .i64 0]) rfl (by kernel_rfl) (by kernel_rfl) (by kernel_rfl) (fun _ _ _ h => by cases h.1) (Or.inl ⟨by rfl, fun W hSw => by (try dsimp only at hSw); go_simp⟩) k0 ?_
        try simp only [Act.put, List.setIfInBounds_toArray, List.set_cons_zero, List.set_cons_succ]
        refine wpAnyH_take (i := 4) (oi := ⟨some 110, _, _, _, _, _⟩) (v := .pointer (some ⟨A, 0, none⟩)) rfl (by kernel_rfl) (by kernel_rfl) (by kernel_rfl) (fun _ _ _ h => by cases h.1) (Or.inl ⟨by rfl, fun W hSw => by (try dsimp only at hSw); go_simp⟩) k0 ?_
        try simp only [Act.put, List.setIfInBounds_toArray, List.set_cons_zero, List.set_cons_succ]
        refine wpAnyH_ready (rs := [1, 10, 11]) (by kernel_rfl) (by simp) ?_
        refine AllReadyH.cons (o := ⟨some 107, _, _, _, _, _⟩) rfl (fun K hK => ?_) (AllReadyH.cons (o := ⟨some 12, _, _, _, _, _⟩) rfl (fun K hK => ?_) (AllReadyH.cons (o := ⟨some 13, _, _, _, _, _⟩) rfl (fun K hK => ?_) AllReadyH.nil))
        · go_simp
          go_at_call 27
          refine (HSS2.out Y0).mono ?_
          rintro e Y1 ⟨rfl, hb⟩
          have F1 := Lib.hid (F00.out.below hb)
          clear hb
          go_wp2_with fail
          refine hK.out _ _ F1.out.fb (fun k1 => ?_)
          clear hK K
          try simp only [List.setIfInBounds_toArray, List.set_cons_zero, List.set_cons_succ]
          refine wpAnyH_ready (rs := [5, 10, 11]) (by kernel_rfl) (by simp) ?_
          refine AllReadyH.cons (o := ⟨some 111, _, _, _, _, _⟩) rfl (fun K hK => ?_) (AllReadyH.cons (o := ⟨some 12, _, _, _, _, _⟩) rfl (fun K hK => ?_) (AllReadyH.cons (o := ⟨some 13, _, _, _, _, _⟩) rfl (fun K hK => ?_) AllReadyH.nil))
          · go_simp
            go_at_call 17
            refine (HE3.out A g h 1 Y1 F1.out.2.2.1).mono ?_
            rintro e Y2 ⟨rfl, hs, hk⟩
            have F2 := Lib.hid (F1.out.exec hs hk)
            clear hs hk
            go_wp2_with fail
            refine hK.out _ _ F2.out.fb (fun k2 => ?_)
            clear hK K
            try simp only [List.setIfInBounds_toArray, List.set_cons_zero, List.set_cons_succ]
            refine wpAnyH_take (i := 6) (oi := ⟨some 105, _, _, _, _, _⟩) (v := .tuple #[.agg #[.int .u32 0, .int .u32 0, .int .u32 0, .int .u32 0, .int .u32 0, .int .u32 0, .int .u32 0, .int .u32 0, .int .u32 0, .int .u32 0, .int .u32 0, .int .u32 0, .int .u32 0, .int .u32 0, .int .u32 1000, .int .u32 1000], .agg #[.int .i64 0, .int .i64 0, .bool false, .bool false, .bool false, .int .i64 0, .int .i64 0, .int .i64 0, .int .i64 0, .int .i64 0], .int .i64 0]) rfl (by kernel_rfl) (by kernel_rfl) (by kernel_rfl) (fun _ _ _ h => by cases h.1) (Or.inl ⟨by rfl, fun W hSw => by (try dsimp only at hSw); go_simp⟩) k2 ?_
            try simp only [Act.put, List.setIfInBounds_toArray, List.set_cons_zero, List.set_cons_succ]
            refine wpAnyH_take (i := 7) (oi := ⟨some 112, _, _, _, _, _⟩) (v := .agg #[.int .u32 0, .int .u32 0, .int .u32 0, .int .u32 0, .int .u32 0, .int .u32 0, .int .u32 0, .int .u32 0, .int .u32 0, .int .u32 0, .int .u32 0, .int .u32 0, .int .u32 0, .int .u32 0, .int .u32 1000, .int .u32 1000]) rfl (by kernel_rfl) (by kernel_rfl) (by kernel_rfl) (fun _ _ _ h => by cases h.1) (Or.inl ⟨by rfl, fun W hSw => by (try dsimp only at hSw); go_simp⟩) k2 ?_
            try simp only [Act.put, List.setIfInBounds_toArray, List.set_cons_zero, List.set_cons_succ]
            refine wpAnyH_take (i := 8) (oi := ⟨some 113, _, _, _, _, _⟩) (v := .agg #[.int .i64 0, .int .i64 0, .bool false, .bool false, .bool false, .int .i64 0, .int .i64 0, .int .i64 0, .int .i64 0, .int .i64 0]) rfl (by kernel_rfl) (by kernel_rfl) (by kernel_rfl) (fun _ _ _ h => by cases h.1) (Or.inl ⟨by rfl, fun W hSw => by (try dsimp only at hSw); go_simp⟩) k2 ?_
            try simp only [Act.put, List.setIfInBounds_toArray, List.set_cons_zero, List.set_cons_succ]
            refine wpAnyH_take (i := 9) (oi := ⟨some 114, _, _, _, _, _⟩) (v := .int .i64 0) rfl (by kernel_rfl) (by kernel_rfl) (by kernel_rfl) (fun _ _ _ h => by cases h.1) (Or.inl ⟨by rfl, fun W hSw => by (try dsimp only at hSw); go_simp⟩) k2 ?_
            try simp only [Act.put, List.setIfInBounds_toArray, List.set_cons_zero, List.set_cons_succ]
            refine wpAnyH_ready (rs := [10, 11]) (by kernel_rfl) (by simp) ?_
            refine AllReadyH.cons (o := ⟨some 12, _, _, _, _, _⟩) rfl (fun K hK => ?_) (AllReadyH.cons (o := ⟨some 13, _, _, _, _, _⟩) rfl (fun K hK => ?_) AllReadyH.nil)
            · go_simp
              have f3 := F2.out.al
              obtain ⟨Y3, hY3⟩ : ∃ y, y = Y2.alloc (.cells #[.int .u32 0, .int .u32 0, .int .u32 0, .int .u32 0, .int .u32 0, .int .u32 0, .int .u32 0, .int .u32 0, .int .u32 0, .int .u32 0, .int .u32 0, .int .u32 0, .int .u32 0, .int .u32 0, .int .u32 0, .int .u32 0] 28) := ⟨_, rfl⟩
              obtain ⟨B7, hB7⟩ : ∃ b, b = Y2.heap.size := ⟨_, rfl⟩
              rw [← hY3, ← hB7] at f3 ⊢
              have F3 := Lib.hid f3
              clear hY3 hB7 f3
              refine hK.out _ _ F3.out.fb (fun k3 => ?_)
              clear hK K
              try simp only [List.setIfInBounds_toArray, List.set_cons_zero, List.set_cons_succ]
              refine wpAnyH_ready (rs := [11]) (by kernel_rfl) (by simp) ?_
              refine AllReadyH.cons (o := ⟨some 13, _, _, _, _, _⟩) rfl (fun K hK => ?_) AllReadyH.nil
              go_simp
              have f4 := F3.out.al2
              obtain ⟨Y4, hY4⟩ : ∃ y, y = Y3.alloc (.cells #[.int .i64 0, .int .i64 0, .bool false, .bool false, .bool false, .int .i64 0, .int .i64 0, .int .i64 0, .int .i64 0, .int .i64 0] 30) := ⟨_, rfl⟩
              obtain ⟨B8, hB8⟩ : ∃ b, b = Y3.heap.size := ⟨_, rfl⟩
              rw [← hY4, ← hB8] at f4 ⊢
              have F4 := Lib.hid f4
              clear hY4 hB8 f4
              refine hK.out _ _ F4.out.fb (fun k4 => ?_)
              clear hK K
              try simp only [List.setIfInBounds_toArray, List.set_cons_zero, List.set_cons_succ]
              refine wpAnyH_ready (rs := [12]) (by kernel_rfl) (by simp) ?_
              refine AllReadyH.cons (o := ⟨none, _, _, _, _, _⟩) rfl (fun K hK => ?_) AllReadyH.nil
              obtain ⟨hb5, x5, hx5, hr5⟩ := F4.out.2.2.2.1 B7 rfl
              rw [if_pos (by rfl)]
              refine op_store _ _ _ rfl _ rfl _ rfl (HSR3.out _ _ _ hr5 hx5) ?_
              have f5 := F4.out.st HB6.out (mvR 1000 1000)
              obtain ⟨Y5, hY5⟩ : ∃ y, y = Y4.setRow B7 (regA (mvR 1000 1000)) := ⟨_, rfl⟩
              rw [← hY5] at f5 ⊢
              have F5 := Lib.hid f5
              clear hY5 f5 hb5 hx5 hr5 x5
              refine hK.out _ _ F5.out.fb (fun k5 => ?_)
              clear hK K
              try simp only [List.setIfInBounds_toArray, List.set_cons_zero, List.set_cons_succ]
              refine wpAnyH_ready (rs := [13]) (by kernel_rfl) (by simp) ?_
              refine AllReadyH.cons (o := ⟨none, _, _, _, _, _⟩) rfl (fun K hK => ?_) AllReadyH.nil
              obtain ⟨hb6, x6, hx6, hr6⟩ := F5.out.2.2.2.2 B8 rfl
              rw [if_pos (by rfl)]
              refine op_store _ _ _ rfl _ rfl _ rfl (HSP1.out _ _ _ hr6 hx6) ?_
              have f6 := F5.out.st2 (⟨0, 0, false, false, false, 0, 0, 0, 0, 0⟩)
              obtain ⟨Y6, hY6⟩ : ∃ y, y = Y5.setRow B8 (pswA (⟨0, 0, false, false, false, 0, 0, 0, 0, 0⟩)) := ⟨_, rfl⟩
              rw [← hY6] at f6 ⊢
              have F6 := Lib.hid f6.1
              have P6 := Lib.hid f6.2
              clear hY6 f6 hb6 hx6 hr6 x6
              refine hK.out _ _ F6.out.fb (fun k6 => ?_)
              clear hK K
              try simp only [List.setIfInBounds_toArray, List.set_cons_zero, List.set_cons_succ]
              refine wpAnyH_take (i := 14) (oi := ⟨some 14, _, _, _, _, _⟩) (v := .int .i64 0) rfl (by kernel_rfl) (by kernel_rfl) (by kernel_rfl) (fun _ _ _ h => by cases h.1) (Or.inl ⟨by rfl, fun W hSw => by (try dsimp only at hSw); go_simp⟩) k6 ?_
              try simp only [Act.put, List.setIfInBounds_toArray, List.set_cons_zero, List.set_cons_succ]
              refine wpAnyH_done (by kernel_rfl) ?_ _
              refine id ?_
              exact ⟨rfl, B7, B8, cut_mk rfl, F6.out.1, F6.out.2.1, F6.out.2.2.1, P6.out⟩
            · go_simp
              have f3 := F2.out.al2
              obtain ⟨Y3, hY3⟩ : ∃ y, y = Y2.alloc (.cells #[.int .i64 0, .int .i64 0, .bool false, .bool false, .bool false, .int .i64 0, .int .i64 0, .int .i64 0, .int .i64 0, .int .i64 0] 30) := ⟨_, rfl⟩
              obtain ⟨B8, hB8⟩ : ∃ b, b = Y2.heap.size := ⟨_, rfl⟩
              rw [← hY3, ← hB8] at f3 ⊢
              have F3 := Lib.hid f3
              clear hY3 hB8 f3
              refine hK.out _ _ F3.out.fb (fun k3 => ?_)
              clear hK K
              try simp only [List.setIfInBounds_toArray, List.set_cons_zero, List.set_cons_succ]
              refine wpAnyH_ready (rs := [10]) (by kernel_rfl) (by simp) ?_
              refine AllReadyH.cons (o := ⟨some 12, _, _, _, _, _⟩) rfl (fun K hK => ?_) AllReadyH.nil
              go_simp
              have f4 := F3.out.al
              obtain ⟨Y4, hY4⟩ : ∃ y, y = Y3.alloc (.cells #[.int .u32 0, .int .u32 0, .int .u32 0, .int .u32 0, .int .u32 0, .int .u32 0, .int .u32 0, .int .u32 0, .int .u32 0, .int .u32 0, .int .u32 0, .int .u32 0, .int .u32 0, .int .u32 0, .int .u32 0, .int .u32 0] 28) := ⟨_, rfl⟩
              obtain ⟨B7, hB7⟩ : ∃ b, b = Y3.heap.size := ⟨_, rfl⟩
              rw [← hY4, ← hB7] at f4 ⊢
              have F4 := Lib.hid f4
              clear hY4 hB7 f4
              refine hK.out _ _ F4.out.fb (fun k4 => ?_)
              clear hK K
              try simp only [List.setIfInBounds_toArray, List.set_cons_zero, List.set_cons_succ]
              refine wpAnyH_ready (rs := [12]) (by kernel_rfl) (by simp) ?_
              refine AllReadyH.cons (o := ⟨none, _, _, _, _, _⟩) rfl (fun K hK => ?_) AllReadyH.nil
              obtain ⟨hb5, x5, hx5, hr5⟩ := F4.out.2.2.2.1 B7 rfl
              rw [if_pos (by rfl)]
              refine op_store _ _ _ rfl _ rfl _ rfl (HSR3.out _ _ _ hr5 hx5) ?_
              have f5 := F4.out.st HB6.out (mvR 1000 1000)
              obtain ⟨Y5, hY5⟩ : ∃ y, y = Y4.setRow B7 (regA (mvR 1000 1000)) := ⟨_, rfl⟩
              rw [← hY5] at f5 ⊢
              have F5 := Lib.hid f5
              clear hY5 f5 hb5 hx5 hr5 x5
              refine hK.out _ _ F5.out.fb (fun k5 => ?_)
              clear hK K
              try simp only [List.setIfInBounds_toArray, List.set_cons_zero, List.set_cons_succ]
              refine wpAnyH_ready (rs := [13]) (by kernel_rfl) (by simp) ?_
              refine AllReadyH.cons (o := ⟨none, _, _, _, _, _⟩) rfl (fun K hK => ?_) AllReadyH.nil
              obtain ⟨hb6, x6, hx6, hr6⟩ := F5.out.2.2.2.2 B8 rfl
              rw [if_pos (by rfl)]
              refine op_store _ _ _ rfl _ rfl _ rfl (HSP1.out _ _ _ hr6 hx6) ?_
              have f6 := F5.out.st2 (⟨0, 0, false, false, false, 0, 0, 0, 0, 0⟩)
              obtain ⟨Y6, hY6⟩ : ∃ y, y = Y5.setRow B8 (pswA (⟨0, 0, false, false, false, 0, 0, 0, 0, 0⟩)) := ⟨_, rfl⟩
              rw [← hY6] at f6 ⊢
              have F6 := Lib.hid f6.1
              have P6 := Lib.hid f6.2
              clear hY6 f6 hb6 hx6 hr6 x6
              refine hK.out _ _ F6.out.fb (fun k6 => ?_)
              clear hK K
              try simp only [List.setIfInBounds_toArray, List.set_cons_zero, List.set_cons_succ]
              refine wpAnyH_take (i := 14) (oi := ⟨some 14, _, _, _, _, _⟩) (v := .int .i64 0) rfl (by kernel_rfl) (by kernel_rfl) (by kernel_rfl) (fun _ _ _ h => by cases h.1) (Or.inl ⟨by rfl, fun W hSw => by (try dsimp only at hSw); go_simp⟩) k6 ?_
              try simp only [Act.put, List.setIfInBounds_toArray, List.set_cons_zero, List.set_cons_succ]
              refine wpAnyH_done (by kernel_rfl) ?_ _
              refine id ?_
              exact ⟨rfl, B7, B8, cut_mk rfl, F6.out.1, F6.out.2.1, F6.out.2.2.1, P6.out⟩
          · go_simp
            have f2 := F1.out.al
            obtain ⟨Y2, hY2⟩ : ∃ y, y = Y1.alloc (.cells #[.int .u32 0, .int .u32 0, .int .u32 0, .int .u32 0, .int .u32 0, .int .u32 0, .int .u32 0, .int .u32 0, .int .u32 0, .int .u32 0, .int .u32 0, .int .u32 0, .int .u32 0, .int .u32 0, .int .u32 0, .int .u32 0] 28) := ⟨_, rfl⟩
            obtain ⟨B7, hB7⟩ : ∃ b, b = Y1.heap.size := ⟨_, rfl⟩
            rw [← hY2, ← hB7] at f2 ⊢
            have F2 := Lib.hid f2
            clear hY2 hB7 f2
            refine hK.out _ _ F2.out.fb (fun k2 => ?_)
            clear hK K
            try simp only [List.setIfInBounds_toArray, List.set_cons_zero, List.set_cons_succ]
            refine wpAnyH_ready (rs := [5, 11]) (by kernel_rfl) (by simp) ?_
            refine AllReadyH.cons (o := ⟨some 111, _, _, _, _, _⟩) rfl (fun K hK => ?_) (AllReadyH.cons (o := ⟨some 13, _, _, _, _, _⟩) rfl (fun K hK => ?_) AllReadyH.nil)
            · go_simp
              go_at_call 17
              refine (HE3.out A g h 1 Y2 F2.out.2.2.1).mono ?_
              rintro e Y3 ⟨rfl, hs, hk⟩
              have F3 := Lib.hid (F2.out.exec hs hk)
              clear hs hk
              go_wp2_with fail
              refine hK.out _ _ F3.out.fb (fun k3 => ?_)
              clear hK K
              try simp only [List.setIfInBounds_toArray, List.set_cons_zero, List.set_cons_succ]
              refine wpAnyH_take (i := 6) (oi := ⟨some 105, _, _, _, _, _⟩) (v := .tuple #[.agg #[.int .u32 0, .int .u32 0, .int .u32 0, .int .u32 0, .int .u32 0, .int .u32 0, .int .u32 0, .int .u32 0, .int .u32 0, .int .u32 0, .int .u32 0, .int .u32 0, .int .u32 0, .int .u32 0, .int .u32 1000, .int .u32 1000], .agg #[.int .i64 0, .int .i64 0, .bool false, .bool false, .bool false, .int .i64 0, .int .i64 0, .int .i64 0, .int .i64 0, .int .i64 0], .int .i64 0]) rfl (by kernel_rfl) (by kernel_rfl) (by kernel_rfl) (fun _ _ _ h => by cases h.1) (Or.inl ⟨by rfl, fun W hSw => by (try dsimp only at hSw); go_simp⟩) k3 ?_
              try simp only [Act.put, List.setIfInBounds_toArray, List.set_cons_zero, List.set_cons_succ]
              refine wpAnyH_take (i := 7) (oi := ⟨some 112, _, _, _, _, _⟩) (v := .agg #[.int .u32 0, .int .u32 0, .int .u32 0, .int .u32 0, .int .u32 0, .int .u32 0, .int .u32 0, .int .u32 0, .int .u32 0, .int .u32 0, .int .u32 0, .int .u32 0, .int .u32 0, .int .u32 0, .int .u32 1000, .int .u32 1000]) rfl (by kernel_rfl) (by kernel_rfl) (by kernel_rfl) (fun _ _ _ h => by cases h.1) (Or.inl ⟨by rfl, fun W hSw => by (try dsimp only at hSw); go_simp⟩) k3 ?_
              try simp only [Act.put, List.setIfInBounds_toArray, List.set_cons_zero, List.set_cons_succ]
              refine wpAnyH_take (i := 8) (oi := ⟨some 113, _, _, _, _, _⟩) (v := .agg #[.int .i64 0, .int .i64 0, .bool false, .bool false, .bool false, .int .i64 0, .int .i64 0, .int .i64 0, .int .i64 0, .int .i64 0]) rfl (by kernel_rfl) (by kernel_rfl) (by kernel_rfl) (fun _ _ _ h => by cases h.1) (Or.inl ⟨by rfl, fun W hSw => by (try dsimp only at hSw); go_simp⟩) k3 ?_
              try simp only [Act.put, List.setIfInBounds_toArray, List.set_cons_zero, List.set_cons_succ]
              refine wpAnyH_take (i := 9) (oi := ⟨some 114, _, _, _, _, _⟩) (v := .int .i64 0) rfl (by kernel_rfl) (by kernel_rfl) (by kernel_rfl) (fun _ _ _ h => by cases h.1) (Or.inl ⟨by rfl, fun W hSw => by (try dsimp only at hSw); go_simp⟩) k3 ?_
              try simp only [Act.put, List.setIfInBounds_toArray, List.set_cons_zero, List.set_cons_succ]
              refine wpAnyH_ready (rs := [11]) (by kernel_rfl) (by simp) ?_
              refine AllReadyH.cons (o := ⟨some 13, _, _, _, _, _⟩) rfl (fun K hK => ?_) AllReadyH.nil
              go_simp
              have f4 := F3.out.al2
              obtain ⟨Y4, hY4⟩ : ∃ y, y = Y3.alloc (.cells #[.int .i64 0, .int .i64 0, .bool false, .bool false, .bool false, .int .i64 0, .int .i64 0, .int .i64 0, .int .i64 0, .int .i64 0] 30) := ⟨_, rfl⟩
              obtain ⟨B8, hB8⟩ : ∃ b, b = Y3.heap.size := ⟨_, rfl⟩
              rw [← hY4, ← hB8] at f4 ⊢
              have F4 := Lib.hid f4
              clear hY4 hB8 f4
              refine hK.out _ _ F4.out.fb (fun k4 => ?_)
              clear hK K
              try simp only [List.setIfInBounds_toArray, List.set_cons_zero, List.set_cons_succ]
              refine wpAnyH_ready (rs := [12]) (by kernel_rfl) (by simp) ?_
              refine AllReadyH.cons (o := ⟨none, _, _, _, _, _⟩) rfl (fun K hK => ?_) AllReadyH.nil
              obtain ⟨hb5, x5, hx5, hr5⟩ := F4.out.2.2.2.1 B7 rfl
              rw [if_pos (by rfl)]
              refine op_store _ _ _ rfl _ rfl _ rfl (HSR3.out _ _ _ hr5 hx5) ?_
              have f5 := F4.out.st HB6.out (mvR 1000 1000)
              obtain ⟨Y5, hY5⟩ : ∃ y, y = Y4.setRow B7 (regA (mvR 1000 1000)) := ⟨_, rfl⟩
              rw [← hY5] at f5 ⊢
              have F5 := Lib.hid f5
              clear hY5 f5 hb5 hx5 hr5 x5
              refine hK.out _ _ F5.out.fb (fun k5 => ?_)
              clear hK K
              try simp only [List.setIfInBounds_toArray, List.set_cons_zero, List.set_cons_succ]
              refine wpAnyH_ready (rs := [13]) (by kernel_rfl) (by simp) ?_
              refine AllReadyH.cons (o := ⟨none, _, _, _, _, _⟩) rfl (fun K hK => ?_) AllReadyH.nil
              obtain ⟨hb6, x6, hx6, hr6⟩ := F5.out.2.2.2.2 B8 rfl
              rw [if_pos (by rfl)]
              refine op_store _ _ _ rfl _ rfl _ rfl (HSP1.out _ _ _ hr6 hx6) ?_
              have f6 := F5.out.st2 (⟨0, 0, false, false, false, 0, 0, 0, 0, 0⟩)
              obtain ⟨Y6, hY6⟩ : ∃ y, y = Y5.setRow B8 (pswA (⟨0, 0, false, false, false, 0, 0, 0, 0, 0⟩)) := ⟨_, rfl⟩
              rw [← hY6] at f6 ⊢
              have F6 := Lib.hid f6.1
              have P6 := Lib.hid f6.2
              clear hY6 f6 hb6 hx6 hr6 x6
              refine hK.out _ _ F6.out.fb (fun k6 => ?_)
              clear hK K
              try simp only [List.setIfInBounds_toArray, List.set_cons_zero, List.set_cons_succ]
              refine wpAnyH_take (i := 14) (oi := ⟨some 14, _, _, _, _, _⟩) (v := .int .i64 0) rfl (by kernel_rfl) (by kernel_rfl) (by kernel_rfl) (fun _ _ _ h => by cases h.1) (Or.inl ⟨by rfl, fun W hSw => by (try dsimp only at hSw); go_simp⟩) k6 ?_
              try simp only [Act.put, List.setIfInBounds_toArray, List.set_cons_zero, List.set_cons_succ]
              refine wpAnyH_done (by kernel_rfl) ?_ _
              refine id ?_
              exact ⟨rfl, B7, B8, cut_mk rfl, F6.out.1, F6.out.2.1, F6.out.2.2.1, P6.out⟩
            · go_simp
              have f3 := F2.out.al2
              obtain ⟨Y3, hY3⟩ : ∃ y, y = Y2.alloc (.cells #[.int .i64 0, .int .i64 0, .bool false, .bool false, .bool false, .int .i64 0, .int .i64 0, .int .i64 0, .int .i64 0, .int .i64 0] 30) := ⟨_, rfl⟩
              obtain ⟨B8, hB8⟩ : ∃ b, b = Y2.heap.size := ⟨_, rfl⟩
              rw [← hY3, ← hB8] at f3 ⊢
              have F3 := Lib.hid f3
              clear hY3 hB8 f3
              refine hK.out _ _ F3.out.fb (fun k3 => ?_)
              clear hK K
              try simp only [List.setIfInBounds_toArray, List.set_cons_zero, List.set_cons_succ]
              refine wpAnyH_ready (rs := [5]) (by kernel_rfl) (by simp) ?_
              refine AllReadyH.cons (o := ⟨some 111, _, _, _, _, _⟩) rfl (fun K hK => ?_) AllReadyH.nil
              go_simp
              go_at_call 17
              refine (HE3.out A g h 1 Y3 F3.out.2.2.1).mono ?_
              rintro e Y4 ⟨rfl, hs, hk⟩
              have F4 := Lib.hid (F3.out.exec hs hk)
              clear hs hk
              go_wp2_with fail
              refine hK.out _ _ F4.out.fb (fun k4 => ?_)
              clear hK K
              try simp only [List.setIfInBounds_toArray, List.set_cons_zero, List.set_cons_succ]
              refine wpAnyH_take (i := 6) (oi := ⟨some 105, _, _, _, _, _⟩) (v := .tuple #[.agg #[.int .u32 0, .int .u32 0, .int .u32 0, .int .u32 0, .int .u32 0, .int .u32 0, .int .u32 0, .int .u32 0, .int .u32 0, .int .u32 0, .int .u32 0, .int .u32 0, .int .u32 0, .int .u32 0, .int .u32 1000, .int .u32 1000], .agg #[.int .i64 0, .int .i64 0, .bool false, .bool false, .bool false, .int .i64 0, .int .i64 0, .int .i64 0, .int .i64 0, .int .i64 0], .int .i64 0]) rfl (by kernel_rfl) (by kernel_rfl) (by kernel_rfl) (fun _ _ _ h => by cases h.1) (Or.inl ⟨by rfl, fun W hSw => by (try dsimp only at hSw); go_simp⟩) k4 ?_
              try simp only [Act.put, List.setIfInBounds_toArray, List.set_cons_zero, List.set_cons_succ]
              refine wpAnyH_take (i := 7) (oi := ⟨some 112, _, _, _, _, _⟩) (v := .agg #[.int .u32 0, .int .u32 0, .int .u32 0, .int .u32 0, .int .u32 0, .int .u32 0, .int .u32 0, .int .u32 0, .int .u32 0, .int .u32 0, .int .u32 0, .int .u32 0, .int .u32 0, .int .u32 0, .int .u32 1000, .int .u32 1000]) rfl (by kernel_rfl) (by kernel_rfl) (by kernel_rfl) (fun _ _ _ h => by cases h.1) (Or.inl ⟨by rfl, fun W hSw => by (try dsimp only at hSw); go_simp⟩) k4 ?_
              try simp only [Act.put, List.setIfInBounds_toArray, List.set_cons_zero, List.set_cons_succ]
              refine wpAnyH_take (i := 8) (oi := ⟨some 113, _, _, _, _, _⟩) (v := .agg #[.int .i64 0, .int .i64 0, .bool false, .bool false, .bool false, .int .i64 0, .int .i64 0, .int .i64 0, .int .i64 0, .int .i64 0]) rfl (by kernel_rfl) (by kernel_rfl) (by kernel_rfl) (fun _ _ _ h => by cases h.1) (Or.inl ⟨by rfl, fun W hSw => by (try dsimp only at hSw); go_simp⟩) k4 ?_
              try simp only [Act.put, List.setIfInBounds_toArray, List.set_cons_zero, List.set_cons_succ]
              refine wpAnyH_take (i := 9) (oi := ⟨some 114, _, _, _, _, _⟩) (v := .int .i64 0) rfl (by kernel_rfl) (by kernel_rfl) (by kernel_rfl) (fun _ _ _ h => by cases h.1) (Or.inl ⟨by rfl, fun W hSw => by (try dsimp only at hSw); go_simp⟩) k4 ?_
              try simp only [Act.put, List.setIfInBounds_toArray, List.set_cons_zero, List.set_cons_succ]
              refine wpAnyH_ready (rs := [12]) (by kernel_rfl) (by simp) ?_
              refine AllReadyH.cons (o := ⟨none, _, _, _, _, _⟩) rfl (fun K hK => ?_) AllReadyH.nil
              obtain ⟨hb5, x5, hx5, hr5⟩ := F4.out.2.2.2.1 B7 rfl
              rw [if_pos (by rfl)]
              refine op_store _ _ _ rfl _ rfl _ rfl (HSR3.out _ _ _ hr5 hx5) ?_
              have f5 := F4.out.st HB6.out (mvR 1000 1000)
              obtain ⟨Y5, hY5⟩ : ∃ y, y = Y4.setRow B7 (regA (mvR 1000 1000)) := ⟨_, rfl⟩
              rw [← hY5] at f5 ⊢
              have F5 := Lib.hid f5
              clear hY5 f5 hb5 hx5 hr5 x5
              refine hK.out _ _ F5.out.fb (fun k5 => ?_)
              clear hK K
              try simp only [List.setIfInBounds_toArray, List.set_cons_zero, List.set_cons_succ]
              refine wpAnyH_ready (rs := [13]) (by kernel_rfl) (by simp) ?_
              refine AllReadyH.cons (o := ⟨none, _, _, _, _, _⟩) rfl (fun K hK => ?_) AllReadyH.nil
              obtain ⟨hb6, x6, hx6, hr6⟩ := F5.out.2.2.2.2 B8 rfl
              rw [if_pos (by rfl)]
              refine op_store _ _ _ rfl _ rfl _ rfl (HSP1.out _ _ _ hr6 hx6) ?_
              have f6 := F5.out.st2 (⟨0, 0, false, false, false, 0, 0, 0, 0, 0⟩)
              obtain ⟨Y6, hY6⟩ : ∃ y, y = Y5.setRow B8 (pswA (⟨0, 0, false, false, false, 0, 0, 0, 0, 0⟩)) := ⟨_, rfl⟩
              rw [← hY6] at f6 ⊢
              have F6 := Lib.hid f6.1
              have P6 := Lib.hid f6.2
              clear hY6 f6 hb6 hx6 hr6 x6
              refine hK.out _ _ F6.out.fb (fun k6 => ?_)
              clear hK K
              try simp only [List.setIfInBounds_toArray, List.set_cons_zero, List.set_cons_succ]
              refine wpAnyH_take (i := 14) (oi := ⟨some 14, _, _, _, _, _⟩) (v := .int .i64 0) rfl (by kernel_rfl) (by kernel_rfl) (by kernel_rfl) (fun _ _ _ h => by cases h.1) (Or.inl ⟨by rfl, fun W hSw => by (try dsimp only at hSw); go_simp⟩) k6 ?_
              try simp only [Act.put, List.setIfInBounds_toArray, List.set_cons_zero, List.set_cons_succ]
              refine wpAnyH_done (by kernel_rfl) ?_ _
              refine id ?_
              exact ⟨rfl, B7, B8, cut_mk rfl, F6.out.1, F6.out.2.1, F6.out.2.2.1, P6.out⟩
          · go_simp
            have f2 := F1.out.al2
            obtain ⟨Y2, hY2⟩ : ∃ y, y = Y1.alloc (.cells #[.int .i64 0, .int .i64 0, .bool false, .bool false, .bool false, .int .i64 0, .int .i64 0, .int .i64 0, .int .i64 0, .int .i64 0] 30) := ⟨_, rfl⟩
            obtain ⟨B8, hB8⟩ : ∃ b, b = Y1.heap.size := ⟨_, rfl⟩
            rw [← hY2, ← hB8] at f2 ⊢
            have F2 := Lib.hid f2
            clear hY2 hB8 f2
            refine hK.out _ _ F2.out.fb (fun k2 => ?_)
            clear hK K
            try simp only [List.setIfInBounds_toArray, List.set_cons_zero, List.set_cons_succ]
            refine wpAnyH_ready (rs := [5, 10]) (by kernel_rfl) (by simp) ?_
            refine AllReadyH.cons (o := ⟨some 111, _, _, _, _, _⟩) rfl (fun K hK => ?_) (AllReadyH.cons (o := ⟨some 12, _, _, _, _, _⟩) rfl (fun K hK => ?_) AllReadyH.nil)
            · go_simp
              go_at_call 17
              refine (HE3.out A g h 1 Y2 F2.out.2.2.1).mono ?_
              rintro e Y3 ⟨rfl, hs, hk⟩
              have F3 := Lib.hid (F2.out.exec hs hk)
              clear hs hk
              go_wp2_with fail
              refine hK.out _ _ F3.out.fb (fun k3 => ?_)
              clear hK K
              try simp only [List.setIfInBounds_toArray, List.set_cons_zero, List.set_cons_succ]
              refine wpAnyH_take (i := 6) (oi := ⟨some 105, _, _, _, _, _⟩) (v := .tuple #[.agg #[.int .u32 0, .int .u32 0, .int .u32 0, .int .u32 0, .int .u32 0, .int .u32 0, .int .u32 0, .int .u32 0, .int .u32 0, .int .u32 0, .int .u32 0, .int .u32 0, .int .u32 0, .int .u32 0, .int .u32 1000, .int .u32 1000], .agg #[.int .i64 0, .int .i64 0, .bool false, .bool false, .bool false, .int .i64 0, .int .i64 0, .int .i64 0, .int .i64 0, .int .i64 0], .int .i64 0]) rfl (by kernel_rfl) (by kernel_rfl) (by kernel_rfl) (fun _ _ _ h => by cases h.1) (Or.inl ⟨by rfl, fun W hSw => by (try dsimp only at hSw); go_simp⟩) k3 ?_
              try simp only [Act.put, List.setIfInBounds_toArray, List.set_cons_zero, List.set_cons_succ]
              refine wpAnyH_take (i := 7) (oi := ⟨some 112, _, _, _, _, _⟩) (v := .agg #[.int .u32 0, .int .u32 0, .int .u32 0, .int .u32 0, .int .u32 0, .int .u32 0, .int .u32 0, .int .u32 0, .int .u32 0, .int .u32 0, .int .u32 0, .int .u32 0, .int .u32 0, .int .u32 0, .int .u32 1000, .int .u32 1000]) rfl (by kernel_rfl) (by kernel_rfl) (by kernel_rfl) (fun _ _ _ h => by cases h.1) (Or.inl ⟨by rfl, fun W hSw => by (try dsimp only at hSw); go_simp⟩) k3 ?_
              try simp only [Act.put, List.setIfInBounds_toArray, List.set_cons_zero, List.set_cons_succ]
              refine wpAnyH_take (i := 8) (oi := ⟨some 113, _, _, _, _, _⟩) (v := .agg #[.int .i64 0, .int .i64 0, .bool false, .bool false, .bool false, .int .i64 0, .int .i64 0, .int .i64 0, .int .i64 0, .int .i64 0]) rfl (by kernel_rfl) (by kernel_rfl) (by kernel_rfl) (fun _ _ _ h => by cases h.1) (Or.inl ⟨by rfl, fun W hSw => by (try dsimp only at hSw); go_simp⟩) k3 ?_
              try simp only [Act.put, List.setIfInBounds_toArray, List.set_cons_zero, List.set_cons_succ]
              refine wpAnyH_take (i := 9) (oi := ⟨some 114, _, _, _, _, _⟩) (v := .int .i64 0) rfl (by kernel_rfl) (by kernel_rfl) (by kernel_rfl) (fun _ _ _ h => by cases h.1) (Or.inl ⟨by rfl, fun W hSw => by (try dsimp only at hSw); go_simp⟩) k3 ?_
              try simp only [Act.put, List.setIfInBounds_toArray, List.set_cons_zero, List.set_cons_succ]
              refine wpAnyH_ready (rs := [10]) (by kernel_rfl) (by simp) ?_
              refine AllReadyH.cons (o := ⟨some 12, _, _, _, _, _⟩) rfl (fun K hK => ?_) AllReadyH.nil
              go_simp
              have f4 := F3.out.al
              obtain ⟨Y4, hY4⟩ : ∃ y, y = Y3.alloc (.cells #[.int .u32 0, .int .u32 0, .int .u32 0, .int .u32 0, .int .u32 0, .int .u32 0, .int .u32 0, .int .u32 0, .int .u32 0, .int .u32 0, .int .u32 0, .int .u32 0, .int .u32 0, .int .u32 0, .int .u32 0, .int .u32 0] 28) := ⟨_, rfl⟩
              obtain ⟨B7, hB7⟩ : ∃ b, b = Y3.heap.size := ⟨_, rfl⟩
              rw [← hY4, ← hB7] at f4 ⊢
              have F4 := Lib.hid f4
              clear hY4 hB7 f4
              refine hK.out _ _ F4.out.fb (fun k4 => ?_)
              clear hK K
              try simp only [List.setIfInBounds_toArray, List.set_cons_zero, List.set_cons_succ]
              refine wpAnyH_ready (rs := [12]) (by kernel_rfl) (by simp) ?_
              refine AllReadyH.cons (o := ⟨none, _, _, _, _, _⟩) rfl (fun K hK => ?_) AllReadyH.nil
              obtain ⟨hb5, x5, hx5, hr5⟩ := F4.out.2.2.2.1 B7 rfl
              rw [if_pos (by rfl)]
              refine op_store _ _ _ rfl _ rfl _ rfl (HSR3.out _ _ _ hr5 hx5) ?_
              have f5 := F4.out.st HB6.out (mvR 1000 1000)
              obtain ⟨Y5, hY5⟩ : ∃ y, y = Y4.setRow B7 (regA (mvR 1000 1000)) := ⟨_, rfl⟩
              rw [← hY5] at f5 ⊢
              have F5 := Lib.hid f5
              clear hY5 f5 hb5 hx5 hr5 x5
              refine hK.out _ _ F5.out.fb (fun k5 => ?_)
              clear hK K
              try simp only [List.setIfInBounds_toArray, List.set_cons_zero, List.set_cons_succ]
              refine wpAnyH_ready (rs := [13]) (by kernel_rfl) (by simp) ?_
              refine AllReadyH.cons (o := ⟨none, _, _, _, _, _⟩) rfl (fun K hK => ?_) AllReadyH.nil
              obtain ⟨hb6, x6, hx6, hr6⟩ := F5.out.2.2.2.2 B8 rfl
              rw [if_pos (by rfl)]
              refine op_store _ _ _ rfl _ rfl _ rfl (HSP1.out _ _ _ hr6 hx6) ?_
              have f6 := F5.out.st2 (⟨0, 0, false, false, false, 0, 0, 0, 0, 0⟩)
              obtain ⟨Y6, hY6⟩ : ∃ y, y = Y5.setRow B8 (pswA (⟨0, 0, false, false, false, 0, 0, 0, 0, 0⟩)) := ⟨_, rfl⟩
              rw [← hY6] at f6 ⊢
              have F6 := Lib.hid f6.1
              have P6 := Lib.hid f6.2
              clear hY6 f6 hb6 hx6 hr6 x6
              refine hK.out _ _ F6.out.fb (fun k6 => ?_)
              clear hK K
              try simp only [List.setIfInBounds_toArray, List.set_cons_zero, List.set_cons_succ]
              refine wpAnyH_take (i := 14) (oi := ⟨some 14, _, _, _, _, _⟩) (v := .int .i64 0) rfl (by kernel_rfl) (by kernel_rfl) (by kernel_rfl) (fun _ _ _ h => by cases h.1) (Or.inl ⟨by rfl, fun W hSw => by (try dsimp only at hSw); go_simp⟩) k6 ?_
              try simp only [Act.put, List.setIfInBounds_toArray, List.set_cons_zero, List.set_cons_succ]
              refine wpAnyH_done (by kernel_rfl) ?_ _
              refine id ?_
              exact ⟨rfl, B7, B8, cut_mk rfl, F6.out.1, F6.out.2.1, F6.out.2.2.1, P6.out⟩
            · go_simp
              have f3 := F2.out.al
              obtain ⟨Y3, hY3⟩ : ∃ y, y = Y2.alloc (.cells #[.int .u32 0, .int .u32 0, .int .u32 0, .int .u32 0, .int .u32 0, .int .u32 0, .int .u32 0, .int .u32 0, .int .u32 0, .int .u32 0, .int .u32 0, .int .u32 0, .int .u32 0, .int .u32 0, .int .u32 0, .int .u32 0] 28) := ⟨_, rfl⟩
              obtain ⟨B7, hB7⟩ : ∃ b, b = Y2.heap.size := ⟨_, rfl⟩
              rw [← hY3, ← hB7] at f3 ⊢
              have F3 := Lib.hid f3
              clear hY3 hB7 f3
              refine hK.out _ _ F3.out.fb (fun k3 => ?_)
              clear hK K
              try simp only [List.setIfInBounds_toArray, List.set_cons_zero, List.set_cons_succ]
              refine wpAnyH_ready (rs := [5]) (by kernel_rfl) (by simp) ?_
              refine AllReadyH.cons (o := ⟨some 111, _, _, _, _, _⟩) rfl (fun K hK => ?_) AllReadyH.nil
              go_simp
              go_at_call 17
              refine (HE3.out A g h 1 Y3 F3.out.2.2.1).mono ?_
              rintro e Y4 ⟨rfl, hs, hk⟩
              have F4 := Lib.hid (F3.out.exec hs hk)
              clear hs hk
              go_wp2_with fail
              refine hK.out _ _ F4.out.fb (fun k4 => ?_)
              clear hK K
              try simp only [List.setIfInBounds_toArray, List.set_cons_zero, List.set_cons_succ]
              refine wpAnyH_take (i := 6) (oi := ⟨some 105, _, _, _, _, _⟩) (v := .tuple #[.agg #[.int .u32 0, .int .u32 0, .int .u32 0, .int .u32 0, .int .u32 0, .int .u32 0, .int .u32 0, .int .u32 0, .int .u32 0, .int .u32 0, .int .u32 0, .int .u32 0, .int .u32 0, .int .u32 0, .int .u32 1000, .int .u32 1000], .agg #[.int .i64 0, .int .i64 0, .bool false, .bool false, .bool false, .int .i64 0, .int .i64 0, .int .i64 0, .int .i64 0, .int .i64 0], .int .i64 0]) rfl (by kernel_rfl) (by kernel_rfl) (by kernel_rfl) (fun _ _ _ h => by cases h.1) (Or.inl ⟨by rfl, fun W hSw => by (try dsimp only at hSw); go_simp⟩) k4 ?_
              try simp only [Act.put, List.setIfInBounds_toArray, List.set_cons_zero, List.set_cons_succ]
              refine wpAnyH_take (i := 7) (oi := ⟨some 112, _, _, _, _, _⟩) (v := .agg #[.int .u32 0, .int .u32 0, .int .u32 0, .int .u32 0, .int .u32 0, .int .u32 0, .int .u32 0, .int .u32 0, .int .u32 0, .int .u32 0, .int .u32 0, .int .u32 0, .int .u32 0, .int .u32 0, .int .u32 1000, .int .u32 1000]) rfl (by kernel_rfl) (by kernel_rfl) (by kernel_rfl) (fun _ _ _ h => by cases h.1) (Or.inl ⟨by rfl, fun W hSw => by (try dsimp only at hSw); go_simp⟩) k4 ?_
              try simp only [Act.put, List.setIfInBounds_toArray, List.set_cons_zero, List.set_cons_succ]
              refine wpAnyH_take (i := 8) (oi := ⟨some 113, _, _, _, _, _⟩) (v := .agg #[.int .i64 0, .int .i64 0, .bool false, .bool false, .bool false, .int .i64 0, .int .i64 0, .int .i64 0, .int .i64 0, .int .i64 0]) rfl (by kernel_rfl) (by kernel_rfl) (by kernel_rfl) (fun _ _ _ h => by cases h.1) (Or.inl ⟨by rfl, fun W hSw => by (try dsimp only at hSw); go_simp⟩) k4 ?_
              try simp only [Act.put, List.setIfInBounds_toArray, List.set_cons_zero, List.set_cons_succ]
              refine wpAnyH_take (i := 9) (oi := ⟨some 114, _, _, _, _, _⟩) (v := .int .i64 0) rfl (by kernel_rfl) (by kernel_rfl) (by kernel_rfl) (fun _ _ _ h => by cases h.1) (Or.inl ⟨by rfl, fun W hSw => by (try dsimp only at hSw); go_simp⟩) k4 ?_
              try simp only [Act.put, List.setIfInBounds_toArray, List.set_cons_zero, List.set_cons_succ]
              refine wpAnyH_ready (rs := [12]) (by kernel_rfl) (by simp) ?_
              refine AllReadyH.cons (o := ⟨none, _, _, _, _, _⟩) rfl (fun K hK => ?_) AllReadyH.nil
              obtain ⟨hb5, x5, hx5, hr5⟩ := F4.out.2.2.2.1 B7 rfl
              rw [if_pos (by rfl)]
              refine op_store _ _ _ rfl _ rfl _ rfl (HSR3.out _ _ _ hr5 hx5) ?_
              have f5 := F4.out.st HB6.out (mvR 1000 1000)
              obtain ⟨Y5, hY5⟩ : ∃ y, y = Y4.setRow B7 (regA (mvR 1000 1000)) := ⟨_, rfl⟩
              rw [← hY5] at f5 ⊢
              have F5 := Lib.hid f5
              clear hY5 f5 hb5 hx5 hr5 x5
              refine hK.out _ _ F5.out.fb (fun k5 => ?_)
              clear hK K
              try simp only [List.setIfInBounds_toArray, List.set_cons_zero, List.set_cons_succ]
              refine wpAnyH_ready (rs := [13]) (by kernel_rfl) (by simp) ?_
              refine AllReadyH.cons (o := ⟨none, _, _, _, _, _⟩) rfl (fun K hK => ?_) AllReadyH.nil
              obtain ⟨hb6, x6, hx6, hr6⟩ := F5.out.2.2.2.2 B8 rfl
              rw [if_pos (by rfl)]
              refine op_store _ _ _ rfl _ rfl _ rfl (HSP1.out _ _ _ hr6 hx6) ?_
              have f6 := F5.out.st2 (⟨0, 0, false, false, false, 0, 0, 0, 0, 0⟩)
              obtain ⟨Y6, hY6⟩ : ∃ y, y = Y5.setRow B8 (pswA (⟨0, 0, false, false, false, 0, 0, 0, 0, 0⟩)) := ⟨_, rfl⟩
              rw [← hY6] at f6 ⊢
              have F6 := Lib.hid f6.1
              have P6 := Lib.hid f6.2
              clear hY6 f6 hb6 hx6 hr6 x6
              refine hK.out _ _ F6.out.fb (fun k6 => ?_)
              clear hK K
              try simp only [List.setIfInBounds_toArray, List.set_cons_zero, List.set_cons_succ]
              refine wpAnyH_take (i := 14) (oi := ⟨some 14, _, _, _, _, _⟩) (v := .int .i64 0) rfl (by kernel_rfl) (by kernel_rfl) (by kernel_rfl) (fun _ _ _ h => by cases h.1) (Or.inl ⟨by rfl, fun W hSw => by (try dsimp only at hSw); go_simp⟩) k6 ?_
              try simp only [Act.put, List.setIfInBounds_toArray, List.set_cons_zero, List.set_cons_succ]
              refine wpAnyH_done (by kernel_rfl) ?_ _
              refine id ?_
              exact ⟨rfl, B7, B8, cut_mk rfl, F6.out.1, F6.out.2.1, F6.out.2.2.1, P6.out⟩
        · go_simp
          have f1 := F00.out.al
          obtain ⟨Y1, hY1⟩ : ∃ y, y = Y0.alloc (.cells #[.int .u32 0, .int .u32 0, .int .u32 0, .int .u32 0, .int .u32 0, .int .u32 0, .int .u32 0, .int .u32 0, .int .u32 0, .int .u32 0, .int .u32 0, .int .u32 0, .int .u32 0, .int .u32 0, .int .u32 0, .int .u32 0] 28) := ⟨_, rfl⟩
          obtain ⟨B7, hB7⟩ : ∃ b, b = Y0.heap.size := ⟨_, rfl⟩
          rw [← hY1, ← hB7] at f1 ⊢
          have F1 := Lib.hid f1
          clear hY1 hB7 f1
          refine hK.out _ _ F1.out.fb (fun k1 => ?_)
          clear hK K
          try simp only [List.setIfInBounds_toArray, List.set_cons_zero, List.set_cons_succ]
          refine wpAnyH_ready (rs := [1, 11]) (by kernel_rfl) (by simp) ?_
          refine AllReadyH.cons (o := ⟨some 107, _, _, _, _, _⟩) rfl (fun K hK => ?_) (AllReadyH.cons (o := ⟨some 13, _, _, _, _, _⟩) rfl (fun K hK => ?_) AllReadyH.nil)
          · go_simp
            go_at_call 27
            refine (HSS2.out Y1).mono ?_
            rintro e Y2 ⟨rfl, hb⟩
            have F2 := Lib.hid (F1.out.below hb)
            clear hb
            go_wp2_with fail
            refine hK.out _ _ F2.out.fb (fun k2 => ?_)
            clear hK K
            try simp only [List.setIfInBounds_toArray, List.set_cons_zero, List.set_cons_succ]
            refine wpAnyH_ready (rs := [5, 11]) (by kernel_rfl) (by simp) ?_
            refine AllReadyH.cons (o := ⟨some 111, _, _, _, _, _⟩) rfl (fun K hK => ?_) (AllReadyH.cons (o := ⟨some 13, _, _, _, _, _⟩) rfl (fun K hK => ?_) AllReadyH.nil)
            · go_simp
              go_at_call 17
              refine (HE3.out A g h 1 Y2 F2.out.2.2.1).mono ?_
              rintro e Y3 ⟨rfl, hs, hk⟩
              have F3 := Lib.hid (F2.out.exec hs hk)
              clear hs hk
              go_wp2_with fail
              refine hK.out _ _ F3.out.fb (fun k3 => ?_)
              clear hK K
              try simp only [List.setIfInBounds_toArray, List.set_cons_zero, List.set_cons_succ]
              refine wpAnyH_take (i := 6) (oi := ⟨some 105, _, _, _, _, _⟩) (v := .tuple #[.agg #[.int .u32 0, .int .u32 0, .int .u32 0, .int .u32 0, .int .u32 0, .int .u32 0, .int .u32 0, .int .u32 0, .int .u32 0, .int .u32 0, .int .u32 0, .int .u32 0, .int .u32 0, .int .u32 0, .int .u32 1000, .int .u32 1000], .agg #[.int .i64 0, .int .i64 0, .bool false, .bool false, .bool false, .int .i64 0, .int .i64 0, .int .i64 0, .int .i64 0, .int .i64 0], .int .i64 0]) rfl (by kernel_rfl) (by kernel_rfl) (by kernel_rfl) (fun _ _ _ h => by cases h.1) (Or.inl ⟨by rfl, fun W hSw => by (try dsimp only at hSw); go_simp⟩) k3 ?_
              try simp only [Act.put, List.setIfInBounds_toArray, List.set_cons_zero, List.set_cons_succ]
              refine wpAnyH_take (i := 7) (oi := ⟨some 112, _, _, _, _, _⟩) (v := .agg #[.int .u32 0, .int .u32 0, .int .u32 0, .int .u32 0, .int .u32 0, .int .u32 0, .int .u32 0, .int .u32 0, .int .u32 0, .int .u32 0, .int .u32 0, .int .u32 0, .int .u32 0, .int .u32 0, .int .u32 1000, .int .u32 1000]) rfl (by kernel_rfl) (by kernel_rfl) (by kernel_rfl) (fun _ _ _ h => by cases h.1) (Or.inl ⟨by rfl, fun W hSw => by (try dsimp only at hSw); go_simp⟩) k3 ?_
              try simp only [Act.put, List.setIfInBounds_toArray, List.set_cons_zero, List.set_cons_succ]
              refine wpAnyH_take (i := 8) (oi := ⟨some 113, _, _, _, _, _⟩) (v := .agg #[.int .i64 0, .int .i64 0, .bool false, .bool false, .bool false, .int .i64 0, .int .i64 0, .int .i64 0, .int .i64 0, .int .i64 0]) rfl (by kernel_rfl) (by kernel_rfl) (by kernel_rfl) (fun _ _ _ h => by cases h.1) (Or.inl ⟨by rfl, fun W hSw => by (try dsimp only at hSw); go_simp⟩) k3 ?_
              try simp only [Act.put, List.setIfInBounds_toArray, List.set_cons_zero, List.set_cons_succ]
              refine wpAnyH_take (i := 9) (oi := ⟨some 114, _, _, _, _, _⟩) (v := .int .i64 0) rfl (by kernel_rfl) (by kernel_rfl) (by kernel_rfl) (fun _ _ _ h => by cases h.1) (Or.inl ⟨by rfl, fun W hSw => by (try dsimp only at hSw); go_simp⟩) k3 ?_
              try simp only [Act.put, List.setIfInBounds_toArray, List.set_cons_zero, List.set_cons_succ]
              refine wpAnyH_ready (rs := [11]) (by kernel_rfl) (by simp) ?_
              refine AllReadyH.cons (o := ⟨some 13, _, _, _, _, _⟩) rfl (fun K hK => ?_) AllReadyH.nil
              go_simp
              have f4 := F3.out.al2
              obtain ⟨Y4, hY4⟩ : ∃ y, y = Y3.alloc (.cells #[.int .i64 0, .int .i64 0, .bool false, .bool false, .bool false, .int .i64 0, .int .i64 0, .int .i64 0, .int .i64 0, .int .i64 0] 30) := ⟨_, rfl⟩
              obtain ⟨B8, hB8⟩ : ∃ b, b = Y3.heap.size := ⟨_, rfl⟩
              rw [← hY4, ← hB8] at f4 ⊢
              have F4 := Lib.hid f4
              clear hY4 hB8 f4
              refine hK.out _ _ F4.out.fb (fun k4 => ?_)
              clear hK K
              try simp only [List.setIfInBounds_toArray, List.set_cons_zero, List.set_cons_succ]
              refine wpAnyH_ready (rs := [12]) (by kernel_rfl) (by simp) ?_
              refine AllReadyH.cons (o := ⟨none, _, _, _, _, _⟩) rfl (fun K hK => ?_) AllReadyH.nil
              obtain ⟨hb5, x5, hx5, hr5⟩ := F4.out.2.2.2.1 B7 rfl
              rw [if_pos (by rfl)]
              refine op_store _ _ _ rfl _ rfl _ rfl (HSR3.out _ _ _ hr5 hx5) ?_
              have f5 := F4.out.st HB6.out (mvR 1000 1000)
              obtain ⟨Y5, hY5⟩ : ∃ y, y = Y4.setRow B7 (regA (mvR 1000 1000)) := ⟨_, rfl⟩
              rw [← hY5] at f5 ⊢
              have F5 := Lib.hid f5
              clear hY5 f5 hb5 hx5 hr5 x5
              refine hK.out _ _ F5.out.fb (fun k5 => ?_)
              clear hK K
              try simp only [List.setIfInBounds_toArray, List.set_cons_zero, List.set_cons_succ]
              refine wpAnyH_ready (rs := [13]) (by kernel_rfl) (by simp) ?_
              refine AllReadyH.cons (o := ⟨none, _, _, _, _, _⟩) rfl (fun K hK => ?_) AllReadyH.nil
              obtain ⟨hb6, x6, hx6, hr6⟩ := F5.out.2.2.2.2 B8 rfl
              rw [if_pos (by rfl)]
              refine op_store _ _ _ rfl _ rfl _ rfl (HSP1.out _ _ _ hr6 hx6) ?_
              have f6 := F5.out.st2 (⟨0, 0, false, false, false, 0, 0, 0, 0, 0⟩)
              obtain ⟨Y6, hY6⟩ : ∃ y, y = Y5.setRow B8 (pswA (⟨0, 0, false, false, false, 0, 0, 0, 0, 0⟩)) := ⟨_, rfl⟩
              rw [← hY6] at f6 ⊢
              have F6 := Lib.hid f6.1
              have P6 := Lib.hid f6.2
              clear hY6 f6 hb6 hx6 hr6 x6
              refine hK.out _ _ F6.out.fb (fun k6 => ?_)
              clear hK K
              try simp only [List.setIfInBounds_toArray, List.set_cons_zero, List.set_cons_succ]
              refine wpAnyH_take (i := 14) (oi := ⟨some 14, _, _, _, _, _⟩) (v := .int .i64 0) rfl (by kernel_rfl) (by kernel_rfl) (by kernel_rfl) (fun _ _ _ h => by cases h.1) (Or.inl ⟨by rfl, fun W hSw => by (try dsimp only at hSw); go_simp⟩) k6 ?_
              try simp only [Act.put, List.setIfInBounds_toArray, List.set_cons_zero, List.set_cons_succ]
              refine wpAnyH_done (by kernel_rfl) ?_ _
              refine id ?_
              exact ⟨rfl, B7, B8, cut_mk rfl, F6.out.1, F6.out.2.1, F6.out.2.2.1, P6.out⟩
            · go_simp
              have f3 := F2.out.al2
              obtain ⟨Y3, hY3⟩ : ∃ y, y = Y2.alloc (.cells #[.int .i64 0, .int .i64 0, .bool false, .bool false, .bool false, .int .i64 0, .int .i64 0, .int .i64 0, .int .i64 0, .int .i64 0] 30) := ⟨_, rfl⟩
              obtain ⟨B8, hB8⟩ : ∃ b, b = Y2.heap.size := ⟨_, rfl⟩
              rw [← hY3, ← hB8] at f3 ⊢
              have F3 := Lib.hid f3
              clear hY3 hB8 f3
              refine hK.out _ _ F3.out.fb (fun k3 => ?_)
              clear hK K
              try simp only [List.setIfInBounds_toArray, List.set_cons_zero, List.set_cons_succ]
              refine wpAnyH_ready (rs := [5]) (by kernel_rfl) (by simp) ?_
              refine AllReadyH.cons (o := ⟨some 111, _, _, _, _, _⟩) rfl (fun K hK => ?_) AllReadyH.nil
              go_simp
              go_at_call 17
              refine (HE3.out A g h 1 Y3 F3.out.2.2.1).mono ?_
              rintro e Y4 ⟨rfl, hs, hk⟩
              have F4 := Lib.hid (F3.out.exec hs hk)
              clear hs hk
              go_wp2_with fail
              refine hK.out _ _ F4.out.fb (fun k4 => ?_)
              clear hK K
              try simp only [List.setIfInBounds_toArray, List.set_cons_zero, List.set_cons_succ]
              refine wpAnyH_take (i := 6) (oi := ⟨some 105, _, _, _, _, _⟩) (v := .tuple #[.agg #[.int .u32 0, .int .u32 0, .int .u32 0, .int .u32 0, .int .u32 0, .int .u32 0, .int .u32 0, .int .u32 0, .int .u32 0, .int .u32 0, .int .u32 0, .int .u32 0, .int .u32 0, .int .u32 0, .int .u32 1000, .int .u32 1000], .agg #[.int .i64 0, .int .i64 0, .bool false, .bool false, .bool false, .int .i64 0, .int .i64 0, .int .i64 0, .int .i64 0, .int .i64 0], .int .i64 0]) rfl (by kernel_rfl) (by kernel_rfl) (by kernel_rfl) (fun _ _ _ h => by cases h.1) (Or.inl ⟨by rfl, fun W hSw => by (try dsimp only at hSw); go_simp⟩) k4 ?_
              try simp only [Act.put, List.setIfInBounds_toArray, List.set_cons_zero, List.set_cons_succ]
              refine wpAnyH_take (i := 7) (oi := ⟨some 112, _, _, _, _, _⟩) (v := .agg #[.int .u32 0, .int .u32 0, .int .u32 0, .int .u32 0, .int .u32 0, .int .u32 0, .int .u32 0, .int .u32 0, .int .u32 0, .int .u32 0, .int .u32 0, .int .u32 0, .int .u32 0, .int .u32 0, .int .u32 1000, .int .u32 1000]) rfl (by kernel_rfl) (by kernel_rfl) (by kernel_rfl) (fun _ _ _ h => by cases h.1) (Or.inl ⟨by rfl, fun W hSw => by (try dsimp only at hSw); go_simp⟩) k4 ?_
              try simp only [Act.put, List.setIfInBounds_toArray, List.set_cons_zero, List.set_cons_succ]
              refine wpAnyH_take (i := 8) (oi := ⟨some 113, _, _, _, _, _⟩) (v := .agg #[.int .i64 0, .int .i64 0, .bool false, .bool false, .bool false, .int .i64 0, .int .i64 0, .int .i64 0, .int .i64 0, .int .i64 0]) rfl (by kernel_rfl) (by kernel_rfl) (by kernel_rfl) (fun _ _ _ h => by cases h.1) (Or.inl ⟨by rfl, fun W hSw => by (try dsimp only at hSw); go_simp⟩) k4 ?_
              try simp only [Act.put, List.setIfInBounds_toArray, List.set_cons_zero, List.set_cons_succ]
              refine wpAnyH_take (i := 9) (oi := ⟨some 114, _, _, _, _, _⟩) (v := .int .i64 0) rfl (by kernel_rfl) (by kernel_rfl) (by kernel_rfl) (fun _ _ _ h => by cases h.1) (Or.inl ⟨by rfl, fun W hSw => by (try dsimp only at hSw); go_simp⟩) k4 ?_
              try simp only [Act.put, List.setIfInBounds_toArray, List.set_cons_zero, List.set_cons_succ]
              refine wpAnyH_ready (rs := [12]) (by kernel_rfl) (by simp) ?_
              refine AllReadyH.cons (o := ⟨none, _, _, _, _, _⟩) rfl (fun K hK => ?_) AllReadyH.nil
              obtain ⟨hb5, x5, hx5, hr5⟩ := F4.out.2.2.2.1 B7 rfl
              rw [if_pos (by rfl)]
              refine op_store _ _ _ rfl _ rfl _ rfl (HSR3.out _ _ _ hr5 hx5) ?_
              have f5 := F4.out.st HB6.out (mvR 1000 1000)
              obtain ⟨Y5, hY5⟩ : ∃ y, y = Y4.setRow B7 (regA (mvR 1000 1000)) := ⟨_, rfl⟩
              rw [← hY5] at f5 ⊢
              have F5 := Lib.hid f5
              clear hY5 f5 hb5 hx5 hr5 x5
              refine hK.out _ _ F5.out.fb (fun k5 => ?_)
              clear hK K
              try simp only [List.setIfInBounds_toArray, List.set_cons_zero, List.set_cons_succ]
              refine wpAnyH_ready (rs := [13]) (by kernel_rfl) (by simp) ?_
              refine AllReadyH.cons (o := ⟨none, _, _, _, _, _⟩) rfl (fun K hK => ?_) AllReadyH.nil
              obtain ⟨hb6, x6, hx6, hr6⟩ := F5.out.2.2.2.2 B8 rfl
              rw [if_pos (by rfl)]
              refine op_store _ _ _ rfl _ rfl _ rfl (HSP1.out _ _ _ hr6 hx6) ?_
              have f6 := F5.out.st2 (⟨0, 0, false, false, false, 0, 0, 0, 0, 0⟩)
              obtain ⟨Y6, hY6⟩ : ∃ y, y = Y5.setRow B8 (pswA (⟨0, 0, false, false, false, 0, 0, 0, 0, 0⟩)) := ⟨_, rfl⟩
              rw [← hY6] at f6 ⊢
              have F6 := Lib.hid f6.1
              have P6 := Lib.hid f6.2
              clear hY6 f6 hb6 hx6 hr6 x6
              refine hK.out _ _ F6.out.fb (fun k6 => ?_)
              clear hK K
              try simp only [List.setIfInBounds_toArray, List.set_cons_zero, List.set_cons_succ]
              refine wpAnyH_take (i := 14) (oi := ⟨some 14, _, _, _, _, _⟩) (v := .int .i64 0) rfl (by kernel_rfl) (by kernel_rfl) (by kernel_rfl) (fun _ _ _ h => by cases h.1) (Or.inl ⟨by rfl, fun W hSw => by (try dsimp only at hSw); go_simp⟩) k6 ?_
              try simp only [Act.put, List.setIfInBounds_toArray, List.set_cons_zero, List.set_cons_succ]
              refine wpAnyH_done (by kernel_rfl) ?_ _
              refine id ?_
              exact ⟨rfl, B7, B8, cut_mk rfl, F6.out.1, F6.out.2.1, F6.out.2.2.1, P6.out⟩
          · go_simp
            have f2 := F1.out.al2
            obtain ⟨Y2, hY2⟩ : ∃ y, y = Y1.alloc (.cells #[.int .i64 0, .int .i64 0, .bool false, .bool false, .bool false, .int .i64 0, .int .i64 0, .int .i64 0, .int .i64 0, .int .i64 0] 30) := ⟨_, rfl⟩
            obtain ⟨B8, hB8⟩ : ∃ b, b = Y1.heap.size := ⟨_, rfl⟩
            rw [← hY2, ← hB8] at f2 ⊢
            have F2 := Lib.hid f2
            clear hY2 hB8 f2
            refine hK.out _ _ F2.out.fb (fun k2 => ?_)
            clear hK K
            try simp only [List.setIfInBounds_toArray, List.set_cons_zero, List.set_cons_succ]
            refine wpAnyH_ready (rs := [1]) (by kernel_rfl) (by simp) ?_
            refine AllReadyH.cons (o := ⟨some 107, _, _, _, _, _⟩) rfl (fun K hK => ?_) AllReadyH.nil
            go_simp
            go_at_call 27
            refine (HSS2.out Y2).mono ?_
            rintro e Y3 ⟨rfl, hb⟩
            have F3 := Lib.hid (F2.out.below hb)
            clear hb
            go_wp2_with fail
            refine hK.out _ _ F3.out.fb (fun k3 => ?_)
            clear hK K
            try simp only [List.setIfInBounds_toArray, List.set_cons_zero, List.set_cons_succ]
            refine wpAnyH_ready (rs := [5]) (by kernel_rfl) (by simp) ?_
            refine AllReadyH.cons (o := ⟨some 111, _, _, _, _, _⟩) rfl (fun K hK => ?_) AllReadyH.nil
            go_simp
            go_at_call 17
            refine (HE3.out A g h 1 Y3 F3.out.2.2.1).mono ?_
            rintro e Y4 ⟨rfl, hs, hk⟩
            have F4 := Lib.hid (F3.out.exec hs hk)
            clear hs hk
            go_wp2_with fail
            refine hK.out _ _ F4.out.fb (fun k4 => ?_)
            clear hK K
            try simp only [List.setIfInBounds_toArray, List.set_cons_zero, List.set_cons_succ]
            refine wpAnyH_take (i := 6) (oi := ⟨some 105, _, _, _, _, _⟩) (v := .tuple #[.agg #[.int .u32 0, .int .u32 0, .int .u32 0, .int .u32 0, .int .u32 0, .int .u32 0, .int .u32 0, .int .u32 0, .int .u32 0, .int .u32 0, .int .u32 0, .int .u32 0, .int .u32 0, .int .u32 0, .int .u32 1000, .int .u32 1000], .agg #[.int .i64 0, .int .i64 0, .bool false, .bool false, .bool false, .int .i64 0, .int .i64 0, .int .i64 0, .int .i64 0, .int .i64 0], .int .i64 0]) rfl (by kernel_rfl) (by kernel_rfl) (by kernel_rfl) (fun _ _ _ h => by cases h.1) (Or.inl ⟨by rfl, fun W hSw => by (try dsimp only at hSw); go_simp⟩) k4 ?_
            try simp only [Act.put, List.setIfInBounds_toArray, List.set_cons_zero, List.set_cons_succ]
            refine wpAnyH_take (i := 7) (oi := ⟨some 112, _, _, _, _, _⟩) (v := .agg #[.int .u32 0, .int .u32 0, .int .u32 0, .int .u32 0, .int .u32 0, .int .u32 0, .int .u32 0, .int .u32 0, .int .u32 0, .int .u32 0, .int .u32 0, .int .u32 0, .int .u32 0, .int .u32 0, .int .u32 1000, .int .u32 1000]) rfl (by kernel_rfl) (by kernel_rfl) (by kernel_rfl) (fun _ _ _ h => by cases h.1) (Or.inl ⟨by rfl, fun W hSw => by (try dsimp only at hSw); go_simp⟩) k4 ?_
            try simp only [Act.put, List.setIfInBounds_toArray, List.set_cons_zero, List.set_cons_succ]
            refine wpAnyH_take (i := 8) (oi := ⟨some 113, _, _, _, _, _⟩) (v := .agg #[.int .i64 0, .int .i64 0, .bool false, .bool false, .bool false, .int .i64 0, .int .i64 0, .int .i64 0, .int .i64 0, .int .i64 0]) rfl (by kernel_rfl) (by kernel_rfl) (by kernel_rfl) (fun _ _ _ h => by cases h.1) (Or.inl ⟨by rfl, fun W hSw => by (try dsimp only at hSw); go_simp⟩) k4 ?_
            try simp only [Act.put, List.setIfInBounds_toArray, List.set_cons_zero, List.set_cons_succ]
            refine wpAnyH_take (i := 9) (oi := ⟨some 114, _, _, _, _, _⟩) (v := .int .i64 0) rfl (by kernel_rfl) (by kernel_rfl) (by kernel_rfl) (fun _ _ _ h => by cases h.1) (Or.inl ⟨by rfl, fun W hSw => by (try dsimp only at hSw); go_simp⟩) k4 ?_
            try simp only [Act.put, List.setIfInBounds_toArray, List.set_cons_zero, List.set_cons_succ]
            refine wpAnyH_ready (rs := [12]) (by kernel_rfl) (by simp) ?_
            refine AllReadyH.cons (o := ⟨none, _, _, _, _, _⟩) rfl (fun K hK => ?_) AllReadyH.nil
            obtain ⟨hb5, x5, hx5, hr5⟩ := F4.out.2.2.2.1 B7 rfl
            rw [if_pos (by rfl)]
            refine op_store _ _ _ rfl _ rfl _ rfl (HSR3.out _ _ _ hr5 hx5) ?_
            have f5 := F4.out.st HB6.out (mvR 1000 1000)
            obtain ⟨Y5, hY5⟩ : ∃ y, y = Y4.setRow B7 (regA (mvR 1000 1000)) := ⟨_, rfl⟩
            rw [← hY5] at f5 ⊢
            have F5 := Lib.hid f5
            clear hY5 f5 hb5 hx5 hr5 x5
            refine hK.out _ _ F5.out.fb (fun k5 => ?_)
            clear hK K
            try simp only [List.setIfInBounds_toArray, List.set_cons_zero, List.set_cons_succ]
            refine wpAnyH_ready (rs := [13]) (by kernel_rfl) (by simp) ?_
            refine AllReadyH.cons (o := ⟨none, _, _, _, _, _⟩) rfl (fun K hK => ?_) AllReadyH.nil
            obtain ⟨hb6, x6, hx6, hr6⟩ := F5.out.2.2.2.2 B8 rfl
            rw [if_pos (by rfl)]
            refine op_store _ _ _ rfl _ rfl _ rfl (HSP1.out _ _ _ hr6 hx6) ?_
            have f6 := F5.out.st2 (⟨0, 0, false, false, false, 0, 0, 0, 0, 0⟩)
            obtain ⟨Y6, hY6⟩ : ∃ y, y = Y5.setRow B8 (pswA (⟨0, 0, false, false, false, 0, 0, 0, 0, 0⟩)) := ⟨_, rfl⟩
            rw [← hY6] at f6 ⊢
            have F6 := Lib.hid f6.1
            have P6 := Lib.hid f6.2
            clear hY6 f6 hb6 hx6 hr6 x6
            refine hK.out _ _ F6.out.fb (fun k6 => ?_)
            clear hK K
            try simp only [List.setIfInBounds_toArray, List.set_cons_zero, List.set_cons_succ]
            refine wpAnyH_take (i := 14) (oi := ⟨some 14, _, _, _, _, _⟩) (v := .int .i64 0) rfl (by kernel_rfl) (by kernel_rfl) (by kernel_rfl) (fun _ _ _ h => by cases h.1) (Or.inl ⟨by rfl, fun W hSw => by (try dsimp only at hSw); go_simp⟩) k6 ?_
            try simp only [Act.put, List.setIfInBounds_toArray, List.set_cons_zero, List.set_cons_succ]
            refine wpAnyH_done (by kernel_rfl) ?_ _
            refine id ?_
            exact ⟨rfl, B7, B8, cut_mk rfl, F6.out.1, F6.out.2.1, F6.out.2.2.1, P6.out⟩
        · go_simp
          have f1 := F00.out.al2
          obtain ⟨Y1, hY1⟩ : ∃ y, y = Y0.alloc (.cells #[.int .i64 0, .int .i64 0, .bool false, .bool false, .bool false, .int .i64 0, .int .i64 0, .int .i64 0, .int .i64 0, .int .i64 0] 30) := ⟨_, rfl⟩
          obtain ⟨B8, hB8⟩ : ∃ b, b = Y0.heap.size := ⟨_, rfl⟩
          rw [← hY1, ← hB8] at f1 ⊢
          have F1 := Lib.hid f1
          clear hY1 hB8 f1
          refine hK.out _ _ F1.out.fb (fun k1 => ?_)
          clear hK K
          try simp only [List.setIfInBounds_toArray, List.set_cons_zero, List.set_cons_succ]
          refine wpAnyH_ready (rs := [1, 10]) (by kernel_rfl) (by simp) ?_
          refine AllReadyH.cons (o := ⟨some 107, _, _, _, _, _⟩) rfl (fun K hK => ?_) (AllReadyH.cons (o := ⟨some 12, _, _, _, _, _⟩) rfl (fun K hK => ?_) AllReadyH.nil)
          · go_simp
            go_at_call 27
            refine (HSS2.out Y1).mono ?_
            rintro e Y2 ⟨rfl, hb⟩
            have F2 := Lib.hid (F1.out.below hb)
            clear hb
            go_wp2_with fail
            refine hK.out _ _ F2.out.fb (fun k2 => ?_)
            clear hK K
            try simp only [List.setIfInBounds_toArray, List.set_cons_zero, List.set_cons_succ]
            refine wpAnyH_ready (rs := [5, 10]) (by kernel_rfl) (by simp) ?_
            refine AllReadyH.cons (o := ⟨some 111, _, _, _, _, _⟩) rfl (fun K hK => ?_) (AllReadyH.cons (o := ⟨some 12, _, _, _, _, _⟩) rfl (fun K hK => ?_) AllReadyH.nil)
            · go_simp
              go_at_call 17
              refine (HE3.out A g h 1 Y2 F2.out.2.2.1).mono ?_
              rintro e Y3 ⟨rfl, hs, hk⟩
              have F3 := Lib.hid (F2.out.exec hs hk)
              clear hs hk
              go_wp2_with fail
              refine hK.out _ _ F3.out.fb (fun k3 => ?_)
              clear hK K
              try simp only [List.setIfInBounds_toArray, List.set_cons_zero, List.set_cons_succ]
              refine wpAnyH_take (i := 6) (oi := ⟨some 105, _, _, _, _, _⟩) (v := .tuple #[.agg #[.int .u32 0, .int .u32 0, .int .u32 0, .int .u32 0, .int .u32 0, .int .u32 0, .int .u32 0, .int .u32 0, .int .u32 0, .int .u32 0, .int .u32 0, .int .u32 0, .int .u32 0, .int .u32 0, .int .u32 1000, .int .u32 1000], .agg #[.int .i64 0, .int .i64 0, .bool false, .bool false, .bool false, .int .i64 0, .int .i64 0, .int .i64 0, .int .i64 0, .int .i64 0], .int .i64 0]) rfl (by kernel_rfl) (by kernel_rfl) (by kernel_rfl) (fun _ _ _ h => by cases h.1) (Or.inl ⟨by rfl, fun W hSw => by (try dsimp only at hSw); go_simp⟩) k3 ?_
              try simp only [Act.put, List.setIfInBounds_toArray, List.set_cons_zero, List.set_cons_succ]
              refine wpAnyH_take (i := 7) (oi := ⟨some 112, _, _, _, _, _⟩) (v := .agg #[.int .u32 0, .int .u32 0, .int .u32 0, .int .u32 0, .int .u32 0, .int .u32 0, .int .u32 0, .int .u32 0, .int .u32 0, .int .u32 0, .int .u32 0, .int .u32 0, .int .u32 0, .int .u32 0, .int .u32 1000, .int .u32 1000]) rfl (by kernel_rfl) (by kernel_rfl) (by kernel_rfl) (fun _ _ _ h => by cases h.1) (Or.inl ⟨by rfl, fun W hSw => by (try dsimp only at hSw); go_simp⟩) k3 ?_
              try simp only [Act.put, List.setIfInBounds_toArray, List.set_cons_zero, List.set_cons_succ]
              refine wpAnyH_take (i := 8) (oi := ⟨some 113, _, _, _, _, _⟩) (v := .agg #[.int .i64 0, .int .i64 0, .bool false, .bool false, .bool false, .int .i64 0, .int .i64 0, .int .i64 0, .int .i64 0, .int .i64 0]) rfl (by kernel_rfl) (by kernel_rfl) (by kernel_rfl) (fun _ _ _ h => by cases h.1) (Or.inl ⟨by rfl, fun W hSw => by (try dsimp only at hSw); go_simp⟩) k3 ?_
              try simp only [Act.put, List.setIfInBounds_toArray, List.set_cons_zero, List.set_cons_succ]
              refine wpAnyH_take (i := 9) (oi := ⟨some 114, _, _, _, _, _⟩) (v := .int .i64 0) rfl (by kernel_rfl) (by kernel_rfl) (by kernel_rfl) (fun _ _ _ h => by cases h.1) (Or.inl ⟨by rfl, fun W hSw => by (try dsimp only at hSw); go_simp⟩) k3 ?_
              try simp only [Act.put, List.setIfInBounds_toArray, List.set_cons_zero, List.set_cons_succ]
              refine wpAnyH_ready (rs := [10]) (by kernel_rfl) (by simp) ?_
              refine AllReadyH.cons (o := ⟨some 12, _, _, _, _, _⟩) rfl (fun K hK => ?_) AllReadyH.nil
              go_simp
              have f4 := F3.out.al
              obtain ⟨Y4, hY4⟩ : ∃ y, y = Y3.alloc (.cells #[.int .u32 0, .int .u32 0, .int .u32 0, .int .u32 0, .int .u32 0, .int .u32 0, .int .u32 0, .int .u32 0, .int .u32 0, .int .u32 0, .int .u32 0, .int .u32 0, .int .u32 0, .int .u32 0, .int .u32 0, .int .u32 0] 28) := ⟨_, rfl⟩
              obtain ⟨B7, hB7⟩ : ∃ b, b = Y3.heap.size := ⟨_, rfl⟩
              rw [← hY4, ← hB7] at f4 ⊢
              have F4 := Lib.hid f4
              clear hY4 hB7 f4
              refine hK.out _ _ F4.out.fb (fun k4 => ?_)
              clear hK K
              try simp only [List.setIfInBounds_toArray, List.set_cons_zero, List.set_cons_succ]
              refine wpAnyH_ready (rs := [12]) (by kernel_rfl) (by simp) ?_
              refine AllReadyH.cons (o := ⟨none, _, _, _, _, _⟩) rfl (fun K hK => ?_) AllReadyH.nil
              obtain ⟨hb5, x5, hx5, hr5⟩ := F4.out.2.2.2.1 B7 rfl
              rw [if_pos (by rfl)]
              refine op_store _ _ _ rfl _ rfl _ rfl (HSR3.out _ _ _ hr5 hx5) ?_
              have f5 := F4.out.st HB6.out (mvR 1000 1000)
              obtain ⟨Y5, hY5⟩ : ∃ y, y = Y4.setRow B7 (regA (mvR 1000 1000)) := ⟨_, rfl⟩
              rw [← hY5] at f5 ⊢
              have F5 := Lib.hid f5
              clear hY5 f5 hb5 hx5 hr5 x5
              refine hK.out _ _ F5.out.fb (fun k5 => ?_)
              clear hK K
              try simp only [List.setIfInBounds_toArray, List.set_cons_zero, List.set_cons_succ]
              refine wpAnyH_ready (rs := [13]) (by kernel_rfl) (by simp) ?_
              refine AllReadyH.cons (o := ⟨none, _, _, _, _, _⟩) rfl (fun K hK => ?_) AllReadyH.nil
              obtain ⟨hb6, x6, hx6, hr6⟩ := F5.out.2.2.2.2 B8 rfl
              rw [if_pos (by rfl)]
              refine op_store _ _ _ rfl _ rfl _ rfl (HSP1.out _ _ _ hr6 hx6) ?_
              have f6 := F5.out.st2 (⟨0, 0, false, false, false, 0, 0, 0, 0, 0⟩)
              obtain ⟨Y6, hY6⟩ : ∃ y, y = Y5.setRow B8 (pswA (⟨0, 0, false, false, false, 0, 0, 0, 0, 0⟩)) := ⟨_, rfl⟩
              rw [← hY6] at f6 ⊢
              have F6 := Lib.hid f6.1
              have P6 := Lib.hid f6.2
              clear hY6 f6 hb6 hx6 hr6 x6
              refine hK.out _ _ F6.out.fb (fun k6 => ?_)
              clear hK K
              try simp only [List.setIfInBounds_toArray, List.set_cons_zero, List.set_cons_succ]
              refine wpAnyH_take (i := 14) (oi := ⟨some 14, _, _, _, _, _⟩) (v := .int .i64 0) rfl (by kernel_rfl) (by kernel_rfl) (by kernel_rfl) (fun _ _ _ h => by cases h.1) (Or.inl ⟨by rfl, fun W hSw => by (try dsimp only at hSw); go_simp⟩) k6 ?_
              try simp only [Act.put, List.setIfInBounds_toArray, List.set_cons_zero, List.set_cons_succ]
              refine wpAnyH_done (by kernel_rfl) ?_ _
              refine id ?_
              exact ⟨rfl, B7, B8, cut_mk rfl, F6.out.1, F6.out.2.1, F6.out.2.2.1, P6.out⟩
            · go_simp
              have f3 := F2.out.al
              obtain ⟨Y3, hY3⟩ : ∃ y, y = Y2.alloc (.cells #[.int .u32 0, .int .u32 0, .int .u32 0, .int .u32 0, .int .u32 0, .int .u32 0, .int .u32 0, .int .u32 0, .int .u32 0, .int .u32 0, .int .u32 0, .int .u32 0, .int .u32 0, .int .u32 0, .int .u32 0, .int .u32 0] 28) := ⟨_, rfl⟩
              obtain ⟨B7, hB7⟩ : ∃ b, b = Y2.heap.size := ⟨_, rfl⟩
              rw [← hY3, ← hB7] at f3 ⊢
              have F3 := Lib.hid f3
              clear hY3 hB7 f3
              refine hK.out _ _ F3.out.fb (fun k3 => ?_)
              clear hK K
              try simp only [List.setIfInBounds_toArray, List.set_cons_zero, List.set_cons_succ]
              refine wpAnyH_ready (rs := [5]) (by kernel_rfl) (by simp) ?_
              refine AllReadyH.cons (o := ⟨some 111, _, _, _, _, _⟩) rfl (fun K hK => ?_) AllReadyH.nil
              go_simp
              go_at_call 17
              refine (HE3.out A g h 1 Y3 F3.out.2.2.1).mono ?_
              rintro e Y4 ⟨rfl, hs, hk⟩
              have F4 := Lib.hid (F3.out.exec hs hk)
              clear hs hk
              go_wp2_with fail
              refine hK.out _ _ F4.out.fb (fun k4 => ?_)
              clear hK K
              try simp only [List.setIfInBounds_toArray, List.set_cons_zero, List.set_cons_succ]
              refine wpAnyH_take (i := 6) (oi := ⟨some 105, _, _, _, _, _⟩) (v := .tuple #[.agg #[.int .u32 0, .int .u32 0, .int .u32 0, .int .u32 0, .int .u32 0, .int .u32 0, .int .u32 0, .int .u32 0, .int .u32 0, .int .u32 0, .int .u32 0, .int .u32 0, .int .u32 0, .int .u32 0, .int .u32 1000, .int .u32 1000], .agg #[.int .i64 0, .int .i64 0, .bool false, .bool false, .bool false, .int .i64 0, .int .i64 0, .int .i64 0, .int .i64 0, .int .i64 0], .int .i64 0]) rfl (by kernel_rfl) (by kernel_rfl) (by kernel_rfl) (fun _ _ _ h => by cases h.1) (Or.inl ⟨by rfl, fun W hSw => by (try dsimp only at hSw); go_simp⟩) k4 ?_
              try simp only [Act.put, List.setIfInBounds_toArray, List.set_cons_zero, List.set_cons_succ]
              refine wpAnyH_take (i := 7) (oi := ⟨some 112, _, _, _, _, _⟩) (v := .agg #[.int .u32 0, .int .u32 0, .int .u32 0, .int .u32 0, .int .u32 0, .int .u32 0, .int .u32 0, .int .u32 0, .int .u32 0, .int .u32 0, .int .u32 0, .int .u32 0, .int .u32 0, .int .u32 0, .int .u32 1000, .int .u32 1000]) rfl (by kernel_rfl) (by kernel_rfl) (by kernel_rfl) (fun _ _ _ h => by cases h.1) (Or.inl ⟨by rfl, fun W hSw => by (try dsimp only at hSw); go_simp⟩) k4 ?_
              try simp only [Act.put, List.setIfInBounds_toArray, List.set_cons_zero, List.set_cons_succ]
              refine wpAnyH_take (i := 8) (oi := ⟨some 113, _, _, _, _, _⟩) (v := .agg #[.int .i64 0, .int .i64 0, .bool false, .bool false, .bool false, .int .i64 0, .int .i64 0, .int .i64 0, .int .i64 0, .int .i64 0]) rfl (by kernel_rfl) (by kernel_rfl) (by kernel_rfl) (fun _ _ _ h => by cases h.1) (Or.inl ⟨by rfl, fun W hSw => by (try dsimp only at hSw); go_simp⟩) k4 ?_
              try simp only [Act.put, List.setIfInBounds_toArray, List.set_cons_zero, List.set_cons_succ]
              refine wpAnyH_take (i := 9) (oi := ⟨some 114, _, _, _, _, _⟩) (v := .int .i64 0) rfl (by kernel_rfl) (by kernel_rfl) (by kernel_rfl) (fun _ _ _ h => by cases h.1) (Or.inl ⟨by rfl, fun W hSw => by (try dsimp only at hSw); go_simp⟩) k4 ?_
              try simp only [Act.put, List.setIfInBounds_toArray, List.set_cons_zero, List.set_cons_succ]
              refine wpAnyH_ready (rs := [12]) (by kernel_rfl) (by simp) ?_
              refine AllReadyH.cons (o := ⟨none, _, _, _, _, _⟩) rfl (fun K hK => ?_) AllReadyH.nil
              obtain ⟨hb5, x5, hx5, hr5⟩ := F4.out.2.2.2.1 B7 rfl
              rw [if_pos (by rfl)]
              refine op_store _ _ _ rfl _ rfl _ rfl (HSR3.out _ _ _ hr5 hx5) ?_
              have f5 := F4.out.st HB6.out (mvR 1000 1000)
              obtain ⟨Y5, hY5⟩ : ∃ y, y = Y4.setRow B7 (regA (mvR 1000 1000)) := ⟨_, rfl⟩
              rw [← hY5] at f5 ⊢
              have F5 := Lib.hid f5
              clear hY5 f5 hb5 hx5 hr5 x5
              refine hK.out _ _ F5.out.fb (fun k5 => ?_)
              clear hK K
              try simp only [List.setIfInBounds_toArray, List.set_cons_zero, List.set_cons_succ]
              refine wpAnyH_ready (rs := [13]) (by kernel_rfl) (by simp) ?_
              refine AllReadyH.cons (o := ⟨none, _, _, _, _, _⟩) rfl (fun K hK => ?_) AllReadyH.nil
              obtain ⟨hb6, x6, hx6, hr6⟩ := F5.out.2.2.2.2 B8 rfl
              rw [if_pos (by rfl)]
              refine op_store _ _ _ rfl _ rfl _ rfl (HSP1.out _ _ _ hr6 hx6) ?_
              have f6 := F5.out.st2 (⟨0, 0, false, false, false, 0, 0, 0, 0, 0⟩)
              obtain ⟨Y6, hY6⟩ : ∃ y, y = Y5.setRow B8 (pswA (⟨0, 0, false, false, false, 0, 0, 0, 0, 0⟩)) := ⟨_, rfl⟩
              rw [← hY6] at f6 ⊢
              have F6 := Lib.hid f6.1
              have P6 := Lib.hid f6.2
              clear hY6 f6 hb6 hx6 hr6 x6
              refine hK.out _ _ F6.out.fb (fun k6 => ?_)
              clear hK K
              try simp only [List.setIfInBounds_toArray, List.set_cons_zero, List.set_cons_succ]
              refine wpAnyH_take (i := 14) (oi := ⟨some 14, _, _, _, _, _⟩) (v := .int .i64 0) rfl (by kernel_rfl) (by kernel_rfl) (by kernel_rfl) (fun _ _ _ h => by cases h.1) (Or.inl ⟨by rfl, fun W hSw => by (try dsimp only at hSw); go_simp⟩) k6 ?_
              try simp only [Act.put, List.setIfInBounds_toArray, List.set_cons_zero, List.set_cons_succ]
              refine wpAnyH_done (by kernel_rfl) ?_ _
              refine id ?_
              exact ⟨rfl, B7, B8, cut_mk rfl, F6.out.1, F6.out.2.1, F6.out.2.2.1, P6.out⟩
          · go_simp
            have f2 := F1.out.al
            obtain ⟨Y2, hY2⟩ : ∃ y, y = Y1.alloc (.cells #[.int .u32 0, .int .u32 0, .int .u32 0, .int .u32 0, .int .u32 0, .int .u32 0, .int .u32 0, .int .u32 0, .int .u32 0, .int .u32 0, .int .u32 0, .int .u32 0, .int .u32 0, .int .u32 0, .int .u32 0, .int .u32 0] 28) := ⟨_, rfl⟩
            obtain ⟨B7, hB7⟩ : ∃ b, b = Y1.heap.size := ⟨_, rfl⟩
            rw [← hY2, ← hB7] at f2 ⊢
            have F2 := Lib.hid f2
            clear hY2 hB7 f2
            refine hK.out _ _ F2.out.fb (fun k2 => ?_)
            clear hK K
            try simp only [List.setIfInBounds_toArray, List.set_cons_zero, List.set_cons_succ]
            refine wpAnyH_ready (rs := [1]) (by kernel_rfl) (by simp) ?_
            refine AllReadyH.cons (o := ⟨some 107, _, _, _, _, _⟩) rfl (fun K hK => ?_) AllReadyH.nil
            go_simp
            go_at_call 27
            refine (HSS2.out Y2).mono ?_
            rintro e Y3 ⟨rfl, hb⟩
            have F3 := Lib.hid (F2.out.below hb)
            clear hb
            go_wp2_with fail
            refine hK.out _ _ F3.out.fb (fun k3 => ?_)
            clear hK K
            try simp only [List.setIfInBounds_toArray, List.set_cons_zero, List.set_cons_succ]
            refine wpAnyH_ready (rs := [5]) (by kernel_rfl) (by simp) ?_
            refine AllReadyH.cons (o := ⟨some 111, _, _, _, _, _⟩) rfl (fun K hK => ?_) AllReadyH.nil
            go_simp
            go_at_call 17
            refine (HE3.out A g h 1 Y3 F3.out.2.2.1).mono ?_
            rintro e Y4 ⟨rfl, hs, hk⟩
            have F4 := Lib.hid (F3.out.exec hs hk)
            clear hs hk
            go_wp2_with fail
            refine hK.out _ _ F4.out.fb (fun k4 => ?_)
            clear hK K
            try simp only [List.setIfInBounds_toArray, List.set_cons_zero, List.set_cons_succ]
            refine wpAnyH_take (i := 6) (oi := ⟨some 105, _, _, _, _, _⟩) (v := .tuple #[.agg #[.int .u32 0, .int .u32 0, .int .u32 0, .int .u32 0, .int .u32 0, .int .u32 0, .int .u32 0, .int .u32 0, .int .u32 0, .int .u32 0, .int .u32 0, .int .u32 0, .int .u32 0, .int .u32 0, .int .u32 1000, .int .u32 1000], .agg #[.int .i64 0, .int .i64 0, .bool false, .bool false, .bool false, .int .i64 0, .int .i64 0, .int .i64 0, .int .i64 0, .int .i64 0], .int .i64 0]) rfl (by kernel_rfl) (by kernel_rfl) (by kernel_rfl) (fun _ _ _ h => by cases h.1) (Or.inl ⟨by rfl, fun W hSw => by (try dsimp only at hSw); go_simp⟩) k4 ?_
            try simp only [Act.put, List.setIfInBounds_toArray, List.set_cons_zero, List.set_cons_succ]
            refine wpAnyH_take (i := 7) (oi := ⟨some 112, _, _, _, _, _⟩) (v := .agg #[.int .u32 0, .int .u32 0, .int .u32 0, .int .u32 0, .int .u32 0, .int .u32 0, .int .u32 0, .int .u32 0, .int .u32 0, .int .u32 0, .int .u32 0, .int .u32 0, .int .u32 0, .int .u32 0, .int .u32 1000, .int .u32 1000]) rfl (by kernel_rfl) (by kernel_rfl) (by kernel_rfl) (fun _ _ _ h => by cases h.1) (Or.inl ⟨by rfl, fun W hSw => by (try dsimp only at hSw); go_simp⟩) k4 ?_
            try simp only [Act.put, List.setIfInBounds_toArray, List.set_cons_zero, List.set_cons_succ]
            refine wpAnyH_take (i := 8) (oi := ⟨some 113, _, _, _, _, _⟩) (v := .agg #[.int .i64 0, .int .i64 0, .bool false, .bool false, .bool false, .int .i64 0, .int .i64 0, .int .i64 0, .int .i64 0, .int .i64 0]) rfl (by kernel_rfl) (by kernel_rfl) (by kernel_rfl) (fun _ _ _ h => by cases h.1) (Or.inl ⟨by rfl, fun W hSw => by (try dsimp only at hSw); go_simp⟩) k4 ?_
            try simp only [Act.put, List.setIfInBounds_toArray, List.set_cons_zero, List.set_cons_succ]
            refine wpAnyH_take (i := 9) (oi := ⟨some 114, _, _, _, _, _⟩) (v := .int .i64 0) rfl (by kernel_rfl) (by kernel_rfl) (by kernel_rfl) (fun _ _ _ h => by cases h.1) (Or.inl ⟨by rfl, fun W hSw => by (try dsimp only at hSw); go_simp⟩) k4 ?_
            try simp only [Act.put, List.setIfInBounds_toArray, List.set_cons_zero, List.set_cons_succ]
            refine wpAnyH_ready (rs := [12]) (by kernel_rfl) (by simp) ?_
            refine AllReadyH.cons (o := ⟨none, _, _, _, _, _⟩) rfl (fun K hK => ?_) AllReadyH.nil
            obtain ⟨hb5, x5, hx5, hr5⟩ := F4.out.2.2.2.1 B7 rfl
            rw [if_pos (by rfl)]
            refine op_store _ _ _ rfl _ rfl _ rfl (HSR3.out _ _ _ hr5 hx5) ?_
            have f5 := F4.out.st HB6.out (mvR 1000 1000)
            obtain ⟨Y5, hY5⟩ : ∃ y, y = Y4.setRow B7 (regA (mvR 1000 1000)) := ⟨_, rfl⟩
            rw [← hY5] at f5 ⊢
            have F5 := Lib.hid f5
            clear hY5 f5 hb5 hx5 hr5 x5
            refine hK.out _ _ F5.out.fb (fun k5 => ?_)
            clear hK K
            try simp only [List.setIfInBounds_toArray, List.set_cons_zero, List.set_cons_succ]
            refine wpAnyH_ready (rs := [13]) (by kernel_rfl) (by simp) ?_
            refine AllReadyH.cons (o := ⟨none, _, _, _, _, _⟩) rfl (fun K hK => ?_) AllReadyH.nil
            obtain ⟨hb6, x6, hx6, hr6⟩ := F5.out.2.2.2.2 B8 rfl
            rw [if_pos (by rfl)]
            refine op_store _ _ _ rfl _ rfl _ rfl (HSP1.out _ _ _ hr6 hx6) ?_
            have f6 := F5.out.st2 (⟨0, 0, false, false, false, 0, 0, 0, 0, 0⟩)
            obtain ⟨Y6, hY6⟩ : ∃ y, y = Y5.setRow B8 (pswA (⟨0, 0, false, false, false, 0, 0, 0, 0, 0⟩)) := ⟨_, rfl⟩
            rw [← hY6] at f6 ⊢
            have F6 := Lib.hid f6.1
            have P6 := Lib.hid f6.2
            clear hY6 f6 hb6 hx6 hr6 x6
            refine hK.out _ _ F6.out.fb (fun k6 => ?_)
            clear hK K
            try simp only [List.setIfInBounds_toArray, List.set_cons_zero, List.set_cons_succ]
            refine wpAnyH_take (i := 14) (oi := ⟨some 14, _, _, _, _, _⟩) (v := .int .i64 0) rfl (by kernel_rfl) (by kernel_rfl) (by kernel_rfl) (fun _ _ _ h => by cases h.1) (Or.inl ⟨by rfl, fun W hSw => by (try dsimp only at hSw); go_simp⟩) k6 ?_
            try simp only [Act.put, List.setIfInBounds_toArray, List.set_cons_zero, List.set_cons_succ]
            refine wpAnyH_done (by kernel_rfl) ?_ _
            refine id ?_
            exact ⟨rfl, B7, B8, cut_mk rfl, F6.out.1, F6.out.2.1, F6.out.2.2.1, P6.out⟩
      rintro e a w15 ⟨rfl, B9, B10, ⟨u, rfl⟩, hkp, hr, hst, hps⟩
      have HB15 := Lib.hid (Kp.below HB14.out hkp (by simpa using HG.out))
      have HST15 := Lib.hid hst
      have HPS := Lib.hid hps
      clear hkp hr hst hps HE3 HB14 HB6 HSS2 HSR3 HSP1
      go_wp2_with fail
      have HWN : Hid (IntKind.i64.wrap ((n : Int) + 1) = (n : Int) + 1) := Lib.hid (by simp [IntKind.wrap, IntKind.bits, IntKind.signed]; omega)
      obtain ⟨iu0, iuh, iua, iub, iuc⟩ := info_parts info5
      refine wp_region_held_drew (S := fun W => Below w15.heap.size w15 W) (by kernel_rfl) (E.belowDraw w15 1) (fun k0 => ?_)
      have T0 := Lib.hid (HST15.out.below (bel_drew w15))
      have K00 := Lib.hid k0
      obtain ⟨Y0, hY0⟩ : ∃ y, y = w15.drew := ⟨_, rfl⟩
      rw [← hY0] at k0 ⊢
      have T00 : Hid (Sto Y0 A g h 2048 1 b3 (List.replicate 1 0)) := Lib.hid (by rw [hY0]; exact T0.out)
      have K000 : Hid (Below w15.heap.size w15 Y0) := Lib.hid k0
      clear hY0 T0 K00 HST15
      show wpAnyH _ _ _ _ _ 27 #[false, false, false, false, false, false, false, false, false, false, false, false, false, false, false, false, false, false, false, false, false, false, false, false, false, false, false] _ _
      refine wpAnyH_take (i := 0) (oi := ⟨some 115, _, _, _, _, _⟩) (v := .int .i64 0) rfl (by kernel_rfl) (by kernel_rfl) (by kernel_rfl) (fun _ _ _ h => h) (Or.inl ⟨by rfl, fun W hSw => by (try dsimp only at hSw); go_simp⟩) k0 ?_
      try simp only [Act.put, List.setIfInBounds_toArray, List.set_cons_zero, List.set_cons_succ]
      refine wpAnyH_take (i := 1) (oi := ⟨some 116, _, _, _, _, _⟩) (v := .bool true) rfl (by kernel_rfl) (by kernel_rfl) (by kernel_rfl) (fun _ _ _ h => h) (Or.inl ⟨by rfl, fun W hSw => by (try dsimp only at hSw); go_simp⟩) k0 ?_
      try simp only [Act.put, List.setIfInBounds_toArray, List.set_cons_zero, List.set_cons_succ]
      refine wpAnyH_take (i := 2) (oi := ⟨some 117, _, _, _, _, _⟩) (v := .bool true) rfl (by kernel_rfl) (by kernel_rfl) (by kernel_rfl) (fun _ _ _ h => h) (Or.inl ⟨by rfl, fun W hSw => by (try dsimp only at hSw); go_simp⟩) k0 ?_
      try simp only [Act.put, List.setIfInBounds_toArray, List.set_cons_zero, List.set_cons_succ]
      refine wpAnyH_take (i := 3) (oi := ⟨some 118, _, _, _, _, _⟩) (v := .int .i64 0) rfl (by kernel_rfl) (by kernel_rfl) (by kernel_rfl) (fun _ _ _ h => h) (Or.inl ⟨by rfl, fun W hSw => by (try dsimp only at hSw); go_simp⟩) k0 ?_
      try simp only [Act.put, List.setIfInBounds_toArray, List.set_cons_zero, List.set_cons_succ]
      refine wpAnyH_take (i := 4) (oi := ⟨some 119, _, _, _, _, _⟩) (v := .bool true) rfl (by kernel_rfl) (by kernel_rfl) (by kernel_rfl) (fun _ _ _ h => h) (Or.inl ⟨by rfl, fun W hSw => by (try dsimp only at hSw); go_simp⟩) k0 ?_
      try simp only [Act.put, List.setIfInBounds_toArray, List.set_cons_zero, List.set_cons_succ]
      refine wpAnyH_take (i := 5) (oi := ⟨some 120, _, _, _, _, _⟩) (v := .bool true) rfl (by kernel_rfl) (by kernel_rfl) (by kernel_rfl) (fun _ _ _ h => h) (Or.inl ⟨by rfl, fun W hSw => by (try dsimp only at hSw); go_simp⟩) k0 ?_
      try simp only [Act.put, List.setIfInBounds_toArray, List.set_cons_zero, List.set_cons_succ]
      refine wpAnyH_take (i := 6) (oi := ⟨some 121, _, _, _, _, _⟩) (v := .bool true) rfl (by kernel_rfl) (by kernel_rfl) (by kernel_rfl) (fun _ _ _ h => h) (Or.inl ⟨by rfl, fun W hSw => by (try dsimp only at hSw); go_simp⟩) k0 ?_
      try simp only [Act.put, List.setIfInBounds_toArray, List.set_cons_zero, List.set_cons_succ]
      refine wpAnyH_take (i := 7) (oi := ⟨some 122, _, _, _, _, _⟩) (v := .slice (some ⟨BA, 0, none⟩) (n + 1) cA) rfl (by kernel_rfl) (by kernel_rfl) (by kernel_rfl) (fun _ _ _ h => h) (Or.inl ⟨by rfl, fun W hSw => by (try dsimp only at hSw); go_simp⟩) k0 ?_
      try simp only [Act.put, List.setIfInBounds_toArray, List.set_cons_zero, List.set_cons_succ]
      refine wpAnyH_take (i := 8) (oi := ⟨some 123, _, _, _, _, _⟩) (v := .int .i64 ((n : Int) + 1)) rfl (by kernel_rfl) (by kernel_rfl) (by kernel_rfl) (fun _ _ _ h => h) (Or.inl ⟨by rfl, fun W hSw => by (try dsimp only at hSw); go_simp⟩) k0 ?_
      try simp only [Act.put, List.setIfInBounds_toArray, List.set_cons_zero, List.set_cons_succ]
      refine wpAnyH_take (i := 9) (oi := ⟨some 124, _, _, _, _, _⟩) (v := .int .i64 (n : Int)) rfl (by kernel_rfl) (by kernel_rfl) (by kernel_rfl) (fun _ _ _ h => h) (Or.inl ⟨by rfl, fun W hSw => by (try dsimp only at hSw); go_simp⟩) k0 ?_
      try simp only [Act.put, List.setIfInBounds_toArray, List.set_cons_zero, List.set_cons_succ]
      refine wpAnyH_take (i := 10) (oi := ⟨some 125, _, _, _, _, _⟩) (v := .int .i64 ((n : Int) + 1)) rfl (by kernel_rfl) (by kernel_rfl) (by kernel_rfl) (fun _ _ _ h => h) (Or.inl ⟨by rfl, fun W hSw => by clear hSw; go_simp; (try rw [HWN.out])⟩) k0 ?_
      try simp only [Act.put, List.setIfInBounds_toArray, List.set_cons_zero, List.set_cons_succ]
      refine wpAnyH_take (i := 11) (oi := ⟨some 126, _, _, _, _, _⟩) (v := .bool true) rfl (by kernel_rfl) (by kernel_rfl) (by kernel_rfl) (fun _ _ _ h => h) (Or.inl ⟨by rfl, fun W hSw => by (try dsimp only at hSw); go_simp⟩) k0 ?_
      try simp only [Act.put, List.setIfInBounds_toArray, List.set_cons_zero, List.set_cons_succ]
      refine wpAnyH_take (i := 12) (oi := ⟨some 127, _, _, _, _, _⟩) (v := .bool true) rfl (by kernel_rfl) (by kernel_rfl) (by kernel_rfl) (fun _ _ _ h => h) (Or.inl ⟨by rfl, fun W hSw => by (try dsimp only at hSw); go_simp⟩) k0 ?_
      try simp only [Act.put, List.setIfInBounds_toArray, List.set_cons_zero, List.set_cons_succ]
      refine wpAnyH_take (i := 13) (oi := ⟨some 128, _, _, _, _, _⟩) (v := .bool true) rfl (by kernel_rfl) (by kernel_rfl) (by kernel_rfl) (fun _ _ _ h => h) (Or.inl ⟨by rfl, fun W hSw => by (try dsimp only at hSw); go_simp⟩) k0 ?_
      try simp only [Act.put, List.setIfInBounds_toArray, List.set_cons_zero, List.set_cons_succ]
      refine wpAnyH_take (i := 14) (oi := ⟨some 129, _, _, _, _, _⟩) (v := .pointer (some ⟨B10, 7, none⟩)) rfl (by kernel_rfl) (by kernel_rfl) (by kernel_rfl) (fun _ _ _ h => h) (Or.inl ⟨by rfl, fun W hSw => by (try dsimp only at hSw); go_simp⟩) k0 ?_
      try simp only [Act.put, List.setIfInBounds_toArray, List.set_cons_zero, List.set_cons_succ]
      refine wpAnyH_take (i := 15) (oi := ⟨some 130, _, _, _, _, _⟩) (v := .int .i64 0) rfl (by kernel_rfl) (by kernel_rfl) (by kernel_rfl) (fun _ _ _ h => h) (Or.inl ⟨by rfl, fun W hSw => by have cq : W.cell? ⟨B10, 7, none⟩ = some (.int .i64 0) := (HPS.out.below hSw).cell 7; clear hSw; go_simp⟩) k0 ?_
      try simp only [Act.put, List.setIfInBounds_toArray, List.set_cons_zero, List.set_cons_succ]
      refine wpAnyH_take (i := 16) (oi := ⟨some 131, _, _, _, _, _⟩) (v := .bool true) rfl (by kernel_rfl) (by kernel_rfl) (by kernel_rfl) (fun _ _ _ h => h) (Or.inl ⟨by rfl, fun W hSw => by (try dsimp only at hSw); go_simp⟩) k0 ?_
      try simp only [Act.put, List.setIfInBounds_toArray, List.set_cons_zero, List.set_cons_succ]
      refine wpAnyH_take (i := 17) (oi := ⟨some 132, _, _, _, _, _⟩) (v := .bool true) rfl (by kernel_rfl) (by kernel_rfl) (by kernel_rfl) (fun _ _ _ h => h) (Or.inl ⟨by rfl, fun W hSw => by (try dsimp only at hSw); go_simp⟩) k0 ?_
      try simp only [Act.put, List.setIfInBounds_toArray, List.set_cons_zero, List.set_cons_succ]
      refine wpAnyH_take (i := 18) (oi := ⟨some 133, _, _, _, _, _⟩) (v := .bool true) rfl (by kernel_rfl) (by kernel_rfl) (by kernel_rfl) (fun _ _ _ h => h) (Or.inl ⟨by rfl, fun W hSw => by (try dsimp only at hSw); go_simp⟩) k0 ?_
      try simp only [Act.put, List.setIfInBounds_toArray, List.set_cons_zero, List.set_cons_succ]
      refine wpAnyH_take (i := 19) (oi := ⟨some 134, _, _, _, _, _⟩) (v := .pointer (some ⟨A, 0, none⟩)) rfl (by kernel_rfl) (by kernel_rfl) (by kernel_rfl) (fun _ _ _ h => h) (Or.inl ⟨by rfl, fun W hSw => by (try dsimp only at hSw); go_simp⟩) k0 ?_
      try simp only [Act.put, List.setIfInBounds_toArray, List.set_cons_zero, List.set_cons_succ]
      refine wpAnyH_take (i := 20) (oi := ⟨some 135, _, _, _, _, _⟩) (v := .int .i64 (n : Int)) rfl (by kernel_rfl) (by kernel_rfl) (by kernel_rfl) (fun _ _ _ h => h) (Or.inl ⟨by rfl, fun W hSw => by (try dsimp only at hSw); go_simp⟩) k0 ?_
      try simp only [Act.put, List.setIfInBounds_toArray, List.set_cons_zero, List.set_cons_succ]
      refine wpAnyH_take (i := 22) (oi := ⟨some 137, _, _, _, _, _⟩) (v := .int .i64 (n : Int)) rfl (by kernel_rfl) (by kernel_rfl) (by kernel_rfl) (fun _ _ _ h => h) (Or.inl ⟨by rfl, fun W hSw => by (try dsimp only at hSw); go_simp⟩) k0 ?_
      try simp only [Act.put, List.setIfInBounds_toArray, List.set_cons_zero, List.set_cons_succ]
      refine wpAnyH_ready (rs := [21, 23]) (by kernel_rfl) (by simp) ?_
      refine AllReadyH.cons (o := ⟨some 136, _, _, _, _, _⟩) rfl (fun K hK => ?_) (AllReadyH.cons (o := ⟨some 138, _, _, _, _, _⟩) rfl (fun K hK => ?_) AllReadyH.nil)
      · go_simp
        go_at_call 20
        refine (HBZ.out A g h _ T00.out).mono ?_
        rintro e Y1 ⟨v21, rfl, ho, hb⟩
        have V21 := Lib.hid ho.svb
        have T1 := Lib.hid (T00.out.below hb)
        have KK1 := Lib.hid (bel0 K000.out hb)
        clear ho hb
        go_wp2_with fail
        refine hK.out _ _ KK1.out (fun k1 => ?_)
        clear hK K
        try simp only [List.setIfInBounds_toArray, List.set_cons_zero, List.set_cons_succ]
        refine wpAnyH_ready (rs := [23]) (by kernel_rfl) (by simp) ?_
        refine AllReadyH.cons (o := ⟨some 138, _, _, _, _, _⟩) rfl (fun K hK => ?_) AllReadyH.nil
        rw [if_pos (by rfl)]
        refine op_make (.tmp 137) (.tmp 137) 31 rfl 5 iu0 (.int .u8 0) Tryz.underlying31 iuh iua iub n rfl rfl (by rw [iuc]; omega) (by unfold maxLen; omega) ?_
        intro Y2 hown hgr
        obtain ⟨BM, hBM⟩ : ∃ B, B = Y1.heap.size := ⟨_, rfl⟩
        rw [← hBM] at hown ⊢
        rw [show (madeCells (Value.int .u8 0).cells (n * 1)).toList = bsU (List.replicate n 0) by rw [Nat.mul_one]; exact (toList_madeCells_one _ n).trans (by simp [bsU])] at hown
        have M2 : Hid (SvB Y2 (.slice (some ⟨BM, 0, none⟩) n n) (List.replicate n 0)) := Lib.hid (Hold.svb (base := BM) (by unfold Hold; rw [List.length_replicate]; exact hown))
        have hb := below_of hgr
        have T2 := Lib.hid (T1.out.below hb)
        have V2 := Lib.hid (V21.out.below hb)
        have KK2 := Lib.hid (bel0 KK1.out hb)
        clear hown hgr hb hBM
        refine hK.out _ _ KK2.out (fun k2 => ?_)
        clear hK K
        try simp only [List.setIfInBounds_toArray, List.set_cons_zero, List.set_cons_succ]
        refine wpAnyH_ready (rs := [24]) (by kernel_rfl) (by simp) ?_
        refine AllReadyH.cons (o := ⟨some 139, _, _, _, _, _⟩) rfl (fun K hK => ?_) AllReadyH.nil
        go_simp
        go_at_call 22
        refine (same9 _ _ (List.replicate n 0) _ V2.out M2.out).mono ?_
        rintro e Y3 ⟨rfl, hb⟩
        have KK3 := Lib.hid (bel0 KK2.out hb)
        clear hb
        go_wp2_with fail
        refine hK.out _ _ KK3.out (fun k3 => ?_)
        clear hK K
        try simp only [List.setIfInBounds_toArray, List.set_cons_zero, List.set_cons_succ]
        refine wpAnyH_take (i := 25) (oi := ⟨some 140, _, _, _, _, _⟩) (v := .bool true) rfl (by kernel_rfl) (by kernel_rfl) (by kernel_rfl) (fun _ _ _ h => h) (Or.inl ⟨by rfl, fun W hSw => by (try dsimp only at hSw); go_simp⟩) k3 ?_
        try simp only [Act.put, List.setIfInBounds_toArray, List.set_cons_zero, List.set_cons_succ]
        refine wpAnyH_take (i := 26) (oi := ⟨some 2, _, _, _, _, _⟩) (v := .bool true) rfl (by kernel_rfl) (by kernel_rfl) (by kernel_rfl) (fun _ _ _ h => h) (Or.inl ⟨by rfl, fun W hSw => by (try dsimp only at hSw); go_simp⟩) k3 ?_
        try simp only [Act.put, List.setIfInBounds_toArray, List.set_cons_zero, List.set_cons_succ]
        refine wpAnyH_done (by kernel_rfl) ?_ _
        refine id ?_
        have KF := Lib.hid (bel0 HB15.out KK3.out)
        go_wp2
        go_ret
        exact ⟨rfl, bel0 HB0.out KF.out⟩
      · rw [if_pos (by rfl)]
        refine op_make (.tmp 137) (.tmp 137) 31 rfl 5 iu0 (.int .u8 0) Tryz.underlying31 iuh iua iub n rfl rfl (by rw [iuc]; omega) (by unfold maxLen; omega) ?_
        intro Y1 hown hgr
        obtain ⟨BM, hBM⟩ : ∃ B, B = Y0.heap.size := ⟨_, rfl⟩
        rw [← hBM] at hown ⊢
        rw [show (madeCells (Value.int .u8 0).cells (n * 1)).toList = bsU (List.replicate n 0) by rw [Nat.mul_one]; exact (toList_madeCells_one _ n).trans (by simp [bsU])] at hown
        have M1 : Hid (SvB Y1 (.slice (some ⟨BM, 0, none⟩) n n) (List.replicate n 0)) := Lib.hid (Hold.svb (base := BM) (by unfold Hold; rw [List.length_replicate]; exact hown))
        have hb := below_of hgr
        have T1 := Lib.hid (T00.out.below hb)
        have KK1 := Lib.hid (bel0 K000.out hb)
        clear hown hgr hb hBM
        refine hK.out _ _ KK1.out (fun k1 => ?_)
        clear hK K
        try simp only [List.setIfInBounds_toArray, List.set_cons_zero, List.set_cons_succ]
        refine wpAnyH_ready (rs := [21]) (by kernel_rfl) (by simp) ?_
        refine AllReadyH.cons (o := ⟨some 136, _, _, _, _, _⟩) rfl (fun K hK => ?_) AllReadyH.nil
        go_simp
        go_at_call 20
        refine (HBZ.out A g h _ T1.out).mono ?_
        rintro e Y2 ⟨v21, rfl, ho, hb⟩
        have V21 := Lib.hid ho.svb
        have T2 := Lib.hid (T1.out.below hb)
        have M2 := Lib.hid (M1.out.below hb)
        have KK2 := Lib.hid (bel0 KK1.out hb)
        clear ho hb
        go_wp2_with fail
        refine hK.out _ _ KK2.out (fun k2 => ?_)
        clear hK K
        try simp only [List.setIfInBounds_toArray, List.set_cons_zero, List.set_cons_succ]
        refine wpAnyH_ready (rs := [24]) (by kernel_rfl) (by simp) ?_
        refine AllReadyH.cons (o := ⟨some 139, _, _, _, _, _⟩) rfl (fun K hK => ?_) AllReadyH.nil
        go_simp
        go_at_call 22
        refine (same9 _ _ (List.replicate n 0) _ V21.out M2.out).mono ?_
        rintro e Y3 ⟨rfl, hb⟩
        have KK3 := Lib.hid (bel0 KK2.out hb)
        clear hb
        go_wp2_with fail
        refine hK.out _ _ KK3.out (fun k3 => ?_)
        clear hK K
        try simp only [List.setIfInBounds_toArray, List.set_cons_zero, List.set_cons_succ]
        refine wpAnyH_take (i := 25) (oi := ⟨some 140, _, _, _, _, _⟩) (v := .bool true) rfl (by kernel_rfl) (by kernel_rfl) (by kernel_rfl) (fun _ _ _ h => h) (Or.inl ⟨by rfl, fun W hSw => by (try dsimp only at hSw); go_simp⟩) k3 ?_
        try simp only [Act.put, List.setIfInBounds_toArray, List.set_cons_zero, List.set_cons_succ]
        refine wpAnyH_take (i := 26) (oi := ⟨some 2, _, _, _, _, _⟩) (v := .bool true) rfl (by kernel_rfl) (by kernel_rfl) (by kernel_rfl) (fun _ _ _ h => h) (Or.inl ⟨by rfl, fun W hSw => by (try dsimp only at hSw); go_simp⟩) k3 ?_
        try simp only [Act.put, List.setIfInBounds_toArray, List.set_cons_zero, List.set_cons_succ]
        refine wpAnyH_done (by kernel_rfl) ?_ _
        refine id ?_
        have KF := Lib.hid (bel0 HB15.out KK3.out)
        go_wp2
        go_ret
        exact ⟨rfl, bel0 HB0.out KF.out⟩

end M
end Go.Proofs.YtfopjnfphlkcgaaGreat

/- Bytes, Fetch, Clear and Put of the program: their contracts. -/
import Derived.Test.YtnnpnklbhghegaaStCode
namespace Go.Proofs.Ytnnpnklbhghegaa
open Go.RowKit Go.Shelf
set_option linter.unusedVariables false
namespace E

/-- copy into a row. -/
theorem wpList_copy_row {P : Program} {w : World} {ops : Array Oper} {rest : List Oper} {o : Oper} {a : Act} {Q : Exit → Act → World → Prop} (hgd : o.guard = none) (d s : Operand) (dT sT : TypeId)
    (ho : o.op = .call { callee := .builtin .copy, args := #[d, s], argTypes := #[dT, sT] }) (elem : TypeId) (hu : P.underlying dT = some (.slice elem)) (hsz : (P.info? elem).map (·.size) = some 1)
    (dp sp : Option Addr) (dLen dCap sLen sCap : Nat) (hd : a.eval d = .slice dp dLen dCap) (hs : a.eval s = .slice sp sLen sCap)
    (g off c : Nat) (xs : List Value) (t : TypeId) (hg : Row w g t xs c) (cs : List Value) (hn : cs.length = Nat.min sLen dLen)
    (hpos : 0 < cs.length → dp = some ⟨g, off, none⟩ ∧ ∃ ad, sp = some ad ∧ ∀ j v, cs[j]? = some v → w.cell? (ad.add j) = some v)
    (hfit : off + cs.length ≤ xs.length) (h1 : ∀ v ∈ cs, v.oneCell' = true)
    (h : ∀ w', Hid (Row w' g t (xs.take off ++ (cs ++ xs.drop (off + cs.length))) c) → Hid (w.grownBy w' (some g)) → wpList P ops Q rest (a.put o.dst (goInt cs.length)) w') :
    wpList P ops Q (o :: rest) a w := by
  by_cases h0 : cs.length = 0
  · obtain rfl : cs = [] := List.eq_nil_of_length_eq_zero h0
    refine wpList_copy_nothing hgd d s dT sT ho elem hu hsz dp sp dLen dCap sLen sCap hd hs (by simpa using hn.symm) ?_
    exact h w (Lib.hid (by simpa using hg)) (Lib.hid (World.grownBy.refl _ _))
  · obtain ⟨rfl, ad, rfl, hsrc⟩ := hpos (by omega)
    obtain ⟨cur, h2, h3, h4, h5⟩ := hg.splice off cs hfit
    refine wpList_copy_own hgd d s dT sT ho elem hu hsz g off dLen dCap ad sLen sCap hd hs cur t h2 cs hn hsrc h3 h1 ?_
    exact h _ (Lib.hid h4) (Lib.hid h5)
theorem cells_rd {w : World} {a : Addr} {l : List UInt8} (h : Rd w (some a) l) : ∀ j u, (bsU l)[j]? = some u → w.cell? (a.add j) = some u := by
  rcases h with h0 | ⟨B, off, hp, hc⟩
  · subst h0
    intro j u hu
    simp [bsU] at hu
  · obtain rfl := Option.some.inj hp
    intro j u hu
    obtain ⟨hj, rfl⟩ := bsU_at hu
    have hadd : (⟨B, off, none⟩ : Addr).add j = ⟨B, off + j, none⟩ := by
      unfold Addr.add
      split <;> simp_all
    rw [hadd]
    exact hc j hj
theorem row_hold {w : World} {base g n c : Nat} {l : List UInt8} (h : Row w g 5 (bsU l) c) (hb : base ≤ g) (hl : l.length = n) (hnc : n = c) (hm : c ≤ 65536) : Hold w base (.slice (some ⟨g, 0, none⟩) n c) l := by
  obtain ⟨cur, h1, h2, h3⟩ := h
  subst hl
  have e : (bsU l).length = l.length := bsU_len l
  rw [e] at h2
  exact ⟨by rw [e, Nat.mul_one], .inr ⟨g, c, cur, rfl, hb, h1, by omega, by unfold maxLen; omega, by simp [h3], by simpa using h2⟩⟩
theorem made_bs (n : Nat) : (madeCells (Value.cells (.int .u8 0)) (n * 1)).toList = bsU (List.replicate n 0) := by
  rw [Nat.mul_one]
  exact (toList_madeCells_one _ n).trans (by simp [bsU])
theorem bytes_nil (x k : Int) (w : World) : Calls Try.prog 20 #[.pointer none, .int .i64 x, .int .i64 k] w fun e w' => e = .returned (.slice none 0 0) ∧ w = w' := by
  go_enter Try.func20, Try.ntmps20
  go_wp2_with fail
  refine (holds_nil x k _).mono ?_
  rintro e w1 ⟨rfl, rfl⟩
  go_wp2
  go_ret
  exact ⟨rfl, rfl⟩
/-- What Bytes leaves: bytes in new memory. -/
def BytPost (w : World) (l : List UInt8) (e : Ending) (w' : World) : Prop := ∃ sv, e = .returned sv ∧ Hold w' w.heap.size sv l ∧ Below w.heap.size w w'
set_option maxRecDepth 100000 in
set_option maxHeartbeats 1000000 in
theorem bytes_any (a g h n m : Nat) (x k : Int) (bs ks : List UInt8) (w : World) (hx : x ≤ 9223372036854775807) (hst : Sto w a g h n m bs ks) :
    Calls Try.prog 20 #[.pointer (some ⟨a, 0, none⟩), .int .i64 x, .int .i64 k] w (BytPost w (bytL n bs x k)) := by
  obtain ⟨i0, hi0, hz0, hz1, hz2⟩ := info_parts info5
  have hnum := hst.nums
  have H1 := Lib.hid (holds_any a g n x k w hx (by omega) hst.c0)
  unfold bytL
  by_cases hi : inB n x k = true
  · obtain ⟨h1, h2, h3⟩ := inB_iff.1 hi
    rw [if_pos hi]
    rw [hi] at H1
    obtain ⟨X, rfl⟩ := Int.eq_ofNat_of_zero_le h1
    obtain ⟨Z, rfl⟩ := Int.eq_ofNat_of_zero_le h2
    have hXZ : X + Z ≤ n := by omega
    have hXn : X ≤ n := by omega
    have hn : n ≤ 65536 := by omega
    obtain ⟨L, hL⟩ : ∃ L, L = subL bs X Z := ⟨_, rfl⟩
    have hLl : L.length = Z := by rw [hL]; exact subL_len (by omega)
    have hrd := hst.2.1.rd X Z (by omega)
    rw [show (bs.drop X).take Z = L from hL.symm] at hrd
    show Calls _ _ _ _ (BytPost w (subL bs X Z))
    rw [← hL]
    have c0 := hst.c0
    have HST := Lib.hid hst
    have HL := Lib.hid hLl
    have HR := Lib.hid hrd
    have HXZ := Lib.hid hXZ
    have hZn : Z ≤ n := by omega
    clear hi h1 h2 h3 hnum hst hL hLl hrd hXZ
    go_enter Try.func20, Try.ntmps20
    go_wp2_with fail
    refine H1.out.mono ?_
    rintro e w1 ⟨rfl, rfl⟩
    by_cases hXe : n = X
    · subst hXe
      have HZ0 : Hid (Z = 0) := Lib.hid (by have := HXZ.out; omega)
      go_wp2_with (first
        | (at_make; refine wpList_make_full _ rfl _ _ 29 rfl w.heap.size 5 i0 (.int .u8 0) 1 Try.underlying29 hi0 hz0 hz1 .i64 .i64 Z Z Z rfl rfl rfl rfl (by rw [hz2]; omega) (by unfold maxLen; omega) (Nat.le_refl _) ?_; intro w1 hown hgrow; have HB1 := Lib.hid (below_of hgrow); rw [made_bs] at hown; have HROW := Lib.hid (own_row hown (by simp [bsU])); have c1 := (HST.out.below HB1.out).c0; have HR1 := Lib.hid (HR.out.below HB1.out); clear hown hgrow c0)
        | ((with_reducible refine wpList_copy_row (o := ⟨some 22, _, _, _, _, _⟩) ?_ (.tmp 15) (.tmp 21) 29 29 ?_ 5 ?_ ?_ (some ⟨w.heap.size, 0, none⟩) (some ⟨g, 0, none⟩) Z Z 0 0 ?_ ?_ w.heap.size 0 Z (bsU (List.replicate Z 0)) 5 HROW.out (bsU L) ?_ ?_ ?_ (bsU_one L) ?_); (rfl); (rfl); (exact Try.underlying29); (kernel_rfl); (rfl); (rfl); (rw [bsU_len, HL.out, HZ0.out]; rfl); (exact fun hp => absurd hp (by rw [bsU_len, HL.out, HZ0.out]; omega)); (rw [bsU_len, bsU_len, HL.out]; simp); intro w2 HR2 HG2))
      rw [show (bsU (List.replicate Z 0)).take 0 ++ (bsU L ++ (bsU (List.replicate Z 0)).drop (0 + (bsU L).length)) = bsU L by rw [List.drop_of_length_le (by rw [bsU_len, bsU_len, HL.out]; simp)]; simp] at HR2
      go_ret
      exact ⟨_, rfl, row_hold HR2.out (Nat.le_refl _) HL.out rfl (by omega), below_grown HB1.out HG2.out (Nat.le_refl _)⟩
    · skip
      go_wp2_with (first
        | (at_make; refine wpList_make_full _ rfl _ _ 29 rfl w.heap.size 5 i0 (.int .u8 0) 1 Try.underlying29 hi0 hz0 hz1 .i64 .i64 Z Z Z rfl rfl rfl rfl (by rw [hz2]; omega) (by unfold maxLen; omega) (Nat.le_refl _) ?_; intro w1 hown hgrow; have HB1 := Lib.hid (below_of hgrow); rw [made_bs] at hown; have HROW := Lib.hid (own_row hown (by simp [bsU])); have c1 := (HST.out.below HB1.out).c0; have HR1 := Lib.hid (HR.out.below HB1.out); clear hown hgrow c0)
        | ((with_reducible refine wpList_copy_row (o := ⟨some 22, _, _, _, _, _⟩) ?_ (.tmp 15) (.tmp 21) 29 29 ?_ 5 ?_ ?_ (some ⟨w.heap.size, 0, none⟩) (some ⟨g, X, none⟩) Z Z (n - X) (n - X) ?_ ?_ w.heap.size 0 Z (bsU (List.replicate Z 0)) 5 HROW.out (bsU L) ?_ ?_ ?_ (bsU_one L) ?_); (rfl); (rfl); (exact Try.underlying29); (kernel_rfl); (rfl); (rfl); (rw [bsU_len, HL.out]; exact (Nat.min_eq_right (by have := HXZ.out; omega)).symm); (exact fun _ => ⟨rfl, _, rfl, cells_rd HR1.out⟩); (rw [bsU_len, bsU_len, HL.out]; simp); intro w2 HR2 HG2))
      rw [show (bsU (List.replicate Z 0)).take 0 ++ (bsU L ++ (bsU (List.replicate Z 0)).drop (0 + (bsU L).length)) = bsU L by rw [List.drop_of_length_le (by rw [bsU_len, bsU_len, HL.out]; simp)]; simp] at HR2
      go_ret
      exact ⟨_, rfl, row_hold HR2.out (Nat.le_refl _) HL.out rfl (by omega), below_grown HB1.out HG2.out (Nat.le_refl _)⟩
  · rw [if_neg hi]
    rw [show inB n x k = false by simpa using hi] at H1
    go_enter Try.func20, Try.ntmps20
    go_wp2_with fail
    refine H1.out.mono ?_
    rintro e w1 ⟨rfl, rfl⟩
    go_wp2
    go_ret
    exact ⟨_, rfl, ⟨rfl, .inl ⟨rfl, rfl⟩⟩, Below.refl _ _⟩

end E
end Go.Proofs.Ytnnpnklbhghegaa

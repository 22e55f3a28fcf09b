/- Fetch, Put and Clear of the program: their contracts. -/
import Derived.Test.YtnnpnklbhghegaaStRead
namespace Go.Proofs.Ytnnpnklbhghegaa
open Go.RowKit Go.Shelf
set_option linter.unusedVariables false
namespace E

theorem fetch_nil (x k key : Int) (w : World) : Calls Try.prog 23 #[.pointer none, .int .i64 x, .int .i64 k, .int .i64 key] w fun e w' => e = .returned (.tuple #[.slice none 0 0, .int .i64 0]) ∧ w = w' := by
  go_enter Try.func23, Try.ntmps23
  go_wp2
  go_ret2
  exact ⟨rfl, rfl⟩
/-- What Fetch leaves: bytes in new memory, and a code. -/
def FetPost (w : World) (l : List UInt8) (c : Int) (e : Ending) (w' : World) : Prop := ∃ sv, e = .returned (.tuple #[sv, .int .i64 c]) ∧ Hold w' w.heap.size sv l ∧ Below w.heap.size w w'
set_option maxRecDepth 100000 in
set_option maxHeartbeats 1000000 in
theorem fetch_any (a g h n m : Nat) (x k key : Int) (bs ks : List UInt8) (w : World) (hx : x ≤ 9223372036854775807) (hst : Sto w a g h n m bs ks) :
    Calls Try.prog 23 #[.pointer (some ⟨a, 0, none⟩), .int .i64 x, .int .i64 k, .int .i64 key] w (FetPost w (fetL (ftP key) n bs ks x k) (codeV (ftP key) n ks x k)) := by
  have HST := Lib.hid hst
  have H1 := Lib.hid (mayFetch_any key w)
  have H2 := Lib.hid (fun K L W hs hk => refusalF_any a g h n m K L x k bs ks key W hx hs hk)
  have H3 := Lib.hid (fun W hs => bytes_any a g h n m x k bs ks W hx hs)
  have H0 : Hid (codeV (ftP key) n ks x k = 0 → bytL n bs x k = fetL (ftP key) n bs ks x k) := Lib.hid (fun h0 => by unfold bytL fetL; rw [if_pos (codeV_in h0), if_pos h0])
  have H4 : Hid (codeV (ftP key) n ks x k ≠ 0 → fetL (ftP key) n bs ks x k = []) := Lib.hid (fun h0 => by unfold fetL; rw [if_neg h0])
  have h3 := codeV_three (ftP key) n ks x k
  generalize fetL (ftP key) n bs ks x k = L at *
  generalize codeV (ftP key) n ks x k = C at *
  clear hst
  rcases h3 with rfl | hC
  · have H3' := Lib.hid (fun W hs => (by have h := H3.out W hs; rw [H0.out rfl] at h; exact h : Calls Try.prog 20 #[.pointer (some ⟨a, 0, none⟩), .int .i64 x, .int .i64 k] W (BytPost W L)))
    clear H3 H0 H4
    go_enter Try.func23, Try.ntmps23
    go_wp2_with fail
    refine H1.out.mono ?_
    rintro e w1 ⟨J, K, rfl, hk, hj, hb⟩
    have HB := Lib.hid hb
    have HK := Lib.hid (And.intro hk hj)
    clear hb hk hj
    go_wp2_with fail
    refine (H2.out _ _ _ (HST.out.below HB.out) HK.out).mono ?_
    rintro e w2 ⟨rfl, hb⟩
    have HB2 := Lib.hid (bel0 HB.out hb)
    clear hb
    go_wp2_with fail
    refine (H3'.out _ (HST.out.below HB2.out)).mono ?_
    rintro e w3 ⟨sv, rfl, hh, hb⟩
    have HB3 := Lib.hid (bel0 HB2.out hb)
    have HH := Lib.hid (hh.base HB2.out.size)
    clear hb hh
    go_wp2
    go_ret2
    exact ⟨_, rfl, HH.out, HB3.out⟩
  · have hC0 : C ≠ 0 := by omega
    obtain rfl := H4.out hC0
    clear H3 H0 H4 hC
    go_enter Try.func23, Try.ntmps23
    go_wp2_with fail
    refine H1.out.mono ?_
    rintro e w1 ⟨J, K, rfl, hk, hj, hb⟩
    have HB := Lib.hid hb
    have HK := Lib.hid (And.intro hk hj)
    clear hb hk hj
    go_wp2_with fail
    refine (H2.out _ _ _ (HST.out.below HB.out) HK.out).mono ?_
    rintro e w2 ⟨rfl, hb⟩
    have HB2 := Lib.hid (bel0 HB.out hb)
    clear hb
    go_wp2
    go_ret2
    exact ⟨_, rfl, ⟨rfl, .inl ⟨rfl, rfl⟩⟩, HB2.out⟩
theorem put_nil (x key : Int) (v : Value) (w : World) : Calls Try.prog 22 #[.pointer none, .int .i64 x, v, .int .i64 key] w fun e w' => e = .returned (.int .i64 0) ∧ w = w' := by
  go_enter Try.func22, Try.ntmps22
  go_wp2
  go_ret
  exact ⟨rfl, rfl⟩
/-- What Put leaves. -/
def PutPost (w : World) (a g h n m : Nat) (bs ks : List UInt8) (v : Value) (e : Ending) (w' : World) : Prop := e = .returned v ∧ w.grownBy w' (some g) ∧ Sto w' a g h n m bs ks
theorem sv_src {w w' : World} {p : Option Addr} {l : List UInt8} (h : Rd w p l) (hb : Below w.heap.size w w') : 0 < (bsU l).length → ∃ ad, p = some ad ∧ ∀ j v, (bsU l)[j]? = some v → w'.cell? (ad.add j) = some v := by
  intro h0
  rcases h with h1 | ⟨B, off, rfl, hc⟩
  · subst h1; simp [bsU] at h0
  · exact ⟨_, rfl, cells_rd ((show Rd w (some ⟨B, off, none⟩) l from .inr ⟨B, off, rfl, hc⟩).below hb)⟩
set_option maxRecDepth 100000 in
set_option maxHeartbeats 1000000 in
theorem put_any (a g h n m : Nat) (x key : Int) (v : Value) (b bs ks : List UInt8) (w : World) (hx : x ≤ 9223372036854775807) (hst : Sto w a g h n m bs ks) (hv : SvB w v b) :
    Calls Try.prog 22 #[.pointer (some ⟨a, 0, none⟩), .int .i64 x, v, .int .i64 key] w (PutPost w a g h n m (putB (stP key) n bs ks x b) ks (.int .i64 (codeV (stP key) n ks x (b.length : Int)))) := by
  obtain ⟨p, c, rfl, hr, hbc, hc, hpn⟩ := hv
  have hnum := hst.nums
  have HST := Lib.hid hst
  have HR := Lib.hid hr
  have H1 := Lib.hid (mayStore_any key w)
  have H2 := Lib.hid (fun K W hs hk => refusalS_any a g h n m K x (b.length : Int) bs ks key W hx hs hk)
  have h0 : codeV (stP key) n ks x (b.length : Int) = 0 → putB (stP key) n bs ks x b = putL bs x.toNat b := fun h0 => by unfold putB; rw [if_pos h0]
  have h4 : codeV (stP key) n ks x (b.length : Int) ≠ 0 → putB (stP key) n bs ks x b = bs := fun h0 => by unfold putB; rw [if_neg h0]
  have h5 : codeV (stP key) n ks x (b.length : Int) = 0 → inB n x (b.length : Int) = true := codeV_in
  have H6 := Lib.hid (codeV_three (stP key) n ks x (b.length : Int))
  generalize putB (stP key) n bs ks x b = L at *
  generalize codeV (stP key) n ks x (b.length : Int) = C at *
  obtain ⟨lb, hlb⟩ : ∃ lb, lb = b.length := ⟨_, rfl⟩
  rw [← hlb] at H2 h5 hbc ⊢
  have HLB := Lib.hid hlb
  clear hst hr hlb
  by_cases hC : C = 0
  · subst hC
    obtain ⟨i1, i2, i3⟩ := inB_iff.1 (h5 rfl)
    obtain ⟨X, rfl⟩ := Int.eq_ofNat_of_zero_le i1
    obtain rfl : L = putL bs X b := h0 rfl
    have HXZ : Hid (X + lb ≤ n) := Lib.hid (by omega)
    have hXn : X ≤ n := by omega
    have hn : n ≤ 65536 := by omega
    have hbl := hnum.1
    have HBL := Lib.hid hbl
    clear h0 h4 h5 i1 i2 i3 hnum hbl hpn
    by_cases hXe : n = X
    · subst hXe
      have HZ0 : Hid (lb = 0) := Lib.hid (by have := HXZ.out; omega)
      go_enter Try.func22, Try.ntmps22
      go_wp2_with fail
      refine H1.out.mono ?_
      rintro e w1 ⟨rfl, hk, hb⟩
      have HB := Lib.hid hb
      have HK := Lib.hid hk
      clear hb hk
      go_wp2_with fail
      refine (H2.out _ _ (HST.out.below HB.out) HK.out).mono ?_
      rintro e w2 ⟨rfl, hb⟩
      have HB2 := Lib.hid (bel0 HB.out hb)
      have HS2 := Lib.hid (HST.out.below HB2.out)
      have HROW := Lib.hid HS2.out.2.1
      have HSRC := Lib.hid (sv_src HR.out HB2.out)
      have c0 := HS2.out.c0
      clear hb
      go_wp2_with ((with_reducible refine wpList_copy_row (o := ⟨some 28, _, _, _, _, _⟩) ?_ (.tmp 26) (.tmp 27) 29 29 ?_ 5 ?_ ?_ (some ⟨g, 0, none⟩) p 0 0 lb c ?_ ?_ g n n (bsU bs) 5 HROW.out (bsU b) ?_ ?_ ?_ (bsU_one b) ?_); (rfl); (rfl); (exact Try.underlying29); (kernel_rfl); (rfl); (rfl); (rw [bsU_len, ← HLB.out, HZ0.out]; rfl); (exact fun hp => absurd hp (by rw [bsU_len, ← HLB.out, HZ0.out]; omega)); (rw [bsU_len, bsU_len, ← HLB.out, HBL.out]; exact HXZ.out); intro w3 HR3 HG3)
      rw [← bsU_putL] at HR3
      go_ret
      exact ⟨rfl, btrans HB2.out HG3.out, HS2.out.spliced HR3.out (by rw [putL_len (by rw [← HLB.out, HBL.out]; exact HXZ.out), HBL.out]) HG3.out⟩
    · skip
      go_enter Try.func22, Try.ntmps22
      go_wp2_with fail
      refine H1.out.mono ?_
      rintro e w1 ⟨rfl, hk, hb⟩
      have HB := Lib.hid hb
      have HK := Lib.hid hk
      clear hb hk
      go_wp2_with fail
      refine (H2.out _ _ (HST.out.below HB.out) HK.out).mono ?_
      rintro e w2 ⟨rfl, hb⟩
      have HB2 := Lib.hid (bel0 HB.out hb)
      have HS2 := Lib.hid (HST.out.below HB2.out)
      have HROW := Lib.hid HS2.out.2.1
      have HSRC := Lib.hid (sv_src HR.out HB2.out)
      have c0 := HS2.out.c0
      clear hb
      go_wp2_with ((with_reducible refine wpList_copy_row (o := ⟨some 28, _, _, _, _, _⟩) ?_ (.tmp 26) (.tmp 27) 29 29 ?_ 5 ?_ ?_ (some ⟨g, X, none⟩) p (n - X) (n - X) lb c ?_ ?_ g X n (bsU bs) 5 HROW.out (bsU b) ?_ ?_ ?_ (bsU_one b) ?_); (rfl); (rfl); (exact Try.underlying29); (kernel_rfl); (rfl); (rfl); (rw [bsU_len, ← HLB.out]; exact (Nat.min_eq_left (by have := HXZ.out; omega)).symm); (exact fun hp => ⟨rfl, HSRC.out hp⟩); (rw [bsU_len, bsU_len, ← HLB.out, HBL.out]; exact HXZ.out); intro w3 HR3 HG3)
      rw [← bsU_putL] at HR3
      go_ret
      exact ⟨rfl, btrans HB2.out HG3.out, HS2.out.spliced HR3.out (by rw [putL_len (by rw [← HLB.out, HBL.out]; exact HXZ.out), HBL.out]) HG3.out⟩
  · obtain rfl : L = bs := h4 hC
    clear h0 h4 h5 hnum
    go_enter Try.func22, Try.ntmps22
    go_wp2_with fail
    refine H1.out.mono ?_
    rintro e w1 ⟨rfl, hk, hb⟩
    have HB := Lib.hid hb
    have HK := Lib.hid hk
    clear hb hk
    go_wp2_with fail
    refine (H2.out _ _ (HST.out.below HB.out) HK.out).mono ?_
    rintro e w2 ⟨rfl, hb⟩
    have HB2 := Lib.hid (bel0 HB.out hb)
    clear hb
    go_wp2
    go_ret
    exact ⟨rfl, grown_of HB2.out _, HST.out.below HB2.out⟩
theorem zeroU (w : World) : (zeroValue 5).run Try.prog w = .ok (.int .u8 0) w := by
  obtain ⟨i0, hi0, hz0, hz1, hz2⟩ := info_parts info5
  first | kernel_rfl | (simp [zeroValue, go_sem, hi0, hz0])
theorem clear_none (t e ty : TypeId) (z : Value) (ht : Try.prog.underlying t = some (.slice e)) (hv : ∀ w, (zeroValue e).run Try.prog w = .ok z w) (p : Option Addr) (c : Nat) (w : World) : (Builtin.clear_ #[t] ty #[.slice p 0 c]).run Try.prog w = .ok (.tuple #[]) w := by
  cases p <;> simp [Builtin.clear_, run_underlying ht]
theorem clear_some (t e ty : TypeId) (z : Value) (ht : Try.prog.underlying t = some (.slice e)) (hv : ∀ w, (zeroValue e).run Try.prog w = .ok z w) (hz : z.cells = #[z]) (h1 : z.oneCell' = true) (g o k c : Nat) {te : TypeId} {xs : List Value} {cap : Nat} (w : World) (hr : Row w g te xs cap) (hk : o + k ≤ xs.length) :
    (Builtin.clear_ #[t] ty #[.slice (some ⟨g, o, none⟩) k c]).run Try.prog w = .ok (.tuple #[]) (w.setCells g o (List.replicate k z)) := by
  by_cases h0 : k = 0
  · subst h0
    exact clear_none t e ty z ht hv _ _ w
  · refine Lib.run_clear_slice w t e ty z ht hv hz h1 g o k c (by omega) (fun j hj => ?_) (fun j _ => hr.frozen _)
    rw [hr.cell _ (by omega)]
    simp
    omega
theorem clear_nil (x k : Int) (w : World) : Calls Try.prog 25 #[.pointer none, .int .i64 x, .int .i64 k] w fun e w' => e = .returned (.bool false) ∧ w = w' := by
  go_enter Try.func25, Try.ntmps25
  go_wp2_with fail
  refine (holds_nil x k _).mono ?_
  rintro e w1 ⟨rfl, rfl⟩
  go_wp2
  go_ret
  exact ⟨rfl, rfl⟩
set_option maxRecDepth 100000 in
set_option maxHeartbeats 1000000 in
theorem clear_any (a g h n m : Nat) (x k : Int) (bs ks : List UInt8) (w : World) (hx : x ≤ 9223372036854775807) (hst : Sto w a g h n m bs ks) :
    Calls Try.prog 25 #[.pointer (some ⟨a, 0, none⟩), .int .i64 x, .int .i64 k] w (PutPost w a g h n m (clrB n bs x k) ks (.bool (inB n x k))) := by
  have hnum := hst.nums
  have H1 := Lib.hid (holds_any a g n x k w hx (by omega) hst.c0)
  have HST := Lib.hid hst
  by_cases hi : inB n x k = true
  · obtain ⟨h1, h2, h3⟩ := inB_iff.1 hi
    have e0 : clrB n bs x k = putL bs x.toNat (List.replicate k.toNat 0) := by unfold clrB; rw [if_pos hi]
    rw [e0, hi]
    rw [hi] at H1
    clear e0 hi
    obtain ⟨X, rfl⟩ := Int.eq_ofNat_of_zero_le h1
    obtain ⟨Z, rfl⟩ := Int.eq_ofNat_of_zero_le h2
    have hXZ : X + Z ≤ n := by omega
    have hn : n ≤ 65536 := by omega
    have hwr : wrap64 ((X : Int) + (Z : Int)) = ((X + Z : Nat) : Int) := by unfold wrap64; omega
    obtain ⟨T, hT⟩ : ∃ T, T = X + Z := ⟨_, rfl⟩
    rw [← hT] at hwr hXZ
    have hXT : X ≤ T := by omega
    have c0 := hst.c0
    show Calls _ _ _ _ (PutPost w a g h n m (putL bs X (List.replicate Z 0)) ks (.bool true))
    have HBL := Lib.hid hnum.1
    have HT := Lib.hid hT
    clear h1 h2 h3 hnum hst hT
    have HXT := Lib.hid hXT
    have hn1 := HST.out.2.1
    by_cases hXe : n = X
    · have hZ0 : Z = 0 := by have := HT.out; omega
      have e1 : putL bs X (List.replicate Z 0) = bs := by rw [hZ0]; simp [putL]
      rw [e1]
      have hclr := clear_none 29 5 0 (.int .u8 0) Try.underlying29 zeroU (some ⟨g, 0, none⟩) 0 w
      have HCLR := Lib.hid hclr
      have hT : T = n := by omega
      subst hT
      subst hXe
      clear e1 hclr hZ0 hn1
      go_enter Try.func25, Try.ntmps25
      go_wp2_with fail
      refine H1.out.mono ?_
      rintro e w1 ⟨rfl, rfl⟩
      go_wp2_with fail
      rw [HCLR.out]
      go_wp2
      go_ret
      exact ⟨rfl, World.grownBy.refl _ _, HST.out⟩
    · have hclr := clear_some 29 5 0 (.int .u8 0) Try.underlying29 zeroU rfl rfl g X (T - X) (n - X) w hn1 (by rw [bsU_len, HBL.out]; omega)
      have HCLR := Lib.hid hclr
      have hrow := Row.cells (List.replicate (T - X) (.int .u8 0)) X w (bsU bs) hn1 (by rw [bsU_len, HBL.out]; simp; omega)
      have e2 : (bsU bs).take X ++ (List.replicate (T - X) (.int .u8 0) ++ (bsU bs).drop (X + (List.replicate (T - X) (Value.int .u8 0)).length)) = bsU (putL bs X (List.replicate Z 0)) := by
        rw [bsU_putL, bsU_rep, show T - X = Z by have := HT.out; omega]
      rw [e2] at hrow
      have HROW := Lib.hid hrow
      clear hclr hrow e2 hn1
      go_enter Try.func25, Try.ntmps25
      go_wp2_with fail
      refine H1.out.mono ?_
      rintro e w1 ⟨rfl, rfl⟩
      go_wp2_with fail
      rw [HCLR.out]
      go_wp2
      go_ret
      exact ⟨rfl, HROW.out.2, HST.out.spliced HROW.out.1 (by rw [putL_len (by simp [HBL.out]; have := HT.out; omega), HBL.out]) HROW.out.2⟩
  · have e0 : clrB n bs x k = bs := by unfold clrB; rw [if_neg hi]
    rw [show inB n x k = false by simpa using hi] at H1 ⊢
    rw [e0]
    clear e0
    go_enter Try.func25, Try.ntmps25
    go_wp2_with fail
    refine H1.out.mono ?_
    rintro e w1 ⟨rfl, rfl⟩
    go_wp2
    go_ret
    exact ⟨rfl, World.grownBy.refl _ _, HST.out⟩

end E
end Go.Proofs.Ytnnpnklbhghegaa

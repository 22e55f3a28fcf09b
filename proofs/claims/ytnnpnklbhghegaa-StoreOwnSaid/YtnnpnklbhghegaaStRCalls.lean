/- The given answers: Fetch, SetKey, KeyOf, Bytes and Clear. -/
import Derived.Test.YtnnpnklbhghegaaStRCode
namespace Go.Proofs.Ytnnpnklbhghegaa
open Go.RowKit Go.Shelf
set_option linter.unusedVariables false
namespace E

theorem rcode_any (f : Bool) (a g h n m c d : Nat) (x k key : Int) (bs ks : List UInt8) (w : World) (hst : Rfs w a g h n m c d bs ks) :
    Calls Try.prog 40 #[.pointer (some ⟨a, 0, none⟩), .int .i64 x, .int .i64 k, .int .i64 key, .bool f] w fun e w' => e = .returned (.int .i64 (codeV (pF f key) n ks x k)) ∧ w = w' := by
  have hnum := hst.nums
  unfold codeV
  by_cases hi : inB n x k = true
  · obtain ⟨h1, h2, h3⟩ := inB_iff.1 hi
    rw [if_pos hi]
    obtain ⟨X, rfl⟩ := Int.eq_ofNat_of_zero_le h1
    obtain ⟨Z, rfl⟩ := Int.eq_ofNat_of_zero_le h2
    exact rcode_yes f a g h n m c d X Z key bs ks w (by omega) hst
  · rw [if_neg hi]
    have H1 := Lib.hid (rin_any a g n c x k w (by omega) hst.c0)
    rw [show inB n x k = false by simpa using hi] at H1
    clear hnum hi hst
    go_enter Try.func40, Try.ntmps40
    go_wp2_with fail
    refine H1.out.mono ?_
    rintro e w1 ⟨rfl, rfl⟩
    go_wp2
    go_ret
    exact ⟨rfl, rfl⟩
theorem wrapA {X Z T : Nat} (h : T = X + Z) (h2 : T ≤ 65536) : wrap64 ((X : Int) + (Z : Int)) = (T : Int) := by unfold wrap64; omega
theorem own_empty (w : World) (t : TypeId) : (w.alloc (.cells #[] t)).ownsRow w.heap.size t 1 (.slice (some ⟨w.heap.size, 0, none⟩) 0 0) 0 [] :=
  ⟨rfl, .inr ⟨w.heap.size, 0, #[], rfl, Nat.le_refl _, heap_alloc_new w _, Nat.le_refl _, by unfold maxLen; omega, rfl, rfl⟩⟩
theorem nil_src {w : World} {a : Addr} : ∀ j u, (bsU [])[j]? = some u → w.cell? (a.add j) = some u := by
  intro j u h
  simp [bsU] at h
set_option maxRecDepth 100000 in
set_option maxHeartbeats 1000000 in
theorem rbytes_any (a g h n m c d : Nat) (x k : Int) (bs ks : List UInt8) (w : World) (hst : Rfs w a g h n m c d bs ks) :
    Calls Try.prog 33 #[.pointer (some ⟨a, 0, none⟩), .int .i64 x, .int .i64 k] w (BytPost w (bytL n bs x k)) := by
  obtain ⟨i0, hi0, hz0, hz1, hz2⟩ := info_parts info5
  have hnum := hst.nums
  have H1 := Lib.hid (rin_any a g n c x k w (by omega) hst.c0)
  unfold bytL
  by_cases hi : inB n x k = true
  · obtain ⟨h1, h2, h3⟩ := inB_iff.1 hi
    rw [if_pos hi]
    rw [hi] at H1
    obtain ⟨X, rfl⟩ := Int.eq_ofNat_of_zero_le h1
    obtain ⟨Z, rfl⟩ := Int.eq_ofNat_of_zero_le h2
    have hXZ : X + Z ≤ n := by omega
    have hnc : n ≤ c := by have h9 := hst.2.1.len; rw [bsU_len] at h9; omega
    have hn : n ≤ 65536 := by omega
    obtain ⟨L, hL⟩ : ∃ L, L = subL bs X Z := ⟨_, rfl⟩
    have hLl : L.length = Z := by rw [hL]; exact subL_len (by omega)
    have hrd := hst.2.1.rd X Z (by omega)
    rw [show (bs.drop X).take Z = L from hL.symm] at hrd
    show Calls _ _ _ _ (BytPost w (subL bs X Z))
    rw [← hL]
    have hA0 := below_new w (.cells #[] 5)
    have c0 := (hst.below hA0).c0
    have HR := Lib.hid (hrd.below hA0)
    have HL := Lib.hid hLl
    have HE := Lib.hid (own_empty w 5)
    have HA0 := Lib.hid hA0
    obtain ⟨T, hT⟩ : ∃ T, T = X + Z := ⟨_, rfl⟩
    rw [← hT] at hXZ
    have HTZ : Hid (T - X = Z) := Lib.hid (by omega)
    have hXT : X ≤ T := by omega
    have hTc : T ≤ c := by omega
    have HZ : Hid (Z ≤ 65536) := Lib.hid (by omega)
    have hT2 : T ≤ 65536 := by omega
    have HWR : Hid (wrap64 ((X : Int) + (Z : Int)) = (T : Int)) := Lib.hid (wrapA hT hT2)
    have HM1 : Hid (0 + (T - X) ≤ maxLen) := Lib.hid (by unfold maxLen; omega)
    have HM2 : Hid ((0 + (T - X)) * 1 ≤ 140737488355328) := Lib.hid (by omega)
    have HC0 : Hid (c = X → L = []) := Lib.hid (fun h9 => List.length_eq_zero_iff.1 (by omega))
    clear hi h1 h2 h3 hnum hst hL hLl hrd hT hA0 hXZ
    by_cases hXe : c = X
    · have HLN : Hid (L = []) := Lib.hid (HC0.out hXe)
      have hTX : T = X := by omega
      subst hTX
      subst hXe
      have hwr := HWR.out
      clear HC0 HWR
      go_enter Try.func33, Try.ntmps33
      go_wp2_with fail
      refine H1.out.mono ?_
      rintro e w1 ⟨rfl, rfl⟩
      go_wp2_with (at_builtin; refine wpList_append_own _ rfl (.tmp 12) (.tmp 21) 29 rfl w.heap.size 5 i0 (.int .u8 0) 1 1 Try.underlying29 hi0 hz0 hz1 hz2 rfl (by decide) (.slice (some ⟨w.heap.size, 0, none⟩) 0 0) 0 [] rfl HE.out ⟨g, 0, none⟩ 0 0 (bsU []) rfl rfl nil_src (bsU_one _) (Nat.zero_le _) (Nat.zero_le _) HA0.out.size ?_; intro v0 w0 hown0 hgrow0 _)
      have hf : Hold w0 w.heap.size v0 L := by rw [HLN.out]; exact hown0
      have HF := Lib.hid hf
      have HB := Lib.hid (HA0.out.grown hgrow0 HA0.out.size (fun r hr => by simp [Value.ownBlock] at hr; omega))
      clear hown0 hgrow0 hf
      go_wp2
      go_ret
      exact ⟨_, rfl, HF.out, HB.out⟩
    · have hwr := HWR.out
      clear HC0 HWR
      go_enter Try.func33, Try.ntmps33
      go_wp2_with fail
      refine H1.out.mono ?_
      rintro e w1 ⟨rfl, rfl⟩
      go_wp2_with (at_builtin; refine wpList_append_own _ rfl (.tmp 12) (.tmp 21) 29 rfl w.heap.size 5 i0 (.int .u8 0) 1 1 Try.underlying29 hi0 hz0 hz1 hz2 rfl (by decide) (.slice (some ⟨w.heap.size, 0, none⟩) 0 0) 0 [] rfl HE.out ⟨g, X, none⟩ (T - X) (c - X) (bsU L) rfl (by rw [bsU_len, HL.out, HTZ.out, Nat.mul_one]) (cells_rd HR.out) (bsU_one _) HM1.out HM2.out HA0.out.size ?_; intro v0 w0 hown0 hgrow0 _)
      have hf : Hold w0 w.heap.size v0 L := by
        unfold Hold
        rw [HL.out]
        rw [HTZ.out, Nat.zero_add, List.nil_append] at hown0
        exact hown0
      have HF := Lib.hid hf
      have HB := Lib.hid (HA0.out.grown hgrow0 HA0.out.size (fun r hr => by simp [Value.ownBlock] at hr; omega))
      clear hown0 hgrow0 hf
      go_wp2
      go_ret
      exact ⟨_, rfl, HF.out, HB.out⟩
  · rw [if_neg hi]
    rw [show inB n x k = false by simpa using hi] at H1
    clear hi hnum hst
    go_enter Try.func33, Try.ntmps33
    go_wp2_with fail
    refine H1.out.mono ?_
    rintro e w1 ⟨rfl, rfl⟩
    go_wp2
    go_ret
    exact ⟨_, rfl, ⟨rfl, .inl ⟨rfl, rfl⟩⟩, Below.refl _ _⟩
set_option maxRecDepth 100000 in
set_option maxHeartbeats 1000000 in
theorem rfetch_any (a g h n m c d : Nat) (x k key : Int) (bs ks : List UInt8) (w : World) (hst : Rfs w a g h n m c d bs ks) :
    Calls Try.prog 30 #[.pointer (some ⟨a, 0, none⟩), .int .i64 x, .int .i64 k, .int .i64 key] w (FetPost w (fetL (ftP key) n bs ks x k) (codeV (ftP key) n ks x k)) := by
  have H2 := Lib.hid (rcode_any true a g h n m c d x k key bs ks w hst)
  rw [pF_yes] at H2
  have H3 := Lib.hid (rbytes_any a g h n m c d x k bs ks w hst)
  have H0 : Hid (codeV (ftP key) n ks x k = 0 → bytL n bs x k = fetL (ftP key) n bs ks x k) := Lib.hid (fun h0 => by unfold bytL fetL; rw [if_pos (codeV_in h0), if_pos h0])
  have H4 : Hid (codeV (ftP key) n ks x k ≠ 0 → fetL (ftP key) n bs ks x k = []) := Lib.hid (fun h0 => by unfold fetL; rw [if_neg h0])
  have h3 := codeV_three (ftP key) n ks x k
  generalize fetL (ftP key) n bs ks x k = L at *
  generalize codeV (ftP key) n ks x k = C at *
  clear hst
  rcases h3 with rfl | hC
  · rw [H0.out rfl] at H3
    clear H0 H4
    go_enter Try.func30, Try.ntmps30
    go_wp2_with fail
    refine H2.out.mono ?_
    rintro e w1 ⟨rfl, rfl⟩
    go_wp2_with fail
    refine H3.out.mono ?_
    rintro e w3 ⟨sv, rfl, hh, hb⟩
    have HB3 := Lib.hid hb
    have HH := Lib.hid hh
    clear hb hh
    go_wp2
    go_ret2
    exact ⟨_, rfl, HH.out, HB3.out⟩
  · have hC0 : C ≠ 0 := by omega
    obtain rfl := H4.out hC0
    clear H3 H0 H4 hC
    go_enter Try.func30, Try.ntmps30
    go_wp2_with fail
    refine H2.out.mono ?_
    rintro e w1 ⟨rfl, rfl⟩
    go_wp2
    go_ret2
    exact ⟨_, rfl, ⟨rfl, .inl ⟨rfl, rfl⟩⟩, Below.refl _ _⟩
/-- What the given SetKey leaves. -/
def RSetPost (w : World) (a g h n m c d : Nat) (bs ks : List UInt8) (v : Value) (e : Ending) (w' : World) : Prop := e = .returned v ∧ w.grownBy w' (some h) ∧ Rfs w' a g h n m c d bs ks
def RPutPost (w : World) (a g h n m c d : Nat) (bs ks : List UInt8) (v : Value) (e : Ending) (w' : World) : Prop := e = .returned v ∧ w.grownBy w' (some g) ∧ Rfs w' a g h n m c d bs ks
set_option maxRecDepth 100000 in
set_option maxHeartbeats 1000000 in
theorem rsetKey_any (a g h n m c d : Nat) (x key : Int) (bs ks : List UInt8) (w : World) (hst : Rfs w a g h n m c d bs ks) :
    Calls Try.prog 31 #[.pointer (some ⟨a, 0, none⟩), .int .i64 x, .int .i64 key] w (RSetPost w a g h n m c d bs (setK n ks x key) (.bool (setOk n x key))) := by
  have hnum := hst.nums
  have HST := Lib.hid hst
  have c0 := hst.c0
  have hcM : c ≤ 9223372036854775807 := hnum.2.2.2.2.2.1
  by_cases hok : setOk n x key = true
  · have h0 := hok
    unfold setOk at h0
    rw [Bool.and_eq_true] at h0
    obtain ⟨hi, hk⟩ := h0
    obtain ⟨k0, k1⟩ := of_decide_eq_true hk
    obtain ⟨h1, h2, h3⟩ := inB_iff.1 hi
    obtain ⟨X, rfl⟩ := Int.eq_ofNat_of_zero_le h1
    obtain ⟨kk, rfl⟩ := Int.eq_ofNat_of_zero_le k0
    obtain ⟨B, hB⟩ : ∃ B, B = X / 2048 := ⟨_, rfl⟩
    have hset : setK n ks (X : Int) (kk : Int) = ks.set B (UInt8.ofNat kk) := by unfold setK; rw [if_pos hok, hB]; rfl
    rw [hset, hok]
    have hkb : (UInt8.ofNat kk).toNat = kk := by rw [UInt8.toNat_ofNat']; exact Nat.mod_eq_of_lt (by show kk < 256; omega)
    have hBm : B < m := by omega
    have hBm' : (B : Int) < (m : Int) := by omega
    obtain ⟨hr1, hr2⟩ := hst.2.2.1.set B (.int .i64 (kk : Int))
    have hr3 : (bsI ks).set B (.int .i64 (kk : Int)) = bsI (ks.set B (UInt8.ofNat kk)) := by rw [← bsI_set, hkb]
    rw [hr3] at hr1
    have HR := Lib.hid (And.intro (hst.relocked hr1 (by rw [List.length_set]; exact hnum.2.1) hr2) hr2)
    have c1 := hst.c1
    have c2 := hst.lock B hBm
    have f2 := hst.2.2.1.frozen B
    have hXB : (X : Int) / 2048 = (B : Int) := by omega
    have hBw : wrap64 (B : Int) = (B : Int) := by unfold wrap64; omega
    have hXn : (X : Int) < (n : Int) := by omega
    have hk31 : ¬ (31 : Int) < (kk : Int) := by omega
    clear hnum hok hi hk k1 h1 h2 h3 hB hset hkb hr1 hr2 hr3 hst
    go_enter Try.func31, Try.ntmps31
    go_wp2
    go_ret
    exact ⟨rfl, HR.out.2, HR.out.1⟩
  · have hset : setK n ks x key = ks := by unfold setK; rw [if_neg hok]
    rw [hset, show setOk n x key = false by simpa using hok]
    have hno : x < 0 ∨ (n : Int) ≤ x ∨ key < 0 ∨ 31 < key := by
      rcases Classical.em (x < 0) with h | h
      · exact .inl h
      · rcases Classical.em ((n : Int) ≤ x) with h' | h'
        · exact .inr (.inl h')
        · rcases Classical.em (key < 0) with h2 | h2
          · exact .inr (.inr (.inl h2))
          · refine .inr (.inr (.inr ?_))
            rcases Classical.em (31 < key) with h3 | h3
            · exact h3
            · exact absurd (by unfold setOk; rw [inB_iff.2 ⟨by omega, by omega, by omega⟩, decide_eq_true ⟨by omega, by omega⟩]; rfl) hok
    clear hok hset hnum hst
    by_cases e1 : x < 0
    · clear hno
      go_enter Try.func31, Try.ntmps31
      go_wp2
      go_ret
      exact ⟨rfl, World.grownBy.refl _ _, HST.out⟩
    · by_cases e2 : (n : Int) ≤ x
      · clear hno
        go_enter Try.func31, Try.ntmps31
        go_wp2
        go_ret
        exact ⟨rfl, World.grownBy.refl _ _, HST.out⟩
      · by_cases e3 : key < 0
        · clear hno
          go_enter Try.func31, Try.ntmps31
          go_wp2
          go_ret
          exact ⟨rfl, World.grownBy.refl _ _, HST.out⟩
        · have e4 : 31 < key := by omega
          clear hno
          go_enter Try.func31, Try.ntmps31
          go_wp2
          go_ret
          exact ⟨rfl, World.grownBy.refl _ _, HST.out⟩
set_option maxRecDepth 100000 in
set_option maxHeartbeats 1000000 in
theorem rkeyOf_any (a g h n m c d : Nat) (x : Int) (bs ks : List UInt8) (w : World) (hst : Rfs w a g h n m c d bs ks) :
    Calls Try.prog 32 #[.pointer (some ⟨a, 0, none⟩), .int .i64 x] w (New w (.tuple #[.int .i64 (keyV n ks x), .bool (inB n x 1)])) := by
  have hnum := hst.nums
  have c0 := hst.c0
  cases hi : inB n x 1 with
  | true =>
    obtain ⟨h1, h2, h3⟩ := inB_iff.1 hi
    obtain ⟨X, rfl⟩ := Int.eq_ofNat_of_zero_le h1
    obtain ⟨B, hB⟩ : ∃ B, B = X / 2048 := ⟨_, rfl⟩
    obtain ⟨v, hv⟩ : ∃ v, v = (gt ks B).toNat := ⟨_, rfl⟩
    have hkv : keyV n ks (X : Int) = (v : Int) := by unfold keyV; rw [if_pos hi, hv, hB]; rfl
    rw [hkv]
    have hBm : B < m := by omega
    have hBm' : (B : Int) < (m : Int) := by omega
    have c1 := hst.c1
    have c2 := hst.lock B hBm
    rw [← hv] at c2
    have hXB : (X : Int) / 2048 = (B : Int) := by omega
    have hBw : wrap64 (B : Int) = (B : Int) := by unfold wrap64; omega
    have hXn : (X : Int) < (n : Int) := by omega
    clear hnum hi h1 h2 h3 hB hv hst hkv
    go_enter Try.func32, Try.ntmps32
    go_wp2
    go_ret2
    exact ⟨rfl, Below.refl _ _⟩
  | false =>
    have hk : keyV n ks x = 0 := by unfold keyV; rw [if_neg (by rw [hi]; simp)]
    rw [hk]
    have hno : x < 0 ∨ (n : Int) ≤ x := by
      rcases Classical.em (x < 0) with h | h
      · exact .inl h
      · right
        have h9 : ¬ (0 ≤ x ∧ (0 : Int) ≤ 1 ∧ 1 ≤ (n : Int) - x) := of_decide_eq_false hi
        omega
    clear hi hk hnum hst
    by_cases e1 : x < 0
    · clear hno
      go_enter Try.func32, Try.ntmps32
      go_wp2
      go_ret2
      exact ⟨rfl, Below.refl _ _⟩
    · have e2 : (n : Int) ≤ x := by omega
      clear hno
      go_enter Try.func32, Try.ntmps32
      go_wp2
      go_ret2
      exact ⟨rfl, Below.refl _ _⟩

end E
end Go.Proofs.Ytnnpnklbhghegaa

/- Storages: the methods of the given answers. -/
import Derived.Test.YtfopjnfphlkcgaaGreatStC
namespace Go.Proofs.YtfopjnfphlkcgaaGreat
open Go.RowKit Go.Shelf
set_option linter.unusedVariables false
namespace E

/-- May an access be made, a fetch or a store? -/
def pF (f : Bool) (key : Int) (l : UInt8) : Bool := stP key l || (f && !(l.toNat % 2 == 1))
theorem pF_no (key : Int) : pF false key = stP key := by funext l; simp [pF]
theorem pF_yes (key : Int) : pF true key = ftP key := by funext l; simp [pF, ftP]
theorem code_four {f : Bool} {key : Int} {ks : List UInt8} {x k q T : Nat} {C : Int} (hC : C = if allB (pF f key) ks x k = true then 0 else 4) (hT : T = x + k) (hxq : x ≤ q) (hq : q < T) (h : pF f key (gt ks (q / 2048)) = false) : C = 4 := by
  have e : x + (q - x) = q := by omega
  have h9 : allB (pF f key) ks x k = false := by
    refine allB_no (i := q - x) (by omega) ?_
    rw [e]
    exact h
  rw [hC, h9]
  rfl
set_option maxRecDepth 100000 in
set_option maxHeartbeats 2000000 in
theorem rcode_yes (f : Bool) (a g h n m c d : Nat) (x k : Nat) (key : Int) (bs ks : List UInt8) (w : World) (hxk : x + k ≤ n) (hst : Rfs w a g h n m c d bs ks) :
    Calls Tryz.prog 76 #[.pointer (some ⟨a, 0, none⟩), .int .i64 (x : Int), .int .i64 (k : Int), .int .i64 key, .bool f] w fun e w' => e = .returned (.int .i64 (if allB (pF f key) ks x k = true then 0 else 4)) ∧ w = w' := by
  have hnum := hst.nums
  have hin : inB n (x : Int) (k : Int) = true := inB_iff.2 ⟨by omega, by omega, by omega⟩
  have H1 := Lib.hid (rin_any a g n c (x : Int) (k : Int) w (by omega) hst.c0)
  rw [hin] at H1
  obtain ⟨C, hC⟩ : ∃ C : Int, C = if allB (pF f key) ks x k = true then 0 else 4 := ⟨_, rfl⟩
  rw [← hC]
  have HC := Lib.hid hC
  have HST := Lib.hid hst
  have c1 := hst.c1
  have HXK := Lib.hid hxk
  have HNUM := Lib.hid hnum
  have hex : wrap64 ((x : Int) + (k : Int)) = ((x + k : Nat) : Int) := by unfold wrap64; omega
  obtain ⟨T, hT⟩ : ∃ T, T = x + k := ⟨_, rfl⟩
  rw [← hT] at hex
  have HT := Lib.hid hT
  clear hnum hin hC hst hxk hT
  go_enter Tryz.func76, Tryz.ntmps76
  go_wp2_with fail
  refine H1.out.mono ?_
  rintro e w1 ⟨rfl, rfl⟩
  go_wp2
  go_loopw [11, 12] (fun i _ wr => wr = w ∧ ∃ q : Nat, x ≤ q ∧ q ≤ T ∧ i = .int .i64 (q : Int) ∧ ∀ j, j < q - x → pF f key (gt ks ((x + j) / 2048)) = true) (fun i _ _ => T - (intOf i).toNat)
  case atStart => exact ⟨rfl, x, Nat.le_refl _, by have := HT.out; omega, rfl, fun j hj => by omega⟩
  case round =>
    obtain ⟨rfl, q, hxq, hq, rfl, hall⟩ := hrel
    have HALL := Lib.hid hall
    by_cases hlt : q < T
    · obtain ⟨b, hb⟩ : ∃ b, b = q / 2048 := ⟨_, rfl⟩
      have hbm : b < m := by have := HNUM.out; have := HXK.out; have := HT.out; omega
      obtain ⟨v, hv⟩ : ∃ v, v = (gt ks b).toNat := ⟨_, rfl⟩
      have hv256 : v < 256 := by rw [hv]; exact (gt ks b).toNat_lt
      have hcell := HST.out.lock b hbm
      rw [← hv] at hcell
      have hqb : (q : Int) / 2048 = (b : Int) := by omega
      have hqT : (q : Int) < (T : Int) := by omega
      have hqw : wrap64 (b : Int) = (b : Int) := by have := HNUM.out; unfold wrap64; omega
      have hP : pF f key (gt ks (q / 2048)) = (key == 0 || key == (v : Int) / 2 || (f && !(v % 2 == 1))) := by
        unfold pF stP
        rw [← hb, ← hv, show ((v / 2 : Nat) : Int) = (v : Int) / 2 by omega]
      have hqs : (q : Int) ≤ 65536 := by have := HNUM.out; have := HXK.out; have := HT.out; omega
      have hbm' : (b : Int) < (m : Int) := by omega
      have HNO : Hid (pF f key (gt ks (q / 2048)) = false → C = 4) := Lib.hid (code_four HC.out HT.out hxq hlt)
      clear hall hb hv
      by_cases h0 : key = 0
      · have HP : Hid (pF f key (gt ks (q / 2048)) = true) := Lib.hid (by rw [hP, h0]; rfl)
        have e0 : (key != 0) = false := by rw [h0]; rfl
        clear h0
        clear hP
        go_wp2
        go_roundw
        case rel => exact ⟨trivial, q + 1, by omega, by omega, by go_num, fun j hj => by
          rcases Nat.lt_or_ge j (q - x) with h | h
          · exact HALL.out j h
          · rw [show x + j = q by omega]; exact HP.out⟩
        case measure => simp [intOf]; omega
      · by_cases h2 : key = (v : Int) / 2
        · have HP : Hid (pF f key (gt ks (q / 2048)) = true) := Lib.hid (by rw [hP]; simp [h2])
          have e0 : (key != 0) = true := by simpa using h0
          have e2 : (key != (v : Int) / 2) = false := by simpa using h2
          clear h0 h2
          clear hP
          go_wp2
          go_roundw
          case rel => exact ⟨trivial, q + 1, by omega, by omega, by go_num, fun j hj => by
            rcases Nat.lt_or_ge j (q - x) with h | h
            · exact HALL.out j h
            · rw [show x + j = q by omega]; exact HP.out⟩
          case measure => simp [intOf]; omega
        · cases f with
          | false =>
            obtain rfl : C = 4 := HNO.out (by rw [hP]; simp [h0, h2])
            have e0 : (key != 0) = true := by simpa using h0
            have e2 : (key != (v : Int) / 2) = true := by simpa using h2
            clear hP h0 h2
            go_wp2
            go_ret
            exact ⟨rfl, rfl⟩
          | true =>
            by_cases h3 : (v : Int) % 2 = 1
            · obtain rfl : C = 4 := HNO.out (by rw [hP]; simp [h0, h2]; omega)
              have e0 : (key != 0) = true := by simpa using h0
              have e2 : (key != (v : Int) / 2) = true := by simpa using h2
              clear hP h0 h2
              go_wp2
              go_ret
              exact ⟨rfl, rfl⟩
            · have HP : Hid (pF true key (gt ks (q / 2048)) = true) := Lib.hid (by rw [hP]; simp; right; omega)
              have e0 : (key != 0) = true := by simpa using h0
              have e2 : (key != (v : Int) / 2) = true := by simpa using h2
              clear h0 h2
              clear hP
              go_wp2
              go_roundw
              case rel => exact ⟨trivial, q + 1, by omega, by omega, by go_num, fun j hj => by
                rcases Nat.lt_or_ge j (q - x) with h | h
                · exact HALL.out j h
                · rw [show x + j = q by omega]; exact HP.out⟩
              case measure => simp [intOf]; omega
    · obtain rfl : q = T := by omega
      have hc0 : C = 0 := by
        rw [HC.out, if_pos]
        rw [allB_iff]
        intro j hj
        exact HALL.out j (by have := HT.out; omega)
      subst hc0
      clear hall
      go_wp2
      go_ret
      exact ⟨rfl, rfl⟩

end E
end Go.Proofs.YtfopjnfphlkcgaaGreat
namespace Go.Proofs.YtfopjnfphlkcgaaGreat
open Go.RowKit Go.Shelf
set_option linter.unusedVariables false
namespace E

theorem rcode_any (f : Bool) (a g h n m c d : Nat) (x k key : Int) (bs ks : List UInt8) (w : World) (hst : Rfs w a g h n m c d bs ks) :
    Calls Tryz.prog 76 #[.pointer (some ⟨a, 0, none⟩), .int .i64 x, .int .i64 k, .int .i64 key, .bool f] w fun e w' => e = .returned (.int .i64 (codeV (pF f key) n ks x k)) ∧ w = w' := by
  have hnum := hst.nums
  unfold codeV
  by_cases hi : inB n x k = true
  · obtain ⟨h1, h2, h3⟩ := inB_iff.1 hi
    rw [if_pos hi]
    obtain ⟨X, rfl⟩ := Int.eq_ofNat_of_zero_le h1
    obtain ⟨Z, rfl⟩ := Int.eq_ofNat_of_zero_le h2
    exact rcode_yes f a g h n m c d X Z key bs ks w (by omega) hst
  · rw [if_neg hi]
    have H1 := Lib.hid (rin_any a g n c x k w (by omega) hst.c0)
    rw [show inB n x k = false by simpa using hi] at H1
    clear hnum hi hst
    go_enter Tryz.func76, Tryz.ntmps76
    go_wp2_with fail
    refine H1.out.mono ?_
    rintro e w1 ⟨rfl, rfl⟩
    go_wp2
    go_ret
    exact ⟨rfl, rfl⟩
theorem wrapA {X Z T : Nat} (h : T = X + Z) (h2 : T ≤ 65536) : wrap64 ((X : Int) + (Z : Int)) = (T : Int) := by unfold wrap64; omega
theorem own_empty (w : World) (t : TypeId) : (w.alloc (.cells #[] t)).ownsRow w.heap.size t 1 (.slice (some ⟨w.heap.size, 0, none⟩) 0 0) 0 [] :=
  ⟨rfl, .inr ⟨w.heap.size, 0, #[], rfl, Nat.le_refl _, heap_alloc_new w _, Nat.le_refl _, by unfold maxLen; omega, rfl, rfl⟩⟩
theorem nil_src {w : World} {a : Addr} : ∀ j u, (bsU [])[j]? = some u → w.cell? (a.add j) = some u := by
  intro j u h
  simp [bsU] at h
set_option maxRecDepth 100000 in
set_option maxHeartbeats 1000000 in
theorem rbytes_any (a g h n m c d : Nat) (x k : Int) (bs ks : List UInt8) (w : World) (hst : Rfs w a g h n m c d bs ks) :
    Calls Tryz.prog 223 #[.pointer (some ⟨a, 0, none⟩), .int .i64 x, .int .i64 k] w (BytPost w (bytL n bs x k)) := by
  obtain ⟨i0, hi0, hz0, hz1, hz2⟩ := info_parts info5
  have hnum := hst.nums
  have H1 := Lib.hid (rin_any a g n c x k w (by omega) hst.c0)
  unfold bytL
  by_cases hi : inB n x k = true
  · obtain ⟨h1, h2, h3⟩ := inB_iff.1 hi
    rw [if_pos hi]
    rw [hi] at H1
    obtain ⟨X, rfl⟩ := Int.eq_ofNat_of_zero_le h1
    obtain ⟨Z, rfl⟩ := Int.eq_ofNat_of_zero_le h2
    have hXZ : X + Z ≤ n := by omega
    have hnc : n ≤ c := by have h9 := hst.2.1.len; rw [bsU_len] at h9; omega
    have hn : n ≤ 65536 := by omega
    obtain ⟨L, hL⟩ : ∃ L, L = subL bs X Z := ⟨_, rfl⟩
    have hLl : L.length = Z := by rw [hL]; exact subL_len (by omega)
    have hrd := hst.2.1.rd X Z (by omega)
    rw [show (bs.drop X).take Z = L from hL.symm] at hrd
    show Calls _ _ _ _ (BytPost w (subL bs X Z))
    rw [← hL]
    have hA0 := below_new w (.cells #[] 5)
    have c0 := (hst.below hA0).c0
    have HR := Lib.hid (hrd.below hA0)
    have HL := Lib.hid hLl
    have HE := Lib.hid (own_empty w 5)
    have HA0 := Lib.hid hA0
    obtain ⟨T, hT⟩ : ∃ T, T = X + Z := ⟨_, rfl⟩
    rw [← hT] at hXZ
    have HTZ : Hid (T - X = Z) := Lib.hid (by omega)
    have hXT : X ≤ T := by omega
    have hTc : T ≤ c := by omega
    have HZ : Hid (Z ≤ 65536) := Lib.hid (by omega)
    have hT2 : T ≤ 65536 := by omega
    have HWR : Hid (wrap64 ((X : Int) + (Z : Int)) = (T : Int)) := Lib.hid (wrapA hT hT2)
    have HM1 : Hid (0 + (T - X) ≤ maxLen) := Lib.hid (by unfold maxLen; omega)
    have HM2 : Hid ((0 + (T - X)) * 1 ≤ 140737488355328) := Lib.hid (by omega)
    have HC0 : Hid (c = X → L = []) := Lib.hid (fun h9 => List.length_eq_zero_iff.1 (by omega))
    clear hi h1 h2 h3 hnum hst hL hLl hrd hT hA0 hXZ
    by_cases hXe : c = X
    · have HLN : Hid (L = []) := Lib.hid (HC0.out hXe)
      have hTX : T = X := by omega
      subst hTX
      subst hXe
      have hwr := HWR.out
      clear HC0 HWR
      go_enter Tryz.func223, Tryz.ntmps223
      go_wp2_with fail
      refine H1.out.mono ?_
      rintro e w1 ⟨rfl, rfl⟩
      go_wp2_with (at_builtin; refine wpList_append_own _ rfl (.tmp 12) (.tmp 21) 31 rfl w.heap.size 5 i0 (.int .u8 0) 1 1 Tryz.underlying31 hi0 hz0 hz1 hz2 rfl (by decide) (.slice (some ⟨w.heap.size, 0, none⟩) 0 0) 0 [] rfl HE.out ⟨g, 0, none⟩ 0 0 (bsU []) rfl rfl nil_src (bsU_one _) (Nat.zero_le _) (Nat.zero_le _) HA0.out.size ?_; intro v0 w0 hown0 hgrow0 _)
      have hf : Hold w0 w.heap.size v0 L := by rw [HLN.out]; exact hown0
      have HF := Lib.hid hf
      have HB := Lib.hid (HA0.out.grown hgrow0 HA0.out.size (fun r hr => by simp [Value.ownBlock] at hr; omega))
      clear hown0 hgrow0 hf
      go_wp2
      go_ret
      exact ⟨_, rfl, HF.out, HB.out⟩
    · have hwr := HWR.out
      clear HC0 HWR
      go_enter Tryz.func223, Tryz.ntmps223
      go_wp2_with fail
      refine H1.out.mono ?_
      rintro e w1 ⟨rfl, rfl⟩
      go_wp2_with (at_builtin; refine wpList_append_own _ rfl (.tmp 12) (.tmp 21) 31 rfl w.heap.size 5 i0 (.int .u8 0) 1 1 Tryz.underlying31 hi0 hz0 hz1 hz2 rfl (by decide) (.slice (some ⟨w.heap.size, 0, none⟩) 0 0) 0 [] rfl HE.out ⟨g, X, none⟩ (T - X) (c - X) (bsU L) rfl (by rw [bsU_len, HL.out, HTZ.out, Nat.mul_one]) (cells_rd HR.out) (bsU_one _) HM1.out HM2.out HA0.out.size ?_; intro v0 w0 hown0 hgrow0 _)
      have hf : Hold w0 w.heap.size v0 L := by
        unfold Hold
        rw [HL.out]
        rw [HTZ.out, Nat.zero_add, List.nil_append] at hown0
        exact hown0
      have HF := Lib.hid hf
      have HB := Lib.hid (HA0.out.grown hgrow0 HA0.out.size (fun r hr => by simp [Value.ownBlock] at hr; omega))
      clear hown0 hgrow0 hf
      go_wp2
      go_ret
      exact ⟨_, rfl, HF.out, HB.out⟩
  · rw [if_neg hi]
    rw [show inB n x k = false by simpa using hi] at H1
    clear hi hnum hst
    go_enter Tryz.func223, Tryz.ntmps223
    go_wp2_with fail
    refine H1.out.mono ?_
    rintro e w1 ⟨rfl, rfl⟩
    go_wp2
    go_ret
    exact ⟨_, rfl, ⟨rfl, .inl ⟨rfl, rfl⟩⟩, Below.refl _ _⟩
set_option maxRecDepth 100000 in
set_option maxHeartbeats 1000000 in
theorem rfetch_any (a g h n m c d : Nat) (x k key : Int) (bs ks : List UInt8) (w : World) (hst : Rfs w a g h n m c d bs ks) :
    Calls Tryz.prog 187 #[.pointer (some ⟨a, 0, none⟩), .int .i64 x, .int .i64 k, .int .i64 key] w (FetPost w (fetL (ftP key) n bs ks x k) (codeV (ftP key) n ks x k)) := by
  have H2 := Lib.hid (rcode_any true a g h n m c d x k key bs ks w hst)
  rw [pF_yes] at H2
  have H3 := Lib.hid (rbytes_any a g h n m c d x k bs ks w hst)
  have H0 : Hid (codeV (ftP key) n ks x k = 0 → bytL n bs x k = fetL (ftP key) n bs ks x k) := Lib.hid (fun h0 => by unfold bytL fetL; rw [if_pos (codeV_in h0), if_pos h0])
  have H4 : Hid (codeV (ftP key) n ks x k ≠ 0 → fetL (ftP key) n bs ks x k = []) := Lib.hid (fun h0 => by unfold fetL; rw [if_neg h0])
  have h3 := codeV_three (ftP key) n ks x k
  generalize fetL (ftP key) n bs ks x k = L at *
  generalize codeV (ftP key) n ks x k = C at *
  clear hst
  rcases h3 with rfl | hC
  · rw [H0.out rfl] at H3
    clear H0 H4
    go_enter Tryz.func187, Tryz.ntmps187
    go_wp2_with fail
    refine H2.out.mono ?_
    rintro e w1 ⟨rfl, rfl⟩
    go_wp2_with fail
    refine H3.out.mono ?_
    rintro e w3 ⟨sv, rfl, hh, hb⟩
    have HB3 := Lib.hid hb
    have HH := Lib.hid hh
    clear hb hh
    go_wp2
    go_ret2
    exact ⟨_, rfl, HH.out, HB3.out⟩
  · have hC0 : C ≠ 0 := by omega
    obtain rfl := H4.out hC0
    clear H3 H0 H4 hC
    go_enter Tryz.func187, Tryz.ntmps187
    go_wp2_with fail
    refine H2.out.mono ?_
    rintro e w1 ⟨rfl, rfl⟩
    go_wp2
    go_ret2
    exact ⟨_, rfl, ⟨rfl, .inl ⟨rfl, rfl⟩⟩, Below.refl _ _⟩
/-- What the given SetKey leaves. -/
def RSetPost (w : World) (a g h n m c d : Nat) (bs ks : List UInt8) (v : Value) (e : Ending) (w' : World) : Prop := e = .returned v ∧ w.grownBy w' (some h) ∧ Rfs w' a g h n m c d bs ks
def RPutPost (w : World) (a g h n m c d : Nat) (bs ks : List UInt8) (v : Value) (e : Ending) (w' : World) : Prop := e = .returned v ∧ w.grownBy w' (some g) ∧ Rfs w' a g h n m c d bs ks
set_option maxRecDepth 100000 in
set_option maxHeartbeats 1000000 in
theorem rsetKey_any (a g h n m c d : Nat) (x key : Int) (bs ks : List UInt8) (w : World) (hst : Rfs w a g h n m c d bs ks) :
    Calls Tryz.prog 34 #[.pointer (some ⟨a, 0, none⟩), .int .i64 x, .int .i64 key] w (RSetPost w a g h n m c d bs (setK n ks x key) (.bool (setOk n x key))) := by
  have hnum := hst.nums
  have HST := Lib.hid hst
  have c0 := hst.c0
  have hcM : c ≤ 9223372036854775807 := hnum.2.2.2.2.2.1
  by_cases hok : setOk n x key = true
  · have h0 := hok
    unfold setOk at h0
    rw [Bool.and_eq_true] at h0
    obtain ⟨hi, hk⟩ := h0
    obtain ⟨k0, k1⟩ := of_decide_eq_true hk
    obtain ⟨h1, h2, h3⟩ := inB_iff.1 hi
    obtain ⟨X, rfl⟩ := Int.eq_ofNat_of_zero_le h1
    obtain ⟨kk, rfl⟩ := Int.eq_ofNat_of_zero_le k0
    obtain ⟨B, hB⟩ : ∃ B, B = X / 2048 := ⟨_, rfl⟩
    have hset : setK n ks (X : Int) (kk : Int) = ks.set B (UInt8.ofNat kk) := by unfold setK; rw [if_pos hok, hB]; rfl
    rw [hset, hok]
    have hkb : (UInt8.ofNat kk).toNat = kk := by rw [UInt8.toNat_ofNat']; exact Nat.mod_eq_of_lt (by show kk < 256; omega)
    have hBm : B < m := by omega
    have hBm' : (B : Int) < (m : Int) := by omega
    obtain ⟨hr1, hr2⟩ := hst.2.2.1.set B (.int .i64 (kk : Int))
    have hr3 : (bsI ks).set B (.int .i64 (kk : Int)) = bsI (ks.set B (UInt8.ofNat kk)) := by rw [← bsI_set, hkb]
    rw [hr3] at hr1
    have HR := Lib.hid (And.intro (hst.relocked hr1 (by rw [List.length_set]; exact hnum.2.1) hr2) hr2)
    have c1 := hst.c1
    have c2 := hst.lock B hBm
    have f2 := hst.2.2.1.frozen B
    have hXB : (X : Int) / 2048 = (B : Int) := by omega
    have hBw : wrap64 (B : Int) = (B : Int) := by unfold wrap64; omega
    have hXn : (X : Int) < (n : Int) := by omega
    have hk31 : ¬ (31 : Int) < (kk : Int) := by omega
    clear hnum hok hi hk k1 h1 h2 h3 hB hset hkb hr1 hr2 hr3 hst
    go_enter Tryz.func34, Tryz.ntmps34
    go_wp2
    go_ret
    exact ⟨rfl, HR.out.2, HR.out.1⟩
  · have hset : setK n ks x key = ks := by unfold setK; rw [if_neg hok]
    rw [hset, show setOk n x key = false by simpa using hok]
    have hno : x < 0 ∨ (n : Int) ≤ x ∨ key < 0 ∨ 31 < key := by
      rcases Classical.em (x < 0) with h | h
      · exact .inl h
      · rcases Classical.em ((n : Int) ≤ x) with h' | h'
        · exact .inr (.inl h')
        · rcases Classical.em (key < 0) with h2 | h2
          · exact .inr (.inr (.inl h2))
          · refine .inr (.inr (.inr ?_))
            rcases Classical.em (31 < key) with h3 | h3
            · exact h3
            · exact absurd (by unfold setOk; rw [inB_iff.2 ⟨by omega, by omega, by omega⟩, decide_eq_true ⟨by omega, by omega⟩]; rfl) hok
    clear hok hset hnum hst
    by_cases e1 : x < 0
    · clear hno
      go_enter Tryz.func34, Tryz.ntmps34
      go_wp2
      go_ret
      exact ⟨rfl, World.grownBy.refl _ _, HST.out⟩
    · by_cases e2 : (n : Int) ≤ x
      · clear hno
        go_enter Tryz.func34, Tryz.ntmps34
        go_wp2
        go_ret
        exact ⟨rfl, World.grownBy.refl _ _, HST.out⟩
      · by_cases e3 : key < 0
        · clear hno
          go_enter Tryz.func34, Tryz.ntmps34
          go_wp2
          go_ret
          exact ⟨rfl, World.grownBy.refl _ _, HST.out⟩
        · have e4 : 31 < key := by omega
          clear hno
          go_enter Tryz.func34, Tryz.ntmps34
          go_wp2
          go_ret
          exact ⟨rfl, World.grownBy.refl _ _, HST.out⟩
end E
end Go.Proofs.YtfopjnfphlkcgaaGreat
namespace Go.Proofs.YtfopjnfphlkcgaaGreat
open Go.RowKit Go.Shelf
set_option linter.unusedVariables false
namespace E

theorem putL_step {bs b : List UInt8} {X j : Nat} (hj : j < b.length) (hl : X + b.length ≤ bs.length) : (putL bs X (b.take j)).set (X + j) (gt b j) = putL bs X (b.take (j + 1)) := by
  have h1 : (b.take j).length = j := by rw [List.length_take]; omega
  have h2 : (b.take (j + 1)).length = j + 1 := by rw [List.length_take]; omega
  have l1 : (putL bs X (b.take j)).length = bs.length := putL_len (by omega)
  have l2 : (putL bs X (b.take (j + 1))).length = bs.length := putL_len (by omega)
  refine ext_gt (by rw [List.length_set, l1, l2]) fun i hi => ?_
  rw [gt_setX (by omega), gt_putL (by omega), gt_putL (by omega), h1, h2]
  have gtake : ∀ k i, i < k → gt (b.take k) i = gt b i := fun k i h => by
    unfold gt
    simp only [List.getD_eq_getElem?_getD]
    rw [List.getElem?_take, if_pos h]
  by_cases e : i = X + j
  · rw [if_pos e, if_pos (by omega), gtake _ _ (by omega)]
    congr 1
    omega
  · rw [if_neg e]
    by_cases e2 : X ≤ i ∧ i < X + j
    · rw [if_pos e2, if_pos (by omega), gtake _ _ (by omega), gtake _ _ (by omega)]
    · rw [if_neg e2, if_neg (by omega)]
theorem Rfs.step {w wr : World} {a g h n m c d X j : Nat} {bs ks b : List UInt8} (s : Rfs wr a g h n m c d (putL bs X (b.take j)) ks) (hg : w.grownBy wr (some g)) (hbs : bs.length = n) (hj : j < b.length) (hl : X + b.length ≤ n) :
    w.grownBy (wr.setCell ⟨g, X + j, none⟩ (.int .u8 ((gt b j).toNat : Int))) (some g) ∧ Rfs (wr.setCell ⟨g, X + j, none⟩ (.int .u8 ((gt b j).toNat : Int))) a g h n m c d (putL bs X (b.take (j + 1))) ks := by
  obtain ⟨h1, h2⟩ := s.2.1.set (X + j) (.int .u8 ((gt b j).toNat : Int))
  rw [bsU_set, putL_step hj (by omega)] at h1
  exact ⟨hg.trans h2, s.spliced h1 (by rw [putL_len (by rw [List.length_take]; omega), hbs]) h2⟩
theorem Rfs.stepped {w wr : World} {a g h n m c d X j : Nat} {bs ks b : List UInt8} (s : Rfs wr a g h n m c d (putL bs X (b.take j)) ks) (hg : w.grownBy wr (some g)) (hbs : bs.length = n) (hj : j < b.length) (hl : X + b.length ≤ n) {q v : Nat} (hq : q = X + j) (hv : v = (gt b j).toNat) :
    w.grownBy (wr.setCell ⟨g, q, none⟩ (.int .u8 (v : Int))) (some g) ∧ Rfs (wr.setCell ⟨g, q, none⟩ (.int .u8 (v : Int))) a g h n m c d (putL bs X (b.take (j + 1))) ks := by
  subst hq hv
  exact s.step hg hbs hj hl
theorem i64add {X j q : Nat} (h : q = X + j) (h2 : q ≤ 131072) : IntKind.i64.wrap ((X : Int) + (j : Int)) = (q : Int) := by
  simp [IntKind.wrap, IntKind.bits, IntKind.signed]; omega
theorem gt_rep {k j : Nat} : gt (List.replicate k 0) j = 0 := by
  unfold gt
  simp only [List.getD_eq_getElem?_getD, List.getElem?_replicate]
  split <;> rfl
set_option maxRecDepth 100000 in
set_option maxHeartbeats 1000000 in
theorem rput_yes (a g h n m c d X : Nat) (key : Int) (p : Option Addr) (cb : Nat) (b bs ks : List UInt8) (w : World) (hst : Rfs w a g h n m c d bs ks) (hr : ∀ w', w.grownBy w' (some g) → Rd w' p b) (h0 : codeV (stP key) n ks (X : Int) (b.length : Int) = 0) :
    Calls Tryz.prog 32 #[.pointer (some ⟨a, 0, none⟩), .int .i64 (X : Int), .slice p b.length cb, .int .i64 key] w (RPutPost w a g h n m c d (putL bs X b) ks (.int .i64 0)) := by
  have hnum := hst.nums
  have H2 := Lib.hid (rcode_any false a g h n m c d (X : Int) (b.length : Int) key bs ks w hst)
  rw [pF_no, h0] at H2
  obtain ⟨i1, i2, i3⟩ := inB_iff.1 (codeV_in h0)
  obtain ⟨lb, hlb⟩ : ∃ lb, lb = b.length := ⟨_, rfl⟩
  rw [← hlb] at H2 ⊢
  have HXL : Hid (X + b.length ≤ n ∧ n ≤ 65536 ∧ lb = b.length) := Lib.hid ⟨by omega, by omega, hlb⟩
  have HBS := Lib.hid hnum.1
  have HR := Lib.hid hr
  have HST := Lib.hid hst
  clear hnum i1 i2 i3 hlb hr hst h0
  go_enter Tryz.func32, Tryz.ntmps32
  go_wp2_with fail
  refine H2.out.mono ?_
  rintro e w1 ⟨rfl, rfl⟩
  go_wp2
  go_loopw [10] (fun i wr => w.grownBy wr (some g) ∧ Rfs wr a g h n m c d (putL bs X (b.take (intOf i).toNat)) ks ∧ ∃ j : Nat, j ≤ lb ∧ i = .int .i64 (j : Int)) (fun i _ => lb - (intOf i).toNat)
  case atStart => exact ⟨World.grownBy.refl _ _, by simpa [intOf, putL] using HST.out, 0, Nat.zero_le _, rfl⟩
  case round =>
    obtain ⟨hg, hs, j, hj, rfl⟩ := hrel
    have hs' : Rfs wr a g h n m c d (putL bs X (b.take j)) ks := hs
    have HS := Lib.hid hs'
    have HG := Lib.hid hg
    clear hs hs' hg
    by_cases hlt : j < lb
    · have hjb : j < b.length := by have := HXL.out.2.2; omega
      obtain ⟨B, off, rfl, hcb⟩ : ∃ B off, p = some ⟨B, off, none⟩ ∧ wr.cell? ⟨B, off + j, none⟩ = some (.int .u8 ((gt b j).toNat : Int)) := by
        rcases HR.out wr HG.out with h1 | ⟨B, off, h1, h2⟩
        · rw [h1] at hjb; simp at hjb
        · exact ⟨B, off, h1, h2 j hjb⟩
      have hfar : B ≠ g ∨ True := .inr trivial
      have hcb2 : ∀ v : Value, (wr.drew.setCell ⟨g, X + j, none⟩ v).cell? ⟨B, off + j, none⟩ = some (.int .u8 ((gt b j).toNat : Int)) ∨ True := fun _ => .inr trivial
      obtain ⟨q, hq⟩ : ∃ q, q = X + j := ⟨_, rfl⟩
      obtain ⟨v, hv⟩ : ∃ v, v = (gt b j).toNat := ⟨_, rfl⟩
      have hqn : q < n := by have := HXL.out; omega
      have hsd := HS.out.below (Below.refl wr.heap.size wr).drew
      have hgd := gtrans HG.out (Below.refl wr.heap.size wr).drew
      have HN := Lib.hid (hsd.stepped hgd HBS.out hjb HXL.out.1 hq hv)
      have hfin : ∀ W, (W = wr.drew ∨ W = wr.drew.setCell ⟨g, q, none⟩ (.int .u8 (v : Int))) → w.grownBy W (some g) := fun W hW => by
        rcases hW with rfl | rfl
        · exact hgd
        · exact HN.out.1
      have HCB : Hid (∀ W, (W = wr.drew ∨ W = wr.drew.setCell ⟨g, q, none⟩ (.int .u8 (v : Int))) → W.cell? ⟨B, off + j, none⟩ = some (.int .u8 (v : Int))) := Lib.hid (fun W hW => by
        rcases HR.out W (hfin W hW) with h1 | ⟨B', off', h1, h2⟩
        · rw [h1] at hjb; simp at hjb
        · obtain ⟨rfl, rfl⟩ : B = B' ∧ off = off' := by simpa using h1
          rw [hv]
          exact h2 j hjb)
      have HC0 : Hid (∀ W, (W = wr.drew ∨ W = wr.drew.setCell ⟨g, q, none⟩ (.int .u8 (v : Int))) → W.cell? ⟨a, 0, none⟩ = some (.slice (some ⟨g, 0, none⟩) n c)) := Lib.hid (fun W hW => by
        rcases hW with rfl | rfl
        · exact hsd.c0
        · exact HN.out.2.c0)
      have c2 : ∃ u, wr.drew.cell? ⟨g, q, none⟩ = some u := ⟨_, hsd.byte q hqn⟩
      obtain ⟨u, hu⟩ := c2
      have f2 := hsd.2.1.frozen q
      have hjl : (j : Int) < (lb : Int) := by omega
      have hqn' : (q : Int) < (n : Int) := by omega
      have hq6 : q ≤ 65536 := by have := HXL.out; omega
      have hlb6 : (lb : Int) ≤ 65536 := by have := HXL.out; omega
      have HQ6 := Lib.hid (i64add hq (by omega))
      clear hsd hgd hfin hfar hcb2 hcb hjb hq hv hq6 HS HG
      go_upto_region 5 with fail
      have hw6 := HQ6.out
      refine wp_region_noPanic ?_
      refine wp_region_held_drew (S := fun W => W = wr.drew ∨ W = wr.drew.setCell ⟨g, q, none⟩ (.int .u8 (v : Int))) (by kernel_rfl) (.inl rfl) (fun k0 => ?_)
      show wpAnyH _ _ _ _ _ 13 #[false, false, false, false, false, false, false, false, false, false, false, false, false] _ _
      refine wpAnyH_take (i := 0) (oi := { dst := some 27, op := Go.Op.move (Go.Operand.tmp 0), type := 38, pos := "ref.go:59", after := #[], guard := none }) (v := .pointer (some ⟨a, 0, none⟩)) rfl (by kernel_rfl) (by kernel_rfl) (by kernel_rfl) (fun _ _ _ h => h) (Or.inl ⟨by rfl, fun W hSw => by (try dsimp only at hSw); go_simp⟩) k0 ?_
      try simp only [Act.put, List.setIfInBounds_toArray, List.set_cons_zero, List.set_cons_succ]
      refine wpAnyH_take (i := 1) (oi := { dst := some 28, op := Go.Op.nilCheck (Go.Operand.tmp 27), type := 0, pos := "ref.go:59", after := #[{ on := 0, ground := Go.Ground.data }], guard := none }) (v := .pointer (some ⟨a, 0, none⟩)) rfl (by kernel_rfl) (by kernel_rfl) (by kernel_rfl) (fun _ _ _ h => h) (Or.inl ⟨by rfl, fun W hSw => by (try dsimp only at hSw); go_simp⟩) k0 ?_
      try simp only [Act.put, List.setIfInBounds_toArray, List.set_cons_zero, List.set_cons_succ]
      refine wpAnyH_take (i := 2) (oi := { dst := some 29, op := Go.Op.fieldAddr 83 (Go.Operand.tmp 28) 0, type := 0, pos := "ref.go:59", after := #[{ on := 1, ground := Go.Ground.data }], guard := none }) (v := .pointer (some ⟨a, 0, none⟩)) rfl (by kernel_rfl) (by kernel_rfl) (by kernel_rfl) (fun _ _ _ h => h) (Or.inl ⟨by rfl, fun W hSw => by (try dsimp only at hSw); go_simp⟩) k0 ?_
      try simp only [Act.put, List.setIfInBounds_toArray, List.set_cons_zero, List.set_cons_succ]
      refine wpAnyH_take (i := 3) (oi := { dst := some 30, op := Go.Op.load 31 (Go.Operand.tmp 29), type := 31, pos := "ref.go:59", after := #[{ on := 2, ground := Go.Ground.data }], guard := none }) (v := .slice (some ⟨g, 0, none⟩) n c) rfl (by kernel_rfl) (by kernel_rfl) (by kernel_rfl) (fun _ _ _ h => h) (Or.inl ⟨by rfl, fun W hSw => by have cc := HC0.out W hSw; clear hSw; go_simp⟩) k0 ?_
      try simp only [Act.put, List.setIfInBounds_toArray, List.set_cons_zero, List.set_cons_succ]
      refine wpAnyH_take (i := 4) (oi := { dst := some 31, op := Go.Op.move (Go.Operand.tmp 1), type := 3, pos := "ref.go:59", after := #[], guard := none }) (v := .int .i64 (X : Int)) rfl (by kernel_rfl) (by kernel_rfl) (by kernel_rfl) (fun _ _ _ h => h) (Or.inl ⟨by rfl, fun W hSw => by (try dsimp only at hSw); go_simp⟩) k0 ?_
      try simp only [Act.put, List.setIfInBounds_toArray, List.set_cons_zero, List.set_cons_succ]
      refine wpAnyH_take (i := 5) (oi := { dst := some 32, op := Go.Op.move (Go.Operand.tmp 10), type := 3, pos := "ref.go:59", after := #[], guard := none }) (v := .int .i64 (j : Int)) rfl (by kernel_rfl) (by kernel_rfl) (by kernel_rfl) (fun _ _ _ h => h) (Or.inl ⟨by rfl, fun W hSw => by (try dsimp only at hSw); go_simp⟩) k0 ?_
      try simp only [Act.put, List.setIfInBounds_toArray, List.set_cons_zero, List.set_cons_succ]
      refine wpAnyH_take (i := 6) (oi := { dst := some 33, op := Go.Op.binOp Go.BinOp.add 3 (Go.Operand.tmp 31) (Go.Operand.tmp 32) 3, type := 3, pos := "ref.go:59", after := #[{ on := 4, ground := Go.Ground.data }, { on := 5, ground := Go.Ground.data }], guard := none }) (v := .int .i64 (q : Int)) rfl (by kernel_rfl) (by kernel_rfl) (by kernel_rfl) (fun _ _ _ h => h) (Or.inl ⟨by rfl, fun W hSw => by (try dsimp only at hSw); go_simp⟩) k0 ?_
      try simp only [Act.put, List.setIfInBounds_toArray, List.set_cons_zero, List.set_cons_succ]
      refine wpAnyH_take (i := 7) (oi := { dst := some 34, op := Go.Op.move (Go.Operand.tmp 2), type := 31, pos := "ref.go:59", after := #[], guard := none }) (v := .slice (some ⟨B, off, none⟩) lb cb) rfl (by kernel_rfl) (by kernel_rfl) (by kernel_rfl) (fun _ _ _ h => h) (Or.inl ⟨by rfl, fun W hSw => by (try dsimp only at hSw); go_simp⟩) k0 ?_
      try simp only [Act.put, List.setIfInBounds_toArray, List.set_cons_zero, List.set_cons_succ]
      refine wpAnyH_take (i := 8) (oi := { dst := some 35, op := Go.Op.move (Go.Operand.tmp 10), type := 3, pos := "ref.go:59", after := #[], guard := none }) (v := .int .i64 (j : Int)) rfl (by kernel_rfl) (by kernel_rfl) (by kernel_rfl) (fun _ _ _ h => h) (Or.inl ⟨by rfl, fun W hSw => by (try dsimp only at hSw); go_simp⟩) k0 ?_
      try simp only [Act.put, List.setIfInBounds_toArray, List.set_cons_zero, List.set_cons_succ]
      refine wpAnyH_take (i := 9) (oi := { dst := some 36, op := Go.Op.indexAddr 31 (Go.Operand.tmp 34) (Go.Operand.tmp 35), type := 0, pos := "ref.go:59", after := #[{ on := 7, ground := Go.Ground.data }, { on := 8, ground := Go.Ground.data }], guard := none }) (v := .pointer (some ⟨B, off + j, none⟩)) rfl (by kernel_rfl) (by kernel_rfl) (by kernel_rfl) (fun _ _ _ h => h) (Or.inl ⟨by rfl, fun W hSw => by (try dsimp only at hSw); go_simp⟩) k0 ?_
      try simp only [Act.put, List.setIfInBounds_toArray, List.set_cons_zero, List.set_cons_succ]
      refine wpAnyH_take (i := 10) (oi := { dst := some 37, op := Go.Op.load 5 (Go.Operand.tmp 36), type := 5, pos := "ref.go:59", after := #[{ on := 9, ground := Go.Ground.data }], guard := none }) (v := .int .u8 (v : Int)) rfl (by kernel_rfl) (by kernel_rfl) (by kernel_rfl) (fun _ _ _ h => h) (Or.inl ⟨by rfl, fun W hSw => by have cc := HCB.out W hSw; clear hSw; go_simp⟩) k0 ?_
      try simp only [Act.put, List.setIfInBounds_toArray, List.set_cons_zero, List.set_cons_succ]
      refine wpAnyH_take (i := 11) (oi := { dst := some 38, op := Go.Op.indexAddr 31 (Go.Operand.tmp 30) (Go.Operand.tmp 33), type := 0, pos := "ref.go:59", after := #[{ on := 3, ground := Go.Ground.data }, { on := 6, ground := Go.Ground.data }, { on := 0, ground := Go.Ground.phase }, { on := 1, ground := Go.Ground.phase }, { on := 2, ground := Go.Ground.phase }, { on := 3, ground := Go.Ground.phase }, { on := 4, ground := Go.Ground.phase }, { on := 5, ground := Go.Ground.phase }, { on := 6, ground := Go.Ground.phase }, { on := 7, ground := Go.Ground.phase }, { on := 8, ground := Go.Ground.phase }, { on := 9, ground := Go.Ground.phase }, { on := 10, ground := Go.Ground.phase }], guard := none }) (v := .pointer (some ⟨g, q, none⟩)) rfl (by kernel_rfl) (by kernel_rfl) (by kernel_rfl) (fun _ _ _ h => h) (Or.inl ⟨by rfl, fun W hSw => by (try dsimp only at hSw); go_simp⟩) k0 ?_
      try simp only [Act.put, List.setIfInBounds_toArray, List.set_cons_zero, List.set_cons_succ]
      refine wpAnyH_ready (rs := [12]) (by kernel_rfl) (by simp) ?_
      refine AllReadyH.cons (o := { dst := none, op := Go.Op.store 5 (Go.Operand.tmp 38) (Go.Operand.tmp 37), type := 0, pos := "ref.go:59", after := #[{ on := 11, ground := Go.Ground.data }, { on := 10, ground := Go.Ground.data }, { on := 0, ground := Go.Ground.phase }, { on := 1, ground := Go.Ground.phase }, { on := 2, ground := Go.Ground.phase }, { on := 3, ground := Go.Ground.phase }, { on := 4, ground := Go.Ground.phase }, { on := 5, ground := Go.Ground.phase }, { on := 6, ground := Go.Ground.phase }, { on := 7, ground := Go.Ground.phase }, { on := 8, ground := Go.Ground.phase }, { on := 9, ground := Go.Ground.phase }, { on := 10, ground := Go.Ground.phase }], guard := none }) rfl (fun K hK => ?_) AllReadyH.nil
      go_simp
      refine hK.out _ _ (.inr rfl) (fun k1 => ?_)
      clear hK K
      try simp only [List.setIfInBounds_toArray, List.set_cons_zero, List.set_cons_succ]
      refine wpAnyH_done (by kernel_rfl) ?_ _
      refine NoPanic.normal ?_
      clear k0 k1
      go_wp2
      go_roundw
      case rel => exact ⟨HN.out.1, HN.out.2, j + 1, hlt, by go_num⟩
      case measure => simp [intOf]; omega
    · obtain rfl : j = lb := by omega
      have hfin : Rfs wr a g h n m c d (putL bs X b) ks := by
        have h1 := HS.out
        rw [HXL.out.2.2, List.take_length] at h1
        exact h1
      have HF := Lib.hid hfin
      clear hfin
      go_wp2
      go_ret
      exact ⟨rfl, HG.out, HF.out⟩
theorem rput_no (a g h n m c d : Nat) (x key : Int) (p : Option Addr) (lb cb : Nat) (bs ks : List UInt8) (w : World) (hst : Rfs w a g h n m c d bs ks) (h0 : codeV (stP key) n ks x (lb : Int) ≠ 0) :
    Calls Tryz.prog 32 #[.pointer (some ⟨a, 0, none⟩), .int .i64 x, .slice p lb cb, .int .i64 key] w (RPutPost w a g h n m c d bs ks (.int .i64 (codeV (stP key) n ks x (lb : Int)))) := by
  have H2 := Lib.hid (rcode_any false a g h n m c d x (lb : Int) key bs ks w hst)
  rw [pF_no] at H2
  have HST := Lib.hid hst
  generalize codeV (stP key) n ks x (lb : Int) = C at *
  clear hst
  have e0 : (C == 0) = false := by simpa using h0
  go_enter Tryz.func32, Tryz.ntmps32
  go_wp2_with fail
  refine H2.out.mono ?_
  rintro e w1 ⟨rfl, rfl⟩
  go_wp2
  go_loopw [10] (fun i wr => wr = w ∧ i = .int .i64 0) (fun i _ => 0)
  case atStart => exact ⟨rfl, rfl⟩
  case round =>
    obtain ⟨rfl, rfl⟩ := hrel
    by_cases hl : 0 < lb
    · have hl' : (0 : Int) < (lb : Int) := by omega
      go_wp2
      go_ret
      exact ⟨rfl, World.grownBy.refl _ _, HST.out⟩
    · have hl' : ¬ (0 : Int) < (lb : Int) := by omega
      go_wp2
      go_ret
      exact ⟨rfl, World.grownBy.refl _ _, HST.out⟩
theorem rput_any (a g h n m c d : Nat) (x key : Int) (v : Value) (b bs ks : List UInt8) (w : World) (hst : Rfs w a g h n m c d bs ks) (hv : ∀ w', w.grownBy w' (some g) → SvB w' v b) :
    Calls Tryz.prog 32 #[.pointer (some ⟨a, 0, none⟩), .int .i64 x, v, .int .i64 key] w (RPutPost w a g h n m c d (putB (stP key) n bs ks x b) ks (.int .i64 (codeV (stP key) n ks x (b.length : Int)))) := by
  obtain ⟨p, cb, rfl, -⟩ := hv w (World.grownBy.refl _ _)
  have hr : ∀ w', w.grownBy w' (some g) → Rd w' p b := fun w' hg => by
    obtain ⟨p', cb', h1, h2, -⟩ := hv w' hg
    injection h1 with e1 _ _
    rw [e1]
    exact h2
  unfold putB
  by_cases h0 : codeV (stP key) n ks x (b.length : Int) = 0
  · rw [if_pos h0]
    obtain ⟨i1, i2, i3⟩ := inB_iff.1 (codeV_in h0)
    obtain ⟨X, rfl⟩ := Int.eq_ofNat_of_zero_le i1
    rw [h0]
    exact rput_yes a g h n m c d X key p cb b bs ks w hst hr h0
  · rw [if_neg h0]
    exact rput_no a g h n m c d x key p b.length cb bs ks w hst h0
end E
end Go.Proofs.YtfopjnfphlkcgaaGreat
namespace Go.Proofs.YtfopjnfphlkcgaaGreat
open Go.RowKit Go.Shelf
set_option linter.unusedVariables false
namespace E

/-- What the given Copy leaves. -/
def RCopyPost (w : World) (n m : Nat) (bs ks : List UInt8) (e : Ending) (w' : World) : Prop := ∃ a g h c d, e = .returned (.pointer (some ⟨a, 0, none⟩)) ∧ Rfs w' a g h n m c d bs ks ∧ w.heap.size ≤ a ∧ w.heap.size ≤ g ∧ w.heap.size ≤ h ∧ Below w.heap.size w w'
theorem cast_row {X : World} {g g' c : Nat} {t : TypeId} {xs : List Value} (h : g = g') (hr : Row X g t xs c) : Row X g' t xs c := h ▸ hr
theorem cast_le {a g g' : Nat} (h : g = g') (hr : a ≤ g) : a ≤ g' := h ▸ hr
theorem row_own {w : World} {base g : Nat} {t : TypeId} (h : Row w g t [] 0) (hb : base ≤ g) : w.ownsRow base t 1 (.slice (some ⟨g, 0, none⟩) 0 0) 0 [] := by
  obtain ⟨cur, h1, h2, h3⟩ := h
  exact ⟨rfl, .inr ⟨g, 0, cur, rfl, hb, h1, Nat.le_refl _, by unfold maxLen; omega, by simp [h3], rfl⟩⟩
theorem own_some {w : World} {base n : Nat} {t : TypeId} {v : Value} {xs : List Value} (h : w.ownsRow base t 1 v n xs) (hn : 0 < n) (hx : xs.length = n) : ∃ g c, v = .slice (some ⟨g, 0, none⟩) n c ∧ base ≤ g ∧ c ≤ 9223372036854775807 ∧ Row w g t xs c := by
  have h' := h
  obtain ⟨_, ⟨_, h2⟩ | ⟨g, cap, cur, hv, hg, hh, hle, hm, hsz, ht⟩⟩ := h
  · omega
  · subst hv
    exact ⟨g, cap, rfl, hg, by unfold maxLen at hm; omega, own_row h' hx⟩
theorem bsI_one (l : List UInt8) : ∀ v ∈ bsI l, v.oneCell' = true := by
  intro v hv
  obtain ⟨x, _, rfl⟩ := List.mem_map.1 hv
  rfl
theorem row_srcG {w : World} {g c : Nat} {t : TypeId} {xs : List Value} (h : Row w g t xs c) : ∀ j v, xs[j]? = some v → w.cell? ((⟨g, 0, none⟩ : Addr).add j) = some v := by
  intro j v hv
  have hj : j < xs.length := (List.getElem?_eq_some_iff.1 hv).1
  have hadd : (⟨g, 0, none⟩ : Addr).add j = ⟨g, j, none⟩ := by
    unfold Addr.add
    split <;> simp_all
  rw [hadd, h.cell j hj, hv]
set_option maxRecDepth 100000 in
set_option maxHeartbeats 1000000 in
theorem rcopy_any (a g h n m c d : Nat) (bs ks : List UInt8) (w : World) (hst : Rfs w a g h n m c d bs ks) : Calls Tryz.prog 40 #[.pointer (some ⟨a, 0, none⟩)] w (RCopyPost w n m bs ks) := by
  have hnum := hst.nums
  have HNM := Lib.hid hnum
  have hn : n ≤ 65536 := by omega
  have hm : m ≤ 32 := by omega
  have HPOSn : Hid (0 < n) := Lib.hid (by omega)
  have HPOSm : Hid (0 < m) := Lib.hid (by omega)
  have HC0 := Lib.hid (fun W (hb : Below w.heap.size w W) => (hst.below hb).c0)
  have HC1 := Lib.hid (fun W (hb : Below w.heap.size w W) => (hst.below hb).c1)
  have HSB := Lib.hid (fun W (hb : Below w.heap.size w W) => row_srcG (hst.below hb).2.1)
  have HSK := Lib.hid (fun W (hb : Below w.heap.size w W) => row_srcG (hst.below hb).2.2.1)
  have HLB : (bsU bs).length = n := by rw [bsU_len]; exact hnum.1
  have HLK : (bsI ks).length = m := by rw [bsI_len]; exact hnum.2.1
  obtain ⟨iu0, iuh, iua, iub, iuc⟩ := info_parts info5
  obtain ⟨il0, ilh, ila, ilb, ilc⟩ := info_parts info3
  clear hnum hst
  go_enter Tryz.func40, Tryz.ntmps40
  go_upto_region 1 with fail
  refine wp_region_noPanic ?_
  refine wp_region_held_drew (S := fun W => Below w.heap.size w W) (by kernel_rfl) ((Below.refl _ w).drew) (fun k0 => ?_)
  show wpAnyH _ _ _ _ _ 15 #[false, false, false, false, false, false, false, false, false, false, false, false, false, false, false] _ _
  refine wpAnyH_take (i := 1) (oi := { dst := some 4, op := Go.Op.move (Go.Operand.tmp 0), type := 38, pos := "ref.go:102", after := #[], guard := none }) (v := .pointer (some ⟨a, 0, none⟩)) rfl (by kernel_rfl) (by kernel_rfl) (by kernel_rfl) (fun _ _ _ h => h) (Or.inl ⟨by rfl, fun W hSw => by (try dsimp only at hSw); go_simp⟩) k0 ?_
  try simp only [Act.put, List.setIfInBounds_toArray, List.set_cons_zero, List.set_cons_succ]
  refine wpAnyH_take (i := 2) (oi := { dst := some 5, op := Go.Op.nilCheck (Go.Operand.tmp 4), type := 0, pos := "ref.go:102", after := #[{ on := 1, ground := Go.Ground.data }], guard := none }) (v := .pointer (some ⟨a, 0, none⟩)) rfl (by kernel_rfl) (by kernel_rfl) (by kernel_rfl) (fun _ _ _ h => h) (Or.inl ⟨by rfl, fun W hSw => by (try dsimp only at hSw); go_simp⟩) k0 ?_
  try simp only [Act.put, List.setIfInBounds_toArray, List.set_cons_zero, List.set_cons_succ]
  refine wpAnyH_take (i := 3) (oi := { dst := some 6, op := Go.Op.fieldAddr 83 (Go.Operand.tmp 5) 0, type := 0, pos := "ref.go:102", after := #[{ on := 2, ground := Go.Ground.data }], guard := none }) (v := .pointer (some ⟨a, 0, none⟩)) rfl (by kernel_rfl) (by kernel_rfl) (by kernel_rfl) (fun _ _ _ h => h) (Or.inl ⟨by rfl, fun W hSw => by (try dsimp only at hSw); go_simp⟩) k0 ?_
  try simp only [Act.put, List.setIfInBounds_toArray, List.set_cons_zero, List.set_cons_succ]
  refine wpAnyH_take (i := 4) (oi := { dst := some 7, op := Go.Op.load 31 (Go.Operand.tmp 6), type := 31, pos := "ref.go:102", after := #[{ on := 3, ground := Go.Ground.data }], guard := none }) (v := .slice (some ⟨g, 0, none⟩) n c) rfl (by kernel_rfl) (by kernel_rfl) (by kernel_rfl) (fun _ _ _ h => h) (Or.inl ⟨by rfl, fun W hSw => by have cc := HC0.out W hSw; clear hSw; go_simp⟩) k0 ?_
  try simp only [Act.put, List.setIfInBounds_toArray, List.set_cons_zero, List.set_cons_succ]
  refine wpAnyH_take (i := 7) (oi := { dst := some 10, op := Go.Op.move (Go.Operand.tmp 0), type := 38, pos := "ref.go:102", after := #[], guard := none }) (v := .pointer (some ⟨a, 0, none⟩)) rfl (by kernel_rfl) (by kernel_rfl) (by kernel_rfl) (fun _ _ _ h => h) (Or.inl ⟨by rfl, fun W hSw => by (try dsimp only at hSw); go_simp⟩) k0 ?_
  try simp only [Act.put, List.setIfInBounds_toArray, List.set_cons_zero, List.set_cons_succ]
  refine wpAnyH_take (i := 8) (oi := { dst := some 11, op := Go.Op.nilCheck (Go.Operand.tmp 10), type := 0, pos := "ref.go:102", after := #[{ on := 7, ground := Go.Ground.data }], guard := none }) (v := .pointer (some ⟨a, 0, none⟩)) rfl (by kernel_rfl) (by kernel_rfl) (by kernel_rfl) (fun _ _ _ h => h) (Or.inl ⟨by rfl, fun W hSw => by (try dsimp only at hSw); go_simp⟩) k0 ?_
  try simp only [Act.put, List.setIfInBounds_toArray, List.set_cons_zero, List.set_cons_succ]
  refine wpAnyH_take (i := 9) (oi := { dst := some 12, op := Go.Op.fieldAddr 83 (Go.Operand.tmp 11) 1, type := 0, pos := "ref.go:102", after := #[{ on := 8, ground := Go.Ground.data }], guard := none }) (v := .pointer (some ⟨a, 1, none⟩)) rfl (by kernel_rfl) (by kernel_rfl) (by kernel_rfl) (fun _ _ _ h => h) (Or.inl ⟨by rfl, fun W hSw => by (try dsimp only at hSw); go_simp⟩) k0 ?_
  try simp only [Act.put, List.setIfInBounds_toArray, List.set_cons_zero, List.set_cons_succ]
  refine wpAnyH_take (i := 10) (oi := { dst := some 13, op := Go.Op.load 67 (Go.Operand.tmp 12), type := 67, pos := "ref.go:102", after := #[{ on := 9, ground := Go.Ground.data }], guard := none }) (v := .slice (some ⟨h, 0, none⟩) m d) rfl (by kernel_rfl) (by kernel_rfl) (by kernel_rfl) (fun _ _ _ h => h) (Or.inl ⟨by rfl, fun W hSw => by have cc := HC1.out W hSw; clear hSw; go_simp⟩) k0 ?_
  try simp only [Act.put, List.setIfInBounds_toArray, List.set_cons_zero, List.set_cons_succ]
  refine wpAnyH_ready (rs := [0, 6]) (by kernel_rfl) (by simp) ?_
  refine AllReadyH.cons (o := { dst := some 3, op := Go.Op.buildSlice 31 0 #[], type := 31, pos := "ref.go:102", after := #[], guard := none }) rfl (fun K hK => ?_) (AllReadyH.cons (o := { dst := some 9, op := Go.Op.buildSlice 67 0 #[], type := 67, pos := "ref.go:102", after := #[], guard := none }) rfl (fun K hK => ?_) AllReadyH.nil)
  · go_simp
    have EB : Hid (Row (w.drew.alloc (.cells #[] 5)) (w.heap.size) 5 [] 0) := Lib.hid (cast_row (by simp) (Bx.new w.drew 5 #[]).row)
    have EBs : Hid (w.heap.size ≤ w.heap.size) := Lib.hid (cast_le (show w.drew.heap.size = w.heap.size by simp) (Below.size (show Below w.heap.size w w.drew from k0)))
    refine hK.out _ _ (bel0 k0 (below_new _ _)) (fun k1 => ?_)
    clear hK K
    try simp only [List.setIfInBounds_toArray, List.set_cons_zero]
    refine wpAnyH_ready (rs := [5, 6]) (by kernel_rfl) (by simp) ?_
    refine AllReadyH.cons (o := { dst := some 8, op := Go.Op.call { callee := Go.Callee.builtin Go.Builtin.append, args := #[Go.Operand.tmp 3, Go.Operand.tmp 7], argTypes := #[31, 31] }, type := 31, pos := "ref.go:102", after := #[{ on := 0, ground := Go.Ground.data }, { on := 4, ground := Go.Ground.data }], guard := none }) rfl (fun K hK => ?_) (AllReadyH.cons (o := { dst := some 9, op := Go.Op.buildSlice 67 0 #[], type := 67, pos := "ref.go:102", after := #[], guard := none }) rfl (fun K hK => ?_) AllReadyH.nil)
    · rw [if_pos (by rfl)]
      refine wp_append_own _ (.tmp 3) (.tmp 7) 31 rfl w.heap.size 5 iu0 (.int .u8 0) 1 1 Tryz.underlying31 iuh iua iub iuc rfl (by decide) (.slice (some ⟨w.heap.size, 0, none⟩) 0 0) 0 [] rfl (row_own EB.out EBs.out) ⟨g, 0, none⟩ n c (bsU bs) rfl (by rw [HLB, Nat.mul_one]) (HSB.out _ k1) (bsU_one bs) (by unfold maxLen; omega) (by omega) (Below.size k1) ?_
      intro v2 w2 hown2 hgrow2 _
      rw [Nat.zero_add, List.nil_append] at hown2
      obtain ⟨g2, c2, rfl, hge2, hcm2, hrow2⟩ := own_some hown2 HPOSn.out HLB
      have RB := Lib.hid hrow2
      have RBs := Lib.hid (And.intro hge2 hcm2)
      refine hK.out _ _ (below_grown k1 (show World.grownBy _ w2 (some (w.heap.size)) from hgrow2) EBs.out) (fun k2 => ?_)
      clear hown2 hgrow2 hrow2 hge2 hcm2
      clear hK K
      try simp only [List.setIfInBounds_toArray, List.set_cons_zero, List.set_cons_succ]
      refine wpAnyH_ready (rs := [6]) (by kernel_rfl) (by simp) ?_
      refine AllReadyH.cons (o := { dst := some 9, op := Go.Op.buildSlice 67 0 #[], type := 67, pos := "ref.go:102", after := #[], guard := none }) rfl (fun K hK => ?_) AllReadyH.nil
      go_simp
      replace RB := Lib.hid (RB.out.below (below_new w2 (.cells #[] 3)))
      have EK : Hid (Row (w2.alloc (.cells #[] 3)) (w2.heap.size) 3 [] 0) := Lib.hid (cast_row (by simp) (Bx.new w2 3 #[]).row)
      have EKs : Hid (w.heap.size ≤ w2.heap.size) := Lib.hid (cast_le (show w2.heap.size = w2.heap.size by simp) (Below.size (show Below w.heap.size w w2 from k2)))
      refine hK.out _ _ (bel0 k2 (below_new _ _)) (fun k3 => ?_)
      clear hK K
      try simp only [List.setIfInBounds_toArray, List.set_cons_zero, List.set_cons_succ]
      refine wpAnyH_ready (rs := [11]) (by kernel_rfl) (by simp) ?_
      refine AllReadyH.cons (o := { dst := some 14, op := Go.Op.call { callee := Go.Callee.builtin Go.Builtin.append, args := #[Go.Operand.tmp 9, Go.Operand.tmp 13], argTypes := #[67, 67] }, type := 67, pos := "ref.go:102", after := #[{ on := 6, ground := Go.Ground.data }, { on := 10, ground := Go.Ground.data }, { on := 5, ground := Go.Ground.chain }], guard := none }) rfl (fun K hK => ?_) AllReadyH.nil
      rw [if_pos (by rfl)]
      refine wp_append_own _ (.tmp 9) (.tmp 13) 67 rfl w.heap.size 3 il0 (.int .i64 0) 1 8 Tryz.underlying67 ilh ila ilb ilc rfl (by decide) (.slice (some ⟨w2.heap.size, 0, none⟩) 0 0) 0 [] rfl (row_own EK.out EKs.out) ⟨h, 0, none⟩ m d (bsI ks) rfl (by rw [HLK, Nat.mul_one]) (HSK.out _ k3) (bsI_one ks) (by unfold maxLen; omega) (by omega) (Below.size k3) ?_
      intro v4 w4 hown4 hgrow4 _
      rw [Nat.zero_add, List.nil_append] at hown4
      obtain ⟨g4, c4, rfl, hge4, hcm4, hrow4⟩ := own_some hown4 HPOSm.out HLK
      replace RB := Lib.hid (RB.out.grown hgrow4 (fun e => RB.out.ne EK.out (by decide) (Option.some.inj e)))
      have RK := Lib.hid hrow4
      have RKs := Lib.hid (And.intro hge4 hcm4)
      refine hK.out _ _ (below_grown k3 (show World.grownBy _ w4 (some (w2.heap.size)) from hgrow4) EKs.out) (fun k4 => ?_)
      clear hown4 hgrow4 hrow4 hge4 hcm4
      clear hK K
      try simp only [List.setIfInBounds_toArray, List.set_cons_zero, List.set_cons_succ]
      refine wpAnyH_take (i := 12) (oi := { dst := some 15, op := Go.Op.build 83 #[(0, Go.Operand.tmp 8), (1, Go.Operand.tmp 14)], type := 83, pos := "ref.go:102", after := #[{ on := 5, ground := Go.Ground.data }, { on := 11, ground := Go.Ground.data }], guard := none }) (v := .agg #[.slice (some ⟨g2, 0, none⟩) n c2, .slice (some ⟨g4, 0, none⟩) m c4]) rfl (by kernel_rfl) (by kernel_rfl) (by kernel_rfl) (fun _ _ _ h => h) (Or.inl ⟨by rfl, fun W hSw => by (try dsimp only at hSw); go_simp⟩) k4 ?_
      try simp only [Act.put, List.setIfInBounds_toArray, List.set_cons_zero, List.set_cons_succ]
      refine wpAnyH_ready (rs := [13]) (by kernel_rfl) (by simp) ?_
      refine AllReadyH.cons (o := { dst := some 16, op := Go.Op.box 83 (Go.Operand.tmp 15), type := 38, pos := "ref.go:102", after := #[{ on := 12, ground := Go.Ground.data }], guard := none }) rfl (fun K hK => ?_) AllReadyH.nil
      go_simp
      refine hK.out _ _ (bel0 k4 (below_new _ _)) (fun k5 => ?_)
      clear hK K
      try simp only [List.setIfInBounds_toArray, List.set_cons_zero, List.set_cons_succ]
      refine wpAnyH_take (i := 14) (oi := { dst := some 2, op := Go.Op.assign (Go.Operand.tmp 16), type := 38, pos := "ref.go:102", after := #[{ on := 13, ground := Go.Ground.data }, { on := 11, ground := Go.Ground.chain }, { on := 0, ground := Go.Ground.phase }, { on := 1, ground := Go.Ground.phase }, { on := 2, ground := Go.Ground.phase }, { on := 3, ground := Go.Ground.phase }, { on := 4, ground := Go.Ground.phase }, { on := 5, ground := Go.Ground.phase }, { on := 6, ground := Go.Ground.phase }, { on := 7, ground := Go.Ground.phase }, { on := 8, ground := Go.Ground.phase }, { on := 9, ground := Go.Ground.phase }, { on := 10, ground := Go.Ground.phase }, { on := 11, ground := Go.Ground.phase }, { on := 12, ground := Go.Ground.phase }, { on := 13, ground := Go.Ground.phase }], guard := none }) (v := .pointer (some ⟨w4.heap.size, 0, none⟩)) rfl (by kernel_rfl) (by kernel_rfl) (by kernel_rfl) (fun _ _ _ h => h) (Or.inl ⟨by rfl, fun W hSw => by (try dsimp only at hSw); go_simp⟩) k5 ?_
      try simp only [Act.put, List.setIfInBounds_toArray, List.set_cons_zero, List.set_cons_succ]
      refine wpAnyH_done (by kernel_rfl) ?_ _
      refine NoPanic.normal ?_
      go_wp2
      go_ret
      exact ⟨_, _, _, _, _, rfl, ⟨Bx.new _ _ _, RB.out.below (below_new _ _), RK.out.below (below_new _ _), HNM.out.1, HNM.out.2.1, HNM.out.2.2.1, HNM.out.2.2.2.1, HNM.out.2.2.2.2.1, RBs.out.2, RKs.out.2⟩, Below.size (show Below w.heap.size w w4 from k4), RBs.out.1, RKs.out.1, k5⟩
    · go_simp
      replace EB := Lib.hid (EB.out.below (below_new (w.drew.alloc (.cells #[] 5)) (.cells #[] 3)))
      have EK : Hid (Row ((w.drew.alloc (.cells #[] 5)).alloc (.cells #[] 3)) (w.heap.size + 1) 3 [] 0) := Lib.hid (cast_row (by simp) (Bx.new (w.drew.alloc (.cells #[] 5)) 3 #[]).row)
      have EKs : Hid (w.heap.size ≤ w.heap.size + 1) := Lib.hid (cast_le (show (w.drew.alloc (.cells #[] 5)).heap.size = w.heap.size + 1 by simp) (Below.size (show Below w.heap.size w (w.drew.alloc (.cells #[] 5)) from k1)))
      refine hK.out _ _ (bel0 k1 (below_new _ _)) (fun k2 => ?_)
      clear hK K
      try simp only [List.setIfInBounds_toArray, List.set_cons_zero, List.set_cons_succ]
      refine wpAnyH_ready (rs := [5]) (by kernel_rfl) (by simp) ?_
      refine AllReadyH.cons (o := { dst := some 8, op := Go.Op.call { callee := Go.Callee.builtin Go.Builtin.append, args := #[Go.Operand.tmp 3, Go.Operand.tmp 7], argTypes := #[31, 31] }, type := 31, pos := "ref.go:102", after := #[{ on := 0, ground := Go.Ground.data }, { on := 4, ground := Go.Ground.data }], guard := none }) rfl (fun K hK => ?_) AllReadyH.nil
      rw [if_pos (by rfl)]
      refine wp_append_own _ (.tmp 3) (.tmp 7) 31 rfl w.heap.size 5 iu0 (.int .u8 0) 1 1 Tryz.underlying31 iuh iua iub iuc rfl (by decide) (.slice (some ⟨w.heap.size, 0, none⟩) 0 0) 0 [] rfl (row_own EB.out EBs.out) ⟨g, 0, none⟩ n c (bsU bs) rfl (by rw [HLB, Nat.mul_one]) (HSB.out _ k2) (bsU_one bs) (by unfold maxLen; omega) (by omega) (Below.size k2) ?_
      intro v3 w3 hown3 hgrow3 _
      rw [Nat.zero_add, List.nil_append] at hown3
      obtain ⟨g3, c3, rfl, hge3, hcm3, hrow3⟩ := own_some hown3 HPOSn.out HLB
      replace EK := Lib.hid (EK.out.grown hgrow3 (fun e => EK.out.ne EB.out (by decide) (Option.some.inj e)))
      have RB := Lib.hid hrow3
      have RBs := Lib.hid (And.intro hge3 hcm3)
      refine hK.out _ _ (below_grown k2 (show World.grownBy _ w3 (some (w.heap.size)) from hgrow3) EBs.out) (fun k3 => ?_)
      clear hown3 hgrow3 hrow3 hge3 hcm3
      clear hK K
      try simp only [List.setIfInBounds_toArray, List.set_cons_zero, List.set_cons_succ]
      refine wpAnyH_ready (rs := [11]) (by kernel_rfl) (by simp) ?_
      refine AllReadyH.cons (o := { dst := some 14, op := Go.Op.call { callee := Go.Callee.builtin Go.Builtin.append, args := #[Go.Operand.tmp 9, Go.Operand.tmp 13], argTypes := #[67, 67] }, type := 67, pos := "ref.go:102", after := #[{ on := 6, ground := Go.Ground.data }, { on := 10, ground := Go.Ground.data }, { on := 5, ground := Go.Ground.chain }], guard := none }) rfl (fun K hK => ?_) AllReadyH.nil
      rw [if_pos (by rfl)]
      refine wp_append_own _ (.tmp 9) (.tmp 13) 67 rfl w.heap.size 3 il0 (.int .i64 0) 1 8 Tryz.underlying67 ilh ila ilb ilc rfl (by decide) (.slice (some ⟨w.heap.size + 1, 0, none⟩) 0 0) 0 [] rfl (row_own EK.out EKs.out) ⟨h, 0, none⟩ m d (bsI ks) rfl (by rw [HLK, Nat.mul_one]) (HSK.out _ k3) (bsI_one ks) (by unfold maxLen; omega) (by omega) (Below.size k3) ?_
      intro v4 w4 hown4 hgrow4 _
      rw [Nat.zero_add, List.nil_append] at hown4
      obtain ⟨g4, c4, rfl, hge4, hcm4, hrow4⟩ := own_some hown4 HPOSm.out HLK
      replace RB := Lib.hid (RB.out.grown hgrow4 (fun e => RB.out.ne EK.out (by decide) (Option.some.inj e)))
      have RK := Lib.hid hrow4
      have RKs := Lib.hid (And.intro hge4 hcm4)
      refine hK.out _ _ (below_grown k3 (show World.grownBy _ w4 (some (w.heap.size + 1)) from hgrow4) EKs.out) (fun k4 => ?_)
      clear hown4 hgrow4 hrow4 hge4 hcm4
      clear hK K
      try simp only [List.setIfInBounds_toArray, List.set_cons_zero, List.set_cons_succ]
      refine wpAnyH_take (i := 12) (oi := { dst := some 15, op := Go.Op.build 83 #[(0, Go.Operand.tmp 8), (1, Go.Operand.tmp 14)], type := 83, pos := "ref.go:102", after := #[{ on := 5, ground := Go.Ground.data }, { on := 11, ground := Go.Ground.data }], guard := none }) (v := .agg #[.slice (some ⟨g3, 0, none⟩) n c3, .slice (some ⟨g4, 0, none⟩) m c4]) rfl (by kernel_rfl) (by kernel_rfl) (by kernel_rfl) (fun _ _ _ h => h) (Or.inl ⟨by rfl, fun W hSw => by (try dsimp only at hSw); go_simp⟩) k4 ?_
      try simp only [Act.put, List.setIfInBounds_toArray, List.set_cons_zero, List.set_cons_succ]
      refine wpAnyH_ready (rs := [13]) (by kernel_rfl) (by simp) ?_
      refine AllReadyH.cons (o := { dst := some 16, op := Go.Op.box 83 (Go.Operand.tmp 15), type := 38, pos := "ref.go:102", after := #[{ on := 12, ground := Go.Ground.data }], guard := none }) rfl (fun K hK => ?_) AllReadyH.nil
      go_simp
      refine hK.out _ _ (bel0 k4 (below_new _ _)) (fun k5 => ?_)
      clear hK K
      try simp only [List.setIfInBounds_toArray, List.set_cons_zero, List.set_cons_succ]
      refine wpAnyH_take (i := 14) (oi := { dst := some 2, op := Go.Op.assign (Go.Operand.tmp 16), type := 38, pos := "ref.go:102", after := #[{ on := 13, ground := Go.Ground.data }, { on := 11, ground := Go.Ground.chain }, { on := 0, ground := Go.Ground.phase }, { on := 1, ground := Go.Ground.phase }, { on := 2, ground := Go.Ground.phase }, { on := 3, ground := Go.Ground.phase }, { on := 4, ground := Go.Ground.phase }, { on := 5, ground := Go.Ground.phase }, { on := 6, ground := Go.Ground.phase }, { on := 7, ground := Go.Ground.phase }, { on := 8, ground := Go.Ground.phase }, { on := 9, ground := Go.Ground.phase }, { on := 10, ground := Go.Ground.phase }, { on := 11, ground := Go.Ground.phase }, { on := 12, ground := Go.Ground.phase }, { on := 13, ground := Go.Ground.phase }], guard := none }) (v := .pointer (some ⟨w4.heap.size, 0, none⟩)) rfl (by kernel_rfl) (by kernel_rfl) (by kernel_rfl) (fun _ _ _ h => h) (Or.inl ⟨by rfl, fun W hSw => by (try dsimp only at hSw); go_simp⟩) k5 ?_
      try simp only [Act.put, List.setIfInBounds_toArray, List.set_cons_zero, List.set_cons_succ]
      refine wpAnyH_done (by kernel_rfl) ?_ _
      refine NoPanic.normal ?_
      go_wp2
      go_ret
      exact ⟨_, _, _, _, _, rfl, ⟨Bx.new _ _ _, RB.out.below (below_new _ _), RK.out.below (below_new _ _), HNM.out.1, HNM.out.2.1, HNM.out.2.2.1, HNM.out.2.2.2.1, HNM.out.2.2.2.2.1, RBs.out.2, RKs.out.2⟩, Below.size (show Below w.heap.size w w4 from k4), RBs.out.1, RKs.out.1, k5⟩
  · go_simp
    have EK : Hid (Row (w.drew.alloc (.cells #[] 3)) (w.heap.size) 3 [] 0) := Lib.hid (cast_row (by simp) (Bx.new w.drew 3 #[]).row)
    have EKs : Hid (w.heap.size ≤ w.heap.size) := Lib.hid (cast_le (show w.drew.heap.size = w.heap.size by simp) (Below.size (show Below w.heap.size w w.drew from k0)))
    refine hK.out _ _ (bel0 k0 (below_new _ _)) (fun k1 => ?_)
    clear hK K
    try simp only [List.setIfInBounds_toArray, List.set_cons_zero, List.set_cons_succ]
    refine wpAnyH_ready (rs := [0]) (by kernel_rfl) (by simp) ?_
    refine AllReadyH.cons (o := { dst := some 3, op := Go.Op.buildSlice 31 0 #[], type := 31, pos := "ref.go:102", after := #[], guard := none }) rfl (fun K hK => ?_) AllReadyH.nil
    go_simp
    replace EK := Lib.hid (EK.out.below (below_new (w.drew.alloc (.cells #[] 3)) (.cells #[] 5)))
    have EB : Hid (Row ((w.drew.alloc (.cells #[] 3)).alloc (.cells #[] 5)) (w.heap.size + 1) 5 [] 0) := Lib.hid (cast_row (by simp) (Bx.new (w.drew.alloc (.cells #[] 3)) 5 #[]).row)
    have EBs : Hid (w.heap.size ≤ w.heap.size + 1) := Lib.hid (cast_le (show (w.drew.alloc (.cells #[] 3)).heap.size = w.heap.size + 1 by simp) (Below.size (show Below w.heap.size w (w.drew.alloc (.cells #[] 3)) from k1)))
    refine hK.out _ _ (bel0 k1 (below_new _ _)) (fun k2 => ?_)
    clear hK K
    try simp only [List.setIfInBounds_toArray, List.set_cons_zero]
    refine wpAnyH_ready (rs := [5]) (by kernel_rfl) (by simp) ?_
    refine AllReadyH.cons (o := { dst := some 8, op := Go.Op.call { callee := Go.Callee.builtin Go.Builtin.append, args := #[Go.Operand.tmp 3, Go.Operand.tmp 7], argTypes := #[31, 31] }, type := 31, pos := "ref.go:102", after := #[{ on := 0, ground := Go.Ground.data }, { on := 4, ground := Go.Ground.data }], guard := none }) rfl (fun K hK => ?_) AllReadyH.nil
    rw [if_pos (by rfl)]
    refine wp_append_own _ (.tmp 3) (.tmp 7) 31 rfl w.heap.size 5 iu0 (.int .u8 0) 1 1 Tryz.underlying31 iuh iua iub iuc rfl (by decide) (.slice (some ⟨w.heap.size + 1, 0, none⟩) 0 0) 0 [] rfl (row_own EB.out EBs.out) ⟨g, 0, none⟩ n c (bsU bs) rfl (by rw [HLB, Nat.mul_one]) (HSB.out _ k2) (bsU_one bs) (by unfold maxLen; omega) (by omega) (Below.size k2) ?_
    intro v3 w3 hown3 hgrow3 _
    rw [Nat.zero_add, List.nil_append] at hown3
    obtain ⟨g3, c3, rfl, hge3, hcm3, hrow3⟩ := own_some hown3 HPOSn.out HLB
    replace EK := Lib.hid (EK.out.grown hgrow3 (fun e => EK.out.ne EB.out (by decide) (Option.some.inj e)))
    have RB := Lib.hid hrow3
    have RBs := Lib.hid (And.intro hge3 hcm3)
    refine hK.out _ _ (below_grown k2 (show World.grownBy _ w3 (some (w.heap.size + 1)) from hgrow3) EBs.out) (fun k3 => ?_)
    clear hown3 hgrow3 hrow3 hge3 hcm3
    clear hK K
    try simp only [List.setIfInBounds_toArray, List.set_cons_zero, List.set_cons_succ]
    refine wpAnyH_ready (rs := [11]) (by kernel_rfl) (by simp) ?_
    refine AllReadyH.cons (o := { dst := some 14, op := Go.Op.call { callee := Go.Callee.builtin Go.Builtin.append, args := #[Go.Operand.tmp 9, Go.Operand.tmp 13], argTypes := #[67, 67] }, type := 67, pos := "ref.go:102", after := #[{ on := 6, ground := Go.Ground.data }, { on := 10, ground := Go.Ground.data }, { on := 5, ground := Go.Ground.chain }], guard := none }) rfl (fun K hK => ?_) AllReadyH.nil
    rw [if_pos (by rfl)]
    refine wp_append_own _ (.tmp 9) (.tmp 13) 67 rfl w.heap.size 3 il0 (.int .i64 0) 1 8 Tryz.underlying67 ilh ila ilb ilc rfl (by decide) (.slice (some ⟨w.heap.size, 0, none⟩) 0 0) 0 [] rfl (row_own EK.out EKs.out) ⟨h, 0, none⟩ m d (bsI ks) rfl (by rw [HLK, Nat.mul_one]) (HSK.out _ k3) (bsI_one ks) (by unfold maxLen; omega) (by omega) (Below.size k3) ?_
    intro v4 w4 hown4 hgrow4 _
    rw [Nat.zero_add, List.nil_append] at hown4
    obtain ⟨g4, c4, rfl, hge4, hcm4, hrow4⟩ := own_some hown4 HPOSm.out HLK
    replace RB := Lib.hid (RB.out.grown hgrow4 (fun e => RB.out.ne EK.out (by decide) (Option.some.inj e)))
    have RK := Lib.hid hrow4
    have RKs := Lib.hid (And.intro hge4 hcm4)
    refine hK.out _ _ (below_grown k3 (show World.grownBy _ w4 (some (w.heap.size)) from hgrow4) EKs.out) (fun k4 => ?_)
    clear hown4 hgrow4 hrow4 hge4 hcm4
    clear hK K
    try simp only [List.setIfInBounds_toArray, List.set_cons_zero, List.set_cons_succ]
    refine wpAnyH_take (i := 12) (oi := { dst := some 15, op := Go.Op.build 83 #[(0, Go.Operand.tmp 8), (1, Go.Operand.tmp 14)], type := 83, pos := "ref.go:102", after := #[{ on := 5, ground := Go.Ground.data }, { on := 11, ground := Go.Ground.data }], guard := none }) (v := .agg #[.slice (some ⟨g3, 0, none⟩) n c3, .slice (some ⟨g4, 0, none⟩) m c4]) rfl (by kernel_rfl) (by kernel_rfl) (by kernel_rfl) (fun _ _ _ h => h) (Or.inl ⟨by rfl, fun W hSw => by (try dsimp only at hSw); go_simp⟩) k4 ?_
    try simp only [Act.put, List.setIfInBounds_toArray, List.set_cons_zero, List.set_cons_succ]
    refine wpAnyH_ready (rs := [13]) (by kernel_rfl) (by simp) ?_
    refine AllReadyH.cons (o := { dst := some 16, op := Go.Op.box 83 (Go.Operand.tmp 15), type := 38, pos := "ref.go:102", after := #[{ on := 12, ground := Go.Ground.data }], guard := none }) rfl (fun K hK => ?_) AllReadyH.nil
    go_simp
    refine hK.out _ _ (bel0 k4 (below_new _ _)) (fun k5 => ?_)
    clear hK K
    try simp only [List.setIfInBounds_toArray, List.set_cons_zero, List.set_cons_succ]
    refine wpAnyH_take (i := 14) (oi := { dst := some 2, op := Go.Op.assign (Go.Operand.tmp 16), type := 38, pos := "ref.go:102", after := #[{ on := 13, ground := Go.Ground.data }, { on := 11, ground := Go.Ground.chain }, { on := 0, ground := Go.Ground.phase }, { on := 1, ground := Go.Ground.phase }, { on := 2, ground := Go.Ground.phase }, { on := 3, ground := Go.Ground.phase }, { on := 4, ground := Go.Ground.phase }, { on := 5, ground := Go.Ground.phase }, { on := 6, ground := Go.Ground.phase }, { on := 7, ground := Go.Ground.phase }, { on := 8, ground := Go.Ground.phase }, { on := 9, ground := Go.Ground.phase }, { on := 10, ground := Go.Ground.phase }, { on := 11, ground := Go.Ground.phase }, { on := 12, ground := Go.Ground.phase }, { on := 13, ground := Go.Ground.phase }], guard := none }) (v := .pointer (some ⟨w4.heap.size, 0, none⟩)) rfl (by kernel_rfl) (by kernel_rfl) (by kernel_rfl) (fun _ _ _ h => h) (Or.inl ⟨by rfl, fun W hSw => by (try dsimp only at hSw); go_simp⟩) k5 ?_
    try simp only [Act.put, List.setIfInBounds_toArray, List.set_cons_zero, List.set_cons_succ]
    refine wpAnyH_done (by kernel_rfl) ?_ _
    refine NoPanic.normal ?_
    go_wp2
    go_ret
    exact ⟨_, _, _, _, _, rfl, ⟨Bx.new _ _ _, RB.out.below (below_new _ _), RK.out.below (below_new _ _), HNM.out.1, HNM.out.2.1, HNM.out.2.2.1, HNM.out.2.2.2.1, HNM.out.2.2.2.2.1, RBs.out.2, RKs.out.2⟩, Below.size (show Below w.heap.size w w4 from k4), RBs.out.1, RKs.out.1, k5⟩

end E
end Go.Proofs.YtfopjnfphlkcgaaGreat

/- The walk of the statement GeneralChanges. -/
import Derived.Test.YtfopjnfphlkcgaaGreatRows
import Derived.Test.YtfopjnfphlkcgaaGreatGnAny
import Derived.Test.YtfopjnfphlkcgaaGreatGnBuild
import Derived.Test.YtfopjnfphlkcgaaGreatGnWorks
import Derived.Test.YtfopjnfphlkcgaaGreatWkGeneralNone
namespace Go.Proofs.YtfopjnfphlkcgaaGreat
open Go.RowKit Go.Shelf E
set_option linter.unusedVariables false
namespace M

theorem br_any (x : Int) (w : World) : Calls Tryz.prog 24 #[.int .i64 x] w fun e w' => e = .returned (.bool (brI x)) ∧ w = w' := by
  have ht : (5 ≤ x ∧ x ≤ 7) ∨ (69 ≤ x ∧ x ≤ 71) ∨ x = 134 ∨ x = 135 → brI x = true := fun h => by
    unfold brI
    simp only [Bool.or_eq_true, Bool.and_eq_true, decide_eq_true_eq]
    omega
  have hf : ¬ ((5 ≤ x ∧ x ≤ 7) ∨ (69 ≤ x ∧ x ≤ 71) ∨ x = 134 ∨ x = 135) → brI x = false := fun h => by
    cases hb : brI x with
    | false => rfl
    | true =>
      unfold brI at hb
      simp only [Bool.or_eq_true, Bool.and_eq_true, decide_eq_true_eq] at hb
      omega
  by_cases h1 : 5 ≤ x
  · by_cases h2 : x ≤ 7
    · rw [ht (by omega)]
      clear ht hf
      go_enter Tryz.func24, Tryz.ntmps24
      go_wp2
      go_ret
      exact ⟨rfl, rfl⟩
    · by_cases h3 : 69 ≤ x
      · by_cases h4 : x ≤ 71
        · rw [ht (by omega)]
          clear ht hf
          go_enter Tryz.func24, Tryz.ntmps24
          go_wp2
          go_ret
          exact ⟨rfl, rfl⟩
        · by_cases h5 : x = 134
          · rw [ht (by omega)]
            clear ht hf
            subst h5
            go_enter Tryz.func24, Tryz.ntmps24
            go_wp2
            go_ret
            exact ⟨rfl, rfl⟩
          · by_cases h6 : x = 135
            · rw [ht (by omega)]
              clear ht hf
              subst h6
              go_enter Tryz.func24, Tryz.ntmps24
              go_wp2
              go_ret
              exact ⟨rfl, rfl⟩
            · rw [hf (by omega)]
              clear ht hf
              have e5 : (x == 134) = false := by simpa using h5
              have e6 : (x == 135) = false := by simpa using h6
              go_enter Tryz.func24, Tryz.ntmps24
              go_wp2
              go_ret
              exact ⟨rfl, rfl⟩
      · rw [hf (by omega)]
        clear ht hf
        have e5 : (x == 134) = false := by
          have : x ≠ 134 := by omega
          simpa using this
        have e6 : (x == 135) = false := by
          have : x ≠ 135 := by omega
          simpa using this
        go_enter Tryz.func24, Tryz.ntmps24
        go_wp2
        go_ret
        exact ⟨rfl, rfl⟩
  · rw [hf (by omega)]
    clear ht hf
    have h3 : ¬ (69 ≤ x) := by omega
    have e5 : (x == 134) = false := by
      have : x ≠ 134 := by omega
      simpa using this
    have e6 : (x == 135) = false := by
      have : x ≠ 135 := by omega
      simpa using this
    go_enter Tryz.func24, Tryz.ntmps24
    go_wp2
    go_ret
    exact ⟨rfl, rfl⟩
theorem mem_below {w w' : World} {x y z : Value} (h : MemAt w x y z) (hb : Below w.heap.size w w') : MemAt w' x y z := by
  obtain ⟨h1, ⟨l, h2⟩, p, n, c, hz, hp⟩ := h
  refine ⟨h1, ⟨l, h2.below hb⟩, p, n, c, hz, ?_⟩
  rcases hp with h0 | ⟨B, off, hp1, hp2⟩
  · exact .inl h0
  · refine .inr ⟨B, off, hp1, fun i hi => ?_⟩
    obtain ⟨X, bv, b, c0, hX, c1, hs⟩ := hp2 i hi
    exact ⟨X, bv, b, (hb.cell (World.block_lt_of_cell? w _ c0)).trans c0, hX, (hb.cell (World.block_lt_of_cell? w _ c1)).trans c1, hs.below hb⟩
theorem byts_all (A g h n m : Nat) (bs ks : List UInt8) (X : World) (hX : Sto X A g h n m bs ks) : Calls Tryz.prog 20 #[.pointer (some ⟨A, 0, none⟩), .int .i64 0, .int .i64 (n : Int)] X (BytPost X bs) := by
  have h1 := bytes_any A g h n m 0 (n : Int) bs ks X (by decide) hX
  have h2 : bytL n bs 0 (n : Int) = bs := by
    unfold bytL
    rw [if_pos (inB_iff.2 ⟨by omega, by omega, by omega⟩), Int.toNat_natCast]
    exact subL_all bs hX.2.2.2.1
  rw [h2] at h1
  exact h1
theorem key_at (A g h n m : Nat) (bs ks : List UInt8) (k : Nat) (X : World) (hX : Sto X A g h n m bs ks) (hk : k < n) : Calls Tryz.prog 23 #[.pointer (some ⟨A, 0, none⟩), .int .i64 (k : Int)] X (New X (.tuple #[.int .i64 ((gt ks (k / 2048)).toNat : Int), .bool true])) := by
  have hnum := hX.nums
  have h1 := keyOf_any A g h n m (k : Int) bs ks X (by omega) hX
  have h2 : inB n (k : Int) 1 = true := inB_iff.2 ⟨by omega, by omega, by omega⟩
  have h3 : keyV n ks (k : Int) = ((gt ks (k / 2048)).toNat : Int) := by
    unfold keyV
    rw [if_pos h2, Int.toNat_natCast]
  rw [h2, h3] at h1
  exact h1
theorem row_sv {w : World} {B n c : Nat} {l : List UInt8} (h : Row w B 5 (bsU l) c) (hn : l.length = n) (hc : n ≤ c) (hc2 : c ≤ 9223372036854775807) : SvB w (.slice (some ⟨B, 0, none⟩) n c) l := by
  subst hn
  refine ⟨some ⟨B, 0, none⟩, c, rfl, ?_, hc, hc2, fun h => by cases h⟩
  have h1 := h.rd 0 l.length (by omega)
  rwa [List.drop_zero, List.take_length] at h1
attribute [local go_sem 5000] regs_self psw_self
set_option maxRecDepth 100000 in
set_option maxHeartbeats 8000000 in
theorem wk_changes (Q : Ins) (R : Nat → Int) (p : Psw) (x y z : Value) (w : World) (hg : RegOk R ∧ MemAt w x y z) : Calls Tryz.prog 7 #[Q.val, .agg ((regA R).toList ++ (pswA p).toList ++ [x, y, z]).toArray] w (New w (.bool true)) := by
  obtain ⟨hR, hM⟩ := hg
  obtain ⟨wA, hwA⟩ : ∃ W, W = w.alloc (.cells #[.int .i64 Q.op, .int .i64 Q.fo, .int .i64 Q.r1, .int .i64 Q.r2, .int .i64 Q.x2, .int .i64 Q.b1, .int .i64 Q.d1, .int .i64 Q.b2, .int .i64 Q.d2, .int .i64 Q.l1, .int .i64 Q.l2, .int .i64 Q.i2] 25) := ⟨_, rfl⟩
  obtain ⟨wB, hwB⟩ : ∃ W, W = wA.alloc (.cells #[.int .u32 (R 0), .int .u32 (R 1), .int .u32 (R 2), .int .u32 (R 3), .int .u32 (R 4), .int .u32 (R 5), .int .u32 (R 6), .int .u32 (R 7), .int .u32 (R 8), .int .u32 (R 9), .int .u32 (R 10), .int .u32 (R 11), .int .u32 (R 12), .int .u32 (R 13), .int .u32 (R 14), .int .u32 (R 15), .int .i64 p.m, .int .i64 p.k, .bool p.ma, .bool p.wa, .bool p.pr, .int .i64 p.co, .int .i64 p.il, .int .i64 p.cc, .int .i64 p.pg, .int .i64 p.ad, x, y, z] 36) := ⟨_, rfl⟩
  have sA : wA.heap.size = w.heap.size + 1 := by rw [hwA]; simp
  have bA : Below w.heap.size w wA := by rw [hwA]; exact below_new _ _
  have bB : Below wA.heap.size wA wB := by rw [hwB]; exact below_new _ _
  have KI : Bx wB w.heap.size 25 #[.int .i64 Q.op, .int .i64 Q.fo, .int .i64 Q.r1, .int .i64 Q.r2, .int .i64 Q.x2, .int .i64 Q.b1, .int .i64 Q.d1, .int .i64 Q.b2, .int .i64 Q.d2, .int .i64 Q.l1, .int .i64 Q.l2, .int .i64 Q.i2] := by
    have h1 : Bx wA w.heap.size 25 #[.int .i64 Q.op, .int .i64 Q.fo, .int .i64 Q.r1, .int .i64 Q.r2, .int .i64 Q.x2, .int .i64 Q.b1, .int .i64 Q.d1, .int .i64 Q.b2, .int .i64 Q.d2, .int .i64 Q.l1, .int .i64 Q.l2, .int .i64 Q.i2] := by rw [hwA]; exact Bx.new w _ _
    exact h1.below bB
  have KS : Bx wB (w.heap.size + 1) 36 #[.int .u32 (R 0), .int .u32 (R 1), .int .u32 (R 2), .int .u32 (R 3), .int .u32 (R 4), .int .u32 (R 5), .int .u32 (R 6), .int .u32 (R 7), .int .u32 (R 8), .int .u32 (R 9), .int .u32 (R 10), .int .u32 (R 11), .int .u32 (R 12), .int .u32 (R 13), .int .u32 (R 14), .int .u32 (R 15), .int .i64 p.m, .int .i64 p.k, .bool p.ma, .bool p.wa, .bool p.pr, .int .i64 p.co, .int .i64 p.il, .int .i64 p.cc, .int .i64 p.pg, .int .i64 p.ad, x, y, z] := by rw [hwB, ← sA]; exact Bx.new wA _ _
  have HK := Lib.hid (And.intro KI KS)
  have HB0 := Lib.hid (bel0 bA bB)
  have HWD := Lib.hid (And.intro hwA hwB)
  have HBU := Lib.hid (build_any x y z wB (mem_below hM (bel0 bA bB)))
  have HLM := Lib.hid (load_part KS 26 #[x, y, z] Tryz.underlying34 rfl (by kernel_rfl) (fun j hj => by
    have h3 : j < 3 := hj
    rcases (by omega : j = 0 ∨ j = 1 ∨ j = 2) with rfl | rfl | rfl <;> rfl))
  have HW := Lib.hid (fun X => works_any X)
  have HEX := Lib.hid (fun n bs ks (hl : bs.length = n) => exec_any Q R p n bs ks hR hl)
  have HBRN := Lib.hid (br_any Q.op)
  obtain ⟨BI, hBI⟩ : ∃ B, B = w.heap.size := ⟨_, rfl⟩
  have HBI : Hid (BI = w.heap.size ∧ BI + 2 ≤ wB.heap.size) := Lib.hid ⟨hBI, by rw [hwB]; simp; omega⟩
  clear hM hR sA bA bB KI KS hwA hwB hBI
  unfold Ins.val
  unfold regA pswA
  simp only [List.cons_append, List.nil_append]
  go_enter Tryz.func7, Tryz.ntmps7
  go_wp2_with (refine wpList_valW (by rfl) (exec_load 34 _ rfl ⟨w.heap.size + 1, 26, none⟩ rfl (by rw [← HWD.out.1, ← HWD.out.2]; exact HLM.out)) ?_)
  rw [← HWD.out.1, ← HWD.out.2]
  refine HBU.out.mono ?_
  rintro e w1 ⟨A, g, h, A2, g2, h2, n, m, bs, ks, rfl, hst, hrf, hg1, hg2, hgn, hb⟩
  have HST := Lib.hid hst
  have HG : Hid (w.heap.size ≤ g ∧ BI ≠ g ∧ BI + 1 ≠ g) := Lib.hid (by have := HB0.out.size; have := HBI.out; omega)
  have HB1 := Lib.hid (bel0 HB0.out hb)
  have HK1 := Lib.hid (And.intro (HK.out.1.below hb) (HK.out.2.below hb))
  obtain ⟨R', p', c', bs', hA, hB, hE⟩ := HEX.out n bs ks hst.2.2.2.1
  have HE := Lib.hid hE
  have HFA := Lib.hid hA
  have HFB := Lib.hid hB
  have hn1 : 2048 ≤ n := by have := hst.nums; omega
  have hn2 : n ≤ 65536 := by have := hst.nums; omega
  clear hst hrf hg1 hg2 hgn hb hA hB hE HBU HB0 HK HWD HLM HEX
  go_wp2_with fail
  refine (HW.out _).mono ?_
  rintro e w2 ⟨rfl, hb⟩
  have HST2 := Lib.hid (HST.out.below hb)
  have HB2 := Lib.hid (bel0 HB1.out hb)
  have HK2 := Lib.hid (And.intro (HK1.out.1.below hb) (HK1.out.2.below hb))
  clear hb HST HB1 HK1 HW
  go_wp2_with fail
  refine (size_any A g n w2 (HST2.out.1.cell 0)).mono ?_
  rintro e w3 ⟨rfl, rfl⟩
  go_wp2_with fail
  refine (byts_all A g h n m bs ks _ HST2.out).mono ?_
  rintro e w4 ⟨v4, rfl, ho, hb⟩
  obtain ⟨BW, cW, rfl, -, hrow, hle, hcap⟩ := hold_n ho HST2.out.2.2.2.1 (by omega)
  have HRW := Lib.hid hrow
  have HST4 := Lib.hid (HST2.out.below hb)
  have HB4 := Lib.hid (bel0 HB2.out hb)
  have HK4 := Lib.hid (And.intro (HK2.out.1.below hb) (HK2.out.2.below hb))
  have HGW : Hid (BW ≠ g) := Lib.hid (by
    have h1 := HST2.out.2.1.lt
    have h2 := ho.2
    rcases h2 with ⟨h3, -⟩ | ⟨g9, _, _, h3, h4, _⟩
    · cases h3
    · cases h3
      omega)
  clear ho hb hrow HST2 HB2 HK2
  have L1 := Lib.hid (run_loadVar_row (P := Tryz.prog) w4 w.heap.size _ 25 _ _ _ HK4.out.1 Tryz.underlying25 rfl (by kernel_rfl))
  have L2 := Lib.hid (load_part HK4.out.2 0 #[.int .u32 (R 0), .int .u32 (R 1), .int .u32 (R 2), .int .u32 (R 3), .int .u32 (R 4), .int .u32 (R 5), .int .u32 (R 6), .int .u32 (R 7), .int .u32 (R 8), .int .u32 (R 9), .int .u32 (R 10), .int .u32 (R 11), .int .u32 (R 12), .int .u32 (R 13), .int .u32 (R 14), .int .u32 (R 15)] Tryz.underlying28 rfl (by kernel_rfl) (fun j hj => by
    have h16 : j < 16 := hj
    rcases lt16 h16 with rfl | rfl | rfl | rfl | rfl | rfl | rfl | rfl | rfl | rfl | rfl | rfl | rfl | rfl | rfl | rfl <;> rfl))
  have L3 := Lib.hid (load_part HK4.out.2 16 #[.int .i64 p.m, .int .i64 p.k, .bool p.ma, .bool p.wa, .bool p.pr, .int .i64 p.co, .int .i64 p.il, .int .i64 p.cc, .int .i64 p.pg, .int .i64 p.ad] Tryz.underlying30 rfl (by kernel_rfl) (fun j hj => by
    have h10 : j < 10 := hj
    rcases (by omega : j = 0 ∨ j = 1 ∨ j = 2 ∨ j = 3 ∨ j = 4 ∨ j = 5 ∨ j = 6 ∨ j = 7 ∨ j = 8 ∨ j = 9) with rfl | rfl | rfl | rfl | rfl | rfl | rfl | rfl | rfl | rfl <;> rfl))
  go_wp2_with (first | (refine wpList_valW (by rfl) (exec_load 25 _ rfl ⟨w.heap.size, 0, none⟩ rfl L1.out) ?_) | (refine wpList_valW (by rfl) (exec_load 28 _ rfl ⟨w.heap.size + 1, 0, none⟩ rfl L2.out) ?_) | (refine wpList_valW (by rfl) (exec_load 30 _ rfl ⟨w.heap.size + 1, 16, none⟩ rfl L3.out) ?_))
  refine (HE.out A g h m w4 HST4.out).mono ?_
  rintro e w5 ⟨rfl, hs5, hk5⟩
  unfold refA regA pswA
  have HST5 := Lib.hid hs5
  have HB5 := Lib.hid (Kp.below HB4.out hk5 (by simpa using HG.out.1))
  have HK5 := Lib.hid (And.intro (HK4.out.1.kp hk5 (by rw [← HBI.out.1]; simpa using HG.out.2.1)) (HK4.out.2.kp hk5 (by rw [← HBI.out.1]; simpa using HG.out.2.2)))
  have HRW5 := Lib.hid (HRW.out.kp hk5 (by simpa using HGW.out))
  clear hs5 hk5 HST4 HB4 HK4 HRW HE L1 L2 L3 HG HGW
  go_wp2_with fail
  obtain ⟨y3, hy3⟩ : ∃ y, y = w5.alloc (.cells #[.int .u32 (R' 0), .int .u32 (R' 1), .int .u32 (R' 2), .int .u32 (R' 3), .int .u32 (R' 4), .int .u32 (R' 5), .int .u32 (R' 6), .int .u32 (R' 7), .int .u32 (R' 8), .int .u32 (R' 9), .int .u32 (R' 10), .int .u32 (R' 11), .int .u32 (R' 12), .int .u32 (R' 13), .int .u32 (R' 14), .int .u32 (R' 15)] 28) := ⟨_, rfl⟩
  obtain ⟨y4, hy4⟩ : ∃ y, y = y3.alloc (.cells #[.int .i64 p'.m, .int .i64 p'.k, .bool p'.ma, .bool p'.wa, .bool p'.pr, .int .i64 p'.co, .int .i64 p'.il, .int .i64 p'.cc, .int .i64 p'.pg, .int .i64 p'.ad] 30) := ⟨_, rfl⟩
  have s3 : y3.heap.size = w5.heap.size + 1 := by rw [hy3]; simp
  have b3 : Below w5.heap.size w5 y3 := by rw [hy3]; exact below_new _ _
  have b4 : Below y3.heap.size y3 y4 := by rw [hy4]; exact below_new _ _
  have r3 : Bx y4 w5.heap.size 28 #[.int .u32 (R' 0), .int .u32 (R' 1), .int .u32 (R' 2), .int .u32 (R' 3), .int .u32 (R' 4), .int .u32 (R' 5), .int .u32 (R' 6), .int .u32 (R' 7), .int .u32 (R' 8), .int .u32 (R' 9), .int .u32 (R' 10), .int .u32 (R' 11), .int .u32 (R' 12), .int .u32 (R' 13), .int .u32 (R' 14), .int .u32 (R' 15)] := by
    have h1 : Bx y3 w5.heap.size 28 #[.int .u32 (R' 0), .int .u32 (R' 1), .int .u32 (R' 2), .int .u32 (R' 3), .int .u32 (R' 4), .int .u32 (R' 5), .int .u32 (R' 6), .int .u32 (R' 7), .int .u32 (R' 8), .int .u32 (R' 9), .int .u32 (R' 10), .int .u32 (R' 11), .int .u32 (R' 12), .int .u32 (R' 13), .int .u32 (R' 14), .int .u32 (R' 15)] := by rw [hy3]; exact Bx.new w5 _ _
    exact h1.below b4
  have r4 : Bx y4 (w5.heap.size + 1) 30 #[.int .i64 p'.m, .int .i64 p'.k, .bool p'.ma, .bool p'.wa, .bool p'.pr, .int .i64 p'.co, .int .i64 p'.il, .int .i64 p'.cc, .int .i64 p'.pg, .int .i64 p'.ad] := by rw [hy4, ← s3]; exact Bx.new y3 _ _
  have HR6 := Lib.hid (And.intro r3 r4)
  have HST6 := Lib.hid (HST5.out.below (bel0 b3 b4))
  have HB6 := Lib.hid (bel0 HB5.out (bel0 b3 b4))
  have HK6 := Lib.hid (And.intro (HK5.out.1.below (bel0 b3 b4)) (HK5.out.2.below (bel0 b3 b4)))
  have HRW6 := Lib.hid (HRW5.out.below (bel0 b3 b4))
  rw [← hy3, ← hy4]
  clear hy3 hy4 s3 b3 b4 r3 r4 HST5 HB5 HK5 HRW5
  refine (size_any A g n y4 (HST6.out.1.cell 0)).mono ?_
  rintro e w6 ⟨rfl, rfl⟩
  go_wp2_with fail
  refine (byts_all A g h n m bs' ks _ HST6.out).mono ?_
  rintro e w7 ⟨v7, rfl, ho, hb⟩
  obtain ⟨BN, cN, rfl, -, hrow, hle', hcap'⟩ := hold_n ho HST6.out.2.2.2.1 (by omega)
  have HRN := Lib.hid hrow
  have HST7 := Lib.hid (HST6.out.below hb)
  have HB7 := Lib.hid (bel0 HB6.out hb)
  have HK7 := Lib.hid (And.intro (HK6.out.1.below hb) (HK6.out.2.below hb))
  have HR7 := Lib.hid (And.intro (HR6.out.1.below hb) (HR6.out.2.below hb))
  have HRW7 := Lib.hid (HRW6.out.below hb)
  clear ho hb hrow HST6 HB6 HK6 HR6 HRW6
  obtain ⟨B8, hB8⟩ : ∃ B, B = w5.heap.size := ⟨_, rfl⟩
  rw [← hB8] at HR7 ⊢
  clear hB8
  by_cases hbad : c' ≠ 0 ∧ c' ≠ 8
  · obtain ⟨hc0, hc8⟩ := hbad
    obtain ⟨rfl, rfl, rfl⟩ := HFA.out hc0 hc8
    have e0 : (c' == 0) = false := by simpa using hc0
    have e8 : (c' == 8) = false := by simpa using hc8
    have e0' : (c' != 0) = true := by simpa using hc0
    have e8' : (c' != 8) = true := by simpa using hc8
    have L1 := Lib.hid (run_loadVar_row (P := Tryz.prog) w7 B8 _ 28 _ _ _ HR7.out.1 Tryz.underlying28 rfl (by kernel_rfl))
    have L2 := Lib.hid (run_loadVar_row (P := Tryz.prog) w7 (B8 + 1) _ 30 _ _ _ HR7.out.2 Tryz.underlying30 rfl (by kernel_rfl))
    have L3 := Lib.hid (load_part HK7.out.2 0 #[.int .u32 (R' 0), .int .u32 (R' 1), .int .u32 (R' 2), .int .u32 (R' 3), .int .u32 (R' 4), .int .u32 (R' 5), .int .u32 (R' 6), .int .u32 (R' 7), .int .u32 (R' 8), .int .u32 (R' 9), .int .u32 (R' 10), .int .u32 (R' 11), .int .u32 (R' 12), .int .u32 (R' 13), .int .u32 (R' 14), .int .u32 (R' 15)] Tryz.underlying28 rfl (by kernel_rfl) (fun j hj => by
      have h16 : j < 16 := hj
      rcases lt16 h16 with rfl | rfl | rfl | rfl | rfl | rfl | rfl | rfl | rfl | rfl | rfl | rfl | rfl | rfl | rfl | rfl <;> rfl))
    have L4 := Lib.hid (load_part HK7.out.2 16 #[.int .i64 p'.m, .int .i64 p'.k, .bool p'.ma, .bool p'.wa, .bool p'.pr, .int .i64 p'.co, .int .i64 p'.il, .int .i64 p'.cc, .int .i64 p'.pg, .int .i64 p'.ad] Tryz.underlying30 rfl (by kernel_rfl) (fun j hj => by
      have h10 : j < 10 := hj
      rcases (by omega : j = 0 ∨ j = 1 ∨ j = 2 ∨ j = 3 ∨ j = 4 ∨ j = 5 ∨ j = 6 ∨ j = 7 ∨ j = 8 ∨ j = 9) with rfl | rfl | rfl | rfl | rfl | rfl | rfl | rfl | rfl | rfl <;> rfl))
    have HSM := Lib.hid (same_svb (w := w7) (u := .slice (some ⟨BW, 0, none⟩) n cW) (v := .slice (some ⟨BN, 0, none⟩) n cN) (l := bs') (row_sv HRW7.out (by have := HST7.out.2.2.2.1; omega) hle hcap) (row_sv HRN.out (by have := HST7.out.2.2.2.1; omega) hle' hcap'))
    clear HFA HFB HBRN HST7 HRW7 HRN
    go_wp2_with (first | (refine wpList_valW (by rfl) (exec_load 28 _ rfl ⟨B8, 0, none⟩ rfl L1.out) ?_) | (refine wpList_valW (by rfl) (exec_load 30 _ rfl ⟨B8 + 1, 0, none⟩ rfl L2.out) ?_) | (refine wpList_valW (by rfl) (exec_load 28 _ rfl ⟨w.heap.size + 1, 0, none⟩ rfl L3.out) ?_) | (refine wpList_valW (by rfl) (exec_load 30 _ rfl ⟨w.heap.size + 1, 16, none⟩ rfl L4.out) ?_))
    refine HSM.out.mono ?_
    rintro e w8 ⟨rfl, hb⟩
    have HBF := Lib.hid (bel0 HB7.out hb)
    clear hb HSM L1 L2 L3 L4
    go_wp2
    go_ret
    exact ⟨rfl, HBF.out⟩
  · have hc : c' = 0 ∨ c' = 8 := by omega
    obtain ⟨hfp, hfb⟩ := HFB.out hc
    obtain ⟨hpe, hcc, hpg, had, h4, hbr⟩ := hfp
    have HFBB := Lib.hid hfb.2
    have hfl := hfb.1
    obtain ⟨m', k', ma', wa', pr', co', il', cc', pg', ad'⟩ := p'
    obtain ⟨rfl, rfl, rfl, rfl, rfl, rfl, rfl⟩ := hpe
    have HPB := Lib.hid (And.intro hcc (And.intro hpg (And.intro had (And.intro h4 hbr))))
    clear hcc hpg had h4 hbr hfb HFA HFB hbad
    have HLN : Hid (bs.length = n ∧ bs'.length = n) := Lib.hid ⟨by rw [← hfl]; exact HST7.out.2.2.2.1, HST7.out.2.2.2.1⟩
    have HKEY := Lib.hid (fun X (hX : Below w7.heap.size w7 X) k hk => key_at A g h n m bs' ks k X (HST7.out.below hX) hk)
    rcases hc with rfl | rfl
    · go_wp2
      go_loopw [12] (fun i wr => ∃ k : Nat, k ≤ n ∧ i = .int .i64 (k : Int) ∧ Below w7.heap.size w7 wr) (fun i _ => n - (intOf i).toNat)
      case atStart => exact ⟨0, Nat.zero_le _, rfl, Below.refl _ _⟩
      case round =>
        obtain ⟨k, hk, rfl, hb⟩ := hrel
        by_cases hlt : k < n
        · have hlt' : (k : Int) < (n : Int) := by omega
          have HKY := Lib.hid (HKEY.out wr hb k hlt)
          have HBW := Lib.hid hb
          have HSTP := Lib.hid (HFBB.out k)
          clear hb
          go_wp2_with fail
          refine HKY.out.mono ?_
          rintro e w8 ⟨rfl, hb⟩
          have HBX := Lib.hid (bel0 HBW.out hb)
          clear hb HBW HKY
          have f1 := (HRW7.out.below HBX.out).cell k (by rw [bsU_len, HLN.out.1]; exact hlt)
          rw [bsU_get _ k (by rw [HLN.out.1]; exact hlt)] at f1
          have f2 := (HRN.out.below HBX.out).cell k (by rw [bsU_len, HLN.out.2]; exact hlt)
          rw [bsU_get _ k (by rw [HLN.out.2]; exact hlt)] at f2
          have f3 := (HK7.out.2.below HBX.out).cell 17
          simp only [List.getElem?_toArray, List.getElem?_cons_succ, List.getElem?_cons_zero] at f3
          by_cases heq : gt bs' k = gt bs k
          · rw [heq] at f2
            clear HSTP
            generalize (gt bs k).toNat = u at f1 f2
            generalize (gt ks (k / 2048)).toNat = v
            go_wp2
            go_quiet (fail)
            go_wp2
            go_roundw
            case rel => exact ⟨k + 1, hlt, by go_num, bel0 HBX.out (E.belowDraw _ _)⟩
            case measure => simp [intOf]; omega
          · have hs := HSTP.out heq
            have hne : (((gt bs k).toNat : Int) != ((gt bs' k).toNat : Int)) = true := by
              simp only [bne_iff_ne, ne_eq]
              intro e
              exact heq (UInt8.toNat_inj.1 (by omega))
            unfold stP at hs
            clear HSTP heq
            have hv := (gt ks (k / 2048)).toNat_lt
            generalize (gt ks (k / 2048)).toNat = v at hs hv ⊢
            generalize (gt bs k).toNat = u at f1 hne
            generalize (gt bs' k).toNat = u' at f2 hne
            by_cases hp0 : p.k = 0
            · have e1 : (p.k != 0) = false := by rw [hp0]; rfl
              have e2 : (p.k == 0) = true := by rw [hp0]; rfl
              clear hs hp0
              go_wp2
              go_quiet (fail)
              go_wp2
              go_roundw
              case rel => exact ⟨k + 1, hlt, by go_num, bel0 HBX.out (E.belowDraw _ _)⟩
              case measure => simp [intOf]; omega
            · have hpv : ((v : Int) / 2) = p.k := by
                simp only [Bool.or_eq_true, beq_iff_eq] at hs
                omega
              have e1 : (p.k != 0) = true := by simpa using hp0
              have e2 : ((v : Int) / 2 != p.k) = false := by rw [hpv]; simp
              have e3 : (Int.tdiv (v : Int) 2 != p.k) = false := by rw [Int.tdiv_eq_ediv_of_nonneg (by omega), hpv]; simp
              have hvI : (v : Int) < 256 := by omega
              clear hs hp0 hpv
              go_wp2
              go_quiet (fail)
              go_wp2
              go_roundw
              case rel => exact ⟨k + 1, hlt, by go_num, bel0 HBX.out (E.belowDraw _ _)⟩
              case measure => simp [intOf]; omega
        · obtain rfl : k = n := by omega
          have HBW := Lib.hid hb
          have HL9 := Lib.hid (run_loadVar_row (P := Tryz.prog) wr (B8 + 1) _ 30 _ _ _ (HR7.out.2.below hb) Tryz.underlying30 rfl (by kernel_rfl))
          have c0 := (HK7.out.1.below hb).cell 0
          have c23 := (HK7.out.2.below hb).cell 23
          have c24 := (HK7.out.2.below hb).cell 24
          have c25 := (HK7.out.2.below hb).cell 25
          have d7 := (HR7.out.2.below hb).cell 7
          have d8 := (HR7.out.2.below hb).cell 8
          have d9 := (HR7.out.2.below hb).cell 9
          simp only [List.getElem?_toArray, List.getElem?_cons_succ, List.getElem?_cons_zero] at c0 c23 c24 c25 d7 d8 d9
          have t1 := (HK7.out.1.below hb).lt
          have t2 := (HK7.out.2.below hb).lt
          have t3 := (HR7.out.2.below hb).lt
          have LSP := Lib.hid (fun X (hX : Below wr.heap.size wr X) => load_part (HK7.out.2.below (bel0 hb hX)) 16 #[.int .i64 p.m, .int .i64 p.k, .bool p.ma, .bool p.wa, .bool p.pr, .int .i64 p.co, .int .i64 p.il, .int .i64 p.cc, .int .i64 p.pg, .int .i64 p.ad] Tryz.underlying30 rfl (by kernel_rfl) (fun j hj => by
            have h10 : j < 10 := hj
            rcases (by omega : j = 0 ∨ j = 1 ∨ j = 2 ∨ j = 3 ∨ j = 4 ∨ j = 5 ∨ j = 6 ∨ j = 7 ∨ j = 8 ∨ j = 9) with rfl | rfl | rfl | rfl | rfl | rfl | rfl | rfl | rfl | rfl <;> rfl))
          obtain ⟨⟨g1, g2'⟩, ⟨g3, g4'⟩, ⟨g5, g6⟩, h4, hbr⟩ := HPB.out
          clear hb HKEY HFBB HRW7 HRN HST7 HK7 HR7
          by_cases ho4 : Q.op = 4
          · have had : ad' = p.ad := hbr (by rw [ho4]; rfl)
            subst had
            have e4 : (Q.op == 4) = true := by rw [ho4]; rfl
            clear hbr h4
            go_wp2_with (first | (refine wpList_valW (by rfl) (exec_load 30 _ rfl ⟨B8 + 1, 0, none⟩ rfl HL9.out) ?_))
            refine (br_any 4 _).mono ?_
            rw [show brI 4 = false by decide]
            rintro e w9 ⟨rfl, rfl⟩
            go_wp2_with (first | (refine wpList_valW (by rfl) (exec_load 30 _ rfl ⟨w.heap.size + 1, 16, none⟩ rfl (LSP.out _ (below_new _ _))) ?_))
            go_ret
            exact ⟨rfl, bel0 HB7.out (bel0 HBW.out (below_new _ _))⟩
          · have hpg := h4 ho4
            subst hpg
            have e4 : (Q.op == 4) = false := by simpa using ho4
            clear h4
            cases hb9 : brI Q.op with
            | true =>
              rw [hb9] at HBRN
              clear hbr
              go_wp2_with (first | (refine wpList_valW (by rfl) (exec_load 30 _ rfl ⟨B8 + 1, 0, none⟩ rfl HL9.out) ?_))
              refine (HBRN.out _).mono ?_
              rintro e w9 ⟨rfl, rfl⟩
              go_wp2_with (first | (refine wpList_valW (by rfl) (exec_load 30 _ rfl ⟨w.heap.size + 1, 16, none⟩ rfl (LSP.out _ (below_new _ _))) ?_))
              go_ret
              exact ⟨rfl, bel0 HB7.out (bel0 HBW.out (below_new _ _))⟩
            | false =>
              rw [hb9] at HBRN
              have had := hbr hb9
              subst had
              clear hbr
              go_wp2_with (first | (refine wpList_valW (by rfl) (exec_load 30 _ rfl ⟨B8 + 1, 0, none⟩ rfl HL9.out) ?_))
              refine (HBRN.out _).mono ?_
              rintro e w9 ⟨rfl, rfl⟩
              go_wp2_with (first | (refine wpList_valW (by rfl) (exec_load 30 _ rfl ⟨w.heap.size + 1, 16, none⟩ rfl (LSP.out _ (below_new _ _))) ?_))
              go_ret
              exact ⟨rfl, bel0 HB7.out (bel0 HBW.out (below_new _ _))⟩
    · go_wp2
      go_loopw [12] (fun i wr => ∃ k : Nat, k ≤ n ∧ i = .int .i64 (k : Int) ∧ Below w7.heap.size w7 wr) (fun i _ => n - (intOf i).toNat)
      case atStart => exact ⟨0, Nat.zero_le _, rfl, Below.refl _ _⟩
      case round =>
        obtain ⟨k, hk, rfl, hb⟩ := hrel
        by_cases hlt : k < n
        · have hlt' : (k : Int) < (n : Int) := by omega
          have HKY := Lib.hid (HKEY.out wr hb k hlt)
          have HBW := Lib.hid hb
          have HSTP := Lib.hid (HFBB.out k)
          clear hb
          go_wp2_with fail
          refine HKY.out.mono ?_
          rintro e w8 ⟨rfl, hb⟩
          have HBX := Lib.hid (bel0 HBW.out hb)
          clear hb HBW HKY
          have f1 := (HRW7.out.below HBX.out).cell k (by rw [bsU_len, HLN.out.1]; exact hlt)
          rw [bsU_get _ k (by rw [HLN.out.1]; exact hlt)] at f1
          have f2 := (HRN.out.below HBX.out).cell k (by rw [bsU_len, HLN.out.2]; exact hlt)
          rw [bsU_get _ k (by rw [HLN.out.2]; exact hlt)] at f2
          have f3 := (HK7.out.2.below HBX.out).cell 17
          simp only [List.getElem?_toArray, List.getElem?_cons_succ, List.getElem?_cons_zero] at f3
          by_cases heq : gt bs' k = gt bs k
          · rw [heq] at f2
            clear HSTP
            generalize (gt bs k).toNat = u at f1 f2
            generalize (gt ks (k / 2048)).toNat = v
            go_wp2
            go_quiet (fail)
            go_wp2
            go_roundw
            case rel => exact ⟨k + 1, hlt, by go_num, bel0 HBX.out (E.belowDraw _ _)⟩
            case measure => simp [intOf]; omega
          · have hs := HSTP.out heq
            have hne : (((gt bs k).toNat : Int) != ((gt bs' k).toNat : Int)) = true := by
              simp only [bne_iff_ne, ne_eq]
              intro e
              exact heq (UInt8.toNat_inj.1 (by omega))
            unfold stP at hs
            clear HSTP heq
            have hv := (gt ks (k / 2048)).toNat_lt
            generalize (gt ks (k / 2048)).toNat = v at hs hv ⊢
            generalize (gt bs k).toNat = u at f1 hne
            generalize (gt bs' k).toNat = u' at f2 hne
            by_cases hp0 : p.k = 0
            · have e1 : (p.k != 0) = false := by rw [hp0]; rfl
              have e2 : (p.k == 0) = true := by rw [hp0]; rfl
              clear hs hp0
              go_wp2
              go_quiet (fail)
              go_wp2
              go_roundw
              case rel => exact ⟨k + 1, hlt, by go_num, bel0 HBX.out (E.belowDraw _ _)⟩
              case measure => simp [intOf]; omega
            · have hpv : ((v : Int) / 2) = p.k := by
                simp only [Bool.or_eq_true, beq_iff_eq] at hs
                omega
              have e1 : (p.k != 0) = true := by simpa using hp0
              have e2 : ((v : Int) / 2 != p.k) = false := by rw [hpv]; simp
              have e3 : (Int.tdiv (v : Int) 2 != p.k) = false := by rw [Int.tdiv_eq_ediv_of_nonneg (by omega), hpv]; simp
              have hvI : (v : Int) < 256 := by omega
              clear hs hp0 hpv
              go_wp2
              go_quiet (fail)
              go_wp2
              go_roundw
              case rel => exact ⟨k + 1, hlt, by go_num, bel0 HBX.out (E.belowDraw _ _)⟩
              case measure => simp [intOf]; omega
        · obtain rfl : k = n := by omega
          have HBW := Lib.hid hb
          have HL9 := Lib.hid (run_loadVar_row (P := Tryz.prog) wr (B8 + 1) _ 30 _ _ _ (HR7.out.2.below hb) Tryz.underlying30 rfl (by kernel_rfl))
          have c0 := (HK7.out.1.below hb).cell 0
          have c23 := (HK7.out.2.below hb).cell 23
          have c24 := (HK7.out.2.below hb).cell 24
          have c25 := (HK7.out.2.below hb).cell 25
          have d7 := (HR7.out.2.below hb).cell 7
          have d8 := (HR7.out.2.below hb).cell 8
          have d9 := (HR7.out.2.below hb).cell 9
          simp only [List.getElem?_toArray, List.getElem?_cons_succ, List.getElem?_cons_zero] at c0 c23 c24 c25 d7 d8 d9
          have t1 := (HK7.out.1.below hb).lt
          have t2 := (HK7.out.2.below hb).lt
          have t3 := (HR7.out.2.below hb).lt
          have LSP := Lib.hid (fun X (hX : Below wr.heap.size wr X) => load_part (HK7.out.2.below (bel0 hb hX)) 16 #[.int .i64 p.m, .int .i64 p.k, .bool p.ma, .bool p.wa, .bool p.pr, .int .i64 p.co, .int .i64 p.il, .int .i64 p.cc, .int .i64 p.pg, .int .i64 p.ad] Tryz.underlying30 rfl (by kernel_rfl) (fun j hj => by
            have h10 : j < 10 := hj
            rcases (by omega : j = 0 ∨ j = 1 ∨ j = 2 ∨ j = 3 ∨ j = 4 ∨ j = 5 ∨ j = 6 ∨ j = 7 ∨ j = 8 ∨ j = 9) with rfl | rfl | rfl | rfl | rfl | rfl | rfl | rfl | rfl | rfl <;> rfl))
          obtain ⟨⟨g1, g2'⟩, ⟨g3, g4'⟩, ⟨g5, g6⟩, h4, hbr⟩ := HPB.out
          clear hb HKEY HFBB HRW7 HRN HST7 HK7 HR7
          by_cases ho4 : Q.op = 4
          · have had : ad' = p.ad := hbr (by rw [ho4]; rfl)
            subst had
            have e4 : (Q.op == 4) = true := by rw [ho4]; rfl
            clear hbr h4
            go_wp2_with (first | (refine wpList_valW (by rfl) (exec_load 30 _ rfl ⟨B8 + 1, 0, none⟩ rfl HL9.out) ?_))
            refine (br_any 4 _).mono ?_
            rw [show brI 4 = false by decide]
            rintro e w9 ⟨rfl, rfl⟩
            go_wp2_with (first | (refine wpList_valW (by rfl) (exec_load 30 _ rfl ⟨w.heap.size + 1, 16, none⟩ rfl (LSP.out _ (below_new _ _))) ?_))
            go_ret
            exact ⟨rfl, bel0 HB7.out (bel0 HBW.out (below_new _ _))⟩
          · have hpg := h4 ho4
            subst hpg
            have e4 : (Q.op == 4) = false := by simpa using ho4
            clear h4
            cases hb9 : brI Q.op with
            | true =>
              rw [hb9] at HBRN
              clear hbr
              go_wp2_with (first | (refine wpList_valW (by rfl) (exec_load 30 _ rfl ⟨B8 + 1, 0, none⟩ rfl HL9.out) ?_))
              refine (HBRN.out _).mono ?_
              rintro e w9 ⟨rfl, rfl⟩
              go_wp2_with (first | (refine wpList_valW (by rfl) (exec_load 30 _ rfl ⟨w.heap.size + 1, 16, none⟩ rfl (LSP.out _ (below_new _ _))) ?_))
              go_ret
              exact ⟨rfl, bel0 HB7.out (bel0 HBW.out (below_new _ _))⟩
            | false =>
              rw [hb9] at HBRN
              have had := hbr hb9
              subst had
              clear hbr
              go_wp2_with (first | (refine wpList_valW (by rfl) (exec_load 30 _ rfl ⟨B8 + 1, 0, none⟩ rfl HL9.out) ?_))
              refine (HBRN.out _).mono ?_
              rintro e w9 ⟨rfl, rfl⟩
              go_wp2_with (first | (refine wpList_valW (by rfl) (exec_load 30 _ rfl ⟨w.heap.size + 1, 16, none⟩ rfl (LSP.out _ (below_new _ _))) ?_))
              go_ret
              exact ⟨rfl, bel0 HB7.out (bel0 HBW.out (below_new _ _))⟩

end M
end Go.Proofs.YtfopjnfphlkcgaaGreat

/- The walk of the statement DecopsChanges. -/
import Derived.Test.YtbcncohjjnmdcaaGreatDoorRows
import Derived.Test.YtbcncohjjnmdcaaGreatDoorWkDc79
import Derived.Test.YtbcncohjjnmdcaaGreatDoorWkDcA
import Derived.Test.YtbcncohjjnmdcaaGreatDoorWkDcB
namespace Go.Proofs.YtbcncohjjnmdcaaGreatDoor
namespace E
end E
open Go.RowKit Go.Shelf E
set_option linter.unusedVariables false
namespace M

theorem cut_go {P : Program} {c : Code} {Q : Exit → Act → World → Prop} {a : Act} {w : World} (f : (Nat → Value) → Act) (h : a = f (fun i => a.tmps.getD i undef)) (k : ∀ u, Code.wp P c Q (f u) w) : Code.wp P c Q a w := by
  rw [h]
  exact k _
attribute [local go_sem 5000] regs_self psw_self
set_option maxRecDepth 100000 in
set_option maxHeartbeats 8000000 in
theorem wk_changes (Q : Ins) (R : Nat → Int) (p : Psw) (x y z : Value) (w : World) (hg : RegOk R ∧ MemAt w x y z) (hsg : Sg w) : Calls Tryz.prog 7 #[Q.val, .agg ((regA R).toList ++ (pswA p).toList ++ [x, y, z]).toArray] w (New w (.bool true)) := by
  obtain ⟨hR, hM⟩ := hg
  obtain ⟨wA, hwA⟩ : ∃ W, W = w.alloc (.cells #[.int .i64 Q.op, .int .i64 Q.fo, .int .i64 Q.r1, .int .i64 Q.r2, .int .i64 Q.x2, .int .i64 Q.b1, .int .i64 Q.d1, .int .i64 Q.b2, .int .i64 Q.d2, .int .i64 Q.l1, .int .i64 Q.l2, .int .i64 Q.i2] 25) := ⟨_, rfl⟩
  obtain ⟨wB, hwB⟩ : ∃ W, W = wA.alloc (.cells #[.int .u32 (R 0), .int .u32 (R 1), .int .u32 (R 2), .int .u32 (R 3), .int .u32 (R 4), .int .u32 (R 5), .int .u32 (R 6), .int .u32 (R 7), .int .u32 (R 8), .int .u32 (R 9), .int .u32 (R 10), .int .u32 (R 11), .int .u32 (R 12), .int .u32 (R 13), .int .u32 (R 14), .int .u32 (R 15), .int .i64 p.m, .int .i64 p.k, .bool p.ma, .bool p.wa, .bool p.pr, .int .i64 p.co, .int .i64 p.il, .int .i64 p.cc, .int .i64 p.pg, .int .i64 p.ad, x, y, z] 36) := ⟨_, rfl⟩
  have sA : wA.heap.size = w.heap.size + 1 := by rw [hwA]; simp
  have bA : Below w.heap.size w wA := by rw [hwA]; exact below_new _ _
  have bB : Below wA.heap.size wA wB := by rw [hwB]; exact below_new _ _
  have KI : Bx wB w.heap.size 25 #[.int .i64 Q.op, .int .i64 Q.fo, .int .i64 Q.r1, .int .i64 Q.r2, .int .i64 Q.x2, .int .i64 Q.b1, .int .i64 Q.d1, .int .i64 Q.b2, .int .i64 Q.d2, .int .i64 Q.l1, .int .i64 Q.l2, .int .i64 Q.i2] := by
    have h1 : Bx wA w.heap.size 25 #[.int .i64 Q.op, .int .i64 Q.fo, .int .i64 Q.r1, .int .i64 Q.r2, .int .i64 Q.x2, .int .i64 Q.b1, .int .i64 Q.d1, .int .i64 Q.b2, .int .i64 Q.d2, .int .i64 Q.l1, .int .i64 Q.l2, .int .i64 Q.i2] := by rw [hwA]; exact Bx.new w _ _
    exact h1.below bB
  have KS : Bx wB (w.heap.size + 1) 36 #[.int .u32 (R 0), .int .u32 (R 1), .int .u32 (R 2), .int .u32 (R 3), .int .u32 (R 4), .int .u32 (R 5), .int .u32 (R 6), .int .u32 (R 7), .int .u32 (R 8), .int .u32 (R 9), .int .u32 (R 10), .int .u32 (R 11), .int .u32 (R 12), .int .u32 (R 13), .int .u32 (R 14), .int .u32 (R 15), .int .i64 p.m, .int .i64 p.k, .bool p.ma, .bool p.wa, .bool p.pr, .int .i64 p.co, .int .i64 p.il, .int .i64 p.cc, .int .i64 p.pg, .int .i64 p.ad, x, y, z] := by rw [hwB, ← sA]; exact Bx.new wA _ _
  have HK := Lib.hid (And.intro KI KS)
  have HB0 := Lib.hid (bel0 bA bB)
  have HWD := Lib.hid (And.intro hwA hwB)
  have HBU := Lib.hid (build_any x y z wB (mem_below hM (bel0 bA bB)))
  have HLM := Lib.hid (load_part KS 26 #[x, y, z] Tryz.underlying34 rfl (by kernel_rfl) (fun j hj => by
    have h3 : j < 3 := hj
    rcases (by omega : j = 0 ∨ j = 1 ∨ j = 2) with rfl | rfl | rfl <;> rfl))
  have HSG := Lib.hid hsg
  have HRO := Lib.hid hR
  have HEX := Lib.hid (fun n bs ks (hl : bs.length = n) (hn : n ≤ 16777216) => exec_any Q R p n bs ks hR hl hn)
  obtain ⟨BI, hBI⟩ : ∃ B, B = w.heap.size := ⟨_, rfl⟩
  have HBI : Hid (BI = w.heap.size ∧ BI + 2 ≤ wB.heap.size) := Lib.hid ⟨hBI, by rw [hwB]; simp; omega⟩
  clear hM hR sA bA bB KI KS hwA hwB hBI hsg
  unfold Ins.val
  unfold regA pswA
  simp only [List.cons_append, List.nil_append]
  go_enter Tryz.func7, Tryz.ntmps7
  go_wp2_with (refine wpList_valW (by rfl) (exec_load 34 _ rfl ⟨w.heap.size + 1, 26, none⟩ rfl (by rw [← HWD.out.1, ← HWD.out.2]; exact HLM.out)) ?_)
  rw [← HWD.out.1, ← HWD.out.2]
  refine HBU.out.mono ?_
  rintro e w1 ⟨A, g, h, A2, g2, h2, n, m, bs, ks, rfl, hst, hrf, hg1, hg2, hgn, hb⟩
  have HST := Lib.hid hst
  have HG : Hid (w.heap.size ≤ g ∧ BI ≠ g ∧ BI + 1 ≠ g) := Lib.hid (by have := HB0.out.size; have := HBI.out; omega)
  have HB1 := Lib.hid (bel0 HB0.out hb)
  have HK1 := Lib.hid (And.intro (HK.out.1.below hb) (HK.out.2.below hb))
  obtain ⟨R', p', c', bs', hA, hB, hE⟩ := HEX.out n bs ks hst.2.2.2.1 (by have := hst.nums; omega)
  have HE := Lib.hid hE
  have HFA := Lib.hid hA
  have HFB := Lib.hid hB
  have hn1 : 2048 ≤ n := by have := hst.nums; omega
  have hn2 : n ≤ 65536 := by have := hst.nums; omega
  clear hst hrf hg1 hg2 hgn hb hA hB hE HBU HB0 HK HWD HLM HEX
  go_wp2_with fail
  refine (works_any _ (HSG.out.below HB1.out)).mono ?_
  rintro e w2 ⟨rfl, hb⟩
  have HST2 := Lib.hid (HST.out.below hb)
  have HB2 := Lib.hid (bel0 HB1.out hb)
  have HK2 := Lib.hid (And.intro (HK1.out.1.below hb) (HK1.out.2.below hb))
  clear hb HST HB1 HK1
  go_wp2_with fail
  refine (size_any A g n w2 (HST2.out.1.cell 0)).mono ?_
  rintro e w3 ⟨rfl, rfl⟩
  go_wp2_with fail
  refine (byts_all A g h n m bs ks _ HST2.out).mono ?_
  rintro e w4 ⟨v4, rfl, ho, hb⟩
  obtain ⟨BW, cW, rfl, -, hrow, hle, hcap⟩ := hold_n ho HST2.out.2.2.2.1 (by omega)
  have HRW := Lib.hid hrow
  have HST4 := Lib.hid (HST2.out.below hb)
  have HB4 := Lib.hid (bel0 HB2.out hb)
  have HK4 := Lib.hid (And.intro (HK2.out.1.below hb) (HK2.out.2.below hb))
  have HGW : Hid (BW ≠ g) := Lib.hid (by
    have h1 := HST2.out.2.1.lt
    have h2 := ho.2
    rcases h2 with ⟨h3, -⟩ | ⟨g9, _, _, h3, h4, _⟩
    · cases h3
    · cases h3
      omega)
  clear ho hb hrow HST2 HB2 HK2
  have L1 := Lib.hid (run_loadVar_row (P := Tryz.prog) w4 w.heap.size _ 25 _ _ _ HK4.out.1 Tryz.underlying25 rfl (by kernel_rfl))
  have L2 := Lib.hid (load_part HK4.out.2 0 #[.int .u32 (R 0), .int .u32 (R 1), .int .u32 (R 2), .int .u32 (R 3), .int .u32 (R 4), .int .u32 (R 5), .int .u32 (R 6), .int .u32 (R 7), .int .u32 (R 8), .int .u32 (R 9), .int .u32 (R 10), .int .u32 (R 11), .int .u32 (R 12), .int .u32 (R 13), .int .u32 (R 14), .int .u32 (R 15)] Tryz.underlying28 rfl (by kernel_rfl) (fun j hj => by
    have h16 : j < 16 := hj
    rcases lt16 h16 with rfl | rfl | rfl | rfl | rfl | rfl | rfl | rfl | rfl | rfl | rfl | rfl | rfl | rfl | rfl | rfl <;> rfl))
  have L3 := Lib.hid (load_part HK4.out.2 16 #[.int .i64 p.m, .int .i64 p.k, .bool p.ma, .bool p.wa, .bool p.pr, .int .i64 p.co, .int .i64 p.il, .int .i64 p.cc, .int .i64 p.pg, .int .i64 p.ad] Tryz.underlying30 rfl (by kernel_rfl) (fun j hj => by
    have h10 : j < 10 := hj
    rcases (by omega : j = 0 ∨ j = 1 ∨ j = 2 ∨ j = 3 ∨ j = 4 ∨ j = 5 ∨ j = 6 ∨ j = 7 ∨ j = 8 ∨ j = 9) with rfl | rfl | rfl | rfl | rfl | rfl | rfl | rfl | rfl | rfl <;> rfl))
  go_wp2_with (first | (refine wpList_valW (by rfl) (exec_load 25 _ rfl ⟨w.heap.size, 0, none⟩ rfl L1.out) ?_) | (refine wpList_valW (by rfl) (exec_load 28 _ rfl ⟨w.heap.size + 1, 0, none⟩ rfl L2.out) ?_) | (refine wpList_valW (by rfl) (exec_load 30 _ rfl ⟨w.heap.size + 1, 16, none⟩ rfl L3.out) ?_))
  refine (HE.out A g h m w4 HST4.out (HSG.out.below HB4.out)).mono ?_
  rintro e w5 ⟨rfl, hs5, hk5⟩
  unfold refA regA pswA
  have HST5 := Lib.hid hs5
  have HB5 := Lib.hid (Kp.below HB4.out hk5 (by simpa using HG.out.1))
  have HK5 := Lib.hid (And.intro (HK4.out.1.kp hk5 (by rw [← HBI.out.1]; simpa using HG.out.2.1)) (HK4.out.2.kp hk5 (by rw [← HBI.out.1]; simpa using HG.out.2.2)))
  have HRW5 := Lib.hid (HRW.out.kp hk5 (by simpa using HGW.out))
  clear hs5 hk5 HST4 HB4 HK4 HRW HE L1 L2 L3 HG HGW HSG
  go_wp2_with fail
  obtain ⟨y3, hy3⟩ : ∃ y, y = w5.alloc (.cells #[.int .u32 (R' 0), .int .u32 (R' 1), .int .u32 (R' 2), .int .u32 (R' 3), .int .u32 (R' 4), .int .u32 (R' 5), .int .u32 (R' 6), .int .u32 (R' 7), .int .u32 (R' 8), .int .u32 (R' 9), .int .u32 (R' 10), .int .u32 (R' 11), .int .u32 (R' 12), .int .u32 (R' 13), .int .u32 (R' 14), .int .u32 (R' 15)] 28) := ⟨_, rfl⟩
  obtain ⟨y4, hy4⟩ : ∃ y, y = y3.alloc (.cells #[.int .i64 p'.m, .int .i64 p'.k, .bool p'.ma, .bool p'.wa, .bool p'.pr, .int .i64 p'.co, .int .i64 p'.il, .int .i64 p'.cc, .int .i64 p'.pg, .int .i64 p'.ad] 30) := ⟨_, rfl⟩
  have s3 : y3.heap.size = w5.heap.size + 1 := by rw [hy3]; simp
  have b3 : Below w5.heap.size w5 y3 := by rw [hy3]; exact below_new _ _
  have b4 : Below y3.heap.size y3 y4 := by rw [hy4]; exact below_new _ _
  have r3 : Bx y4 w5.heap.size 28 #[.int .u32 (R' 0), .int .u32 (R' 1), .int .u32 (R' 2), .int .u32 (R' 3), .int .u32 (R' 4), .int .u32 (R' 5), .int .u32 (R' 6), .int .u32 (R' 7), .int .u32 (R' 8), .int .u32 (R' 9), .int .u32 (R' 10), .int .u32 (R' 11), .int .u32 (R' 12), .int .u32 (R' 13), .int .u32 (R' 14), .int .u32 (R' 15)] := by
    have h1 : Bx y3 w5.heap.size 28 #[.int .u32 (R' 0), .int .u32 (R' 1), .int .u32 (R' 2), .int .u32 (R' 3), .int .u32 (R' 4), .int .u32 (R' 5), .int .u32 (R' 6), .int .u32 (R' 7), .int .u32 (R' 8), .int .u32 (R' 9), .int .u32 (R' 10), .int .u32 (R' 11), .int .u32 (R' 12), .int .u32 (R' 13), .int .u32 (R' 14), .int .u32 (R' 15)] := by rw [hy3]; exact Bx.new w5 _ _
    exact h1.below b4
  have r4 : Bx y4 (w5.heap.size + 1) 30 #[.int .i64 p'.m, .int .i64 p'.k, .bool p'.ma, .bool p'.wa, .bool p'.pr, .int .i64 p'.co, .int .i64 p'.il, .int .i64 p'.cc, .int .i64 p'.pg, .int .i64 p'.ad] := by rw [hy4, ← s3]; exact Bx.new y3 _ _
  have HR6 := Lib.hid (And.intro r3 r4)
  have HST6 := Lib.hid (HST5.out.below (bel0 b3 b4))
  have HB6 := Lib.hid (bel0 HB5.out (bel0 b3 b4))
  have HK6 := Lib.hid (And.intro (HK5.out.1.below (bel0 b3 b4)) (HK5.out.2.below (bel0 b3 b4)))
  have HRW6 := Lib.hid (HRW5.out.below (bel0 b3 b4))
  rw [← hy3, ← hy4]
  clear hy3 hy4 s3 b3 b4 r3 r4 HST5 HB5 HK5 HRW5
  refine (size_any A g n y4 (HST6.out.1.cell 0)).mono ?_
  rintro e w6 ⟨rfl, rfl⟩
  go_wp2_with fail
  refine (byts_all A g h n m bs' ks _ HST6.out).mono ?_
  rintro e w7 ⟨v7, rfl, ho, hb⟩
  obtain ⟨BN, cN, rfl, -, hrow, hle', hcap'⟩ := hold_n ho HST6.out.2.2.2.1 (by omega)
  have HRN := Lib.hid hrow
  have HST7 := Lib.hid (HST6.out.below hb)
  have HB7 := Lib.hid (bel0 HB6.out hb)
  have HK7 := Lib.hid (And.intro (HK6.out.1.below hb) (HK6.out.2.below hb))
  have HR7 := Lib.hid (And.intro (HR6.out.1.below hb) (HR6.out.2.below hb))
  have HRW7 := Lib.hid (HRW6.out.below hb)
  clear ho hb hrow HST6 HB6 HK6 HR6 HRW6
  obtain ⟨B8, hB8⟩ : ∃ B, B = w5.heap.size := ⟨_, rfl⟩
  rw [← hB8] at HR7 ⊢
  clear hB8 HBI
  obtain ⟨I, hI⟩ : ∃ I, I = w.heap.size := ⟨_, rfl⟩
  rw [← hI] at HK7 ⊢
  obtain ⟨T, hT⟩ : ∃ T, T = I + 1 := ⟨_, rfl⟩
  rw [← hT] at HK7 ⊢
  clear hT hI
  by_cases hbad : c' ≠ 0 ∧ c' ≠ 10
  · obtain ⟨hc0, hc8⟩ := hbad
    obtain ⟨rfl, rfl, rfl⟩ := HFA.out hc0 hc8
    have e0' : (c' != 0) = true := by simpa using hc0
    have e8' : (c' != 10) = true := by simpa using hc8
    have L1 := Lib.hid (run_loadVar_row (P := Tryz.prog) w7 B8 _ 28 _ _ _ HR7.out.1 Tryz.underlying28 rfl (by kernel_rfl))
    have L2 := Lib.hid (run_loadVar_row (P := Tryz.prog) w7 (B8 + 1) _ 30 _ _ _ HR7.out.2 Tryz.underlying30 rfl (by kernel_rfl))
    have L3 := Lib.hid (sta_regs HK7.out.2)
    have L4 := Lib.hid (sta_psw HK7.out.2)
    have HSM := Lib.hid (same_svb (w := w7) (u := .slice (some ⟨BW, 0, none⟩) n cW) (v := .slice (some ⟨BN, 0, none⟩) n cN) (l := bs') (row_sv HRW7.out (by have := HST7.out.2.2.2.1; omega) hle hcap) (row_sv HRN.out (by have := HST7.out.2.2.2.1; omega) hle' hcap'))
    clear HFA HFB HST7 HRW7 HRN
    go_wp2_with (first | (refine wpList_valW (by rfl) (exec_load 28 _ rfl ⟨B8, 0, none⟩ rfl L1.out) ?_) | (refine wpList_valW (by rfl) (exec_load 30 _ rfl ⟨B8 + 1, 0, none⟩ rfl L2.out) ?_) | (refine wpList_valW (by rfl) (exec_load 28 _ rfl ⟨T, 0, none⟩ rfl L3.out) ?_) | (refine wpList_valW (by rfl) (exec_load 30 _ rfl ⟨T, 16, none⟩ rfl L4.out) ?_))
    refine HSM.out.mono ?_
    rintro e w8 ⟨rfl, rfl⟩
    have HBF := HB7
    clear HSM L1 L2 L3 L4
    go_wp2
    go_ret
    exact ⟨rfl, HBF.out⟩
  · have hc : c' = 0 ∨ c' = 10 := by omega
    obtain ⟨q, rfl, hq, hfp, hfb, hfr⟩ := HFB.out hc
    obtain ⟨hpe, hcc0, hcc3⟩ := hfp
    have HFBB := Lib.hid hfb.2
    have hfl := hfb.1
    obtain ⟨m', k', ma', wa', pr', co', il', cc', pg', ad'⟩ := p'
    obtain ⟨rfl, rfl, rfl, rfl, rfl, rfl, rfl, rfl, rfl⟩ := hpe
    have HCC : Hid (0 ≤ cc' ∧ cc' ≤ 3) := Lib.hid ⟨hcc0, hcc3⟩
    have HFR := Lib.hid hfr
    have HQ := Lib.hid hq
    clear hcc0 hcc3 hfb hfr hq HFA HFB hbad
    have HLN : Hid (bs.length = n ∧ bs'.length = n) := Lib.hid ⟨by rw [← hfl]; exact HST7.out.2.2.2.1, HST7.out.2.2.2.1⟩
    have HKEY := Lib.hid (fun X (hX : Below w7.heap.size w7 X) k hk => key_at A g h n m bs' ks k X (HST7.out.below hX) hk)
    have KS7 : Hid (Sk w7 I T q R p x y z w7) := Lib.hid ⟨Below.refl _ _, HK7.out.1, HK7.out.2⟩
    have KS8 : Hid (Sk w7 I T q R p x y z w7.drew) := Lib.hid (KS7.out.next (bel_drew _))
    have HBS := Lib.hid (fun k (hk : k < 16) W => base_any R k hk W HRO.out)
    unfold regA at HBS
    have HA1 : Hid (IntKind.i64.wrap (bsV R q.b1 + (q.d1 : Int)) = bsV R q.b1 + (q.d1 : Int) ∧ (bsV R q.b1 + (q.d1 : Int)).tmod 16777216 = (adF q R : Int)) := Lib.hid (by
      have h1 := bsV_bd HRO.out q.b1
      have h2 := HQ.out.d1
      refine ⟨wrap_i64s (by omega) (by omega), ?_⟩
      rw [Int.tmod_eq_emod_of_nonneg (by omega)]
      exact adF_base HRO.out q h2)
    have HTO : Hid (wrap64 (wrap64 ((adF q R : Int) + (q.l1 : Int)) + 1) = ((adF q R + (q.l1 + 1) : Nat) : Int)) := Lib.hid (by
      have h1 := adF_lt q R
      have h2 := HQ.out.l1
      unfold wrap64
      omega)
    clear HK7 KS7 hfl
    rcases hc with rfl | rfl
    · go_wp2_with fail
      refine wp_region_held_drew (S := Sk w7 I T q R p x y z) (by kernel_rfl) KS8.out (fun k0 => ?_)
      show wpAnyH _ _ _ _ _ 10 #[false, false, false, false, false, false, false, false, false, false] _ _
      refine wpAnyH_take (i := 0) (oi := { dst := some 71, op := Go.Op.fieldAddr 36 (Go.Operand.tmp 3) 0, type := 0, pos := "outright.go:30", after := #[], guard := none }) (v := .pointer (some ⟨T, 0, none⟩)) rfl (by kernel_rfl) (by kernel_rfl) (by kernel_rfl) (fun _ _ _ h => h) (Or.inl ⟨by rfl, fun W hSw => by (try dsimp only at hSw); go_simp⟩) k0 ?_
      try simp only [Act.put, List.setIfInBounds_toArray, List.set_cons_zero, List.set_cons_succ]
      refine wpAnyH_take (i := 1) (oi := { dst := some 72, op := Go.Op.load 28 (Go.Operand.tmp 71), type := 28, pos := "outright.go:30", after := #[{ on := 0, ground := Go.Ground.data }], guard := none }) (v := .agg #[.int .u32 (R 0), .int .u32 (R 1), .int .u32 (R 2), .int .u32 (R 3), .int .u32 (R 4), .int .u32 (R 5), .int .u32 (R 6), .int .u32 (R 7), .int .u32 (R 8), .int .u32 (R 9), .int .u32 (R 10), .int .u32 (R 11), .int .u32 (R 12), .int .u32 (R 13), .int .u32 (R 14), .int .u32 (R 15)]) rfl (by kernel_rfl) (by kernel_rfl) (by kernel_rfl) (fun _ _ _ h => h) (Or.inl ⟨by rfl, fun W hSw => exec_load _ _ rfl _ rfl (sta_regs hSw.st)⟩) k0 ?_
      try simp only [Act.put, List.setIfInBounds_toArray, List.set_cons_zero, List.set_cons_succ]
      refine wpAnyH_take (i := 2) (oi := { dst := some 73, op := Go.Op.fieldAddr 25 (Go.Operand.tmp 2) 5, type := 0, pos := "outright.go:30", after := #[], guard := none }) (v := .pointer (some ⟨I, 5, none⟩)) rfl (by kernel_rfl) (by kernel_rfl) (by kernel_rfl) (fun _ _ _ h => h) (Or.inl ⟨by rfl, fun W hSw => by (try dsimp only at hSw); go_simp⟩) k0 ?_
      try simp only [Act.put, List.setIfInBounds_toArray, List.set_cons_zero, List.set_cons_succ]
      refine wpAnyH_take (i := 3) (oi := { dst := some 74, op := Go.Op.load 3 (Go.Operand.tmp 73), type := 3, pos := "outright.go:30", after := #[{ on := 2, ground := Go.Ground.data }], guard := none }) (v := .int .i64 (q.b1 : Int)) rfl (by kernel_rfl) (by kernel_rfl) (by kernel_rfl) (fun _ _ _ h => h) (Or.inl ⟨by rfl, fun W hSw => by have cq := hSw.i5; clear hSw; go_simp⟩) k0 ?_
      try simp only [Act.put, List.setIfInBounds_toArray, List.set_cons_zero, List.set_cons_succ]
      refine wpAnyH_take (i := 5) (oi := { dst := some 76, op := Go.Op.fieldAddr 25 (Go.Operand.tmp 2) 6, type := 0, pos := "outright.go:30", after := #[], guard := none }) (v := .pointer (some ⟨I, 6, none⟩)) rfl (by kernel_rfl) (by kernel_rfl) (by kernel_rfl) (fun _ _ _ h => h) (Or.inl ⟨by rfl, fun W hSw => by (try dsimp only at hSw); go_simp⟩) k0 ?_
      try simp only [Act.put, List.setIfInBounds_toArray, List.set_cons_zero, List.set_cons_succ]
      refine wpAnyH_take (i := 6) (oi := { dst := some 77, op := Go.Op.load 3 (Go.Operand.tmp 76), type := 3, pos := "outright.go:30", after := #[{ on := 5, ground := Go.Ground.data }], guard := none }) (v := .int .i64 (q.d1 : Int)) rfl (by kernel_rfl) (by kernel_rfl) (by kernel_rfl) (fun _ _ _ h => h) (Or.inl ⟨by rfl, fun W hSw => by have cq := hSw.i6; clear hSw; go_simp⟩) k0 ?_
      try simp only [Act.put, List.setIfInBounds_toArray, List.set_cons_zero, List.set_cons_succ]
      refine wpAnyH_ready (rs := [4]) (by kernel_rfl) (by simp) ?_
      refine AllReadyH.cons (o := { dst := some 75, op := Go.Op.call { callee := Go.Callee.value (Go.Operand.func 21), args := #[Go.Operand.tmp 72, Go.Operand.tmp 74], argTypes := #[28, 3] }, type := 3, pos := "outright.go:30", after := #[{ on := 1, ground := Go.Ground.data }, { on := 3, ground := Go.Ground.data }], guard := none }) rfl (fun K hK => ?_) AllReadyH.nil
      go_simp
      go_at_call 21
      refine (HBS.out _ HQ.out.b1 _).mono ?_
      rintro e x1 ⟨rfl, hb⟩
      have kk := k0.next hb
      clear hb
      go_wp2_with fail
      refine hK.out _ _ kk (fun k1 => ?_)
      clear kk
      clear hK K
      try simp only [List.setIfInBounds_toArray, List.set_cons_zero, List.set_cons_succ]
      refine wpAnyH_take (i := 7) (oi := { dst := some 78, op := Go.Op.binOp Go.BinOp.add 3 (Go.Operand.tmp 75) (Go.Operand.tmp 77) 3, type := 3, pos := "outright.go:30", after := #[{ on := 4, ground := Go.Ground.data }, { on := 6, ground := Go.Ground.data }], guard := none }) (v := .int .i64 (bsV R q.b1 + (q.d1 : Int))) rfl (by kernel_rfl) (by kernel_rfl) (by kernel_rfl) (fun _ _ _ h => h) (Or.inl ⟨by rfl, fun W hSw => by clear hSw; go_simp; exact HA1.out.1⟩) k1 ?_
      try simp only [Act.put, List.setIfInBounds_toArray, List.set_cons_zero, List.set_cons_succ]
      refine wpAnyH_take (i := 8) (oi := { dst := some 79, op := Go.Op.binOp Go.BinOp.rem 3 (Go.Operand.tmp 78) (Go.Operand.const (Go.Value.int Go.IntKind.i64 16777216)) 3, type := 3, pos := "outright.go:30", after := #[{ on := 7, ground := Go.Ground.data }], guard := none }) (v := .int .i64 (adF q R : Int)) rfl (by kernel_rfl) (by kernel_rfl) (by kernel_rfl) (fun _ _ _ h => h) (Or.inl ⟨by rfl, fun W hSw => by clear hSw; go_simp; exact HA1.out.2⟩) k1 ?_
      try simp only [Act.put, List.setIfInBounds_toArray, List.set_cons_zero, List.set_cons_succ]
      refine wpAnyH_take (i := 9) (oi := { dst := some 12, op := Go.Op.assign (Go.Operand.tmp 79), type := 3, pos := "outright.go:30", after := #[{ on := 8, ground := Go.Ground.data }, { on := 4, ground := Go.Ground.chain }, { on := 0, ground := Go.Ground.phase }, { on := 1, ground := Go.Ground.phase }, { on := 2, ground := Go.Ground.phase }, { on := 3, ground := Go.Ground.phase }, { on := 4, ground := Go.Ground.phase }, { on := 5, ground := Go.Ground.phase }, { on := 6, ground := Go.Ground.phase }, { on := 7, ground := Go.Ground.phase }, { on := 8, ground := Go.Ground.phase }], guard := none }) (v := .int .i64 (adF q R : Int)) rfl (by kernel_rfl) (by kernel_rfl) (by kernel_rfl) (fun _ _ _ h => h) (Or.inl ⟨by rfl, fun W hSw => by (try dsimp only at hSw); go_simp⟩) k1 ?_
      try simp only [Act.put, List.setIfInBounds_toArray, List.set_cons_zero, List.set_cons_succ]
      refine wpAnyH_done (by kernel_rfl) ?_ _
      refine id ?_
      have KX := Lib.hid k1
      refine ‹∀ (a : Act) (w : World), Code.wp _ (Code.seq (Code.region 10 _ _) _) _ a w → _› _ _ ?_
      refine cut_go (fun u => { tmps := #[u 0, u 1, .pointer (some ⟨I, 0, none⟩), .pointer (some ⟨T, 0, none⟩), .bool false, .pointer (some ⟨A, 0, none⟩), u 6, .slice (some ⟨BW, 0, none⟩) n cW, .pointer (some ⟨B8, 0, none⟩), .pointer (some ⟨B8 + 1, 0, none⟩), u 10, .slice (some ⟨BN, 0, none⟩) n cN, .int .i64 (adF q R : Int), u 13, u 14, u 15, u 16, u 17, u 18, u 19, u 20, u 21, u 22, u 23, u 24, u 25, u 26, u 27, u 28, u 29, u 30, u 31, u 32, u 33, u 34, u 35, u 36, u 37, u 38, u 39, u 40, u 41, u 42, u 43, u 44, u 45, u 46, u 47, u 48, u 49, u 50, u 51, u 52, u 53, u 54, u 55, u 56, u 57, u 58, u 59, u 60, u 61, u 62, u 63, u 64, u 65, u 66, u 67, u 68, u 69, u 70, u 71, u 72, u 73, u 74, u 75, u 76, u 77, u 78, u 79, u 80, u 81, u 82, u 83, u 84, u 85, u 86, u 87, u 88, u 89, u 90, u 91, u 92, u 93, u 94, u 95, u 96, u 97, u 98, u 99, u 100, u 101, u 102, u 103, u 104, u 105, u 106, u 107, u 108, u 109, u 110, u 111, u 112, u 113, u 114, u 115, u 116, u 117, u 118, u 119, u 120, u 121, u 122, u 123, u 124, u 125, u 126, u 127, u 128, u 129, u 130, u 131, u 132, u 133, u 134, u 135, u 136, u 137, u 138, u 139, u 140, u 141, u 142, u 143, u 144, u 145, u 146, u 147, u 148, u 149, u 150, u 151, u 152, u 153, u 154, u 155, u 156, u 157, u 158, u 159, u 160, u 161, u 162, u 163, u 164, u 165, u 166, u 167, u 168, u 169, u 170, u 171, u 172, u 173, u 174, u 175, u 176, u 177, u 178, u 179, u 180, u 181, u 182, u 183, u 184, u 185, u 186, u 187, u 188, u 189, u 190, u 191, u 192, u 193, u 194, u 195, u 196, u 197, u 198, u 199, u 200, u 201, u 202, u 203, u 204, u 205, u 206, u 207, u 208, u 209, u 210, u 211, u 212, u 213, u 214, u 215, u 216], defers := [] }) rfl ?_
      intro u
      by_cases n79 : q.op = 79
      · exact dc_79 A g h n m bs bs' ks q R R' p cc' x y z w w7 x1 I T B8 BW BN cW cN u HST7.out HB7.out HR7.out HRW7.out HRN.out HRO.out HQ.out HCC.out HLN.out HFBB.out HFR.out hle hcap hle' hcap' hn1 hn2 KX.out n79
      by_cases n249 : q.op = 249
      · exact dc_249 A g h n m bs bs' ks q R R' p cc' x y z w w7 x1 I T B8 BW BN cW cN u HST7.out HB7.out HR7.out HRW7.out HRN.out HRO.out HQ.out HCC.out HLN.out HFBB.out HFR.out hle hcap hle' hcap' hn1 hn2 KX.out n249
      by_cases n223 : q.op = 223
      · exact dc_223 A g h n m bs bs' ks q R R' p cc' x y z w w7 x1 I T B8 BW BN cW cN u HST7.out HB7.out HR7.out HRW7.out HRN.out HRO.out HQ.out HCC.out HLN.out HFBB.out HFR.out hle hcap hle' hcap' hn1 hn2 KX.out n223
      by_cases n78 : q.op = 78
      · exact dc_78 A g h n m bs bs' ks q R R' p cc' x y z w w7 x1 I T B8 BW BN cW cN u HST7.out HB7.out HR7.out HRW7.out HRN.out HRO.out HQ.out HCC.out HLN.out HFBB.out HFR.out hle hcap hle' hcap' hn1 hn2 KX.out n78
      exact dc_0 A g h n m bs bs' ks q R R' p cc' x y z w w7 x1 I T B8 BW BN cW cN u HST7.out HB7.out HR7.out HRW7.out HRN.out HRO.out HQ.out HCC.out HLN.out HFBB.out HFR.out hle hcap hle' hcap' hn1 hn2 KX.out n79 n249 n223 n78
    · go_wp2_with fail
      refine wp_region_held_drew (S := Sk w7 I T q R p x y z) (by kernel_rfl) KS8.out (fun k0 => ?_)
      show wpAnyH _ _ _ _ _ 10 #[false, false, false, false, false, false, false, false, false, false] _ _
      refine wpAnyH_take (i := 0) (oi := { dst := some 71, op := Go.Op.fieldAddr 36 (Go.Operand.tmp 3) 0, type := 0, pos := "outright.go:30", after := #[], guard := none }) (v := .pointer (some ⟨T, 0, none⟩)) rfl (by kernel_rfl) (by kernel_rfl) (by kernel_rfl) (fun _ _ _ h => h) (Or.inl ⟨by rfl, fun W hSw => by (try dsimp only at hSw); go_simp⟩) k0 ?_
      try simp only [Act.put, List.setIfInBounds_toArray, List.set_cons_zero, List.set_cons_succ]
      refine wpAnyH_take (i := 1) (oi := { dst := some 72, op := Go.Op.load 28 (Go.Operand.tmp 71), type := 28, pos := "outright.go:30", after := #[{ on := 0, ground := Go.Ground.data }], guard := none }) (v := .agg #[.int .u32 (R 0), .int .u32 (R 1), .int .u32 (R 2), .int .u32 (R 3), .int .u32 (R 4), .int .u32 (R 5), .int .u32 (R 6), .int .u32 (R 7), .int .u32 (R 8), .int .u32 (R 9), .int .u32 (R 10), .int .u32 (R 11), .int .u32 (R 12), .int .u32 (R 13), .int .u32 (R 14), .int .u32 (R 15)]) rfl (by kernel_rfl) (by kernel_rfl) (by kernel_rfl) (fun _ _ _ h => h) (Or.inl ⟨by rfl, fun W hSw => exec_load _ _ rfl _ rfl (sta_regs hSw.st)⟩) k0 ?_
      try simp only [Act.put, List.setIfInBounds_toArray, List.set_cons_zero, List.set_cons_succ]
      refine wpAnyH_take (i := 2) (oi := { dst := some 73, op := Go.Op.fieldAddr 25 (Go.Operand.tmp 2) 5, type := 0, pos := "outright.go:30", after := #[], guard := none }) (v := .pointer (some ⟨I, 5, none⟩)) rfl (by kernel_rfl) (by kernel_rfl) (by kernel_rfl) (fun _ _ _ h => h) (Or.inl ⟨by rfl, fun W hSw => by (try dsimp only at hSw); go_simp⟩) k0 ?_
      try simp only [Act.put, List.setIfInBounds_toArray, List.set_cons_zero, List.set_cons_succ]
      refine wpAnyH_take (i := 3) (oi := { dst := some 74, op := Go.Op.load 3 (Go.Operand.tmp 73), type := 3, pos := "outright.go:30", after := #[{ on := 2, ground := Go.Ground.data }], guard := none }) (v := .int .i64 (q.b1 : Int)) rfl (by kernel_rfl) (by kernel_rfl) (by kernel_rfl) (fun _ _ _ h => h) (Or.inl ⟨by rfl, fun W hSw => by have cq := hSw.i5; clear hSw; go_simp⟩) k0 ?_
      try simp only [Act.put, List.setIfInBounds_toArray, List.set_cons_zero, List.set_cons_succ]
      refine wpAnyH_take (i := 5) (oi := { dst := some 76, op := Go.Op.fieldAddr 25 (Go.Operand.tmp 2) 6, type := 0, pos := "outright.go:30", after := #[], guard := none }) (v := .pointer (some ⟨I, 6, none⟩)) rfl (by kernel_rfl) (by kernel_rfl) (by kernel_rfl) (fun _ _ _ h => h) (Or.inl ⟨by rfl, fun W hSw => by (try dsimp only at hSw); go_simp⟩) k0 ?_
      try simp only [Act.put, List.setIfInBounds_toArray, List.set_cons_zero, List.set_cons_succ]
      refine wpAnyH_take (i := 6) (oi := { dst := some 77, op := Go.Op.load 3 (Go.Operand.tmp 76), type := 3, pos := "outright.go:30", after := #[{ on := 5, ground := Go.Ground.data }], guard := none }) (v := .int .i64 (q.d1 : Int)) rfl (by kernel_rfl) (by kernel_rfl) (by kernel_rfl) (fun _ _ _ h => h) (Or.inl ⟨by rfl, fun W hSw => by have cq := hSw.i6; clear hSw; go_simp⟩) k0 ?_
      try simp only [Act.put, List.setIfInBounds_toArray, List.set_cons_zero, List.set_cons_succ]
      refine wpAnyH_ready (rs := [4]) (by kernel_rfl) (by simp) ?_
      refine AllReadyH.cons (o := { dst := some 75, op := Go.Op.call { callee := Go.Callee.value (Go.Operand.func 21), args := #[Go.Operand.tmp 72, Go.Operand.tmp 74], argTypes := #[28, 3] }, type := 3, pos := "outright.go:30", after := #[{ on := 1, ground := Go.Ground.data }, { on := 3, ground := Go.Ground.data }], guard := none }) rfl (fun K hK => ?_) AllReadyH.nil
      go_simp
      go_at_call 21
      refine (HBS.out _ HQ.out.b1 _).mono ?_
      rintro e x1 ⟨rfl, hb⟩
      have kk := k0.next hb
      clear hb
      go_wp2_with fail
      refine hK.out _ _ kk (fun k1 => ?_)
      clear kk
      clear hK K
      try simp only [List.setIfInBounds_toArray, List.set_cons_zero, List.set_cons_succ]
      refine wpAnyH_take (i := 7) (oi := { dst := some 78, op := Go.Op.binOp Go.BinOp.add 3 (Go.Operand.tmp 75) (Go.Operand.tmp 77) 3, type := 3, pos := "outright.go:30", after := #[{ on := 4, ground := Go.Ground.data }, { on := 6, ground := Go.Ground.data }], guard := none }) (v := .int .i64 (bsV R q.b1 + (q.d1 : Int))) rfl (by kernel_rfl) (by kernel_rfl) (by kernel_rfl) (fun _ _ _ h => h) (Or.inl ⟨by rfl, fun W hSw => by clear hSw; go_simp; exact HA1.out.1⟩) k1 ?_
      try simp only [Act.put, List.setIfInBounds_toArray, List.set_cons_zero, List.set_cons_succ]
      refine wpAnyH_take (i := 8) (oi := { dst := some 79, op := Go.Op.binOp Go.BinOp.rem 3 (Go.Operand.tmp 78) (Go.Operand.const (Go.Value.int Go.IntKind.i64 16777216)) 3, type := 3, pos := "outright.go:30", after := #[{ on := 7, ground := Go.Ground.data }], guard := none }) (v := .int .i64 (adF q R : Int)) rfl (by kernel_rfl) (by kernel_rfl) (by kernel_rfl) (fun _ _ _ h => h) (Or.inl ⟨by rfl, fun W hSw => by clear hSw; go_simp; exact HA1.out.2⟩) k1 ?_
      try simp only [Act.put, List.setIfInBounds_toArray, List.set_cons_zero, List.set_cons_succ]
      refine wpAnyH_take (i := 9) (oi := { dst := some 12, op := Go.Op.assign (Go.Operand.tmp 79), type := 3, pos := "outright.go:30", after := #[{ on := 8, ground := Go.Ground.data }, { on := 4, ground := Go.Ground.chain }, { on := 0, ground := Go.Ground.phase }, { on := 1, ground := Go.Ground.phase }, { on := 2, ground := Go.Ground.phase }, { on := 3, ground := Go.Ground.phase }, { on := 4, ground := Go.Ground.phase }, { on := 5, ground := Go.Ground.phase }, { on := 6, ground := Go.Ground.phase }, { on := 7, ground := Go.Ground.phase }, { on := 8, ground := Go.Ground.phase }], guard := none }) (v := .int .i64 (adF q R : Int)) rfl (by kernel_rfl) (by kernel_rfl) (by kernel_rfl) (fun _ _ _ h => h) (Or.inl ⟨by rfl, fun W hSw => by (try dsimp only at hSw); go_simp⟩) k1 ?_
      try simp only [Act.put, List.setIfInBounds_toArray, List.set_cons_zero, List.set_cons_succ]
      refine wpAnyH_done (by kernel_rfl) ?_ _
      refine id ?_
      have KX := Lib.hid k1
      refine ‹∀ (a : Act) (w : World), Code.wp _ (Code.seq (Code.region 10 _ _) _) _ a w → _› _ _ ?_
      refine cut_go (fun u => { tmps := #[u 0, u 1, .pointer (some ⟨I, 0, none⟩), .pointer (some ⟨T, 0, none⟩), .bool false, .pointer (some ⟨A, 0, none⟩), u 6, .slice (some ⟨BW, 0, none⟩) n cW, .pointer (some ⟨B8, 0, none⟩), .pointer (some ⟨B8 + 1, 0, none⟩), u 10, .slice (some ⟨BN, 0, none⟩) n cN, .int .i64 (adF q R : Int), u 13, u 14, u 15, u 16, u 17, u 18, u 19, u 20, u 21, u 22, u 23, u 24, u 25, u 26, u 27, u 28, u 29, u 30, u 31, u 32, u 33, u 34, u 35, u 36, u 37, u 38, u 39, u 40, u 41, u 42, u 43, u 44, u 45, u 46, u 47, u 48, u 49, u 50, u 51, u 52, u 53, u 54, u 55, u 56, u 57, u 58, u 59, u 60, u 61, u 62, u 63, u 64, u 65, u 66, u 67, u 68, u 69, u 70, u 71, u 72, u 73, u 74, u 75, u 76, u 77, u 78, u 79, u 80, u 81, u 82, u 83, u 84, u 85, u 86, u 87, u 88, u 89, u 90, u 91, u 92, u 93, u 94, u 95, u 96, u 97, u 98, u 99, u 100, u 101, u 102, u 103, u 104, u 105, u 106, u 107, u 108, u 109, u 110, u 111, u 112, u 113, u 114, u 115, u 116, u 117, u 118, u 119, u 120, u 121, u 122, u 123, u 124, u 125, u 126, u 127, u 128, u 129, u 130, u 131, u 132, u 133, u 134, u 135, u 136, u 137, u 138, u 139, u 140, u 141, u 142, u 143, u 144, u 145, u 146, u 147, u 148, u 149, u 150, u 151, u 152, u 153, u 154, u 155, u 156, u 157, u 158, u 159, u 160, u 161, u 162, u 163, u 164, u 165, u 166, u 167, u 168, u 169, u 170, u 171, u 172, u 173, u 174, u 175, u 176, u 177, u 178, u 179, u 180, u 181, u 182, u 183, u 184, u 185, u 186, u 187, u 188, u 189, u 190, u 191, u 192, u 193, u 194, u 195, u 196, u 197, u 198, u 199, u 200, u 201, u 202, u 203, u 204, u 205, u 206, u 207, u 208, u 209, u 210, u 211, u 212, u 213, u 214, u 215, u 216], defers := [] }) rfl ?_
      intro u
      by_cases n79 : q.op = 79
      · exact dc_79 A g h n m bs bs' ks q R R' p cc' x y z w w7 x1 I T B8 BW BN cW cN u HST7.out HB7.out HR7.out HRW7.out HRN.out HRO.out HQ.out HCC.out HLN.out HFBB.out HFR.out hle hcap hle' hcap' hn1 hn2 KX.out n79
      by_cases n249 : q.op = 249
      · exact dc_249 A g h n m bs bs' ks q R R' p cc' x y z w w7 x1 I T B8 BW BN cW cN u HST7.out HB7.out HR7.out HRW7.out HRN.out HRO.out HQ.out HCC.out HLN.out HFBB.out HFR.out hle hcap hle' hcap' hn1 hn2 KX.out n249
      by_cases n223 : q.op = 223
      · exact dc_223 A g h n m bs bs' ks q R R' p cc' x y z w w7 x1 I T B8 BW BN cW cN u HST7.out HB7.out HR7.out HRW7.out HRN.out HRO.out HQ.out HCC.out HLN.out HFBB.out HFR.out hle hcap hle' hcap' hn1 hn2 KX.out n223
      by_cases n78 : q.op = 78
      · exact dc_78 A g h n m bs bs' ks q R R' p cc' x y z w w7 x1 I T B8 BW BN cW cN u HST7.out HB7.out HR7.out HRW7.out HRN.out HRO.out HQ.out HCC.out HLN.out HFBB.out HFR.out hle hcap hle' hcap' hn1 hn2 KX.out n78
      exact dc_0 A g h n m bs bs' ks q R R' p cc' x y z w w7 x1 I T B8 BW BN cW cN u HST7.out HB7.out HR7.out HRW7.out HRN.out HRO.out HQ.out HCC.out HLN.out HFBB.out HFR.out hle hcap hle' hcap' hn1 hn2 KX.out n79 n249 n223 n78


end M
end Go.Proofs.YtbcncohjjnmdcaaGreatDoor

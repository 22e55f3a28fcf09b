/- The walk of the statement PackedOwn: it answers true, and below its own memory nothing turns. -/
import Derived.Test.YtgnaiolbleadbaaDoorPkWorks
import Derived.Test.YtgnaiolbleadbaaDoorPkPure
import Derived.Test.YtgnaiolbleadbaaDoorPkLaid
import Derived.Test.YtgnaiolbleadbaaDoorPkOwn
namespace Go.Proofs.YtgnaiolbleadbaaDoor.packedOwn
open Go.ChangeShapes Go.WideShapes Go.ChangeAt Go.RowKit Go.ChangeMaps E
set_option linter.unusedVariables false

set_option maxRecDepth 100000 in
set_option maxHeartbeats 1000000 in
theorem walk (p : Option Addr) (c : Nat) (l : List UInt8) (hc : l.length ≤ c) (hcc : c ≤ 9223372036854775807) (hnil : p = none → c = 0) (n : UInt8) (w : World) (hg : Sg w) (hr : Rd w p l) :
    Calls Tryd.prog 9 #[.slice p l.length c, .int .u8 (n.toNat : Int)] w (New w (.bool true)) := by
  by_cases h16 : 16 < l.length
  · have hll : (l.take 16).length = 16 := by simp; omega
    have hrl : Rd w p (l.take 16) := hr.take 16
    have HG := Lib.hid hg
    have HR := Lib.hid hrl
    have HLL := Lib.hid hll
    have HN := Lib.hid hnil
    obtain ⟨m, hm⟩ : ∃ m : Nat, 1 + (n.toNat : Int) % 16 = (m : Int) := ⟨1 + n.toNat % 16, by push_cast; rfl⟩
    have hm1 : 1 ≤ m := by omega
    have hm2 : m ≤ 16 := by omega
    clear hg hr hrl hll hnil
    go_enter Tryd.func9, Tryd.ntmps9
    go_wp2_with fail
    refine (works_any w HG.out).mono ?_
    rintro e w1 ⟨rfl, hb⟩
    have HB1 := Lib.hid hb
    clear hb
    go_wp2_with (at_builtin; refine wpList_append_rd rfl _ _ rfl w1.heap.size _ 0 [] rfl (own_empty w1) p c 16 (l.take 16) HLL.out rfl HN.out ((HR.out.below HB1.out).below (below_new _ _)) (by omega) (by simp) ?_)
    intro v2 w2 h2 g2
    have hb2 : Below w1.heap.size w1 w2 := (below_new w1 (.cells #[] 5)).grown g2 (by simp) (fun r hr => by simp [Value.ownBlock] at hr; omega)
    have HB2 := Lib.hid hb2
    have HO2 := Lib.hid h2
    clear g2 h2 hb2
    go_wp2_with (at_builtin; refine wpList_append_rd rfl _ _ rfl w1.heap.size _ 16 (bsU (l.take 16)) rfl (HO2.out.alloc _) (some ⟨w2.heap.size, 0, none⟩) 2 2 [170, 187] rfl rfl (fun h => by cases h) (rd_new w2 [170, 187] 5) (by omega) (by have := HB2.out.size; simp; omega) ?_)
    intro v3 w3 h3 g3
    have hb3 : Below w1.heap.size w1 w3 := (HB2.out.alloc HB2.out.size _).grown g3 (by have := HB2.out.size; simp; omega) (fun r hr => (HO2.out.lt r hr).1)
    obtain ⟨M, hM⟩ : ∃ M, M = (l.take 16) ++ [170, 187] := ⟨_, rfl⟩
    have hMl : M.length = 18 := by rw [hM, List.length_append, HLL.out]; rfl
    have h3' : w3.ownsRow w1.heap.size 5 1 v3 M.length (bsU M) := by
      rw [hMl, hM, show bsU ((l.take 16) ++ [170, 187]) = bsU (l.take 16) ++ bsU [170, 187] by simp [bsU]]
      exact h3
    obtain ⟨G, C, rfl, hC1, hC2, hblk⟩ := own_blk (by omega) h3'
    rw [hMl] at hC1 ⊢
    have HB3 := Lib.hid (bel0 HB1.out hb3)
    have HI3 := Lib.hid (hblk.base' HB1.out.size)
    have HML := Lib.hid hMl
    have HM := Lib.hid hM
    clear h3 g3 hb3 h3' hM hMl hblk
    have hIN : ∀ W, Blk W w.heap.size G M → Rd W (some ⟨G, 0, none⟩) (l.take 16) := fun W h => by
      have h2 := h.rd.take 16
      rw [HM.out, List.take_append_of_le_length (by rw [HLL.out]; exact Nat.le_refl _), List.take_of_length_le (by rw [HLL.out]; exact Nat.le_refl _)] at h2
      exact h2
    have hP := fun W (h : Rd W (some ⟨G, 0, none⟩) (l.take 16)) => MvPost.out (pack_any (some ⟨G, 0, none⟩) C (m : Int) (l.take 16) W h) (packL_len _ _) (fun ho => (szB_two ho).2)
    have hU := fun W (h : Rd W (some ⟨G, 0, none⟩) (l.take 16)) => MvPost.out (unpack_any (some ⟨G, 0, none⟩) C (m : Int) (l.take 16) W h) (unpackL_len _ _) (fun ho => (szB_two ho).2)
    have hO1 := fun W (h : Rd W (some ⟨G, 0, none⟩) (l.take 16)) => MvPost.out (offset_any (some ⟨G, 0, none⟩) (some ⟨G, 0, none⟩) C C (l.take 16) (l.take 16) W h h) (by rw [offL_len, Int.toNat_natCast]) (fun ho => by rw [Int.toNat_natCast]; exact (szB_two ho).1)
    have hO2 := fun b W (h : Rd W (some ⟨G, 0, none⟩) (l.take 16)) (h2 : Rd W (some ⟨b, 0, none⟩) [18]) => MvPost.out (offset_any (some ⟨G, 0, none⟩) (some ⟨b, 0, none⟩) C 1 (l.take 16) [18] W h h2) (by rw [offL_len, Int.toNat_natCast]) (fun ho => by rw [Int.toNat_natCast]; exact (szB_two ho).1)
    have hD := fun W (h : Rd W (some ⟨G, 0, none⟩) (l.take 16)) (hg : Sg W) => decode_any (some ⟨G, 0, none⟩) C (l.take 16) W h hg
    have hS := fun W (h : Rd W (some ⟨G, 0, none⟩) (l.take 16)) (h2 : Rd W p (l.take 16)) => same_true (some ⟨G, 0, none⟩) p C c (l.take 16) W h h2
    have e1 : ([18] : List UInt8).length = 1 := rfl
    rw [e1] at hO2
    rw [HLL.out] at hP hU hO1 hO2 hD hS
    have HIN := Lib.hid hIN
    have HP := Lib.hid hP
    have HU := Lib.hid hU
    have HO1 := Lib.hid hO1
    have HO2x := Lib.hid hO2
    have HD := Lib.hid hD
    have HS := Lib.hid hS
    have hg1 : gt M 16 = 170 := by rw [HM.out]; unfold gt; rw [List.getD_eq_getElem?_getD, List.getElem?_append_right (by rw [HLL.out]; exact Nat.le_refl _), HLL.out]; simp
    have hg2 : gt M (17) = 187 := by rw [HM.out]; unfold gt; rw [List.getD_eq_getElem?_getD, List.getElem?_append_right (by rw [HLL.out]; omega), HLL.out]; simp
    have HG1 := Lib.hid hg1
    have HG2 := Lib.hid hg2
    clear hIN hP hU hO1 hO2 hD hS e1 hg1 hg2
    go_wp2
    go_loopw [7] (fun i wr => Below w.heap.size w wr ∧ Blk wr w.heap.size G M ∧ ∃ t : Nat, t ≤ 2 ∧ i = .int .i64 t) (fun i _ => 2 - (intOf i).toNat)
    case atStart => exact ⟨HB3.out, HI3.out, 0, Nat.zero_le _, rfl⟩
    case round =>
      obtain ⟨hbw, hiw, t, ht, rfl⟩ := hrel
      have HB := Lib.hid hbw
      have HI := Lib.hid hiw
      clear hbw hiw HB3 HI3 HB2 HO2
      by_cases hlt : t < 2
      · have H0 : Hid (ApS wr wr.drew) := Lib.hid (Below.refl _ _).drew
        go_wp2
        have j1 : (0 : Int) ≤ (16 : Int) := by omega
        have j2 : (16 : Int) ≤ (C : Int) := by omega
        have j3 : (16 : Int) ≤ (18 : Int) := by omega
        have R0 : Hid (Rd (wr.alloc (.cells #[.int .u8 18] 5)).drew (some ⟨wr.heap.size, 0, none⟩) [18]) := Lib.hid ((rd18 wr).below (Below.refl _ _).drew)
        go_cut [58, 59] from 27 to 58 (fun s s2 wx => s2 = .int .i64 0 ∧ ∃ p4 n4 p5 n5 p6 n6 p7 n7, s = .agg #[.slice p4 n4 n4, .slice p5 n5 n5, .slice p6 n6 n6, .slice p7 n7 n7] ∧ ApS wr wx ∧ O4 wx wr.heap.size p4 p5 p6 p7 n4 n5 n6 n7)
        case first =>
          go_region_held3 (fun W => ApS wr W)
            (first | assumption | exact H0.out | exact (below_new wr _).drew | exact ApS.mem (by assumption))
            (first
              | (go_at_call 18; refine (HP.out _ (HIN.out _ (HI.out.below (by assumption)))).mono ?_; rintro e w4 ⟨p4, n4, rfl, ho4, hb4⟩; have hs4 : ApS wr w4 := bel_app (by assumption) hb4)
              | (go_at_call 20; refine (HU.out _ (HIN.out _ (HI.out.below (by assumption)))).mono ?_; rintro e w5 ⟨p5, n5, rfl, ho5, hb5⟩; have hs5 : ApS wr w5 := bel_app (by assumption) hb5; have hx5 : Below w4.heap.size w4 w5 := by first | with_reducible exact hb5 | exact bel0 (below_new _ _) hb5)
              | (go_at_call 22; have hz6 := hx6; refine (HO2x.out _ _ (HIN.out _ (HI.out.below (by assumption))) (by first | with_reducible exact rd18 _ | with_reducible exact (rd18 _).below hb6 | with_reducible exact (rd18 _).below (bel0 hb5 hx6) | with_reducible exact R0.out.below (bel0 (bel0 hb4 hx5) hx6))).mono ?_; rintro e w7 ⟨p7, n7, rfl, ho7, hb7⟩; have hs7 : ApS wr w7 := bel_app (by assumption) hb7; have hx7 : Below w6.heap.size w6 w7 := by first | with_reducible exact hb7 | exact bel0 (below_new _ _) hb7)
              | (go_at_call 22; refine (HO1.out _ (HIN.out _ (HI.out.below (by assumption)))).mono ?_; rintro e w6 ⟨p6, n6, rfl, ho6, hb6⟩; have hs6 : ApS wr w6 := bel_app (by assumption) hb6; have hx6 : Below w5.heap.size w5 w6 := by first | with_reducible exact hb6 | exact bel0 (below_new _ _) hb6))
          all_goals have HO : Hid (O4 w7 wr.heap.size p4 p5 p6 p7 n4 n5 n6 n7) := Lib.hid ⟨(ho4.base (by simp)).below (bel0 (bel0 hx5 hx6) hx7), (ho5.base (by have := Below.size (show Below _ _ _ from hs4); simp; omega)).below (bel0 hx6 hx7), (ho6.base (by have := Below.size (show Below _ _ _ from hs5); simp; omega)).below hx7, ho7.base (by have := Below.size (show Below _ _ _ from hs6); simp; omega)⟩
          all_goals clear hs4 hs5 hs6 hb4 hb5 hb6 hb7 hx5 hx6 hx7 ho4 ho5 ho6 ho7
          all_goals go_wp2_with fail
          all_goals go_meet
          all_goals exact ⟨rfl, p4, n4, p5, n5, p6, n6, p7, n7, rfl, hs7, HO.out⟩
        case rest =>
          obtain ⟨rfl, p4, n4, p5, n5, p6, n6, p7, n7, rfl, hs7, ho⟩ := hcut
          have HBc := Lib.hid (bel0 HB.out hs7)
          have HIc := Lib.hid (HI.out.below hs7)
          have hsz : G < wr.heap.size := HI.out.lt
          have hbz : w.heap.size ≤ wr.heap.size := HB.out.size
          have HO := Lib.hid ho
          clear hs7 ho H0 R0
          generalize wr.heap.size = b0 at *
          obtain ⟨T, hT⟩ : ∃ T : Value, T = .agg #[.slice p4 n4 n4, .slice p5 n5 n5, .slice p6 n6 n6, .slice p7 n7 n7] := ⟨_, rfl⟩
          have HX : Hid (∀ q : Nat, q < 4 → ∃ pj nj, (∀ W, (Instr.index 45 T (.int .i64 (q : Int))).run Tryd.prog W = .ok (.slice pj nj nj) W) ∧ ∀ W, O4 W b0 p4 p5 p6 p7 n4 n5 n6 n7 → OutS W b0 pj nj) := Lib.hid (fun q hq => by
            subst hT
            rcases (show q = 0 ∨ q = 1 ∨ q = 2 ∨ q = 3 by omega) with rfl | rfl | rfl | rfl
            · exact ⟨p4, n4, fun W => by kernel_rfl, fun W h => h.1⟩
            · exact ⟨p5, n5, fun W => by kernel_rfl, fun W h => h.2.1⟩
            · exact ⟨p6, n6, fun W => by kernel_rfl, fun W h => h.2.2.1⟩
            · exact ⟨p7, n7, fun W => by kernel_rfl, fun W h => h.2.2.2⟩)
          rw [← hT]
          clear hT
          go_wp2
          go_loopw [59] (fun i wx => Below w.heap.size w wx ∧ Blk wx w.heap.size G M ∧ O4 wx b0 p4 p5 p6 p7 n4 n5 n6 n7 ∧ ∃ q : Nat, q ≤ 4 ∧ i = .int .i64 q) (fun i _ => 4 - (intOf i).toNat)
          case atStart => exact ⟨HBc.out, HIc.out, HO.out, 0, Nat.zero_le _, rfl⟩
          case round =>
            obtain ⟨hbx, hix, hox, q, hq, rfl⟩ := hrel
            have HBx := Lib.hid hbx
            have HIx := Lib.hid hix
            have HOx := Lib.hid hox
            clear hbx hix hox HBc HIc HO
            by_cases hq4 : q < 4
            · obtain ⟨pj, nj, hidx, hoj⟩ := HX.out q hq4
              have HOJ := Lib.hid hoj
              clear hoj HX
              go_wp2
              go_loopw [64] (fun i wy => Below w.heap.size w wy ∧ Blk wy w.heap.size G M ∧ O4 wy b0 p4 p5 p6 p7 n4 n5 n6 n7 ∧ ∃ j : Nat, j ≤ nj ∧ i = .int .i64 j) (fun i _ => nj - (intOf i).toNat)
              case atStart => exact ⟨HBx.out, HIx.out, HOx.out, 0, Nat.zero_le _, rfl⟩
              case round =>
                obtain ⟨hby, hiy, hoy, j, hj, rfl⟩ := hrel
                have HBy := Lib.hid hby
                have HIy := Lib.hid hiy
                have HOy := Lib.hid hoy
                have hout := HOJ.out _ hoy
                clear hby hiy hoy
                by_cases hjn : j < nj
                · obtain ⟨hn16, h0 | ⟨g, lj, rfl, hlj, hblk⟩⟩ := hout
                  · omega
                  have hcj := hblk.cell j (by omega)
                  have hfj := hblk.frozen j
                  have hgb := hblk.1
                  generalize gt lj j = xv at *
                  have hgG : G ≠ g := by omega
                  have HR2 : Hid (Below w.heap.size w (wr.setCell ⟨g, j, none⟩ (.int .u8 (bits .xor .u8 (xv.toNat : Int) 255))) ∧ Blk (wr.setCell ⟨g, j, none⟩ (.int .u8 (bits .xor .u8 (xv.toNat : Int) 255))) w.heap.size G M ∧ O4 (wr.setCell ⟨g, j, none⟩ (.int .u8 (bits .xor .u8 (xv.toNat : Int) 255))) b0 p4 p5 p6 p7 n4 n5 n6 n7) :=
                    Lib.hid (by rw [xor_u8]; exact ⟨HBy.out.setCell (p := ⟨g, j, none⟩) (Nat.le_trans hbz hgb) _, HIy.out.past g j _ hgG, HOy.out.put g j _⟩)
                  clear hblk hlj hidx hgG
                  go_wp2
                  go_roundw
                  case rel => exact ⟨HR2.out.1, HR2.out.2.1, HR2.out.2.2, j + 1, by omega, by go_num⟩
                  case measure => simp [intOf]; omega
                · obtain rfl : j = nj := by omega
                  clear hout
                  go_wp2
                  go_roundw
                  case rel => exact ⟨HBy.out, HIy.out, HOy.out, q + 1, by omega, by go_num⟩
                  case measure => simp [intOf]; omega
            · obtain rfl : q = 4 := by omega
              clear HX HOx
              rw [show ((4 : Nat) : Int) = 4 from rfl]
              go_wp2_with fail
              refine (HD.out _ (HIN.out _ HIx.out) (HG.out.below HBx.out)).mono ?_
              rintro e w9 ⟨rfl, hb⟩
              have HB9 := Lib.hid (bel0 HBx.out hb)
              have HI9 := Lib.hid (HIx.out.below hb)
              clear hb
              go_wp2_with fail
              refine (HS.out _ (HIN.out _ HI9.out) (HR.out.below HB9.out)).mono ?_
              rintro e w' ⟨rfl, rfl⟩
              have hc1 := HI9.out.cell 16 (by rw [HML.out]; omega)
              have hc2 := HI9.out.cell (17) (by rw [HML.out]; omega)
              rw [HG1.out] at hc1
              rw [HG2.out] at hc2
              have hd1 : w9.cell? ⟨G, 16, none⟩ = some (.int .u8 170) := hc1
              have hd2 : w9.cell? ⟨G, 17, none⟩ = some (.int .u8 187) := hc2
              clear hc1 hc2
              go_wp2
              go_roundw
              case rel => exact ⟨HB9.out, HI9.out, t + 1, by omega, by go_num⟩
              case measure => simp [intOf]; omega
      · obtain rfl : t = 2 := by omega
        go_wp2
        go_ret
        exact ⟨rfl, HB.out⟩
  · obtain ⟨k, hk⟩ : ∃ k, k = l.length := ⟨_, rfl⟩
    have hll : l.length = k := hk.symm
    have hrl : Rd w p l := hr
    rw [← hk] at hc h16 ⊢
    clear hk
    have HG := Lib.hid hg
    have HR := Lib.hid hrl
    have HLL := Lib.hid hll
    have HN := Lib.hid hnil
    obtain ⟨m, hm⟩ : ∃ m : Nat, 1 + (n.toNat : Int) % 16 = (m : Int) := ⟨1 + n.toNat % 16, by push_cast; rfl⟩
    have hm1 : 1 ≤ m := by omega
    have hm2 : m ≤ 16 := by omega
    clear hg hr hrl hll hnil
    go_enter Tryd.func9, Tryd.ntmps9
    go_wp2_with fail
    refine (works_any w HG.out).mono ?_
    rintro e w1 ⟨rfl, hb⟩
    have HB1 := Lib.hid hb
    clear hb
    go_wp2_with (at_builtin; refine wpList_append_rd rfl _ _ rfl w1.heap.size _ 0 [] rfl (own_empty w1) p c k l HLL.out rfl HN.out ((HR.out.below HB1.out).below (below_new _ _)) (by omega) (by simp) ?_)
    intro v2 w2 h2 g2
    have hb2 : Below w1.heap.size w1 w2 := (below_new w1 (.cells #[] 5)).grown g2 (by simp) (fun r hr => by simp [Value.ownBlock] at hr; omega)
    have HB2 := Lib.hid hb2
    have HO2 := Lib.hid h2
    clear g2 h2 hb2
    go_wp2_with (at_builtin; refine wpList_append_rd rfl _ _ rfl w1.heap.size _ k (bsU l) rfl (HO2.out.alloc _) (some ⟨w2.heap.size, 0, none⟩) 2 2 [170, 187] rfl rfl (fun h => by cases h) (rd_new w2 [170, 187] 5) (by omega) (by have := HB2.out.size; simp; omega) ?_)
    intro v3 w3 h3 g3
    have hb3 : Below w1.heap.size w1 w3 := (HB2.out.alloc HB2.out.size _).grown g3 (by have := HB2.out.size; simp; omega) (fun r hr => (HO2.out.lt r hr).1)
    obtain ⟨M, hM⟩ : ∃ M, M = l ++ [170, 187] := ⟨_, rfl⟩
    have hMl : M.length = k + 2 := by rw [hM, List.length_append, HLL.out]; rfl
    have h3' : w3.ownsRow w1.heap.size 5 1 v3 M.length (bsU M) := by
      rw [hMl, hM, show bsU (l ++ [170, 187]) = bsU l ++ bsU [170, 187] by simp [bsU]]
      exact h3
    obtain ⟨G, C, rfl, hC1, hC2, hblk⟩ := own_blk (by omega) h3'
    rw [hMl] at hC1 ⊢
    have HB3 := Lib.hid (bel0 HB1.out hb3)
    have HI3 := Lib.hid (hblk.base' HB1.out.size)
    have HML := Lib.hid hMl
    have HM := Lib.hid hM
    clear h3 g3 hb3 h3' hM hMl hblk
    have hIN : ∀ W, Blk W w.heap.size G M → Rd W (some ⟨G, 0, none⟩) l := fun W h => by
      have h2 := h.rd.take k
      rw [HM.out, List.take_append_of_le_length (by rw [HLL.out]; exact Nat.le_refl _), List.take_of_length_le (by rw [HLL.out]; exact Nat.le_refl _)] at h2
      exact h2
    have hP := fun W (h : Rd W (some ⟨G, 0, none⟩) l) => MvPost.out (pack_any (some ⟨G, 0, none⟩) C (m : Int) l W h) (packL_len _ _) (fun ho => (szB_two ho).2)
    have hU := fun W (h : Rd W (some ⟨G, 0, none⟩) l) => MvPost.out (unpack_any (some ⟨G, 0, none⟩) C (m : Int) l W h) (unpackL_len _ _) (fun ho => (szB_two ho).2)
    have hO1 := fun W (h : Rd W (some ⟨G, 0, none⟩) l) => MvPost.out (offset_any (some ⟨G, 0, none⟩) (some ⟨G, 0, none⟩) C C l l W h h) (by rw [offL_len, Int.toNat_natCast]) (fun ho => by rw [Int.toNat_natCast]; exact (szB_two ho).1)
    have hO2 := fun b W (h : Rd W (some ⟨G, 0, none⟩) l) (h2 : Rd W (some ⟨b, 0, none⟩) [18]) => MvPost.out (offset_any (some ⟨G, 0, none⟩) (some ⟨b, 0, none⟩) C 1 l [18] W h h2) (by rw [offL_len, Int.toNat_natCast]) (fun ho => by rw [Int.toNat_natCast]; exact (szB_two ho).1)
    have hD := fun W (h : Rd W (some ⟨G, 0, none⟩) l) (hg : Sg W) => decode_any (some ⟨G, 0, none⟩) C l W h hg
    have hS := fun W (h : Rd W (some ⟨G, 0, none⟩) l) (h2 : Rd W p l) => same_true (some ⟨G, 0, none⟩) p C c l W h h2
    have e1 : ([18] : List UInt8).length = 1 := rfl
    rw [e1] at hO2
    rw [HLL.out] at hP hU hO1 hO2 hD hS
    have HIN := Lib.hid hIN
    have HP := Lib.hid hP
    have HU := Lib.hid hU
    have HO1 := Lib.hid hO1
    have HO2x := Lib.hid hO2
    have HD := Lib.hid hD
    have HS := Lib.hid hS
    have hg1 : gt M k = 170 := by rw [HM.out]; unfold gt; rw [List.getD_eq_getElem?_getD, List.getElem?_append_right (by rw [HLL.out]; exact Nat.le_refl _), HLL.out]; simp
    have hg2 : gt M (k + 1) = 187 := by rw [HM.out]; unfold gt; rw [List.getD_eq_getElem?_getD, List.getElem?_append_right (by rw [HLL.out]; omega), HLL.out]; simp
    have HG1 := Lib.hid hg1
    have HG2 := Lib.hid hg2
    clear hIN hP hU hO1 hO2 hD hS e1 hg1 hg2
    go_wp2
    go_loopw [7] (fun i wr => Below w.heap.size w wr ∧ Blk wr w.heap.size G M ∧ ∃ t : Nat, t ≤ 2 ∧ i = .int .i64 t) (fun i _ => 2 - (intOf i).toNat)
    case atStart => exact ⟨HB3.out, HI3.out, 0, Nat.zero_le _, rfl⟩
    case round =>
      obtain ⟨hbw, hiw, t, ht, rfl⟩ := hrel
      have HB := Lib.hid hbw
      have HI := Lib.hid hiw
      clear hbw hiw HB3 HI3 HB2 HO2
      by_cases hlt : t < 2
      · have H0 : Hid (ApS wr wr.drew) := Lib.hid (Below.refl _ _).drew
        go_wp2
        have j1 : (0 : Int) ≤ (k : Int) := by omega
        have j2 : (k : Int) ≤ (C : Int) := by omega
        have j3 : (k : Int) ≤ (k + 2 : Int) := by omega
        have R0 : Hid (Rd (wr.alloc (.cells #[.int .u8 18] 5)).drew (some ⟨wr.heap.size, 0, none⟩) [18]) := Lib.hid ((rd18 wr).below (Below.refl _ _).drew)
        go_cut [58, 59] from 27 to 58 (fun s s2 wx => s2 = .int .i64 0 ∧ ∃ p4 n4 p5 n5 p6 n6 p7 n7, s = .agg #[.slice p4 n4 n4, .slice p5 n5 n5, .slice p6 n6 n6, .slice p7 n7 n7] ∧ ApS wr wx ∧ O4 wx wr.heap.size p4 p5 p6 p7 n4 n5 n6 n7)
        case first =>
          go_region_held3 (fun W => ApS wr W)
            (first | assumption | exact H0.out | exact (below_new wr _).drew | exact ApS.mem (by assumption))
            (first
              | (go_at_call 18; refine (HP.out _ (HIN.out _ (HI.out.below (by assumption)))).mono ?_; rintro e w4 ⟨p4, n4, rfl, ho4, hb4⟩; have hs4 : ApS wr w4 := bel_app (by assumption) hb4)
              | (go_at_call 20; refine (HU.out _ (HIN.out _ (HI.out.below (by assumption)))).mono ?_; rintro e w5 ⟨p5, n5, rfl, ho5, hb5⟩; have hs5 : ApS wr w5 := bel_app (by assumption) hb5; have hx5 : Below w4.heap.size w4 w5 := by first | with_reducible exact hb5 | exact bel0 (below_new _ _) hb5)
              | (go_at_call 22; have hz6 := hx6; refine (HO2x.out _ _ (HIN.out _ (HI.out.below (by assumption))) (by first | with_reducible exact rd18 _ | with_reducible exact (rd18 _).below hb6 | with_reducible exact (rd18 _).below (bel0 hb5 hx6) | with_reducible exact R0.out.below (bel0 (bel0 hb4 hx5) hx6))).mono ?_; rintro e w7 ⟨p7, n7, rfl, ho7, hb7⟩; have hs7 : ApS wr w7 := bel_app (by assumption) hb7; have hx7 : Below w6.heap.size w6 w7 := by first | with_reducible exact hb7 | exact bel0 (below_new _ _) hb7)
              | (go_at_call 22; refine (HO1.out _ (HIN.out _ (HI.out.below (by assumption)))).mono ?_; rintro e w6 ⟨p6, n6, rfl, ho6, hb6⟩; have hs6 : ApS wr w6 := bel_app (by assumption) hb6; have hx6 : Below w5.heap.size w5 w6 := by first | with_reducible exact hb6 | exact bel0 (below_new _ _) hb6))
          all_goals have HO : Hid (O4 w7 wr.heap.size p4 p5 p6 p7 n4 n5 n6 n7) := Lib.hid ⟨(ho4.base (by simp)).below (bel0 (bel0 hx5 hx6) hx7), (ho5.base (by have := Below.size (show Below _ _ _ from hs4); simp; omega)).below (bel0 hx6 hx7), (ho6.base (by have := Below.size (show Below _ _ _ from hs5); simp; omega)).below hx7, ho7.base (by have := Below.size (show Below _ _ _ from hs6); simp; omega)⟩
          all_goals clear hs4 hs5 hs6 hb4 hb5 hb6 hb7 hx5 hx6 hx7 ho4 ho5 ho6 ho7
          all_goals go_wp2_with fail
          all_goals go_meet
          all_goals exact ⟨rfl, p4, n4, p5, n5, p6, n6, p7, n7, rfl, hs7, HO.out⟩
        case rest =>
          obtain ⟨rfl, p4, n4, p5, n5, p6, n6, p7, n7, rfl, hs7, ho⟩ := hcut
          have HBc := Lib.hid (bel0 HB.out hs7)
          have HIc := Lib.hid (HI.out.below hs7)
          have hsz : G < wr.heap.size := HI.out.lt
          have hbz : w.heap.size ≤ wr.heap.size := HB.out.size
          have HO := Lib.hid ho
          clear hs7 ho H0 R0
          generalize wr.heap.size = b0 at *
          obtain ⟨T, hT⟩ : ∃ T : Value, T = .agg #[.slice p4 n4 n4, .slice p5 n5 n5, .slice p6 n6 n6, .slice p7 n7 n7] := ⟨_, rfl⟩
          have HX : Hid (∀ q : Nat, q < 4 → ∃ pj nj, (∀ W, (Instr.index 45 T (.int .i64 (q : Int))).run Tryd.prog W = .ok (.slice pj nj nj) W) ∧ ∀ W, O4 W b0 p4 p5 p6 p7 n4 n5 n6 n7 → OutS W b0 pj nj) := Lib.hid (fun q hq => by
            subst hT
            rcases (show q = 0 ∨ q = 1 ∨ q = 2 ∨ q = 3 by omega) with rfl | rfl | rfl | rfl
            · exact ⟨p4, n4, fun W => by kernel_rfl, fun W h => h.1⟩
            · exact ⟨p5, n5, fun W => by kernel_rfl, fun W h => h.2.1⟩
            · exact ⟨p6, n6, fun W => by kernel_rfl, fun W h => h.2.2.1⟩
            · exact ⟨p7, n7, fun W => by kernel_rfl, fun W h => h.2.2.2⟩)
          rw [← hT]
          clear hT
          go_wp2
          go_loopw [59] (fun i wx => Below w.heap.size w wx ∧ Blk wx w.heap.size G M ∧ O4 wx b0 p4 p5 p6 p7 n4 n5 n6 n7 ∧ ∃ q : Nat, q ≤ 4 ∧ i = .int .i64 q) (fun i _ => 4 - (intOf i).toNat)
          case atStart => exact ⟨HBc.out, HIc.out, HO.out, 0, Nat.zero_le _, rfl⟩
          case round =>
            obtain ⟨hbx, hix, hox, q, hq, rfl⟩ := hrel
            have HBx := Lib.hid hbx
            have HIx := Lib.hid hix
            have HOx := Lib.hid hox
            clear hbx hix hox HBc HIc HO
            by_cases hq4 : q < 4
            · obtain ⟨pj, nj, hidx, hoj⟩ := HX.out q hq4
              have HOJ := Lib.hid hoj
              clear hoj HX
              go_wp2
              go_loopw [64] (fun i wy => Below w.heap.size w wy ∧ Blk wy w.heap.size G M ∧ O4 wy b0 p4 p5 p6 p7 n4 n5 n6 n7 ∧ ∃ j : Nat, j ≤ nj ∧ i = .int .i64 j) (fun i _ => nj - (intOf i).toNat)
              case atStart => exact ⟨HBx.out, HIx.out, HOx.out, 0, Nat.zero_le _, rfl⟩
              case round =>
                obtain ⟨hby, hiy, hoy, j, hj, rfl⟩ := hrel
                have HBy := Lib.hid hby
                have HIy := Lib.hid hiy
                have HOy := Lib.hid hoy
                have hout := HOJ.out _ hoy
                clear hby hiy hoy
                by_cases hjn : j < nj
                · obtain ⟨hn16, h0 | ⟨g, lj, rfl, hlj, hblk⟩⟩ := hout
                  · omega
                  have hcj := hblk.cell j (by omega)
                  have hfj := hblk.frozen j
                  have hgb := hblk.1
                  generalize gt lj j = xv at *
                  have hgG : G ≠ g := by omega
                  have HR2 : Hid (Below w.heap.size w (wr.setCell ⟨g, j, none⟩ (.int .u8 (bits .xor .u8 (xv.toNat : Int) 255))) ∧ Blk (wr.setCell ⟨g, j, none⟩ (.int .u8 (bits .xor .u8 (xv.toNat : Int) 255))) w.heap.size G M ∧ O4 (wr.setCell ⟨g, j, none⟩ (.int .u8 (bits .xor .u8 (xv.toNat : Int) 255))) b0 p4 p5 p6 p7 n4 n5 n6 n7) :=
                    Lib.hid (by rw [xor_u8]; exact ⟨HBy.out.setCell (p := ⟨g, j, none⟩) (Nat.le_trans hbz hgb) _, HIy.out.past g j _ hgG, HOy.out.put g j _⟩)
                  clear hblk hlj hidx hgG
                  go_wp2
                  go_roundw
                  case rel => exact ⟨HR2.out.1, HR2.out.2.1, HR2.out.2.2, j + 1, by omega, by go_num⟩
                  case measure => simp [intOf]; omega
                · obtain rfl : j = nj := by omega
                  clear hout
                  go_wp2
                  go_roundw
                  case rel => exact ⟨HBy.out, HIy.out, HOy.out, q + 1, by omega, by go_num⟩
                  case measure => simp [intOf]; omega
            · obtain rfl : q = 4 := by omega
              clear HX HOx
              rw [show ((4 : Nat) : Int) = 4 from rfl]
              go_wp2_with fail
              refine (HD.out _ (HIN.out _ HIx.out) (HG.out.below HBx.out)).mono ?_
              rintro e w9 ⟨rfl, hb⟩
              have HB9 := Lib.hid (bel0 HBx.out hb)
              have HI9 := Lib.hid (HIx.out.below hb)
              clear hb
              go_wp2_with fail
              refine (HS.out _ (HIN.out _ HI9.out) (HR.out.below HB9.out)).mono ?_
              rintro e w' ⟨rfl, rfl⟩
              have hc1 := HI9.out.cell k (by rw [HML.out]; omega)
              have hc2 := HI9.out.cell (k + 1) (by rw [HML.out]; omega)
              rw [HG1.out] at hc1
              rw [HG2.out] at hc2
              have hd1 : w9.cell? ⟨G, k, none⟩ = some (.int .u8 170) := hc1
              have hd2 : w9.cell? ⟨G, k + 1, none⟩ = some (.int .u8 187) := hc2
              clear hc1 hc2
              go_wp2
              go_roundw
              case rel => exact ⟨HB9.out, HI9.out, t + 1, by omega, by go_num⟩
              case measure => simp [intOf]; omega
      · obtain rfl : t = 2 := by omega
        go_wp2
        go_ret
        exact ⟨rfl, HB.out⟩

end Go.Proofs.YtgnaiolbleadbaaDoor.packedOwn

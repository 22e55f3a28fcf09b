/- The walk of the statement EditTwo: it answers true, and below its own memory nothing turns. -/
import Derived.Test.YtfkenoehoocobaaEdTwo
import Derived.Deep.RegionHeld3
namespace Go.Proofs.Ytfkenoehoocobaa.editTwo
open Go.RowKit E
set_option linter.unusedVariables false

set_option maxRecDepth 100000 in
set_option maxHeartbeats 4000000 in
theorem walk (v : Value) (l : List UInt8) (na : Bool) (m : List UInt8) (v2 : Value) (l2 : List UInt8) (nb : Bool) (m2 : List UInt8) (x : UInt8) (w : World) (h : NumV w v l na m) (h2 : NumV w v2 l2 nb m2) :
    Calls Try.prog 8 #[v, v2, .int .u8 (x.toNat : Int)] w (New w (.bool true)) := by
  obtain ⟨y, hy1, hy⟩ : ∃ y, msgB y = true ∧ ((msgB x = true ∧ y = x) ∨ (msgB x = false ∧ y = 64)) := by
    by_cases h : msgB x = true
    · exact ⟨x, h, .inl ⟨h, rfl⟩⟩
    · exact ⟨64, by decide, .inr ⟨by simpa using h, rfl⟩⟩
  have HPA1 := Lib.hid (fun W (hb : Below w.heap.size w W) => pattern_any v l m na y (-1) W (h.below hb))
  have HPB1 := Lib.hid (fun W (hb : Below w.heap.size w W) => pattern_any v2 l2 m2 nb y (-1) W (h2.below hb))
  have HPS1 : Hid (∀ W, Below w.heap.size w W → Calls Try.prog 17 #[v2, .int .u8 34, .int .i64 (-1)] W (HPost W (ptN 34 (-1) (dgN l2) (tlN m2)))) := Lib.hid (fun W hb => pattern_any v2 l2 m2 nb 34 (-1) W (h2.below hb))
  have HKA1 := Lib.hid (fun W (hb : Below w.heap.size w W) => packed_any v l m na W (h.below hb))
  have HKB1 := Lib.hid (fun W (hb : Below w.heap.size w W) => packed_any v2 l2 m2 nb W (h2.below hb))
  have HEA := Lib.hid (fun W pv sv (g1 : SvB W pv (ptN y (-1) (dgN l) (tlN m))) (g2 : SvB W sv (pkN na (dgN l))) => edit4_any pv sv _ _ W _ _ _ _ g1 g2 (res_one (msgB_ne hy1) na (dgN l) (tlN m) (dgN_len l).2 (dgN_nine l) (dgN_len l).1 (tlN_len m) (tlN_msg m)))
  have HEB := Lib.hid (fun W pv sv (g1 : SvB W pv (ptN y (-1) (dgN l2) (tlN m2))) (g2 : SvB W sv (pkN nb (dgN l2))) => edit4_any pv sv _ _ W _ _ _ _ g1 g2 (res_one (msgB_ne hy1) nb (dgN l2) (tlN m2) (dgN_len l2).2 (dgN_nine l2) (dgN_len l2).1 (tlN_len m2) (tlN_msg m2)))
  have HE20 := Lib.hid (fun (h256 : (ptN y (-1) (dgN l) (tlN m) ++ ptN 34 (-1) (dgN l2) (tlN m2)).length ≤ 256) W pv sv (g1 : SvB W pv (ptN y (-1) (dgN l) (tlN m) ++ ptN 34 (-1) (dgN l2) (tlN m2))) (g2 : SvB W sv (pkN na (dgN l) ++ pkN nb (dgN l2))) =>
    edit4_any pv sv _ _ W _ _ _ _ g1 g2 (res_two (msgB_ne hy1) na nb (dgN l) (dgN l2) (tlN m) (tlN m2) (dgN_len l).2 (dgN_len l2).2 (dgN_nine l) (dgN_nine l2) (tlN_msg m) (tlN_msg m2) h256))
  have hl1 := ptN_len y (-1) (dgN l) (tlN m)
  have hl2 := ptN_len 34 (-1) (dgN l2) (tlN m2)
  have hl3 := pkN_len na (dgN l) (dgN_len l).2 (dgN_len l).1
  have hl4 := pkN_len nb (dgN l2) (dgN_len l2).2 (dgN_len l2).1
  have hl5 := txN_len y (zN (dgN l)) (dgN l) (tlN m) (na && decide (zN (dgN l) < (dgN l).length))
  have hl6 := txN_len y (zN (dgN l2)) (dgN l2) (tlN m2) (nb && decide (zN (dgN l2) < (dgN l2).length))
  have hd1 := (dgN_len l).1
  have hd2 := (dgN_len l2).1
  have ht1 := tlN_len m
  have ht2 := tlN_len m2
  have hz2 := zN_le (dgN l2)
  obtain ⟨mka, hmka⟩ : ∃ mk : Int, mk = if zN (dgN l) = (dgN l).length then (-1 : Int) else ((1 + zN (dgN l) : Nat) : Int) := ⟨_, rfl⟩
  obtain ⟨mkb, hmkb⟩ : ∃ mk : Int, mk = if zN (dgN l2) = (dgN l2).length then (-1 : Int) else ((1 + zN (dgN l2) : Nat) : Int) := ⟨_, rfl⟩
  obtain ⟨mk2, hmk2⟩ : ∃ mk : Int, mk = (if zN (dgN l2) = (dgN l2).length then (if zN (dgN l) = (dgN l).length then -1 else ((1 + zN (dgN l) : Nat) : Int)) else (((1 + (dgN l).length + (tlN m).length) + (1 + zN (dgN l2)) : Nat) : Int)) := ⟨_, rfl⟩
  rw [← hmka] at HEA hmk2
  rw [← hmkb] at HEB
  rw [← hmka, ← hmk2] at HE20
  generalize txN y (zN (dgN l)) (dgN l) (tlN m) (na && decide (zN (dgN l) < (dgN l).length)) = txa at *
  generalize txN y (zN (dgN l2)) (dgN l2) (tlN m2) (nb && decide (zN (dgN l2) < (dgN l2).length)) = txb at *
  have hcase : (mkb = -1 ∧ mk2 = mka) ∨ ((0 : Int) ≤ mkb ∧ mkb ≤ 200 ∧ mk2 = (txa.length : Int) + mkb) := by
    by_cases hz : zN (dgN l2) = (dgN l2).length
    · rw [if_pos hz] at hmkb hmk2
      exact .inl ⟨hmkb, hmk2⟩
    · rw [if_neg hz] at hmkb hmk2
      exact .inr ⟨by omega, by omega, by omega⟩
  obtain ⟨tx, htx⟩ : ∃ tx, tx = txa ++ txb := ⟨_, rfl⟩
  rw [← htx] at HE20
  have HTX := Lib.hid htx
  have HC := Lib.hid hcase
  have HLN : Hid ((ptN y (-1) (dgN l) (tlN m)).length ≤ 150 ∧ (ptN 34 (-1) (dgN l2) (tlN m2)).length ≤ 150 ∧ (pkN na (dgN l)).length ≤ 50 ∧ (pkN nb (dgN l2)).length ≤ 50) := Lib.hid ⟨by omega, by omega, by omega, by omega⟩
  have HLT : Hid (txa.length ≤ 200 ∧ txb.length ≤ 200) := Lib.hid ⟨by omega, by omega⟩
  clear htx hcase hmka hmkb hmk2 hl1 hl2 hl3 hl4 hl5 hl6 hd1 hd2 ht1 ht2 hz2 hy1
  generalize cdN na (dgN l) = cca at *
  generalize cdN nb (dgN l2) = ccb at *
  generalize pkN na (dgN l) = ka at *
  generalize pkN nb (dgN l2) = kb at *
  generalize ptN y (-1) (dgN l) (tlN m) = pa at *
  generalize ptN y (-1) (dgN l2) (tlN m2) = pb at *
  generalize ptN 34 (-1) (dgN l2) (tlN m2) = ps at *
  have HY := Lib.hid hy
  clear hy
  obtain ⟨d, tv, rfl, hd, ht⟩ := h
  obtain ⟨p, c0, rfl, -⟩ := hd
  obtain ⟨q, cq, rfl, -⟩ := ht
  obtain ⟨d2, tv2, rfl, hd2, ht2⟩ := h2
  obtain ⟨p2, c2, rfl, -⟩ := hd2
  obtain ⟨q2, cq2, rfl, -⟩ := ht2
  have hbw := below2 w (.cells #[.slice p l.length c0, .bool na, .slice q m.length cq] 37) (.cells #[.slice p2 l2.length c2, .bool nb, .slice q2 m2.length cq2] 37)
  have hA := (Bx.new w 37 #[.slice p l.length c0, .bool na, .slice q m.length cq]).below (below_new _ (.cells #[.slice p2 l2.length c2, .bool nb, .slice q2 m2.length cq2] 37))
  have hB : Bx ((w.alloc (.cells #[.slice p l.length c0, .bool na, .slice q m.length cq] 37)).alloc (.cells #[.slice p2 l2.length c2, .bool nb, .slice q2 m2.length cq2] 37)) (w.heap.size + 1) 37 #[.slice p2 l2.length c2, .bool nb, .slice q2 m2.length cq2] := by
    have h := Bx.new (w.alloc (.cells #[.slice p l.length c0, .bool na, .slice q m.length cq] 37)) 37 #[.slice p2 l2.length c2, .bool nb, .slice q2 m2.length cq2]
    rw [World.size_alloc] at h
    exact h
  obtain ⟨W0, hW0⟩ : ∃ W0, W0 = (w.alloc (.cells #[.slice p l.length c0, .bool na, .slice q m.length cq] 37)).alloc (.cells #[.slice p2 l2.length c2, .bool nb, .slice q2 m2.length cq2] 37) := ⟨_, rfl⟩
  rw [← hW0] at hbw hA hB
  have HBW := Lib.hid hbw
  have HA0 := Lib.hid hA
  have HB0 := Lib.hid hB
  have HPA := Lib.hid (fun W (hb : Below W0.heap.size W0 W) => HPA1.out W (bel0 hbw hb))
  have HPS := Lib.hid (fun W (hb : Below W0.heap.size W0 W) => HPS1.out W (bel0 hbw hb))
  clear hbw hA hB HPS1
  go_enter Try.func8, Try.ntmps8
  go_wp2_with fail
  rw [← hW0]
  clear hW0
  refine (plain_any x _).mono ?_
  rintro e w1 ⟨rfl, hw⟩
  subst hw
  go_upto_if 17 with fail
  go_cut [2] from 15 to 17 (fun f wx => f = .int .u8 (y.toNat : Int) ∧ W0 = wx)
  case first =>
    rcases HY.out with ⟨hm, rfl⟩ | ⟨hm, rfl⟩
    all_goals
      rw [hm]
      go_wp2_with fail
      go_meet
      exact ⟨rfl, rfl⟩
  case rest =>
    obtain ⟨rfl, hw⟩ := hcut
    subst hw
    go_upto_region 3 with fail
    go_cut [7] from 18 to 23 (fun sv wx => AfL W0 (pa ++ ps) sv wx)
    case first =>
      refine wp_region_noPanic ?_
      refine wp_region_held_drew (S := fun W => W.cell? ⟨w.heap.size, 0, none⟩ = some (.slice p l.length c0) ∧ W.cell? ⟨w.heap.size, 1, none⟩ = some (.bool na) ∧ W.cell? ⟨w.heap.size, 2, none⟩ = some (.slice q m.length cq) ∧ W.cell? ⟨w.heap.size + 1, 0, none⟩ = some (.slice p2 l2.length c2) ∧ W.cell? ⟨w.heap.size + 1, 1, none⟩ = some (.bool nb) ∧ W.cell? ⟨w.heap.size + 1, 2, none⟩ = some (.slice q2 m2.length cq2) ∧ ApS W0 W) (by kernel_rfl) (sx_of HA0.out HB0.out (Below.refl _ _).drew) (fun k0 => ?_)
      show wpAnyH _ _ _ _ _ 7 #[false, false, false, false, false, false, false] _ _
      refine wpAnyH_take (i := 0) (oi := { dst := some 18, op := Go.Op.load 37 (Go.Operand.tmp 3), type := 37, pos := "outright.go:220", after := #[], guard := none }) (v := .agg #[.slice p l.length c0, .bool na, .slice q m.length cq]) rfl (by kernel_rfl) (by kernel_rfl) (by kernel_rfl) (fun _ _ _ h => h) (Or.inl ⟨by rfl, fun W hSw => by (try dsimp only at hSw); go_simp⟩) k0 ?_
      try simp only [Act.put, List.setIfInBounds_toArray, List.set_cons_zero, List.set_cons_succ]
      refine wpAnyH_take (i := 1) (oi := { dst := some 19, op := Go.Op.move (Go.Operand.tmp 2), type := 5, pos := "outright.go:220", after := #[], guard := none }) (v := .int .u8 (y.toNat : Int)) rfl (by kernel_rfl) (by kernel_rfl) (by kernel_rfl) (fun _ _ _ h => h) (Or.inl ⟨by rfl, fun W hSw => by (try dsimp only at hSw); go_simp⟩) k0 ?_
      try simp only [Act.put, List.setIfInBounds_toArray, List.set_cons_zero, List.set_cons_succ]
      refine wpAnyH_take (i := 3) (oi := { dst := some 21, op := Go.Op.load 37 (Go.Operand.tmp 4), type := 37, pos := "outright.go:220", after := #[], guard := none }) (v := .agg #[.slice p2 l2.length c2, .bool nb, .slice q2 m2.length cq2]) rfl (by kernel_rfl) (by kernel_rfl) (by kernel_rfl) (fun _ _ _ h => h) (Or.inl ⟨by rfl, fun W hSw => by (try dsimp only at hSw); go_simp⟩) k0 ?_
      try simp only [Act.put, List.setIfInBounds_toArray, List.set_cons_zero, List.set_cons_succ]
      refine wpAnyH_ready (rs := [2]) (by kernel_rfl) (by simp) ?_
      refine AllReadyH.cons (o := { dst := some 20, op := Go.Op.call { callee := Go.Callee.value (Go.Operand.func 17), args := #[Go.Operand.tmp 18, Go.Operand.tmp 19, Go.Operand.const (Go.Value.int Go.IntKind.i64 (-1))], argTypes := #[37, 5, 3] }, type := 22, pos := "outright.go:220", after := #[{ on := 0, ground := Go.Ground.data }, { on := 1, ground := Go.Ground.data }], guard := none }) rfl (fun K hK => ?_) AllReadyH.nil
      go_simp
      go_at_call 17
      refine (HPA.out _ (sx_bel k0)).mono ?_
      rintro e w1 ⟨sv1, rfl, ho1, hb1⟩
      go_wp2_with fail
      refine hK.out _ _ (sx_nx hb1 k0) (fun k1 => ?_)
      have ha1 := ho1
      clear hK K
      try simp only [List.setIfInBounds_toArray, List.set_cons_zero, List.set_cons_succ]
      refine wpAnyH_ready (rs := [4]) (by kernel_rfl) (by simp) ?_
      refine AllReadyH.cons (o := { dst := some 22, op := Go.Op.call { callee := Go.Callee.value (Go.Operand.func 17), args := #[Go.Operand.tmp 21, Go.Operand.const (Go.Value.int Go.IntKind.u8 34), Go.Operand.const (Go.Value.int Go.IntKind.i64 (-1))], argTypes := #[37, 5, 3] }, type := 22, pos := "outright.go:220", after := #[{ on := 3, ground := Go.Ground.data }, { on := 2, ground := Go.Ground.chain }], guard := none }) rfl (fun K hK => ?_) AllReadyH.nil
      go_simp
      go_at_call 17
      refine (HPS.out _ (sx_bel k1)).mono ?_
      rintro e w2 ⟨sv2, rfl, ho2, hb2⟩
      go_wp2_with fail
      refine hK.out _ _ (sx_nx hb2 k1) (fun k2 => ?_)
      have ha2 := ha1.kept hb2
      have hs2 := ho2.svb
      clear hK K
      try simp only [List.setIfInBounds_toArray, List.set_cons_zero, List.set_cons_succ]
      refine wpAnyH_ready (rs := [5]) (by kernel_rfl) (by simp) ?_
      refine AllReadyH.cons (o := { dst := some 23, op := Go.Op.call { callee := Go.Callee.builtin Go.Builtin.append, args := #[Go.Operand.tmp 20, Go.Operand.tmp 22], argTypes := #[22, 22] }, type := 22, pos := "outright.go:220", after := #[{ on := 2, ground := Go.Ground.data }, { on := 4, ground := Go.Ground.data }, { on := 4, ground := Go.Ground.chain }], guard := none }) rfl (fun K hK => ?_) AllReadyH.nil
      rw [if_pos (by rfl)]
      refine op_append_sv (.tmp 20) (.tmp 22) rfl _ _ _ pa.length (bsU pa) ps rfl rfl (hold_own ha2) hs2 (by have := HLN.out; omega) (sx_bel k2).size ?_
      intro vv w3 ho3 hg3
      have hb3 : Below W0.heap.size W0 w3 := (sx_bel k2).grown hg3 (sx_bel k2).size (fun r hr => Nat.le_trans (Nat.le_refl _) (World.ownsRow.lt (hold_own ha2) r hr).1)
      refine hK.out _ _ (sx_of HA0.out HB0.out hb3) (fun k3 => ?_)
      have hp3 := hold_app ho3
      clear hK K
      try simp only [List.setIfInBounds_toArray, List.set_cons_zero, List.set_cons_succ]
      refine wpAnyH_take (i := 6) (oi := { dst := some 7, op := Go.Op.assign (Go.Operand.tmp 23), type := 22, pos := "outright.go:220", after := #[{ on := 5, ground := Go.Ground.data }, { on := 5, ground := Go.Ground.chain }, { on := 0, ground := Go.Ground.phase }, { on := 1, ground := Go.Ground.phase }, { on := 2, ground := Go.Ground.phase }, { on := 3, ground := Go.Ground.phase }, { on := 4, ground := Go.Ground.phase }, { on := 5, ground := Go.Ground.phase }], guard := none }) (v := vv) rfl (by kernel_rfl) (by kernel_rfl) (by kernel_rfl) (fun _ _ _ h => h) (Or.inl ⟨by rfl, fun W hSw => by (try dsimp only at hSw); go_simp⟩) k3 ?_
      try simp only [Act.put, List.setIfInBounds_toArray, List.set_cons_zero, List.set_cons_succ]
      refine wpAnyH_done (by kernel_rfl) ?_ _
      refine NoPanic.normal ?_
      go_wp2_with fail
      go_meet
      exact ⟨hp3, hb3⟩
    case rest =>
      obtain ⟨hh, hb⟩ := hcut
      obtain ⟨W1, rfl⟩ : ∃ W1, W1 = wc := ⟨_, rfl⟩
      obtain ⟨p7, c7, rfl⟩ := own_slice (hold_own hh)
      obtain ⟨N, hN⟩ : ∃ N, N = (pa ++ ps).length := ⟨_, rfl⟩
      have hp := hh.svb
      rw [← hN] at hp ⊢
      have HP1 := Lib.hid hp
      have HBW1 := Lib.hid (bel0 HBW.out hb)
      have HA1 := Lib.hid (HA0.out.below hb)
      have HB1 := Lib.hid (HB0.out.below hb)
      have HNN := Lib.hid hN
      clear hh hb hp hN HPA HPS HA0 HB0
      by_cases h256 : N ≤ 256
      · have i1 : ¬ ((256 : Int) < (N : Int)) := by omega
        have HE2 := Lib.hid (HE20.out (by rw [← HNN.out]; exact h256))
        have HPA := Lib.hid (fun W (hb : Below W1.heap.size W1 W) => HPA1.out W (bel0 HBW1.out hb))
        have HKA := Lib.hid (fun W (hb : Below W1.heap.size W1 W) => HKA1.out W (bel0 HBW1.out hb))
        clear HE20
        go_upto_region 6 with fail
        clear i1 h256
        go_cut [8, 9] from 28 to 36 (fun rv ev wx => AfterEd W1 txa cca mka 0 rv ev wx ∧ ev = .int .i64 0)
        case first =>
          refine wp_region_noPanic ?_
          refine wp_region_held_drew (S := fun W => W.cell? ⟨w.heap.size, 0, none⟩ = some (.slice p l.length c0) ∧ W.cell? ⟨w.heap.size, 1, none⟩ = some (.bool na) ∧ W.cell? ⟨w.heap.size, 2, none⟩ = some (.slice q m.length cq) ∧ ApS W1 W) (by kernel_rfl) (cd_dr (cd_of HA1.out (Below.refl _ _))) (fun k0 => ?_)
          show wpAnyH _ _ _ _ _ 12 #[false, false, false, false, false, false, false, false, false, false, false, false] _ _
          refine wpAnyH_take (i := 0) (oi := { dst := some 29, op := Go.Op.load 37 (Go.Operand.tmp 3), type := 37, pos := "outright.go:224", after := #[], guard := none }) (v := .agg #[.slice p l.length c0, .bool na, .slice q m.length cq]) rfl (by kernel_rfl) (by kernel_rfl) (by kernel_rfl) (fun _ _ _ h => h) (Or.inl ⟨by rfl, fun W hSw => by (try dsimp only at hSw); go_simp⟩) k0 ?_
          try simp only [Act.put, List.setIfInBounds_toArray, List.set_cons_zero, List.set_cons_succ]
          refine wpAnyH_take (i := 1) (oi := { dst := some 30, op := Go.Op.move (Go.Operand.tmp 2), type := 5, pos := "outright.go:224", after := #[], guard := none }) (v := .int .u8 (y.toNat : Int)) rfl (by kernel_rfl) (by kernel_rfl) (by kernel_rfl) (fun _ _ _ h => h) (Or.inl ⟨by rfl, fun W hSw => by (try dsimp only at hSw); go_simp⟩) k0 ?_
          try simp only [Act.put, List.setIfInBounds_toArray, List.set_cons_zero, List.set_cons_succ]
          refine wpAnyH_take (i := 3) (oi := { dst := some 32, op := Go.Op.load 37 (Go.Operand.tmp 3), type := 37, pos := "outright.go:224", after := #[], guard := none }) (v := .agg #[.slice p l.length c0, .bool na, .slice q m.length cq]) rfl (by kernel_rfl) (by kernel_rfl) (by kernel_rfl) (fun _ _ _ h => h) (Or.inl ⟨by rfl, fun W hSw => by (try dsimp only at hSw); go_simp⟩) k0 ?_
          try simp only [Act.put, List.setIfInBounds_toArray, List.set_cons_zero, List.set_cons_succ]
          refine wpAnyH_ready (rs := [2, 9]) (by kernel_rfl) (by simp) ?_
          refine AllReadyH.cons (o := { dst := some 31, op := Go.Op.call { callee := Go.Callee.value (Go.Operand.func 17), args := #[Go.Operand.tmp 29, Go.Operand.tmp 30, Go.Operand.const (Go.Value.int Go.IntKind.i64 (-1))], argTypes := #[37, 5, 3] }, type := 22, pos := "outright.go:224", after := #[{ on := 0, ground := Go.Ground.data }, { on := 1, ground := Go.Ground.data }], guard := none }) rfl (fun K hK => ?_) (AllReadyH.cons (o := { dst := some 8, op := Go.Op.alloc 26, type := 0, pos := "outright.go:224", after := #[], guard := none }) rfl (fun K hK => ?_) AllReadyH.nil)
          · go_simp
            go_at_call 17
            refine (HPA.out _ (cd_bel k0)).mono ?_
            rintro e w1 ⟨sv1, rfl, ho1, hb1⟩
            go_wp2_with fail
            refine hK.out _ _ (cd_nx hb1 k0) (fun k1 => ?_)
            have ha1 := ho1.svb
            clear hK K
            try simp only [List.setIfInBounds_toArray, List.set_cons_zero, List.set_cons_succ]
            refine wpAnyH_ready (rs := [4, 9]) (by kernel_rfl) (by simp) ?_
            refine AllReadyH.cons (o := { dst := some 33, op := Go.Op.call { callee := Go.Callee.value (Go.Operand.func 18), args := #[Go.Operand.tmp 32], argTypes := #[37] }, type := 22, pos := "outright.go:224", after := #[{ on := 3, ground := Go.Ground.data }, { on := 2, ground := Go.Ground.chain }], guard := none }) rfl (fun K hK => ?_) (AllReadyH.cons (o := { dst := some 8, op := Go.Op.alloc 26, type := 0, pos := "outright.go:224", after := #[], guard := none }) rfl (fun K hK => ?_) AllReadyH.nil)
            · go_simp
              go_at_call 18
              refine (HKA.out _ (cd_bel k1)).mono ?_
              rintro e w2 ⟨sv2, rfl, ho2, hb2⟩
              go_wp2_with fail
              refine hK.out _ _ (cd_nx hb2 k1) (fun k2 => ?_)
              have ha2 := ha1.below hb2
              have hs2 := ho2.svb
              clear hK K
              try simp only [List.setIfInBounds_toArray, List.set_cons_zero, List.set_cons_succ]
              refine wpAnyH_ready (rs := [5, 9]) (by kernel_rfl) (by simp) ?_
              refine AllReadyH.cons (o := { dst := some 34, op := Go.Op.call { callee := Go.Callee.value (Go.Operand.func 12), args := #[Go.Operand.tmp 31, Go.Operand.tmp 33], argTypes := #[22, 22] }, type := 27, pos := "outright.go:224", after := #[{ on := 2, ground := Go.Ground.data }, { on := 4, ground := Go.Ground.data }, { on := 4, ground := Go.Ground.chain }], guard := none }) rfl (fun K hK => ?_) (AllReadyH.cons (o := { dst := some 8, op := Go.Op.alloc 26, type := 0, pos := "outright.go:224", after := #[], guard := none }) rfl (fun K hK => ?_) AllReadyH.nil)
              · go_simp
                go_at_call 12
                refine (HEA.out _ _ _ ha2 hs2).mono ?_
                rintro e w3 ⟨pv, cv, rfl, hh3, hb3⟩
                go_wp2_with fail
                refine hK.out _ _ (cd_nx hb3 k2) (fun k3 => ?_)
                have ha3 := ha2.below hb3
                have hs3 := hs2.below hb3
                clear hK K
                try simp only [List.setIfInBounds_toArray, List.set_cons_zero, List.set_cons_succ]
                refine wpAnyH_take (i := 6) (oi := { dst := some 28, op := Go.Op.move (Go.Operand.tmp 34), type := 27, pos := "outright.go:224", after := #[{ on := 5, ground := Go.Ground.data }], guard := none }) (v := .tuple #[.agg #[.slice pv txa.length cv, .int .i64 (cca : Int), .int .i64 mka], .int .i64 0]) rfl (by kernel_rfl) (by kernel_rfl) (by kernel_rfl) (fun _ _ _ h => h) (Or.inl ⟨by rfl, fun W hSw => by (try dsimp only at hSw); go_simp⟩) k3 ?_
                try simp only [Act.put, List.setIfInBounds_toArray, List.set_cons_zero, List.set_cons_succ]
                refine wpAnyH_take (i := 7) (oi := { dst := some 35, op := Go.Op.extract (Go.Operand.tmp 28) 0, type := 26, pos := "outright.go:224", after := #[{ on := 6, ground := Go.Ground.data }], guard := none }) (v := .agg #[.slice pv txa.length cv, .int .i64 (cca : Int), .int .i64 mka]) rfl (by kernel_rfl) (by kernel_rfl) (by kernel_rfl) (fun _ _ _ h => h) (Or.inl ⟨by rfl, fun W hSw => by (try dsimp only at hSw); go_simp⟩) k3 ?_
                try simp only [Act.put, List.setIfInBounds_toArray, List.set_cons_zero, List.set_cons_succ]
                refine wpAnyH_take (i := 8) (oi := { dst := some 36, op := Go.Op.extract (Go.Operand.tmp 28) 1, type := 3, pos := "outright.go:224", after := #[{ on := 6, ground := Go.Ground.data }, { on := 10, ground := Go.Ground.gcOnly Go.Departure.lateStores }], guard := none }) (v := .int .i64 0) rfl (by kernel_rfl) (by kernel_rfl) (by kernel_rfl) (fun _ _ _ h => h) (Or.inl ⟨by rfl, fun W hSw => by (try dsimp only at hSw); go_simp⟩) k3 ?_
                try simp only [Act.put, List.setIfInBounds_toArray, List.set_cons_zero, List.set_cons_succ]
                refine wpAnyH_ready (rs := [9]) (by kernel_rfl) (by simp) ?_
                refine AllReadyH.cons (o := { dst := some 8, op := Go.Op.alloc 26, type := 0, pos := "outright.go:224", after := #[], guard := none }) rfl (fun K hK => ?_) AllReadyH.nil
                go_simp
                refine hK.out _ _ (cd_al k3) (fun k4 => ?_)
                clear hK K
                try simp only [List.setIfInBounds_toArray, List.set_cons_zero, List.set_cons_succ]
                refine wpAnyH_ready (rs := [10]) (by kernel_rfl) (by simp) ?_
                refine AllReadyH.cons (o := { dst := none, op := Go.Op.store 26 (Go.Operand.tmp 8) (Go.Operand.tmp 35), type := 0, pos := "outright.go:224", after := #[{ on := 9, ground := Go.Ground.data }, { on := 7, ground := Go.Ground.data }, { on := 5, ground := Go.Ground.chain }, { on := 0, ground := Go.Ground.phase }, { on := 1, ground := Go.Ground.phase }, { on := 2, ground := Go.Ground.phase }, { on := 3, ground := Go.Ground.phase }, { on := 4, ground := Go.Ground.phase }, { on := 5, ground := Go.Ground.phase }, { on := 6, ground := Go.Ground.phase }, { on := 7, ground := Go.Ground.phase }, { on := 8, ground := Go.Ground.textOnly Go.Departure.lateStores }, { on := 9, ground := Go.Ground.phase }], guard := none }) rfl (fun K hK => ?_) AllReadyH.nil
                go_simp
                refine hK.out _ _ (cd_al k3) (fun k5 => ?_)
                clear hK K
                try simp only [List.setIfInBounds_toArray, List.set_cons_zero, List.set_cons_succ]
                refine wpAnyH_take (i := 11) (oi := { dst := some 9, op := Go.Op.assign (Go.Operand.tmp 36), type := 3, pos := "outright.go:224", after := #[{ on := 8, ground := Go.Ground.data }, { on := 10, ground := Go.Ground.chain }, { on := 0, ground := Go.Ground.phase }, { on := 1, ground := Go.Ground.phase }, { on := 2, ground := Go.Ground.phase }, { on := 3, ground := Go.Ground.phase }, { on := 4, ground := Go.Ground.phase }, { on := 5, ground := Go.Ground.phase }, { on := 6, ground := Go.Ground.phase }, { on := 7, ground := Go.Ground.phase }, { on := 8, ground := Go.Ground.phase }, { on := 9, ground := Go.Ground.phase }, { on := 10, ground := Go.Ground.phase }], guard := none }) (v := .int .i64 0) rfl (by kernel_rfl) (by kernel_rfl) (by kernel_rfl) (fun _ _ _ h => h) (Or.inl ⟨by rfl, fun W hSw => by (try dsimp only at hSw); go_simp⟩) k5 ?_
                try simp only [Act.put, List.setIfInBounds_toArray, List.set_cons_zero, List.set_cons_succ]
                refine wpAnyH_done (by kernel_rfl) ?_ _
                refine NoPanic.normal ?_
                go_wp2_with fail
                go_meet
                exact ⟨after_new (cd_bel k2) hh3 hb3, rfl⟩
              · go_simp
                refine hK.out _ _ (cd_al k2) (fun k3 => ?_)
                have hsz3 : W1.heap.size ≤ w2.heap.size := (cd_bel k2).size
                have ha3 := ha2.below (below_new _ (.cells #[.slice none 0 0, .int .i64 0, .int .i64 0] 26))
                have hs3 := hs2.below (below_new _ (.cells #[.slice none 0 0, .int .i64 0, .int .i64 0] 26))
                have bx3 : Bx (w2.alloc (.cells #[.slice none 0 0, .int .i64 0, .int .i64 0] 26)) w2.heap.size 26 #[.slice none 0 0, .int .i64 0, .int .i64 0] := Bx.new _ _ _
                clear hK K
                try simp only [List.setIfInBounds_toArray, List.set_cons_zero, List.set_cons_succ]
                refine wpAnyH_ready (rs := [5]) (by kernel_rfl) (by simp) ?_
                refine AllReadyH.cons (o := { dst := some 34, op := Go.Op.call { callee := Go.Callee.value (Go.Operand.func 12), args := #[Go.Operand.tmp 31, Go.Operand.tmp 33], argTypes := #[22, 22] }, type := 27, pos := "outright.go:224", after := #[{ on := 2, ground := Go.Ground.data }, { on := 4, ground := Go.Ground.data }, { on := 4, ground := Go.Ground.chain }], guard := none }) rfl (fun K hK => ?_) AllReadyH.nil
                go_simp
                go_at_call 12
                refine (HEA.out _ _ _ ha3 hs3).mono ?_
                rintro e w4 ⟨pv, cv, rfl, hh4, hb4⟩
                go_wp2_with fail
                refine hK.out _ _ (cd_nx hb4 k3) (fun k4 => ?_)
                have ha4 := ha3.below hb4
                have hs4 := hs3.below hb4
                have bx4 := bx3.below hb4
                obtain ⟨⟨b0, b1, b2⟩, f0, f1, f2⟩ := bx4.three
                clear hK K
                try simp only [List.setIfInBounds_toArray, List.set_cons_zero, List.set_cons_succ]
                refine wpAnyH_take (i := 6) (oi := { dst := some 28, op := Go.Op.move (Go.Operand.tmp 34), type := 27, pos := "outright.go:224", after := #[{ on := 5, ground := Go.Ground.data }], guard := none }) (v := .tuple #[.agg #[.slice pv txa.length cv, .int .i64 (cca : Int), .int .i64 mka], .int .i64 0]) rfl (by kernel_rfl) (by kernel_rfl) (by kernel_rfl) (fun _ _ _ h => h) (Or.inl ⟨by rfl, fun W hSw => by (try dsimp only at hSw); go_simp⟩) k4 ?_
                try simp only [Act.put, List.setIfInBounds_toArray, List.set_cons_zero, List.set_cons_succ]
                refine wpAnyH_take (i := 7) (oi := { dst := some 35, op := Go.Op.extract (Go.Operand.tmp 28) 0, type := 26, pos := "outright.go:224", after := #[{ on := 6, ground := Go.Ground.data }], guard := none }) (v := .agg #[.slice pv txa.length cv, .int .i64 (cca : Int), .int .i64 mka]) rfl (by kernel_rfl) (by kernel_rfl) (by kernel_rfl) (fun _ _ _ h => h) (Or.inl ⟨by rfl, fun W hSw => by (try dsimp only at hSw); go_simp⟩) k4 ?_
                try simp only [Act.put, List.setIfInBounds_toArray, List.set_cons_zero, List.set_cons_succ]
                refine wpAnyH_take (i := 8) (oi := { dst := some 36, op := Go.Op.extract (Go.Operand.tmp 28) 1, type := 3, pos := "outright.go:224", after := #[{ on := 6, ground := Go.Ground.data }, { on := 10, ground := Go.Ground.gcOnly Go.Departure.lateStores }], guard := none }) (v := .int .i64 0) rfl (by kernel_rfl) (by kernel_rfl) (by kernel_rfl) (fun _ _ _ h => h) (Or.inl ⟨by rfl, fun W hSw => by (try dsimp only at hSw); go_simp⟩) k4 ?_
                try simp only [Act.put, List.setIfInBounds_toArray, List.set_cons_zero, List.set_cons_succ]
                refine wpAnyH_ready (rs := [10]) (by kernel_rfl) (by simp) ?_
                refine AllReadyH.cons (o := { dst := none, op := Go.Op.store 26 (Go.Operand.tmp 8) (Go.Operand.tmp 35), type := 0, pos := "outright.go:224", after := #[{ on := 9, ground := Go.Ground.data }, { on := 7, ground := Go.Ground.data }, { on := 5, ground := Go.Ground.chain }, { on := 0, ground := Go.Ground.phase }, { on := 1, ground := Go.Ground.phase }, { on := 2, ground := Go.Ground.phase }, { on := 3, ground := Go.Ground.phase }, { on := 4, ground := Go.Ground.phase }, { on := 5, ground := Go.Ground.phase }, { on := 6, ground := Go.Ground.phase }, { on := 7, ground := Go.Ground.phase }, { on := 8, ground := Go.Ground.textOnly Go.Departure.lateStores }, { on := 9, ground := Go.Ground.phase }], guard := none }) rfl (fun K hK => ?_) AllReadyH.nil
                go_simp
                refine hK.out _ _ (cd_st HA1.out hsz3 k4) (fun k5 => ?_)
                clear hK K
                try simp only [List.setIfInBounds_toArray, List.set_cons_zero, List.set_cons_succ]
                refine wpAnyH_take (i := 11) (oi := { dst := some 9, op := Go.Op.assign (Go.Operand.tmp 36), type := 3, pos := "outright.go:224", after := #[{ on := 8, ground := Go.Ground.data }, { on := 10, ground := Go.Ground.chain }, { on := 0, ground := Go.Ground.phase }, { on := 1, ground := Go.Ground.phase }, { on := 2, ground := Go.Ground.phase }, { on := 3, ground := Go.Ground.phase }, { on := 4, ground := Go.Ground.phase }, { on := 5, ground := Go.Ground.phase }, { on := 6, ground := Go.Ground.phase }, { on := 7, ground := Go.Ground.phase }, { on := 8, ground := Go.Ground.phase }, { on := 9, ground := Go.Ground.phase }, { on := 10, ground := Go.Ground.phase }], guard := none }) (v := .int .i64 0) rfl (by kernel_rfl) (by kernel_rfl) (by kernel_rfl) (fun _ _ _ h => h) (Or.inl ⟨by rfl, fun W hSw => by (try dsimp only at hSw); go_simp⟩) k5 ?_
                try simp only [Act.put, List.setIfInBounds_toArray, List.set_cons_zero, List.set_cons_succ]
                refine wpAnyH_done (by kernel_rfl) ?_ _
                refine NoPanic.normal ?_
                go_wp2_with fail
                go_meet
                exact ⟨after_store (cd_bel k3) hsz3 (Bx.lt bx3) bx4 hh4 hb4, rfl⟩
            · go_simp
              refine hK.out _ _ (cd_al k1) (fun k2 => ?_)
              have hsz2 : W1.heap.size ≤ w1.heap.size := (cd_bel k1).size
              have ha2 := ha1.below (below_new _ (.cells #[.slice none 0 0, .int .i64 0, .int .i64 0] 26))
              have bx2 : Bx (w1.alloc (.cells #[.slice none 0 0, .int .i64 0, .int .i64 0] 26)) w1.heap.size 26 #[.slice none 0 0, .int .i64 0, .int .i64 0] := Bx.new _ _ _
              clear hK K
              try simp only [List.setIfInBounds_toArray, List.set_cons_zero, List.set_cons_succ]
              refine wpAnyH_ready (rs := [4]) (by kernel_rfl) (by simp) ?_
              refine AllReadyH.cons (o := { dst := some 33, op := Go.Op.call { callee := Go.Callee.value (Go.Operand.func 18), args := #[Go.Operand.tmp 32], argTypes := #[37] }, type := 22, pos := "outright.go:224", after := #[{ on := 3, ground := Go.Ground.data }, { on := 2, ground := Go.Ground.chain }], guard := none }) rfl (fun K hK => ?_) AllReadyH.nil
              go_simp
              go_at_call 18
              refine (HKA.out _ (cd_bel k2)).mono ?_
              rintro e w3 ⟨sv3, rfl, ho3, hb3⟩
              go_wp2_with fail
              refine hK.out _ _ (cd_nx hb3 k2) (fun k3 => ?_)
              have ha3 := ha2.below hb3
              have bx3 := bx2.below hb3
              have hs3 := ho3.svb
              clear hK K
              try simp only [List.setIfInBounds_toArray, List.set_cons_zero, List.set_cons_succ]
              refine wpAnyH_ready (rs := [5]) (by kernel_rfl) (by simp) ?_
              refine AllReadyH.cons (o := { dst := some 34, op := Go.Op.call { callee := Go.Callee.value (Go.Operand.func 12), args := #[Go.Operand.tmp 31, Go.Operand.tmp 33], argTypes := #[22, 22] }, type := 27, pos := "outright.go:224", after := #[{ on := 2, ground := Go.Ground.data }, { on := 4, ground := Go.Ground.data }, { on := 4, ground := Go.Ground.chain }], guard := none }) rfl (fun K hK => ?_) AllReadyH.nil
              go_simp
              go_at_call 12
              refine (HEA.out _ _ _ ha3 hs3).mono ?_
              rintro e w4 ⟨pv, cv, rfl, hh4, hb4⟩
              go_wp2_with fail
              refine hK.out _ _ (cd_nx hb4 k3) (fun k4 => ?_)
              have ha4 := ha3.below hb4
              have bx4 := bx3.below hb4
              have hs4 := hs3.below hb4
              obtain ⟨⟨b0, b1, b2⟩, f0, f1, f2⟩ := bx4.three
              clear hK K
              try simp only [List.setIfInBounds_toArray, List.set_cons_zero, List.set_cons_succ]
              refine wpAnyH_take (i := 6) (oi := { dst := some 28, op := Go.Op.move (Go.Operand.tmp 34), type := 27, pos := "outright.go:224", after := #[{ on := 5, ground := Go.Ground.data }], guard := none }) (v := .tuple #[.agg #[.slice pv txa.length cv, .int .i64 (cca : Int), .int .i64 mka], .int .i64 0]) rfl (by kernel_rfl) (by kernel_rfl) (by kernel_rfl) (fun _ _ _ h => h) (Or.inl ⟨by rfl, fun W hSw => by (try dsimp only at hSw); go_simp⟩) k4 ?_
              try simp only [Act.put, List.setIfInBounds_toArray, List.set_cons_zero, List.set_cons_succ]
              refine wpAnyH_take (i := 7) (oi := { dst := some 35, op := Go.Op.extract (Go.Operand.tmp 28) 0, type := 26, pos := "outright.go:224", after := #[{ on := 6, ground := Go.Ground.data }], guard := none }) (v := .agg #[.slice pv txa.length cv, .int .i64 (cca : Int), .int .i64 mka]) rfl (by kernel_rfl) (by kernel_rfl) (by kernel_rfl) (fun _ _ _ h => h) (Or.inl ⟨by rfl, fun W hSw => by (try dsimp only at hSw); go_simp⟩) k4 ?_
              try simp only [Act.put, List.setIfInBounds_toArray, List.set_cons_zero, List.set_cons_succ]
              refine wpAnyH_take (i := 8) (oi := { dst := some 36, op := Go.Op.extract (Go.Operand.tmp 28) 1, type := 3, pos := "outright.go:224", after := #[{ on := 6, ground := Go.Ground.data }, { on := 10, ground := Go.Ground.gcOnly Go.Departure.lateStores }], guard := none }) (v := .int .i64 0) rfl (by kernel_rfl) (by kernel_rfl) (by kernel_rfl) (fun _ _ _ h => h) (Or.inl ⟨by rfl, fun W hSw => by (try dsimp only at hSw); go_simp⟩) k4 ?_
              try simp only [Act.put, List.setIfInBounds_toArray, List.set_cons_zero, List.set_cons_succ]
              refine wpAnyH_ready (rs := [10]) (by kernel_rfl) (by simp) ?_
              refine AllReadyH.cons (o := { dst := none, op := Go.Op.store 26 (Go.Operand.tmp 8) (Go.Operand.tmp 35), type := 0, pos := "outright.go:224", after := #[{ on := 9, ground := Go.Ground.data }, { on := 7, ground := Go.Ground.data }, { on := 5, ground := Go.Ground.chain }, { on := 0, ground := Go.Ground.phase }, { on := 1, ground := Go.Ground.phase }, { on := 2, ground := Go.Ground.phase }, { on := 3, ground := Go.Ground.phase }, { on := 4, ground := Go.Ground.phase }, { on := 5, ground := Go.Ground.phase }, { on := 6, ground := Go.Ground.phase }, { on := 7, ground := Go.Ground.phase }, { on := 8, ground := Go.Ground.textOnly Go.Departure.lateStores }, { on := 9, ground := Go.Ground.phase }], guard := none }) rfl (fun K hK => ?_) AllReadyH.nil
              go_simp
              refine hK.out _ _ (cd_st HA1.out hsz2 k4) (fun k5 => ?_)
              clear hK K
              try simp only [List.setIfInBounds_toArray, List.set_cons_zero, List.set_cons_succ]
              refine wpAnyH_take (i := 11) (oi := { dst := some 9, op := Go.Op.assign (Go.Operand.tmp 36), type := 3, pos := "outright.go:224", after := #[{ on := 8, ground := Go.Ground.data }, { on := 10, ground := Go.Ground.chain }, { on := 0, ground := Go.Ground.phase }, { on := 1, ground := Go.Ground.phase }, { on := 2, ground := Go.Ground.phase }, { on := 3, ground := Go.Ground.phase }, { on := 4, ground := Go.Ground.phase }, { on := 5, ground := Go.Ground.phase }, { on := 6, ground := Go.Ground.phase }, { on := 7, ground := Go.Ground.phase }, { on := 8, ground := Go.Ground.phase }, { on := 9, ground := Go.Ground.phase }, { on := 10, ground := Go.Ground.phase }], guard := none }) (v := .int .i64 0) rfl (by kernel_rfl) (by kernel_rfl) (by kernel_rfl) (fun _ _ _ h => h) (Or.inl ⟨by rfl, fun W hSw => by (try dsimp only at hSw); go_simp⟩) k5 ?_
              try simp only [Act.put, List.setIfInBounds_toArray, List.set_cons_zero, List.set_cons_succ]
              refine wpAnyH_done (by kernel_rfl) ?_ _
              refine NoPanic.normal ?_
              go_wp2_with fail
              go_meet
              exact ⟨after_store (cd_bel k3) hsz2 (Bx.lt bx3) bx4 hh4 hb4, rfl⟩
          · go_simp
            refine hK.out _ _ (cd_al k0) (fun k1 => ?_)
            have hsz1 : W1.heap.size ≤ W1.heap.size := (cd_bel k0).size
            have bx1 : Bx (W1.drew.alloc (.cells #[.slice none 0 0, .int .i64 0, .int .i64 0] 26)) W1.heap.size 26 #[.slice none 0 0, .int .i64 0, .int .i64 0] := Bx.new _ _ _
            clear hK K
            try simp only [List.setIfInBounds_toArray, List.set_cons_zero, List.set_cons_succ]
            refine wpAnyH_ready (rs := [2]) (by kernel_rfl) (by simp) ?_
            refine AllReadyH.cons (o := { dst := some 31, op := Go.Op.call { callee := Go.Callee.value (Go.Operand.func 17), args := #[Go.Operand.tmp 29, Go.Operand.tmp 30, Go.Operand.const (Go.Value.int Go.IntKind.i64 (-1))], argTypes := #[37, 5, 3] }, type := 22, pos := "outright.go:224", after := #[{ on := 0, ground := Go.Ground.data }, { on := 1, ground := Go.Ground.data }], guard := none }) rfl (fun K hK => ?_) AllReadyH.nil
            go_simp
            go_at_call 17
            refine (HPA.out _ (cd_bel k1)).mono ?_
            rintro e w2 ⟨sv2, rfl, ho2, hb2⟩
            go_wp2_with fail
            refine hK.out _ _ (cd_nx hb2 k1) (fun k2 => ?_)
            have bx2 := bx1.below hb2
            have ha2 := ho2.svb
            clear hK K
            try simp only [List.setIfInBounds_toArray, List.set_cons_zero, List.set_cons_succ]
            refine wpAnyH_ready (rs := [4]) (by kernel_rfl) (by simp) ?_
            refine AllReadyH.cons (o := { dst := some 33, op := Go.Op.call { callee := Go.Callee.value (Go.Operand.func 18), args := #[Go.Operand.tmp 32], argTypes := #[37] }, type := 22, pos := "outright.go:224", after := #[{ on := 3, ground := Go.Ground.data }, { on := 2, ground := Go.Ground.chain }], guard := none }) rfl (fun K hK => ?_) AllReadyH.nil
            go_simp
            go_at_call 18
            refine (HKA.out _ (cd_bel k2)).mono ?_
            rintro e w3 ⟨sv3, rfl, ho3, hb3⟩
            go_wp2_with fail
            refine hK.out _ _ (cd_nx hb3 k2) (fun k3 => ?_)
            have bx3 := bx2.below hb3
            have ha3 := ha2.below hb3
            have hs3 := ho3.svb
            clear hK K
            try simp only [List.setIfInBounds_toArray, List.set_cons_zero, List.set_cons_succ]
            refine wpAnyH_ready (rs := [5]) (by kernel_rfl) (by simp) ?_
            refine AllReadyH.cons (o := { dst := some 34, op := Go.Op.call { callee := Go.Callee.value (Go.Operand.func 12), args := #[Go.Operand.tmp 31, Go.Operand.tmp 33], argTypes := #[22, 22] }, type := 27, pos := "outright.go:224", after := #[{ on := 2, ground := Go.Ground.data }, { on := 4, ground := Go.Ground.data }, { on := 4, ground := Go.Ground.chain }], guard := none }) rfl (fun K hK => ?_) AllReadyH.nil
            go_simp
            go_at_call 12
            refine (HEA.out _ _ _ ha3 hs3).mono ?_
            rintro e w4 ⟨pv, cv, rfl, hh4, hb4⟩
            go_wp2_with fail
            refine hK.out _ _ (cd_nx hb4 k3) (fun k4 => ?_)
            have bx4 := bx3.below hb4
            have ha4 := ha3.below hb4
            have hs4 := hs3.below hb4
            obtain ⟨⟨b0, b1, b2⟩, f0, f1, f2⟩ := bx4.three
            clear hK K
            try simp only [List.setIfInBounds_toArray, List.set_cons_zero, List.set_cons_succ]
            refine wpAnyH_take (i := 6) (oi := { dst := some 28, op := Go.Op.move (Go.Operand.tmp 34), type := 27, pos := "outright.go:224", after := #[{ on := 5, ground := Go.Ground.data }], guard := none }) (v := .tuple #[.agg #[.slice pv txa.length cv, .int .i64 (cca : Int), .int .i64 mka], .int .i64 0]) rfl (by kernel_rfl) (by kernel_rfl) (by kernel_rfl) (fun _ _ _ h => h) (Or.inl ⟨by rfl, fun W hSw => by (try dsimp only at hSw); go_simp⟩) k4 ?_
            try simp only [Act.put, List.setIfInBounds_toArray, List.set_cons_zero, List.set_cons_succ]
            refine wpAnyH_take (i := 7) (oi := { dst := some 35, op := Go.Op.extract (Go.Operand.tmp 28) 0, type := 26, pos := "outright.go:224", after := #[{ on := 6, ground := Go.Ground.data }], guard := none }) (v := .agg #[.slice pv txa.length cv, .int .i64 (cca : Int), .int .i64 mka]) rfl (by kernel_rfl) (by kernel_rfl) (by kernel_rfl) (fun _ _ _ h => h) (Or.inl ⟨by rfl, fun W hSw => by (try dsimp only at hSw); go_simp⟩) k4 ?_
            try simp only [Act.put, List.setIfInBounds_toArray, List.set_cons_zero, List.set_cons_succ]
            refine wpAnyH_take (i := 8) (oi := { dst := some 36, op := Go.Op.extract (Go.Operand.tmp 28) 1, type := 3, pos := "outright.go:224", after := #[{ on := 6, ground := Go.Ground.data }, { on := 10, ground := Go.Ground.gcOnly Go.Departure.lateStores }], guard := none }) (v := .int .i64 0) rfl (by kernel_rfl) (by kernel_rfl) (by kernel_rfl) (fun _ _ _ h => h) (Or.inl ⟨by rfl, fun W hSw => by (try dsimp only at hSw); go_simp⟩) k4 ?_
            try simp only [Act.put, List.setIfInBounds_toArray, List.set_cons_zero, List.set_cons_succ]
            refine wpAnyH_ready (rs := [10]) (by kernel_rfl) (by simp) ?_
            refine AllReadyH.cons (o := { dst := none, op := Go.Op.store 26 (Go.Operand.tmp 8) (Go.Operand.tmp 35), type := 0, pos := "outright.go:224", after := #[{ on := 9, ground := Go.Ground.data }, { on := 7, ground := Go.Ground.data }, { on := 5, ground := Go.Ground.chain }, { on := 0, ground := Go.Ground.phase }, { on := 1, ground := Go.Ground.phase }, { on := 2, ground := Go.Ground.phase }, { on := 3, ground := Go.Ground.phase }, { on := 4, ground := Go.Ground.phase }, { on := 5, ground := Go.Ground.phase }, { on := 6, ground := Go.Ground.phase }, { on := 7, ground := Go.Ground.phase }, { on := 8, ground := Go.Ground.textOnly Go.Departure.lateStores }, { on := 9, ground := Go.Ground.phase }], guard := none }) rfl (fun K hK => ?_) AllReadyH.nil
            go_simp
            refine hK.out _ _ (cd_st HA1.out hsz1 k4) (fun k5 => ?_)
            clear hK K
            try simp only [List.setIfInBounds_toArray, List.set_cons_zero, List.set_cons_succ]
            refine wpAnyH_take (i := 11) (oi := { dst := some 9, op := Go.Op.assign (Go.Operand.tmp 36), type := 3, pos := "outright.go:224", after := #[{ on := 8, ground := Go.Ground.data }, { on := 10, ground := Go.Ground.chain }, { on := 0, ground := Go.Ground.phase }, { on := 1, ground := Go.Ground.phase }, { on := 2, ground := Go.Ground.phase }, { on := 3, ground := Go.Ground.phase }, { on := 4, ground := Go.Ground.phase }, { on := 5, ground := Go.Ground.phase }, { on := 6, ground := Go.Ground.phase }, { on := 7, ground := Go.Ground.phase }, { on := 8, ground := Go.Ground.phase }, { on := 9, ground := Go.Ground.phase }, { on := 10, ground := Go.Ground.phase }], guard := none }) (v := .int .i64 0) rfl (by kernel_rfl) (by kernel_rfl) (by kernel_rfl) (fun _ _ _ h => h) (Or.inl ⟨by rfl, fun W hSw => by (try dsimp only at hSw); go_simp⟩) k5 ?_
            try simp only [Act.put, List.setIfInBounds_toArray, List.set_cons_zero, List.set_cons_succ]
            refine wpAnyH_done (by kernel_rfl) ?_ _
            refine NoPanic.normal ?_
            go_wp2_with fail
            go_meet
            exact ⟨after_store (cd_bel k3) hsz1 (Bx.lt bx3) bx4 hh4 hb4, rfl⟩
        case rest =>
          obtain ⟨⟨g8, pv8, cv8, rfl, -, hX, hh, hb, hg, hne⟩, rfl⟩ := hcut
          obtain ⟨W2, rfl⟩ : ∃ W2, W2 = wc := ⟨_, rfl⟩
          have HBW2 := Lib.hid (bel0 HBW1.out hb)
          have HX2 := Lib.hid hX
          have HO2 := Lib.hid hh
          have HG8 := Lib.hid hg
          have HN8 := Lib.hid (ne_slice (n := txa.length) (c := cv8) hne)
          have HP2 := Lib.hid (HP1.out.below hb)
          have HB2 := Lib.hid (HB1.out.below hb)
          have HA2 := Lib.hid (HA1.out.below hb)
          clear hX hh hb hg hne HPA HKA HP1 HA1 HB1
          have HPB := Lib.hid (fun W (hb : Below W2.heap.size W2 W) => HPB1.out W (bel0 HBW2.out hb))
          have HKB := Lib.hid (fun W (hb : Below W2.heap.size W2 W) => HKB1.out W (bel0 HBW2.out hb))
          go_upto_region 7 with fail
          go_cut [10, 11] from 37 to 45 (fun rv ev wx => AfterEd W2 txb ccb mkb 0 rv ev wx ∧ ev = .int .i64 0)
          case first =>
            refine wp_region_noPanic ?_
            refine wp_region_held_drew (S := fun W => W.cell? ⟨w.heap.size + 1, 0, none⟩ = some (.slice p2 l2.length c2) ∧ W.cell? ⟨w.heap.size + 1, 1, none⟩ = some (.bool nb) ∧ W.cell? ⟨w.heap.size + 1, 2, none⟩ = some (.slice q2 m2.length cq2) ∧ ApS W2 W) (by kernel_rfl) (cd_dr (cd_of HB2.out (Below.refl _ _))) (fun k0 => ?_)
            show wpAnyH _ _ _ _ _ 12 #[false, false, false, false, false, false, false, false, false, false, false, false] _ _
            refine wpAnyH_take (i := 0) (oi := { dst := some 38, op := Go.Op.load 37 (Go.Operand.tmp 4), type := 37, pos := "outright.go:225", after := #[], guard := none }) (v := .agg #[.slice p2 l2.length c2, .bool nb, .slice q2 m2.length cq2]) rfl (by kernel_rfl) (by kernel_rfl) (by kernel_rfl) (fun _ _ _ h => h) (Or.inl ⟨by rfl, fun W hSw => by (try dsimp only at hSw); go_simp⟩) k0 ?_
            try simp only [Act.put, List.setIfInBounds_toArray, List.set_cons_zero, List.set_cons_succ]
            refine wpAnyH_take (i := 1) (oi := { dst := some 39, op := Go.Op.move (Go.Operand.tmp 2), type := 5, pos := "outright.go:225", after := #[], guard := none }) (v := .int .u8 (y.toNat : Int)) rfl (by kernel_rfl) (by kernel_rfl) (by kernel_rfl) (fun _ _ _ h => h) (Or.inl ⟨by rfl, fun W hSw => by (try dsimp only at hSw); go_simp⟩) k0 ?_
            try simp only [Act.put, List.setIfInBounds_toArray, List.set_cons_zero, List.set_cons_succ]
            refine wpAnyH_take (i := 3) (oi := { dst := some 41, op := Go.Op.load 37 (Go.Operand.tmp 4), type := 37, pos := "outright.go:225", after := #[], guard := none }) (v := .agg #[.slice p2 l2.length c2, .bool nb, .slice q2 m2.length cq2]) rfl (by kernel_rfl) (by kernel_rfl) (by kernel_rfl) (fun _ _ _ h => h) (Or.inl ⟨by rfl, fun W hSw => by (try dsimp only at hSw); go_simp⟩) k0 ?_
            try simp only [Act.put, List.setIfInBounds_toArray, List.set_cons_zero, List.set_cons_succ]
            refine wpAnyH_ready (rs := [2, 9]) (by kernel_rfl) (by simp) ?_
            refine AllReadyH.cons (o := { dst := some 40, op := Go.Op.call { callee := Go.Callee.value (Go.Operand.func 17), args := #[Go.Operand.tmp 38, Go.Operand.tmp 39, Go.Operand.const (Go.Value.int Go.IntKind.i64 (-1))], argTypes := #[37, 5, 3] }, type := 22, pos := "outright.go:225", after := #[{ on := 0, ground := Go.Ground.data }, { on := 1, ground := Go.Ground.data }], guard := none }) rfl (fun K hK => ?_) (AllReadyH.cons (o := { dst := some 10, op := Go.Op.alloc 26, type := 0, pos := "outright.go:225", after := #[], guard := none }) rfl (fun K hK => ?_) AllReadyH.nil)
            · go_simp
              go_at_call 17
              refine (HPB.out _ (cd_bel k0)).mono ?_
              rintro e w1 ⟨sv1, rfl, ho1, hb1⟩
              go_wp2_with fail
              refine hK.out _ _ (cd_nx hb1 k0) (fun k1 => ?_)
              have ha1 := ho1.svb
              clear hK K
              try simp only [List.setIfInBounds_toArray, List.set_cons_zero, List.set_cons_succ]
              refine wpAnyH_ready (rs := [4, 9]) (by kernel_rfl) (by simp) ?_
              refine AllReadyH.cons (o := { dst := some 42, op := Go.Op.call { callee := Go.Callee.value (Go.Operand.func 18), args := #[Go.Operand.tmp 41], argTypes := #[37] }, type := 22, pos := "outright.go:225", after := #[{ on := 3, ground := Go.Ground.data }, { on := 2, ground := Go.Ground.chain }], guard := none }) rfl (fun K hK => ?_) (AllReadyH.cons (o := { dst := some 10, op := Go.Op.alloc 26, type := 0, pos := "outright.go:225", after := #[], guard := none }) rfl (fun K hK => ?_) AllReadyH.nil)
              · go_simp
                go_at_call 18
                refine (HKB.out _ (cd_bel k1)).mono ?_
                rintro e w2 ⟨sv2, rfl, ho2, hb2⟩
                go_wp2_with fail
                refine hK.out _ _ (cd_nx hb2 k1) (fun k2 => ?_)
                have ha2 := ha1.below hb2
                have hs2 := ho2.svb
                clear hK K
                try simp only [List.setIfInBounds_toArray, List.set_cons_zero, List.set_cons_succ]
                refine wpAnyH_ready (rs := [5, 9]) (by kernel_rfl) (by simp) ?_
                refine AllReadyH.cons (o := { dst := some 43, op := Go.Op.call { callee := Go.Callee.value (Go.Operand.func 12), args := #[Go.Operand.tmp 40, Go.Operand.tmp 42], argTypes := #[22, 22] }, type := 27, pos := "outright.go:225", after := #[{ on := 2, ground := Go.Ground.data }, { on := 4, ground := Go.Ground.data }, { on := 4, ground := Go.Ground.chain }], guard := none }) rfl (fun K hK => ?_) (AllReadyH.cons (o := { dst := some 10, op := Go.Op.alloc 26, type := 0, pos := "outright.go:225", after := #[], guard := none }) rfl (fun K hK => ?_) AllReadyH.nil)
                · go_simp
                  go_at_call 12
                  refine (HEB.out _ _ _ ha2 hs2).mono ?_
                  rintro e w3 ⟨pv, cv, rfl, hh3, hb3⟩
                  go_wp2_with fail
                  refine hK.out _ _ (cd_nx hb3 k2) (fun k3 => ?_)
                  have ha3 := ha2.below hb3
                  have hs3 := hs2.below hb3
                  clear hK K
                  try simp only [List.setIfInBounds_toArray, List.set_cons_zero, List.set_cons_succ]
                  refine wpAnyH_take (i := 6) (oi := { dst := some 37, op := Go.Op.move (Go.Operand.tmp 43), type := 27, pos := "outright.go:225", after := #[{ on := 5, ground := Go.Ground.data }], guard := none }) (v := .tuple #[.agg #[.slice pv txb.length cv, .int .i64 (ccb : Int), .int .i64 mkb], .int .i64 0]) rfl (by kernel_rfl) (by kernel_rfl) (by kernel_rfl) (fun _ _ _ h => h) (Or.inl ⟨by rfl, fun W hSw => by (try dsimp only at hSw); go_simp⟩) k3 ?_
                  try simp only [Act.put, List.setIfInBounds_toArray, List.set_cons_zero, List.set_cons_succ]
                  refine wpAnyH_take (i := 7) (oi := { dst := some 44, op := Go.Op.extract (Go.Operand.tmp 37) 0, type := 26, pos := "outright.go:225", after := #[{ on := 6, ground := Go.Ground.data }], guard := none }) (v := .agg #[.slice pv txb.length cv, .int .i64 (ccb : Int), .int .i64 mkb]) rfl (by kernel_rfl) (by kernel_rfl) (by kernel_rfl) (fun _ _ _ h => h) (Or.inl ⟨by rfl, fun W hSw => by (try dsimp only at hSw); go_simp⟩) k3 ?_
                  try simp only [Act.put, List.setIfInBounds_toArray, List.set_cons_zero, List.set_cons_succ]
                  refine wpAnyH_take (i := 8) (oi := { dst := some 45, op := Go.Op.extract (Go.Operand.tmp 37) 1, type := 3, pos := "outright.go:225", after := #[{ on := 6, ground := Go.Ground.data }, { on := 10, ground := Go.Ground.gcOnly Go.Departure.lateStores }], guard := none }) (v := .int .i64 0) rfl (by kernel_rfl) (by kernel_rfl) (by kernel_rfl) (fun _ _ _ h => h) (Or.inl ⟨by rfl, fun W hSw => by (try dsimp only at hSw); go_simp⟩) k3 ?_
                  try simp only [Act.put, List.setIfInBounds_toArray, List.set_cons_zero, List.set_cons_succ]
                  refine wpAnyH_ready (rs := [9]) (by kernel_rfl) (by simp) ?_
                  refine AllReadyH.cons (o := { dst := some 10, op := Go.Op.alloc 26, type := 0, pos := "outright.go:225", after := #[], guard := none }) rfl (fun K hK => ?_) AllReadyH.nil
                  go_simp
                  refine hK.out _ _ (cd_al k3) (fun k4 => ?_)
                  clear hK K
                  try simp only [List.setIfInBounds_toArray, List.set_cons_zero, List.set_cons_succ]
                  refine wpAnyH_ready (rs := [10]) (by kernel_rfl) (by simp) ?_
                  refine AllReadyH.cons (o := { dst := none, op := Go.Op.store 26 (Go.Operand.tmp 10) (Go.Operand.tmp 44), type := 0, pos := "outright.go:225", after := #[{ on := 9, ground := Go.Ground.data }, { on := 7, ground := Go.Ground.data }, { on := 5, ground := Go.Ground.chain }, { on := 0, ground := Go.Ground.phase }, { on := 1, ground := Go.Ground.phase }, { on := 2, ground := Go.Ground.phase }, { on := 3, ground := Go.Ground.phase }, { on := 4, ground := Go.Ground.phase }, { on := 5, ground := Go.Ground.phase }, { on := 6, ground := Go.Ground.phase }, { on := 7, ground := Go.Ground.phase }, { on := 8, ground := Go.Ground.textOnly Go.Departure.lateStores }, { on := 9, ground := Go.Ground.phase }], guard := none }) rfl (fun K hK => ?_) AllReadyH.nil
                  go_simp
                  refine hK.out _ _ (cd_al k3) (fun k5 => ?_)
                  clear hK K
                  try simp only [List.setIfInBounds_toArray, List.set_cons_zero, List.set_cons_succ]
                  refine wpAnyH_take (i := 11) (oi := { dst := some 11, op := Go.Op.assign (Go.Operand.tmp 45), type := 3, pos := "outright.go:225", after := #[{ on := 8, ground := Go.Ground.data }, { on := 10, ground := Go.Ground.chain }, { on := 0, ground := Go.Ground.phase }, { on := 1, ground := Go.Ground.phase }, { on := 2, ground := Go.Ground.phase }, { on := 3, ground := Go.Ground.phase }, { on := 4, ground := Go.Ground.phase }, { on := 5, ground := Go.Ground.phase }, { on := 6, ground := Go.Ground.phase }, { on := 7, ground := Go.Ground.phase }, { on := 8, ground := Go.Ground.phase }, { on := 9, ground := Go.Ground.phase }, { on := 10, ground := Go.Ground.phase }], guard := none }) (v := .int .i64 0) rfl (by kernel_rfl) (by kernel_rfl) (by kernel_rfl) (fun _ _ _ h => h) (Or.inl ⟨by rfl, fun W hSw => by (try dsimp only at hSw); go_simp⟩) k5 ?_
                  try simp only [Act.put, List.setIfInBounds_toArray, List.set_cons_zero, List.set_cons_succ]
                  refine wpAnyH_done (by kernel_rfl) ?_ _
                  refine NoPanic.normal ?_
                  go_wp2_with fail
                  go_meet
                  exact ⟨after_new (cd_bel k2) hh3 hb3, rfl⟩
                · go_simp
                  refine hK.out _ _ (cd_al k2) (fun k3 => ?_)
                  have hsz3 : W2.heap.size ≤ w2.heap.size := (cd_bel k2).size
                  have ha3 := ha2.below (below_new _ (.cells #[.slice none 0 0, .int .i64 0, .int .i64 0] 26))
                  have hs3 := hs2.below (below_new _ (.cells #[.slice none 0 0, .int .i64 0, .int .i64 0] 26))
                  have bx3 : Bx (w2.alloc (.cells #[.slice none 0 0, .int .i64 0, .int .i64 0] 26)) w2.heap.size 26 #[.slice none 0 0, .int .i64 0, .int .i64 0] := Bx.new _ _ _
                  clear hK K
                  try simp only [List.setIfInBounds_toArray, List.set_cons_zero, List.set_cons_succ]
                  refine wpAnyH_ready (rs := [5]) (by kernel_rfl) (by simp) ?_
                  refine AllReadyH.cons (o := { dst := some 43, op := Go.Op.call { callee := Go.Callee.value (Go.Operand.func 12), args := #[Go.Operand.tmp 40, Go.Operand.tmp 42], argTypes := #[22, 22] }, type := 27, pos := "outright.go:225", after := #[{ on := 2, ground := Go.Ground.data }, { on := 4, ground := Go.Ground.data }, { on := 4, ground := Go.Ground.chain }], guard := none }) rfl (fun K hK => ?_) AllReadyH.nil
                  go_simp
                  go_at_call 12
                  refine (HEB.out _ _ _ ha3 hs3).mono ?_
                  rintro e w4 ⟨pv, cv, rfl, hh4, hb4⟩
                  go_wp2_with fail
                  refine hK.out _ _ (cd_nx hb4 k3) (fun k4 => ?_)
                  have ha4 := ha3.below hb4
                  have hs4 := hs3.below hb4
                  have bx4 := bx3.below hb4
                  obtain ⟨⟨b0, b1, b2⟩, f0, f1, f2⟩ := bx4.three
                  clear hK K
                  try simp only [List.setIfInBounds_toArray, List.set_cons_zero, List.set_cons_succ]
                  refine wpAnyH_take (i := 6) (oi := { dst := some 37, op := Go.Op.move (Go.Operand.tmp 43), type := 27, pos := "outright.go:225", after := #[{ on := 5, ground := Go.Ground.data }], guard := none }) (v := .tuple #[.agg #[.slice pv txb.length cv, .int .i64 (ccb : Int), .int .i64 mkb], .int .i64 0]) rfl (by kernel_rfl) (by kernel_rfl) (by kernel_rfl) (fun _ _ _ h => h) (Or.inl ⟨by rfl, fun W hSw => by (try dsimp only at hSw); go_simp⟩) k4 ?_
                  try simp only [Act.put, List.setIfInBounds_toArray, List.set_cons_zero, List.set_cons_succ]
                  refine wpAnyH_take (i := 7) (oi := { dst := some 44, op := Go.Op.extract (Go.Operand.tmp 37) 0, type := 26, pos := "outright.go:225", after := #[{ on := 6, ground := Go.Ground.data }], guard := none }) (v := .agg #[.slice pv txb.length cv, .int .i64 (ccb : Int), .int .i64 mkb]) rfl (by kernel_rfl) (by kernel_rfl) (by kernel_rfl) (fun _ _ _ h => h) (Or.inl ⟨by rfl, fun W hSw => by (try dsimp only at hSw); go_simp⟩) k4 ?_
                  try simp only [Act.put, List.setIfInBounds_toArray, List.set_cons_zero, List.set_cons_succ]
                  refine wpAnyH_take (i := 8) (oi := { dst := some 45, op := Go.Op.extract (Go.Operand.tmp 37) 1, type := 3, pos := "outright.go:225", after := #[{ on := 6, ground := Go.Ground.data }, { on := 10, ground := Go.Ground.gcOnly Go.Departure.lateStores }], guard := none }) (v := .int .i64 0) rfl (by kernel_rfl) (by kernel_rfl) (by kernel_rfl) (fun _ _ _ h => h) (Or.inl ⟨by rfl, fun W hSw => by (try dsimp only at hSw); go_simp⟩) k4 ?_
                  try simp only [Act.put, List.setIfInBounds_toArray, List.set_cons_zero, List.set_cons_succ]
                  refine wpAnyH_ready (rs := [10]) (by kernel_rfl) (by simp) ?_
                  refine AllReadyH.cons (o := { dst := none, op := Go.Op.store 26 (Go.Operand.tmp 10) (Go.Operand.tmp 44), type := 0, pos := "outright.go:225", after := #[{ on := 9, ground := Go.Ground.data }, { on := 7, ground := Go.Ground.data }, { on := 5, ground := Go.Ground.chain }, { on := 0, ground := Go.Ground.phase }, { on := 1, ground := Go.Ground.phase }, { on := 2, ground := Go.Ground.phase }, { on := 3, ground := Go.Ground.phase }, { on := 4, ground := Go.Ground.phase }, { on := 5, ground := Go.Ground.phase }, { on := 6, ground := Go.Ground.phase }, { on := 7, ground := Go.Ground.phase }, { on := 8, ground := Go.Ground.textOnly Go.Departure.lateStores }, { on := 9, ground := Go.Ground.phase }], guard := none }) rfl (fun K hK => ?_) AllReadyH.nil
                  go_simp
                  refine hK.out _ _ (cd_st HB2.out hsz3 k4) (fun k5 => ?_)
                  clear hK K
                  try simp only [List.setIfInBounds_toArray, List.set_cons_zero, List.set_cons_succ]
                  refine wpAnyH_take (i := 11) (oi := { dst := some 11, op := Go.Op.assign (Go.Operand.tmp 45), type := 3, pos := "outright.go:225", after := #[{ on := 8, ground := Go.Ground.data }, { on := 10, ground := Go.Ground.chain }, { on := 0, ground := Go.Ground.phase }, { on := 1, ground := Go.Ground.phase }, { on := 2, ground := Go.Ground.phase }, { on := 3, ground := Go.Ground.phase }, { on := 4, ground := Go.Ground.phase }, { on := 5, ground := Go.Ground.phase }, { on := 6, ground := Go.Ground.phase }, { on := 7, ground := Go.Ground.phase }, { on := 8, ground := Go.Ground.phase }, { on := 9, ground := Go.Ground.phase }, { on := 10, ground := Go.Ground.phase }], guard := none }) (v := .int .i64 0) rfl (by kernel_rfl) (by kernel_rfl) (by kernel_rfl) (fun _ _ _ h => h) (Or.inl ⟨by rfl, fun W hSw => by (try dsimp only at hSw); go_simp⟩) k5 ?_
                  try simp only [Act.put, List.setIfInBounds_toArray, List.set_cons_zero, List.set_cons_succ]
                  refine wpAnyH_done (by kernel_rfl) ?_ _
                  refine NoPanic.normal ?_
                  go_wp2_with fail
                  go_meet
                  exact ⟨after_store (cd_bel k3) hsz3 (Bx.lt bx3) bx4 hh4 hb4, rfl⟩
              · go_simp
                refine hK.out _ _ (cd_al k1) (fun k2 => ?_)
                have hsz2 : W2.heap.size ≤ w1.heap.size := (cd_bel k1).size
                have ha2 := ha1.below (below_new _ (.cells #[.slice none 0 0, .int .i64 0, .int .i64 0] 26))
                have bx2 : Bx (w1.alloc (.cells #[.slice none 0 0, .int .i64 0, .int .i64 0] 26)) w1.heap.size 26 #[.slice none 0 0, .int .i64 0, .int .i64 0] := Bx.new _ _ _
                clear hK K
                try simp only [List.setIfInBounds_toArray, List.set_cons_zero, List.set_cons_succ]
                refine wpAnyH_ready (rs := [4]) (by kernel_rfl) (by simp) ?_
                refine AllReadyH.cons (o := { dst := some 42, op := Go.Op.call { callee := Go.Callee.value (Go.Operand.func 18), args := #[Go.Operand.tmp 41], argTypes := #[37] }, type := 22, pos := "outright.go:225", after := #[{ on := 3, ground := Go.Ground.data }, { on := 2, ground := Go.Ground.chain }], guard := none }) rfl (fun K hK => ?_) AllReadyH.nil
                go_simp
                go_at_call 18
                refine (HKB.out _ (cd_bel k2)).mono ?_
                rintro e w3 ⟨sv3, rfl, ho3, hb3⟩
                go_wp2_with fail
                refine hK.out _ _ (cd_nx hb3 k2) (fun k3 => ?_)
                have ha3 := ha2.below hb3
                have bx3 := bx2.below hb3
                have hs3 := ho3.svb
                clear hK K
                try simp only [List.setIfInBounds_toArray, List.set_cons_zero, List.set_cons_succ]
                refine wpAnyH_ready (rs := [5]) (by kernel_rfl) (by simp) ?_
                refine AllReadyH.cons (o := { dst := some 43, op := Go.Op.call { callee := Go.Callee.value (Go.Operand.func 12), args := #[Go.Operand.tmp 40, Go.Operand.tmp 42], argTypes := #[22, 22] }, type := 27, pos := "outright.go:225", after := #[{ on := 2, ground := Go.Ground.data }, { on := 4, ground := Go.Ground.data }, { on := 4, ground := Go.Ground.chain }], guard := none }) rfl (fun K hK => ?_) AllReadyH.nil
                go_simp
                go_at_call 12
                refine (HEB.out _ _ _ ha3 hs3).mono ?_
                rintro e w4 ⟨pv, cv, rfl, hh4, hb4⟩
                go_wp2_with fail
                refine hK.out _ _ (cd_nx hb4 k3) (fun k4 => ?_)
                have ha4 := ha3.below hb4
                have bx4 := bx3.below hb4
                have hs4 := hs3.below hb4
                obtain ⟨⟨b0, b1, b2⟩, f0, f1, f2⟩ := bx4.three
                clear hK K
                try simp only [List.setIfInBounds_toArray, List.set_cons_zero, List.set_cons_succ]
                refine wpAnyH_take (i := 6) (oi := { dst := some 37, op := Go.Op.move (Go.Operand.tmp 43), type := 27, pos := "outright.go:225", after := #[{ on := 5, ground := Go.Ground.data }], guard := none }) (v := .tuple #[.agg #[.slice pv txb.length cv, .int .i64 (ccb : Int), .int .i64 mkb], .int .i64 0]) rfl (by kernel_rfl) (by kernel_rfl) (by kernel_rfl) (fun _ _ _ h => h) (Or.inl ⟨by rfl, fun W hSw => by (try dsimp only at hSw); go_simp⟩) k4 ?_
                try simp only [Act.put, List.setIfInBounds_toArray, List.set_cons_zero, List.set_cons_succ]
                refine wpAnyH_take (i := 7) (oi := { dst := some 44, op := Go.Op.extract (Go.Operand.tmp 37) 0, type := 26, pos := "outright.go:225", after := #[{ on := 6, ground := Go.Ground.data }], guard := none }) (v := .agg #[.slice pv txb.length cv, .int .i64 (ccb : Int), .int .i64 mkb]) rfl (by kernel_rfl) (by kernel_rfl) (by kernel_rfl) (fun _ _ _ h => h) (Or.inl ⟨by rfl, fun W hSw => by (try dsimp only at hSw); go_simp⟩) k4 ?_
                try simp only [Act.put, List.setIfInBounds_toArray, List.set_cons_zero, List.set_cons_succ]
                refine wpAnyH_take (i := 8) (oi := { dst := some 45, op := Go.Op.extract (Go.Operand.tmp 37) 1, type := 3, pos := "outright.go:225", after := #[{ on := 6, ground := Go.Ground.data }, { on := 10, ground := Go.Ground.gcOnly Go.Departure.lateStores }], guard := none }) (v := .int .i64 0) rfl (by kernel_rfl) (by kernel_rfl) (by kernel_rfl) (fun _ _ _ h => h) (Or.inl ⟨by rfl, fun W hSw => by (try dsimp only at hSw); go_simp⟩) k4 ?_
                try simp only [Act.put, List.setIfInBounds_toArray, List.set_cons_zero, List.set_cons_succ]
                refine wpAnyH_ready (rs := [10]) (by kernel_rfl) (by simp) ?_
                refine AllReadyH.cons (o := { dst := none, op := Go.Op.store 26 (Go.Operand.tmp 10) (Go.Operand.tmp 44), type := 0, pos := "outright.go:225", after := #[{ on := 9, ground := Go.Ground.data }, { on := 7, ground := Go.Ground.data }, { on := 5, ground := Go.Ground.chain }, { on := 0, ground := Go.Ground.phase }, { on := 1, ground := Go.Ground.phase }, { on := 2, ground := Go.Ground.phase }, { on := 3, ground := Go.Ground.phase }, { on := 4, ground := Go.Ground.phase }, { on := 5, ground := Go.Ground.phase }, { on := 6, ground := Go.Ground.phase }, { on := 7, ground := Go.Ground.phase }, { on := 8, ground := Go.Ground.textOnly Go.Departure.lateStores }, { on := 9, ground := Go.Ground.phase }], guard := none }) rfl (fun K hK => ?_) AllReadyH.nil
                go_simp
                refine hK.out _ _ (cd_st HB2.out hsz2 k4) (fun k5 => ?_)
                clear hK K
                try simp only [List.setIfInBounds_toArray, List.set_cons_zero, List.set_cons_succ]
                refine wpAnyH_take (i := 11) (oi := { dst := some 11, op := Go.Op.assign (Go.Operand.tmp 45), type := 3, pos := "outright.go:225", after := #[{ on := 8, ground := Go.Ground.data }, { on := 10, ground := Go.Ground.chain }, { on := 0, ground := Go.Ground.phase }, { on := 1, ground := Go.Ground.phase }, { on := 2, ground := Go.Ground.phase }, { on := 3, ground := Go.Ground.phase }, { on := 4, ground := Go.Ground.phase }, { on := 5, ground := Go.Ground.phase }, { on := 6, ground := Go.Ground.phase }, { on := 7, ground := Go.Ground.phase }, { on := 8, ground := Go.Ground.phase }, { on := 9, ground := Go.Ground.phase }, { on := 10, ground := Go.Ground.phase }], guard := none }) (v := .int .i64 0) rfl (by kernel_rfl) (by kernel_rfl) (by kernel_rfl) (fun _ _ _ h => h) (Or.inl ⟨by rfl, fun W hSw => by (try dsimp only at hSw); go_simp⟩) k5 ?_
                try simp only [Act.put, List.setIfInBounds_toArray, List.set_cons_zero, List.set_cons_succ]
                refine wpAnyH_done (by kernel_rfl) ?_ _
                refine NoPanic.normal ?_
                go_wp2_with fail
                go_meet
                exact ⟨after_store (cd_bel k3) hsz2 (Bx.lt bx3) bx4 hh4 hb4, rfl⟩
            · go_simp
              refine hK.out _ _ (cd_al k0) (fun k1 => ?_)
              have hsz1 : W2.heap.size ≤ W2.heap.size := (cd_bel k0).size
              have bx1 : Bx (W2.drew.alloc (.cells #[.slice none 0 0, .int .i64 0, .int .i64 0] 26)) W2.heap.size 26 #[.slice none 0 0, .int .i64 0, .int .i64 0] := Bx.new _ _ _
              clear hK K
              try simp only [List.setIfInBounds_toArray, List.set_cons_zero, List.set_cons_succ]
              refine wpAnyH_ready (rs := [2]) (by kernel_rfl) (by simp) ?_
              refine AllReadyH.cons (o := { dst := some 40, op := Go.Op.call { callee := Go.Callee.value (Go.Operand.func 17), args := #[Go.Operand.tmp 38, Go.Operand.tmp 39, Go.Operand.const (Go.Value.int Go.IntKind.i64 (-1))], argTypes := #[37, 5, 3] }, type := 22, pos := "outright.go:225", after := #[{ on := 0, ground := Go.Ground.data }, { on := 1, ground := Go.Ground.data }], guard := none }) rfl (fun K hK => ?_) AllReadyH.nil
              go_simp
              go_at_call 17
              refine (HPB.out _ (cd_bel k1)).mono ?_
              rintro e w2 ⟨sv2, rfl, ho2, hb2⟩
              go_wp2_with fail
              refine hK.out _ _ (cd_nx hb2 k1) (fun k2 => ?_)
              have bx2 := bx1.below hb2
              have ha2 := ho2.svb
              clear hK K
              try simp only [List.setIfInBounds_toArray, List.set_cons_zero, List.set_cons_succ]
              refine wpAnyH_ready (rs := [4]) (by kernel_rfl) (by simp) ?_
              refine AllReadyH.cons (o := { dst := some 42, op := Go.Op.call { callee := Go.Callee.value (Go.Operand.func 18), args := #[Go.Operand.tmp 41], argTypes := #[37] }, type := 22, pos := "outright.go:225", after := #[{ on := 3, ground := Go.Ground.data }, { on := 2, ground := Go.Ground.chain }], guard := none }) rfl (fun K hK => ?_) AllReadyH.nil
              go_simp
              go_at_call 18
              refine (HKB.out _ (cd_bel k2)).mono ?_
              rintro e w3 ⟨sv3, rfl, ho3, hb3⟩
              go_wp2_with fail
              refine hK.out _ _ (cd_nx hb3 k2) (fun k3 => ?_)
              have bx3 := bx2.below hb3
              have ha3 := ha2.below hb3
              have hs3 := ho3.svb
              clear hK K
              try simp only [List.setIfInBounds_toArray, List.set_cons_zero, List.set_cons_succ]
              refine wpAnyH_ready (rs := [5]) (by kernel_rfl) (by simp) ?_
              refine AllReadyH.cons (o := { dst := some 43, op := Go.Op.call { callee := Go.Callee.value (Go.Operand.func 12), args := #[Go.Operand.tmp 40, Go.Operand.tmp 42], argTypes := #[22, 22] }, type := 27, pos := "outright.go:225", after := #[{ on := 2, ground := Go.Ground.data }, { on := 4, ground := Go.Ground.data }, { on := 4, ground := Go.Ground.chain }], guard := none }) rfl (fun K hK => ?_) AllReadyH.nil
              go_simp
              go_at_call 12
              refine (HEB.out _ _ _ ha3 hs3).mono ?_
              rintro e w4 ⟨pv, cv, rfl, hh4, hb4⟩
              go_wp2_with fail
              refine hK.out _ _ (cd_nx hb4 k3) (fun k4 => ?_)
              have bx4 := bx3.below hb4
              have ha4 := ha3.below hb4
              have hs4 := hs3.below hb4
              obtain ⟨⟨b0, b1, b2⟩, f0, f1, f2⟩ := bx4.three
              clear hK K
              try simp only [List.setIfInBounds_toArray, List.set_cons_zero, List.set_cons_succ]
              refine wpAnyH_take (i := 6) (oi := { dst := some 37, op := Go.Op.move (Go.Operand.tmp 43), type := 27, pos := "outright.go:225", after := #[{ on := 5, ground := Go.Ground.data }], guard := none }) (v := .tuple #[.agg #[.slice pv txb.length cv, .int .i64 (ccb : Int), .int .i64 mkb], .int .i64 0]) rfl (by kernel_rfl) (by kernel_rfl) (by kernel_rfl) (fun _ _ _ h => h) (Or.inl ⟨by rfl, fun W hSw => by (try dsimp only at hSw); go_simp⟩) k4 ?_
              try simp only [Act.put, List.setIfInBounds_toArray, List.set_cons_zero, List.set_cons_succ]
              refine wpAnyH_take (i := 7) (oi := { dst := some 44, op := Go.Op.extract (Go.Operand.tmp 37) 0, type := 26, pos := "outright.go:225", after := #[{ on := 6, ground := Go.Ground.data }], guard := none }) (v := .agg #[.slice pv txb.length cv, .int .i64 (ccb : Int), .int .i64 mkb]) rfl (by kernel_rfl) (by kernel_rfl) (by kernel_rfl) (fun _ _ _ h => h) (Or.inl ⟨by rfl, fun W hSw => by (try dsimp only at hSw); go_simp⟩) k4 ?_
              try simp only [Act.put, List.setIfInBounds_toArray, List.set_cons_zero, List.set_cons_succ]
              refine wpAnyH_take (i := 8) (oi := { dst := some 45, op := Go.Op.extract (Go.Operand.tmp 37) 1, type := 3, pos := "outright.go:225", after := #[{ on := 6, ground := Go.Ground.data }, { on := 10, ground := Go.Ground.gcOnly Go.Departure.lateStores }], guard := none }) (v := .int .i64 0) rfl (by kernel_rfl) (by kernel_rfl) (by kernel_rfl) (fun _ _ _ h => h) (Or.inl ⟨by rfl, fun W hSw => by (try dsimp only at hSw); go_simp⟩) k4 ?_
              try simp only [Act.put, List.setIfInBounds_toArray, List.set_cons_zero, List.set_cons_succ]
              refine wpAnyH_ready (rs := [10]) (by kernel_rfl) (by simp) ?_
              refine AllReadyH.cons (o := { dst := none, op := Go.Op.store 26 (Go.Operand.tmp 10) (Go.Operand.tmp 44), type := 0, pos := "outright.go:225", after := #[{ on := 9, ground := Go.Ground.data }, { on := 7, ground := Go.Ground.data }, { on := 5, ground := Go.Ground.chain }, { on := 0, ground := Go.Ground.phase }, { on := 1, ground := Go.Ground.phase }, { on := 2, ground := Go.Ground.phase }, { on := 3, ground := Go.Ground.phase }, { on := 4, ground := Go.Ground.phase }, { on := 5, ground := Go.Ground.phase }, { on := 6, ground := Go.Ground.phase }, { on := 7, ground := Go.Ground.phase }, { on := 8, ground := Go.Ground.textOnly Go.Departure.lateStores }, { on := 9, ground := Go.Ground.phase }], guard := none }) rfl (fun K hK => ?_) AllReadyH.nil
              go_simp
              refine hK.out _ _ (cd_st HB2.out hsz1 k4) (fun k5 => ?_)
              clear hK K
              try simp only [List.setIfInBounds_toArray, List.set_cons_zero, List.set_cons_succ]
              refine wpAnyH_take (i := 11) (oi := { dst := some 11, op := Go.Op.assign (Go.Operand.tmp 45), type := 3, pos := "outright.go:225", after := #[{ on := 8, ground := Go.Ground.data }, { on := 10, ground := Go.Ground.chain }, { on := 0, ground := Go.Ground.phase }, { on := 1, ground := Go.Ground.phase }, { on := 2, ground := Go.Ground.phase }, { on := 3, ground := Go.Ground.phase }, { on := 4, ground := Go.Ground.phase }, { on := 5, ground := Go.Ground.phase }, { on := 6, ground := Go.Ground.phase }, { on := 7, ground := Go.Ground.phase }, { on := 8, ground := Go.Ground.phase }, { on := 9, ground := Go.Ground.phase }, { on := 10, ground := Go.Ground.phase }], guard := none }) (v := .int .i64 0) rfl (by kernel_rfl) (by kernel_rfl) (by kernel_rfl) (fun _ _ _ h => h) (Or.inl ⟨by rfl, fun W hSw => by (try dsimp only at hSw); go_simp⟩) k5 ?_
              try simp only [Act.put, List.setIfInBounds_toArray, List.set_cons_zero, List.set_cons_succ]
              refine wpAnyH_done (by kernel_rfl) ?_ _
              refine NoPanic.normal ?_
              go_wp2_with fail
              go_meet
              exact ⟨after_store (cd_bel k3) hsz1 (Bx.lt bx3) bx4 hh4 hb4, rfl⟩
          case rest =>
            obtain ⟨⟨g10, pv10, cv10, rfl, -, hX, hh, hb, hg, hne⟩, rfl⟩ := hcut
            obtain ⟨W3, rfl⟩ : ∃ W3, W3 = wc := ⟨_, rfl⟩
            have HBW3 := Lib.hid (bel0 HBW2.out hb)
            have HX3 := Lib.hid (HX2.out.below hb)
            have HY3 := Lib.hid hX
            have HO3 := Lib.hid (hh.svb)
            have HN10 := Lib.hid (HO2.out.ne hg)
            have HS23 := Lib.hid hb.size
            have HO23 := Lib.hid (HO2.out.kept hb)
            have HP3 := Lib.hid (HP2.out.below hb)
            have HA3 := Lib.hid (HA2.out.below hb)
            have HB3 := Lib.hid (HB2.out.below hb)
            clear hX hh hb hg hne HPB HKB HP2 HA2 HB2
            have HKA3 := Lib.hid (fun W (hb : Below W3.heap.size W3 W) => HKA1.out W (bel0 HBW3.out hb))
            have HKB3 := Lib.hid (fun W (hb : Below W3.heap.size W3 W) => HKB1.out W (bel0 HBW3.out hb))
            go_upto_region 8 with fail
            go_cut [12, 13] from 46 to 55 (fun rv ev wx => AfterEd W3 tx ccb mk2 0 rv ev wx ∧ ev = .int .i64 0)
            case first =>
              refine wp_region_noPanic ?_
              refine wp_region_held_drew (S := fun W => W.cell? ⟨w.heap.size, 0, none⟩ = some (.slice p l.length c0) ∧ W.cell? ⟨w.heap.size, 1, none⟩ = some (.bool na) ∧ W.cell? ⟨w.heap.size, 2, none⟩ = some (.slice q m.length cq) ∧ W.cell? ⟨w.heap.size + 1, 0, none⟩ = some (.slice p2 l2.length c2) ∧ W.cell? ⟨w.heap.size + 1, 1, none⟩ = some (.bool nb) ∧ W.cell? ⟨w.heap.size + 1, 2, none⟩ = some (.slice q2 m2.length cq2) ∧ ApS W3 W) (by kernel_rfl) (sx_of HA3.out HB3.out (Below.refl _ _).drew) (fun k0 => ?_)
              show wpAnyH _ _ _ _ _ 13 #[false, false, false, false, false, false, false, false, false, false, false, false, false] _ _
              refine wpAnyH_take (i := 0) (oi := { dst := some 47, op := Go.Op.move (Go.Operand.tmp 7), type := 22, pos := "outright.go:226", after := #[], guard := none }) (v := .slice p7 N c7) rfl (by kernel_rfl) (by kernel_rfl) (by kernel_rfl) (fun _ _ _ h => h) (Or.inl ⟨by rfl, fun W hSw => by (try dsimp only at hSw); go_simp⟩) k0 ?_
              try simp only [Act.put, List.setIfInBounds_toArray, List.set_cons_zero, List.set_cons_succ]
              refine wpAnyH_take (i := 1) (oi := { dst := some 48, op := Go.Op.load 37 (Go.Operand.tmp 3), type := 37, pos := "outright.go:226", after := #[], guard := none }) (v := .agg #[.slice p l.length c0, .bool na, .slice q m.length cq]) rfl (by kernel_rfl) (by kernel_rfl) (by kernel_rfl) (fun _ _ _ h => h) (Or.inl ⟨by rfl, fun W hSw => by (try dsimp only at hSw); go_simp⟩) k0 ?_
              try simp only [Act.put, List.setIfInBounds_toArray, List.set_cons_zero, List.set_cons_succ]
              refine wpAnyH_take (i := 3) (oi := { dst := some 50, op := Go.Op.load 37 (Go.Operand.tmp 4), type := 37, pos := "outright.go:226", after := #[], guard := none }) (v := .agg #[.slice p2 l2.length c2, .bool nb, .slice q2 m2.length cq2]) rfl (by kernel_rfl) (by kernel_rfl) (by kernel_rfl) (fun _ _ _ h => h) (Or.inl ⟨by rfl, fun W hSw => by (try dsimp only at hSw); go_simp⟩) k0 ?_
              try simp only [Act.put, List.setIfInBounds_toArray, List.set_cons_zero, List.set_cons_succ]
              refine wpAnyH_ready (rs := [2, 10]) (by kernel_rfl) (by simp) ?_
              refine AllReadyH.cons (o := { dst := some 49, op := Go.Op.call { callee := Go.Callee.value (Go.Operand.func 18), args := #[Go.Operand.tmp 48], argTypes := #[37] }, type := 22, pos := "outright.go:226", after := #[{ on := 1, ground := Go.Ground.data }], guard := none }) rfl (fun K hK => ?_) (AllReadyH.cons (o := { dst := some 12, op := Go.Op.alloc 26, type := 0, pos := "outright.go:226", after := #[], guard := none }) rfl (fun K hK => ?_) AllReadyH.nil)
              · have hbs : W3.heap.size ≤ _ := (sx_bel k0).size
                go_simp
                go_at_call 18
                refine (HKA3.out _ (sx_bel k0)).mono ?_
                rintro e w1 ⟨sv1, rfl, ho1, hb1⟩
                go_wp2_with fail
                refine hK.out _ _ (sx_nx hb1 k0) (fun k1 => ?_)
                have ha1 := ho1
                have hbl1 := hb1.size
                clear hK K
                try simp only [List.setIfInBounds_toArray, List.set_cons_zero, List.set_cons_succ]
                refine wpAnyH_ready (rs := [4, 10]) (by kernel_rfl) (by simp) ?_
                refine AllReadyH.cons (o := { dst := some 51, op := Go.Op.call { callee := Go.Callee.value (Go.Operand.func 18), args := #[Go.Operand.tmp 50], argTypes := #[37] }, type := 22, pos := "outright.go:226", after := #[{ on := 3, ground := Go.Ground.data }, { on := 2, ground := Go.Ground.chain }], guard := none }) rfl (fun K hK => ?_) (AllReadyH.cons (o := { dst := some 12, op := Go.Op.alloc 26, type := 0, pos := "outright.go:226", after := #[], guard := none }) rfl (fun K hK => ?_) AllReadyH.nil)
                · go_simp
                  go_at_call 18
                  refine (HKB3.out _ (sx_bel k1)).mono ?_
                  rintro e w2 ⟨sv2, rfl, ho2, hb2⟩
                  go_wp2_with fail
                  refine hK.out _ _ (sx_nx hb2 k1) (fun k2 => ?_)
                  have ha2 := ha1.kept hb2
                  have hs2 := ho2.svb
                  have hbl2 := Nat.le_trans hbl1 hb2.size
                  clear hK K
                  try simp only [List.setIfInBounds_toArray, List.set_cons_zero, List.set_cons_succ]
                  refine wpAnyH_ready (rs := [5, 10]) (by kernel_rfl) (by simp) ?_
                  refine AllReadyH.cons (o := { dst := some 52, op := Go.Op.call { callee := Go.Callee.builtin Go.Builtin.append, args := #[Go.Operand.tmp 49, Go.Operand.tmp 51], argTypes := #[22, 22] }, type := 22, pos := "outright.go:226", after := #[{ on := 2, ground := Go.Ground.data }, { on := 4, ground := Go.Ground.data }, { on := 4, ground := Go.Ground.chain }], guard := none }) rfl (fun K hK => ?_) (AllReadyH.cons (o := { dst := some 12, op := Go.Op.alloc 26, type := 0, pos := "outright.go:226", after := #[], guard := none }) rfl (fun K hK => ?_) AllReadyH.nil)
                  · rw [if_pos (by rfl)]
                    refine op_append_sv (.tmp 49) (.tmp 51) rfl _ _ _ ka.length (bsU ka) kb rfl rfl (hold_own ha2) hs2 (by have := HLN.out; omega) hbl2 ?_
                    intro vv w3 ho3 hg3
                    have hb3 : Below W3.heap.size W3 w3 := (sx_bel k2).grown hg3 (sx_bel k2).size (fun r hr => Nat.le_trans hbs (World.ownsRow.lt (hold_own ha2) r hr).1)
                    refine hK.out _ _ (sx_of HA3.out HB3.out hb3) (fun k3 => ?_)
                    have hk3 := hold_app ho3
                    clear hK K
                    try simp only [List.setIfInBounds_toArray, List.set_cons_zero, List.set_cons_succ]
                    refine wpAnyH_ready (rs := [6, 10]) (by kernel_rfl) (by simp) ?_
                    refine AllReadyH.cons (o := { dst := some 53, op := Go.Op.call { callee := Go.Callee.value (Go.Operand.func 12), args := #[Go.Operand.tmp 47, Go.Operand.tmp 52], argTypes := #[22, 22] }, type := 27, pos := "outright.go:226", after := #[{ on := 0, ground := Go.Ground.data }, { on := 5, ground := Go.Ground.data }, { on := 5, ground := Go.Ground.chain }], guard := none }) rfl (fun K hK => ?_) (AllReadyH.cons (o := { dst := some 12, op := Go.Op.alloc 26, type := 0, pos := "outright.go:226", after := #[], guard := none }) rfl (fun K hK => ?_) AllReadyH.nil)
                    · go_simp
                      go_at_call 12
                      refine (HE2.out _ _ _ (HP3.out.below (sx_bel k3)) hk3.svb).mono ?_
                      rintro e w4 ⟨pv, cv, rfl, hh4, hb4⟩
                      go_wp2_with fail
                      refine hK.out _ _ (sx_nx hb4 k3) (fun k4 => ?_)
                      have hk4 := hk3.kept hb4
                      clear hK K
                      try simp only [List.setIfInBounds_toArray, List.set_cons_zero, List.set_cons_succ]
                      refine wpAnyH_take (i := 7) (oi := { dst := some 46, op := Go.Op.move (Go.Operand.tmp 53), type := 27, pos := "outright.go:226", after := #[{ on := 6, ground := Go.Ground.data }], guard := none }) (v := .tuple #[.agg #[.slice pv tx.length cv, .int .i64 (ccb : Int), .int .i64 mk2], .int .i64 0]) rfl (by kernel_rfl) (by kernel_rfl) (by kernel_rfl) (fun _ _ _ h => h) (Or.inl ⟨by rfl, fun W hSw => by (try dsimp only at hSw); go_simp⟩) k4 ?_
                      try simp only [Act.put, List.setIfInBounds_toArray, List.set_cons_zero, List.set_cons_succ]
                      refine wpAnyH_take (i := 8) (oi := { dst := some 54, op := Go.Op.extract (Go.Operand.tmp 46) 0, type := 26, pos := "outright.go:226", after := #[{ on := 7, ground := Go.Ground.data }], guard := none }) (v := .agg #[.slice pv tx.length cv, .int .i64 (ccb : Int), .int .i64 mk2]) rfl (by kernel_rfl) (by kernel_rfl) (by kernel_rfl) (fun _ _ _ h => h) (Or.inl ⟨by rfl, fun W hSw => by (try dsimp only at hSw); go_simp⟩) k4 ?_
                      try simp only [Act.put, List.setIfInBounds_toArray, List.set_cons_zero, List.set_cons_succ]
                      refine wpAnyH_take (i := 9) (oi := { dst := some 55, op := Go.Op.extract (Go.Operand.tmp 46) 1, type := 3, pos := "outright.go:226", after := #[{ on := 7, ground := Go.Ground.data }, { on := 11, ground := Go.Ground.gcOnly Go.Departure.lateStores }], guard := none }) (v := .int .i64 0) rfl (by kernel_rfl) (by kernel_rfl) (by kernel_rfl) (fun _ _ _ h => h) (Or.inl ⟨by rfl, fun W hSw => by (try dsimp only at hSw); go_simp⟩) k4 ?_
                      try simp only [Act.put, List.setIfInBounds_toArray, List.set_cons_zero, List.set_cons_succ]
                      refine wpAnyH_ready (rs := [10]) (by kernel_rfl) (by simp) ?_
                      refine AllReadyH.cons (o := { dst := some 12, op := Go.Op.alloc 26, type := 0, pos := "outright.go:226", after := #[], guard := none }) rfl (fun K hK => ?_) AllReadyH.nil
                      go_simp
                      refine hK.out _ _ (sx_al k4) (fun k5 => ?_)
                      clear hK K
                      try simp only [List.setIfInBounds_toArray, List.set_cons_zero, List.set_cons_succ]
                      refine wpAnyH_ready (rs := [11]) (by kernel_rfl) (by simp) ?_
                      refine AllReadyH.cons (o := { dst := none, op := Go.Op.store 26 (Go.Operand.tmp 12) (Go.Operand.tmp 54), type := 0, pos := "outright.go:226", after := #[{ on := 10, ground := Go.Ground.data }, { on := 8, ground := Go.Ground.data }, { on := 6, ground := Go.Ground.chain }, { on := 0, ground := Go.Ground.phase }, { on := 1, ground := Go.Ground.phase }, { on := 2, ground := Go.Ground.phase }, { on := 3, ground := Go.Ground.phase }, { on := 4, ground := Go.Ground.phase }, { on := 5, ground := Go.Ground.phase }, { on := 6, ground := Go.Ground.phase }, { on := 7, ground := Go.Ground.phase }, { on := 8, ground := Go.Ground.phase }, { on := 9, ground := Go.Ground.textOnly Go.Departure.lateStores }, { on := 10, ground := Go.Ground.phase }], guard := none }) rfl (fun K hK => ?_) AllReadyH.nil
                      go_simp
                      refine hK.out _ _ (sx_al k4) (fun k6 => ?_)
                      clear hK K
                      try simp only [List.setIfInBounds_toArray, List.set_cons_zero, List.set_cons_succ]
                      refine wpAnyH_take (i := 12) (oi := { dst := some 13, op := Go.Op.assign (Go.Operand.tmp 55), type := 3, pos := "outright.go:226", after := #[{ on := 9, ground := Go.Ground.data }, { on := 11, ground := Go.Ground.chain }, { on := 0, ground := Go.Ground.phase }, { on := 1, ground := Go.Ground.phase }, { on := 2, ground := Go.Ground.phase }, { on := 3, ground := Go.Ground.phase }, { on := 4, ground := Go.Ground.phase }, { on := 5, ground := Go.Ground.phase }, { on := 6, ground := Go.Ground.phase }, { on := 7, ground := Go.Ground.phase }, { on := 8, ground := Go.Ground.phase }, { on := 9, ground := Go.Ground.phase }, { on := 10, ground := Go.Ground.phase }, { on := 11, ground := Go.Ground.phase }], guard := none }) (v := .int .i64 0) rfl (by kernel_rfl) (by kernel_rfl) (by kernel_rfl) (fun _ _ _ h => h) (Or.inl ⟨by rfl, fun W hSw => by (try dsimp only at hSw); go_simp⟩) k6 ?_
                      try simp only [Act.put, List.setIfInBounds_toArray, List.set_cons_zero, List.set_cons_succ]
                      refine wpAnyH_done (by kernel_rfl) ?_ _
                      refine NoPanic.normal ?_
                      go_wp2_with fail
                      go_meet
                      exact ⟨after_new (sx_bel k3) hh4 hb4, rfl⟩
                    · go_simp
                      refine hK.out _ _ (sx_al k3) (fun k4 => ?_)
                      have hsz4 : W3.heap.size ≤ w3.heap.size := (sx_bel k3).size
                      have hk4 := hk3.kept (below_new _ (.cells #[.slice none 0 0, .int .i64 0, .int .i64 0] 26))
                      have bx4 : Bx (w3.alloc (.cells #[.slice none 0 0, .int .i64 0, .int .i64 0] 26)) w3.heap.size 26 #[.slice none 0 0, .int .i64 0, .int .i64 0] := Bx.new _ _ _
                      clear hK K
                      try simp only [List.setIfInBounds_toArray, List.set_cons_zero, List.set_cons_succ]
                      refine wpAnyH_ready (rs := [6]) (by kernel_rfl) (by simp) ?_
                      refine AllReadyH.cons (o := { dst := some 53, op := Go.Op.call { callee := Go.Callee.value (Go.Operand.func 12), args := #[Go.Operand.tmp 47, Go.Operand.tmp 52], argTypes := #[22, 22] }, type := 27, pos := "outright.go:226", after := #[{ on := 0, ground := Go.Ground.data }, { on := 5, ground := Go.Ground.data }, { on := 5, ground := Go.Ground.chain }], guard := none }) rfl (fun K hK => ?_) AllReadyH.nil
                      go_simp
                      go_at_call 12
                      refine (HE2.out _ _ _ (HP3.out.below (sx_bel k4)) hk4.svb).mono ?_
                      rintro e w5 ⟨pv, cv, rfl, hh5, hb5⟩
                      go_wp2_with fail
                      refine hK.out _ _ (sx_nx hb5 k4) (fun k5 => ?_)
                      have hk5 := hk4.kept hb5
                      have bx5 := bx4.below hb5
                      obtain ⟨⟨b0, b1, b2⟩, f0, f1, f2⟩ := bx5.three
                      clear hK K
                      try simp only [List.setIfInBounds_toArray, List.set_cons_zero, List.set_cons_succ]
                      refine wpAnyH_take (i := 7) (oi := { dst := some 46, op := Go.Op.move (Go.Operand.tmp 53), type := 27, pos := "outright.go:226", after := #[{ on := 6, ground := Go.Ground.data }], guard := none }) (v := .tuple #[.agg #[.slice pv tx.length cv, .int .i64 (ccb : Int), .int .i64 mk2], .int .i64 0]) rfl (by kernel_rfl) (by kernel_rfl) (by kernel_rfl) (fun _ _ _ h => h) (Or.inl ⟨by rfl, fun W hSw => by (try dsimp only at hSw); go_simp⟩) k5 ?_
                      try simp only [Act.put, List.setIfInBounds_toArray, List.set_cons_zero, List.set_cons_succ]
                      refine wpAnyH_take (i := 8) (oi := { dst := some 54, op := Go.Op.extract (Go.Operand.tmp 46) 0, type := 26, pos := "outright.go:226", after := #[{ on := 7, ground := Go.Ground.data }], guard := none }) (v := .agg #[.slice pv tx.length cv, .int .i64 (ccb : Int), .int .i64 mk2]) rfl (by kernel_rfl) (by kernel_rfl) (by kernel_rfl) (fun _ _ _ h => h) (Or.inl ⟨by rfl, fun W hSw => by (try dsimp only at hSw); go_simp⟩) k5 ?_
                      try simp only [Act.put, List.setIfInBounds_toArray, List.set_cons_zero, List.set_cons_succ]
                      refine wpAnyH_take (i := 9) (oi := { dst := some 55, op := Go.Op.extract (Go.Operand.tmp 46) 1, type := 3, pos := "outright.go:226", after := #[{ on := 7, ground := Go.Ground.data }, { on := 11, ground := Go.Ground.gcOnly Go.Departure.lateStores }], guard := none }) (v := .int .i64 0) rfl (by kernel_rfl) (by kernel_rfl) (by kernel_rfl) (fun _ _ _ h => h) (Or.inl ⟨by rfl, fun W hSw => by (try dsimp only at hSw); go_simp⟩) k5 ?_
                      try simp only [Act.put, List.setIfInBounds_toArray, List.set_cons_zero, List.set_cons_succ]
                      refine wpAnyH_ready (rs := [11]) (by kernel_rfl) (by simp) ?_
                      refine AllReadyH.cons (o := { dst := none, op := Go.Op.store 26 (Go.Operand.tmp 12) (Go.Operand.tmp 54), type := 0, pos := "outright.go:226", after := #[{ on := 10, ground := Go.Ground.data }, { on := 8, ground := Go.Ground.data }, { on := 6, ground := Go.Ground.chain }, { on := 0, ground := Go.Ground.phase }, { on := 1, ground := Go.Ground.phase }, { on := 2, ground := Go.Ground.phase }, { on := 3, ground := Go.Ground.phase }, { on := 4, ground := Go.Ground.phase }, { on := 5, ground := Go.Ground.phase }, { on := 6, ground := Go.Ground.phase }, { on := 7, ground := Go.Ground.phase }, { on := 8, ground := Go.Ground.phase }, { on := 9, ground := Go.Ground.textOnly Go.Departure.lateStores }, { on := 10, ground := Go.Ground.phase }], guard := none }) rfl (fun K hK => ?_) AllReadyH.nil
                      go_simp
                      refine hK.out _ _ (sx_st HA3.out HB3.out hsz4 k5) (fun k6 => ?_)
                      clear hK K
                      try simp only [List.setIfInBounds_toArray, List.set_cons_zero, List.set_cons_succ]
                      refine wpAnyH_take (i := 12) (oi := { dst := some 13, op := Go.Op.assign (Go.Operand.tmp 55), type := 3, pos := "outright.go:226", after := #[{ on := 9, ground := Go.Ground.data }, { on := 11, ground := Go.Ground.chain }, { on := 0, ground := Go.Ground.phase }, { on := 1, ground := Go.Ground.phase }, { on := 2, ground := Go.Ground.phase }, { on := 3, ground := Go.Ground.phase }, { on := 4, ground := Go.Ground.phase }, { on := 5, ground := Go.Ground.phase }, { on := 6, ground := Go.Ground.phase }, { on := 7, ground := Go.Ground.phase }, { on := 8, ground := Go.Ground.phase }, { on := 9, ground := Go.Ground.phase }, { on := 10, ground := Go.Ground.phase }, { on := 11, ground := Go.Ground.phase }], guard := none }) (v := .int .i64 0) rfl (by kernel_rfl) (by kernel_rfl) (by kernel_rfl) (fun _ _ _ h => h) (Or.inl ⟨by rfl, fun W hSw => by (try dsimp only at hSw); go_simp⟩) k6 ?_
                      try simp only [Act.put, List.setIfInBounds_toArray, List.set_cons_zero, List.set_cons_succ]
                      refine wpAnyH_done (by kernel_rfl) ?_ _
                      refine NoPanic.normal ?_
                      go_wp2_with fail
                      go_meet
                      exact ⟨after_store (sx_bel k4) hsz4 (Bx.lt bx4) bx5 hh5 hb5, rfl⟩
                  · have hne := ne_after ha2
                    go_simp
                    refine hK.out _ _ (sx_al k2) (fun k3 => ?_)
                    have hsz3 : W3.heap.size ≤ w2.heap.size := (sx_bel k2).size
                    have ha3 := ha2.kept (below_new _ (.cells #[.slice none 0 0, .int .i64 0, .int .i64 0] 26))
                    have hs3 := hs2.below (below_new _ (.cells #[.slice none 0 0, .int .i64 0, .int .i64 0] 26))
                    have bx3 : Bx (w2.alloc (.cells #[.slice none 0 0, .int .i64 0, .int .i64 0] 26)) w2.heap.size 26 #[.slice none 0 0, .int .i64 0, .int .i64 0] := Bx.new _ _ _
                    have hbl3 := Nat.le_trans hbl2 (below_new _ (.cells #[.slice none 0 0, .int .i64 0, .int .i64 0] 26)).size
                    clear hK K
                    try simp only [List.setIfInBounds_toArray, List.set_cons_zero, List.set_cons_succ]
                    refine wpAnyH_ready (rs := [5]) (by kernel_rfl) (by simp) ?_
                    refine AllReadyH.cons (o := { dst := some 52, op := Go.Op.call { callee := Go.Callee.builtin Go.Builtin.append, args := #[Go.Operand.tmp 49, Go.Operand.tmp 51], argTypes := #[22, 22] }, type := 22, pos := "outright.go:226", after := #[{ on := 2, ground := Go.Ground.data }, { on := 4, ground := Go.Ground.data }, { on := 4, ground := Go.Ground.chain }], guard := none }) rfl (fun K hK => ?_) AllReadyH.nil
                    rw [if_pos (by rfl)]
                    refine op_append_sv (.tmp 49) (.tmp 51) rfl _ _ _ ka.length (bsU ka) kb rfl rfl (hold_own ha3) hs3 (by have := HLN.out; omega) hbl3 ?_
                    intro vv w4 ho4 hg4
                    have hb4 : Below W3.heap.size W3 w4 := (sx_bel k3).grown hg4 (sx_bel k3).size (fun r hr => Nat.le_trans hbs (World.ownsRow.lt (hold_own ha3) r hr).1)
                    refine hK.out _ _ (sx_of HA3.out HB3.out hb4) (fun k4 => ?_)
                    have bx4 := bx3.grown hg4 hne
                    have hk4 := hold_app ho4
                    clear hK K
                    try simp only [List.setIfInBounds_toArray, List.set_cons_zero, List.set_cons_succ]
                    refine wpAnyH_ready (rs := [6]) (by kernel_rfl) (by simp) ?_
                    refine AllReadyH.cons (o := { dst := some 53, op := Go.Op.call { callee := Go.Callee.value (Go.Operand.func 12), args := #[Go.Operand.tmp 47, Go.Operand.tmp 52], argTypes := #[22, 22] }, type := 27, pos := "outright.go:226", after := #[{ on := 0, ground := Go.Ground.data }, { on := 5, ground := Go.Ground.data }, { on := 5, ground := Go.Ground.chain }], guard := none }) rfl (fun K hK => ?_) AllReadyH.nil
                    go_simp
                    go_at_call 12
                    refine (HE2.out _ _ _ (HP3.out.below (sx_bel k4)) hk4.svb).mono ?_
                    rintro e w5 ⟨pv, cv, rfl, hh5, hb5⟩
                    go_wp2_with fail
                    refine hK.out _ _ (sx_nx hb5 k4) (fun k5 => ?_)
                    have bx5 := bx4.below hb5
                    have hk5 := hk4.kept hb5
                    obtain ⟨⟨b0, b1, b2⟩, f0, f1, f2⟩ := bx5.three
                    clear hK K
                    try simp only [List.setIfInBounds_toArray, List.set_cons_zero, List.set_cons_succ]
                    refine wpAnyH_take (i := 7) (oi := { dst := some 46, op := Go.Op.move (Go.Operand.tmp 53), type := 27, pos := "outright.go:226", after := #[{ on := 6, ground := Go.Ground.data }], guard := none }) (v := .tuple #[.agg #[.slice pv tx.length cv, .int .i64 (ccb : Int), .int .i64 mk2], .int .i64 0]) rfl (by kernel_rfl) (by kernel_rfl) (by kernel_rfl) (fun _ _ _ h => h) (Or.inl ⟨by rfl, fun W hSw => by (try dsimp only at hSw); go_simp⟩) k5 ?_
                    try simp only [Act.put, List.setIfInBounds_toArray, List.set_cons_zero, List.set_cons_succ]
                    refine wpAnyH_take (i := 8) (oi := { dst := some 54, op := Go.Op.extract (Go.Operand.tmp 46) 0, type := 26, pos := "outright.go:226", after := #[{ on := 7, ground := Go.Ground.data }], guard := none }) (v := .agg #[.slice pv tx.length cv, .int .i64 (ccb : Int), .int .i64 mk2]) rfl (by kernel_rfl) (by kernel_rfl) (by kernel_rfl) (fun _ _ _ h => h) (Or.inl ⟨by rfl, fun W hSw => by (try dsimp only at hSw); go_simp⟩) k5 ?_
                    try simp only [Act.put, List.setIfInBounds_toArray, List.set_cons_zero, List.set_cons_succ]
                    refine wpAnyH_take (i := 9) (oi := { dst := some 55, op := Go.Op.extract (Go.Operand.tmp 46) 1, type := 3, pos := "outright.go:226", after := #[{ on := 7, ground := Go.Ground.data }, { on := 11, ground := Go.Ground.gcOnly Go.Departure.lateStores }], guard := none }) (v := .int .i64 0) rfl (by kernel_rfl) (by kernel_rfl) (by kernel_rfl) (fun _ _ _ h => h) (Or.inl ⟨by rfl, fun W hSw => by (try dsimp only at hSw); go_simp⟩) k5 ?_
                    try simp only [Act.put, List.setIfInBounds_toArray, List.set_cons_zero, List.set_cons_succ]
                    refine wpAnyH_ready (rs := [11]) (by kernel_rfl) (by simp) ?_
                    refine AllReadyH.cons (o := { dst := none, op := Go.Op.store 26 (Go.Operand.tmp 12) (Go.Operand.tmp 54), type := 0, pos := "outright.go:226", after := #[{ on := 10, ground := Go.Ground.data }, { on := 8, ground := Go.Ground.data }, { on := 6, ground := Go.Ground.chain }, { on := 0, ground := Go.Ground.phase }, { on := 1, ground := Go.Ground.phase }, { on := 2, ground := Go.Ground.phase }, { on := 3, ground := Go.Ground.phase }, { on := 4, ground := Go.Ground.phase }, { on := 5, ground := Go.Ground.phase }, { on := 6, ground := Go.Ground.phase }, { on := 7, ground := Go.Ground.phase }, { on := 8, ground := Go.Ground.phase }, { on := 9, ground := Go.Ground.textOnly Go.Departure.lateStores }, { on := 10, ground := Go.Ground.phase }], guard := none }) rfl (fun K hK => ?_) AllReadyH.nil
                    go_simp
                    refine hK.out _ _ (sx_st HA3.out HB3.out hsz3 k5) (fun k6 => ?_)
                    clear hK K
                    try simp only [List.setIfInBounds_toArray, List.set_cons_zero, List.set_cons_succ]
                    refine wpAnyH_take (i := 12) (oi := { dst := some 13, op := Go.Op.assign (Go.Operand.tmp 55), type := 3, pos := "outright.go:226", after := #[{ on := 9, ground := Go.Ground.data }, { on := 11, ground := Go.Ground.chain }, { on := 0, ground := Go.Ground.phase }, { on := 1, ground := Go.Ground.phase }, { on := 2, ground := Go.Ground.phase }, { on := 3, ground := Go.Ground.phase }, { on := 4, ground := Go.Ground.phase }, { on := 5, ground := Go.Ground.phase }, { on := 6, ground := Go.Ground.phase }, { on := 7, ground := Go.Ground.phase }, { on := 8, ground := Go.Ground.phase }, { on := 9, ground := Go.Ground.phase }, { on := 10, ground := Go.Ground.phase }, { on := 11, ground := Go.Ground.phase }], guard := none }) (v := .int .i64 0) rfl (by kernel_rfl) (by kernel_rfl) (by kernel_rfl) (fun _ _ _ h => h) (Or.inl ⟨by rfl, fun W hSw => by (try dsimp only at hSw); go_simp⟩) k6 ?_
                    try simp only [Act.put, List.setIfInBounds_toArray, List.set_cons_zero, List.set_cons_succ]
                    refine wpAnyH_done (by kernel_rfl) ?_ _
                    refine NoPanic.normal ?_
                    go_wp2_with fail
                    go_meet
                    exact ⟨after_store (sx_bel k4) hsz3 (Bx.lt bx4) bx5 hh5 hb5, rfl⟩
                · have hne := ne_after ha1
                  go_simp
                  refine hK.out _ _ (sx_al k1) (fun k2 => ?_)
                  have hsz2 : W3.heap.size ≤ w1.heap.size := (sx_bel k1).size
                  have ha2 := ha1.kept (below_new _ (.cells #[.slice none 0 0, .int .i64 0, .int .i64 0] 26))
                  have bx2 : Bx (w1.alloc (.cells #[.slice none 0 0, .int .i64 0, .int .i64 0] 26)) w1.heap.size 26 #[.slice none 0 0, .int .i64 0, .int .i64 0] := Bx.new _ _ _
                  have hbl2 := Nat.le_trans hbl1 (below_new _ (.cells #[.slice none 0 0, .int .i64 0, .int .i64 0] 26)).size
                  clear hK K
                  try simp only [List.setIfInBounds_toArray, List.set_cons_zero, List.set_cons_succ]
                  refine wpAnyH_ready (rs := [4]) (by kernel_rfl) (by simp) ?_
                  refine AllReadyH.cons (o := { dst := some 51, op := Go.Op.call { callee := Go.Callee.value (Go.Operand.func 18), args := #[Go.Operand.tmp 50], argTypes := #[37] }, type := 22, pos := "outright.go:226", after := #[{ on := 3, ground := Go.Ground.data }, { on := 2, ground := Go.Ground.chain }], guard := none }) rfl (fun K hK => ?_) AllReadyH.nil
                  go_simp
                  go_at_call 18
                  refine (HKB3.out _ (sx_bel k2)).mono ?_
                  rintro e w3 ⟨sv3, rfl, ho3, hb3⟩
                  go_wp2_with fail
                  refine hK.out _ _ (sx_nx hb3 k2) (fun k3 => ?_)
                  have ha3 := ha2.kept hb3
                  have bx3 := bx2.below hb3
                  have hs3 := ho3.svb
                  have hbl3 := Nat.le_trans hbl2 hb3.size
                  clear hK K
                  try simp only [List.setIfInBounds_toArray, List.set_cons_zero, List.set_cons_succ]
                  refine wpAnyH_ready (rs := [5]) (by kernel_rfl) (by simp) ?_
                  refine AllReadyH.cons (o := { dst := some 52, op := Go.Op.call { callee := Go.Callee.builtin Go.Builtin.append, args := #[Go.Operand.tmp 49, Go.Operand.tmp 51], argTypes := #[22, 22] }, type := 22, pos := "outright.go:226", after := #[{ on := 2, ground := Go.Ground.data }, { on := 4, ground := Go.Ground.data }, { on := 4, ground := Go.Ground.chain }], guard := none }) rfl (fun K hK => ?_) AllReadyH.nil
                  rw [if_pos (by rfl)]
                  refine op_append_sv (.tmp 49) (.tmp 51) rfl _ _ _ ka.length (bsU ka) kb rfl rfl (hold_own ha3) hs3 (by have := HLN.out; omega) hbl3 ?_
                  intro vv w4 ho4 hg4
                  have hb4 : Below W3.heap.size W3 w4 := (sx_bel k3).grown hg4 (sx_bel k3).size (fun r hr => Nat.le_trans hbs (World.ownsRow.lt (hold_own ha3) r hr).1)
                  refine hK.out _ _ (sx_of HA3.out HB3.out hb4) (fun k4 => ?_)
                  have bx4 := bx3.grown hg4 hne
                  have hk4 := hold_app ho4
                  clear hK K
                  try simp only [List.setIfInBounds_toArray, List.set_cons_zero, List.set_cons_succ]
                  refine wpAnyH_ready (rs := [6]) (by kernel_rfl) (by simp) ?_
                  refine AllReadyH.cons (o := { dst := some 53, op := Go.Op.call { callee := Go.Callee.value (Go.Operand.func 12), args := #[Go.Operand.tmp 47, Go.Operand.tmp 52], argTypes := #[22, 22] }, type := 27, pos := "outright.go:226", after := #[{ on := 0, ground := Go.Ground.data }, { on := 5, ground := Go.Ground.data }, { on := 5, ground := Go.Ground.chain }], guard := none }) rfl (fun K hK => ?_) AllReadyH.nil
                  go_simp
                  go_at_call 12
                  refine (HE2.out _ _ _ (HP3.out.below (sx_bel k4)) hk4.svb).mono ?_
                  rintro e w5 ⟨pv, cv, rfl, hh5, hb5⟩
                  go_wp2_with fail
                  refine hK.out _ _ (sx_nx hb5 k4) (fun k5 => ?_)
                  have bx5 := bx4.below hb5
                  have hk5 := hk4.kept hb5
                  obtain ⟨⟨b0, b1, b2⟩, f0, f1, f2⟩ := bx5.three
                  clear hK K
                  try simp only [List.setIfInBounds_toArray, List.set_cons_zero, List.set_cons_succ]
                  refine wpAnyH_take (i := 7) (oi := { dst := some 46, op := Go.Op.move (Go.Operand.tmp 53), type := 27, pos := "outright.go:226", after := #[{ on := 6, ground := Go.Ground.data }], guard := none }) (v := .tuple #[.agg #[.slice pv tx.length cv, .int .i64 (ccb : Int), .int .i64 mk2], .int .i64 0]) rfl (by kernel_rfl) (by kernel_rfl) (by kernel_rfl) (fun _ _ _ h => h) (Or.inl ⟨by rfl, fun W hSw => by (try dsimp only at hSw); go_simp⟩) k5 ?_
                  try simp only [Act.put, List.setIfInBounds_toArray, List.set_cons_zero, List.set_cons_succ]
                  refine wpAnyH_take (i := 8) (oi := { dst := some 54, op := Go.Op.extract (Go.Operand.tmp 46) 0, type := 26, pos := "outright.go:226", after := #[{ on := 7, ground := Go.Ground.data }], guard := none }) (v := .agg #[.slice pv tx.length cv, .int .i64 (ccb : Int), .int .i64 mk2]) rfl (by kernel_rfl) (by kernel_rfl) (by kernel_rfl) (fun _ _ _ h => h) (Or.inl ⟨by rfl, fun W hSw => by (try dsimp only at hSw); go_simp⟩) k5 ?_
                  try simp only [Act.put, List.setIfInBounds_toArray, List.set_cons_zero, List.set_cons_succ]
                  refine wpAnyH_take (i := 9) (oi := { dst := some 55, op := Go.Op.extract (Go.Operand.tmp 46) 1, type := 3, pos := "outright.go:226", after := #[{ on := 7, ground := Go.Ground.data }, { on := 11, ground := Go.Ground.gcOnly Go.Departure.lateStores }], guard := none }) (v := .int .i64 0) rfl (by kernel_rfl) (by kernel_rfl) (by kernel_rfl) (fun _ _ _ h => h) (Or.inl ⟨by rfl, fun W hSw => by (try dsimp only at hSw); go_simp⟩) k5 ?_
                  try simp only [Act.put, List.setIfInBounds_toArray, List.set_cons_zero, List.set_cons_succ]
                  refine wpAnyH_ready (rs := [11]) (by kernel_rfl) (by simp) ?_
                  refine AllReadyH.cons (o := { dst := none, op := Go.Op.store 26 (Go.Operand.tmp 12) (Go.Operand.tmp 54), type := 0, pos := "outright.go:226", after := #[{ on := 10, ground := Go.Ground.data }, { on := 8, ground := Go.Ground.data }, { on := 6, ground := Go.Ground.chain }, { on := 0, ground := Go.Ground.phase }, { on := 1, ground := Go.Ground.phase }, { on := 2, ground := Go.Ground.phase }, { on := 3, ground := Go.Ground.phase }, { on := 4, ground := Go.Ground.phase }, { on := 5, ground := Go.Ground.phase }, { on := 6, ground := Go.Ground.phase }, { on := 7, ground := Go.Ground.phase }, { on := 8, ground := Go.Ground.phase }, { on := 9, ground := Go.Ground.textOnly Go.Departure.lateStores }, { on := 10, ground := Go.Ground.phase }], guard := none }) rfl (fun K hK => ?_) AllReadyH.nil
                  go_simp
                  refine hK.out _ _ (sx_st HA3.out HB3.out hsz2 k5) (fun k6 => ?_)
                  clear hK K
                  try simp only [List.setIfInBounds_toArray, List.set_cons_zero, List.set_cons_succ]
                  refine wpAnyH_take (i := 12) (oi := { dst := some 13, op := Go.Op.assign (Go.Operand.tmp 55), type := 3, pos := "outright.go:226", after := #[{ on := 9, ground := Go.Ground.data }, { on := 11, ground := Go.Ground.chain }, { on := 0, ground := Go.Ground.phase }, { on := 1, ground := Go.Ground.phase }, { on := 2, ground := Go.Ground.phase }, { on := 3, ground := Go.Ground.phase }, { on := 4, ground := Go.Ground.phase }, { on := 5, ground := Go.Ground.phase }, { on := 6, ground := Go.Ground.phase }, { on := 7, ground := Go.Ground.phase }, { on := 8, ground := Go.Ground.phase }, { on := 9, ground := Go.Ground.phase }, { on := 10, ground := Go.Ground.phase }, { on := 11, ground := Go.Ground.phase }], guard := none }) (v := .int .i64 0) rfl (by kernel_rfl) (by kernel_rfl) (by kernel_rfl) (fun _ _ _ h => h) (Or.inl ⟨by rfl, fun W hSw => by (try dsimp only at hSw); go_simp⟩) k6 ?_
                  try simp only [Act.put, List.setIfInBounds_toArray, List.set_cons_zero, List.set_cons_succ]
                  refine wpAnyH_done (by kernel_rfl) ?_ _
                  refine NoPanic.normal ?_
                  go_wp2_with fail
                  go_meet
                  exact ⟨after_store (sx_bel k4) hsz2 (Bx.lt bx4) bx5 hh5 hb5, rfl⟩
              · go_simp
                refine hK.out _ _ (sx_al k0) (fun k1 => ?_)
                have hsz1 : W3.heap.size ≤ W3.heap.size := (sx_bel k0).size
                have bx1 : Bx (W3.drew.alloc (.cells #[.slice none 0 0, .int .i64 0, .int .i64 0] 26)) W3.heap.size 26 #[.slice none 0 0, .int .i64 0, .int .i64 0] := Bx.new _ _ _
                clear hK K
                try simp only [List.setIfInBounds_toArray, List.set_cons_zero, List.set_cons_succ]
                refine wpAnyH_ready (rs := [2]) (by kernel_rfl) (by simp) ?_
                refine AllReadyH.cons (o := { dst := some 49, op := Go.Op.call { callee := Go.Callee.value (Go.Operand.func 18), args := #[Go.Operand.tmp 48], argTypes := #[37] }, type := 22, pos := "outright.go:226", after := #[{ on := 1, ground := Go.Ground.data }], guard := none }) rfl (fun K hK => ?_) AllReadyH.nil
                have hbs : W3.heap.size ≤ _ := (sx_bel k1).size
                go_simp
                go_at_call 18
                refine (HKA3.out _ (sx_bel k1)).mono ?_
                rintro e w2 ⟨sv2, rfl, ho2, hb2⟩
                go_wp2_with fail
                refine hK.out _ _ (sx_nx hb2 k1) (fun k2 => ?_)
                have bx2 := bx1.below hb2
                have ha2 := ho2
                have hne := ne_before ha2
                have hbl2 := hb2.size
                clear hK K
                try simp only [List.setIfInBounds_toArray, List.set_cons_zero, List.set_cons_succ]
                refine wpAnyH_ready (rs := [4]) (by kernel_rfl) (by simp) ?_
                refine AllReadyH.cons (o := { dst := some 51, op := Go.Op.call { callee := Go.Callee.value (Go.Operand.func 18), args := #[Go.Operand.tmp 50], argTypes := #[37] }, type := 22, pos := "outright.go:226", after := #[{ on := 3, ground := Go.Ground.data }, { on := 2, ground := Go.Ground.chain }], guard := none }) rfl (fun K hK => ?_) AllReadyH.nil
                go_simp
                go_at_call 18
                refine (HKB3.out _ (sx_bel k2)).mono ?_
                rintro e w3 ⟨sv3, rfl, ho3, hb3⟩
                go_wp2_with fail
                refine hK.out _ _ (sx_nx hb3 k2) (fun k3 => ?_)
                have bx3 := bx2.below hb3
                have ha3 := ha2.kept hb3
                have hs3 := ho3.svb
                have hbl3 := Nat.le_trans hbl2 hb3.size
                clear hK K
                try simp only [List.setIfInBounds_toArray, List.set_cons_zero, List.set_cons_succ]
                refine wpAnyH_ready (rs := [5]) (by kernel_rfl) (by simp) ?_
                refine AllReadyH.cons (o := { dst := some 52, op := Go.Op.call { callee := Go.Callee.builtin Go.Builtin.append, args := #[Go.Operand.tmp 49, Go.Operand.tmp 51], argTypes := #[22, 22] }, type := 22, pos := "outright.go:226", after := #[{ on := 2, ground := Go.Ground.data }, { on := 4, ground := Go.Ground.data }, { on := 4, ground := Go.Ground.chain }], guard := none }) rfl (fun K hK => ?_) AllReadyH.nil
                rw [if_pos (by rfl)]
                refine op_append_sv (.tmp 49) (.tmp 51) rfl _ _ _ ka.length (bsU ka) kb rfl rfl (hold_own ha3) hs3 (by have := HLN.out; omega) hbl3 ?_
                intro vv w4 ho4 hg4
                have hb4 : Below W3.heap.size W3 w4 := (sx_bel k3).grown hg4 (sx_bel k3).size (fun r hr => Nat.le_trans hbs (World.ownsRow.lt (hold_own ha3) r hr).1)
                refine hK.out _ _ (sx_of HA3.out HB3.out hb4) (fun k4 => ?_)
                have bx4 := bx3.grown hg4 hne
                have hk4 := hold_app ho4
                clear hK K
                try simp only [List.setIfInBounds_toArray, List.set_cons_zero, List.set_cons_succ]
                refine wpAnyH_ready (rs := [6]) (by kernel_rfl) (by simp) ?_
                refine AllReadyH.cons (o := { dst := some 53, op := Go.Op.call { callee := Go.Callee.value (Go.Operand.func 12), args := #[Go.Operand.tmp 47, Go.Operand.tmp 52], argTypes := #[22, 22] }, type := 27, pos := "outright.go:226", after := #[{ on := 0, ground := Go.Ground.data }, { on := 5, ground := Go.Ground.data }, { on := 5, ground := Go.Ground.chain }], guard := none }) rfl (fun K hK => ?_) AllReadyH.nil
                go_simp
                go_at_call 12
                refine (HE2.out _ _ _ (HP3.out.below (sx_bel k4)) hk4.svb).mono ?_
                rintro e w5 ⟨pv, cv, rfl, hh5, hb5⟩
                go_wp2_with fail
                refine hK.out _ _ (sx_nx hb5 k4) (fun k5 => ?_)
                have bx5 := bx4.below hb5
                have hk5 := hk4.kept hb5
                obtain ⟨⟨b0, b1, b2⟩, f0, f1, f2⟩ := bx5.three
                clear hK K
                try simp only [List.setIfInBounds_toArray, List.set_cons_zero, List.set_cons_succ]
                refine wpAnyH_take (i := 7) (oi := { dst := some 46, op := Go.Op.move (Go.Operand.tmp 53), type := 27, pos := "outright.go:226", after := #[{ on := 6, ground := Go.Ground.data }], guard := none }) (v := .tuple #[.agg #[.slice pv tx.length cv, .int .i64 (ccb : Int), .int .i64 mk2], .int .i64 0]) rfl (by kernel_rfl) (by kernel_rfl) (by kernel_rfl) (fun _ _ _ h => h) (Or.inl ⟨by rfl, fun W hSw => by (try dsimp only at hSw); go_simp⟩) k5 ?_
                try simp only [Act.put, List.setIfInBounds_toArray, List.set_cons_zero, List.set_cons_succ]
                refine wpAnyH_take (i := 8) (oi := { dst := some 54, op := Go.Op.extract (Go.Operand.tmp 46) 0, type := 26, pos := "outright.go:226", after := #[{ on := 7, ground := Go.Ground.data }], guard := none }) (v := .agg #[.slice pv tx.length cv, .int .i64 (ccb : Int), .int .i64 mk2]) rfl (by kernel_rfl) (by kernel_rfl) (by kernel_rfl) (fun _ _ _ h => h) (Or.inl ⟨by rfl, fun W hSw => by (try dsimp only at hSw); go_simp⟩) k5 ?_
                try simp only [Act.put, List.setIfInBounds_toArray, List.set_cons_zero, List.set_cons_succ]
                refine wpAnyH_take (i := 9) (oi := { dst := some 55, op := Go.Op.extract (Go.Operand.tmp 46) 1, type := 3, pos := "outright.go:226", after := #[{ on := 7, ground := Go.Ground.data }, { on := 11, ground := Go.Ground.gcOnly Go.Departure.lateStores }], guard := none }) (v := .int .i64 0) rfl (by kernel_rfl) (by kernel_rfl) (by kernel_rfl) (fun _ _ _ h => h) (Or.inl ⟨by rfl, fun W hSw => by (try dsimp only at hSw); go_simp⟩) k5 ?_
                try simp only [Act.put, List.setIfInBounds_toArray, List.set_cons_zero, List.set_cons_succ]
                refine wpAnyH_ready (rs := [11]) (by kernel_rfl) (by simp) ?_
                refine AllReadyH.cons (o := { dst := none, op := Go.Op.store 26 (Go.Operand.tmp 12) (Go.Operand.tmp 54), type := 0, pos := "outright.go:226", after := #[{ on := 10, ground := Go.Ground.data }, { on := 8, ground := Go.Ground.data }, { on := 6, ground := Go.Ground.chain }, { on := 0, ground := Go.Ground.phase }, { on := 1, ground := Go.Ground.phase }, { on := 2, ground := Go.Ground.phase }, { on := 3, ground := Go.Ground.phase }, { on := 4, ground := Go.Ground.phase }, { on := 5, ground := Go.Ground.phase }, { on := 6, ground := Go.Ground.phase }, { on := 7, ground := Go.Ground.phase }, { on := 8, ground := Go.Ground.phase }, { on := 9, ground := Go.Ground.textOnly Go.Departure.lateStores }, { on := 10, ground := Go.Ground.phase }], guard := none }) rfl (fun K hK => ?_) AllReadyH.nil
                go_simp
                refine hK.out _ _ (sx_st HA3.out HB3.out hsz1 k5) (fun k6 => ?_)
                clear hK K
                try simp only [List.setIfInBounds_toArray, List.set_cons_zero, List.set_cons_succ]
                refine wpAnyH_take (i := 12) (oi := { dst := some 13, op := Go.Op.assign (Go.Operand.tmp 55), type := 3, pos := "outright.go:226", after := #[{ on := 9, ground := Go.Ground.data }, { on := 11, ground := Go.Ground.chain }, { on := 0, ground := Go.Ground.phase }, { on := 1, ground := Go.Ground.phase }, { on := 2, ground := Go.Ground.phase }, { on := 3, ground := Go.Ground.phase }, { on := 4, ground := Go.Ground.phase }, { on := 5, ground := Go.Ground.phase }, { on := 6, ground := Go.Ground.phase }, { on := 7, ground := Go.Ground.phase }, { on := 8, ground := Go.Ground.phase }, { on := 9, ground := Go.Ground.phase }, { on := 10, ground := Go.Ground.phase }, { on := 11, ground := Go.Ground.phase }], guard := none }) (v := .int .i64 0) rfl (by kernel_rfl) (by kernel_rfl) (by kernel_rfl) (fun _ _ _ h => h) (Or.inl ⟨by rfl, fun W hSw => by (try dsimp only at hSw); go_simp⟩) k6 ?_
                try simp only [Act.put, List.setIfInBounds_toArray, List.set_cons_zero, List.set_cons_succ]
                refine wpAnyH_done (by kernel_rfl) ?_ _
                refine NoPanic.normal ?_
                go_wp2_with fail
                go_meet
                exact ⟨after_store (sx_bel k4) hsz1 (Bx.lt bx4) bx5 hh5 hb5, rfl⟩
            case rest =>
              obtain ⟨⟨g12, pv12, cv12, rfl, -, hX, hh, hb, hg, hne⟩, rfl⟩ := hcut
              obtain ⟨W4, rfl⟩ : ∃ W4, W4 = wc := ⟨_, rfl⟩
              have HB4 := Lib.hid (bel0 HBW3.out hb)
              have HN12 := Lib.hid (HO2.out.ne (Nat.le_trans HS23.out hg))
              have HNR : Hid (∀ g, (Value.slice pv12 tx.length cv12).ownBlock = some g → some g ≠ (Value.slice pv8 txa.length cv8).ownBlock) := Lib.hid (fun g hg' => HO2.out.ne (Nat.le_trans HS23.out (World.ownsRow.lt (hold_own hh) g hg').1))
              have HO8' := Lib.hid (hold_own (HO23.out.kept hb))
              have HT10' := Lib.hid (HO3.out.below hb)
              have HO12' := Lib.hid (hold_own hh)
              have HX8' := Lib.hid (HX3.out.below hb)
              have HX10' := Lib.hid (HY3.out.below hb)
              have HX12' := Lib.hid hX
              have HZ8 : Hid (W1.heap.size ≤ W4.heap.size) := Lib.hid (by have h1 := HG8.out; have h2 := HX8'.out.lt; omega)
              have HZW : Hid (w.heap.size ≤ W1.heap.size) := Lib.hid HBW1.out.size
              obtain ⟨n8, hn8⟩ : ∃ n, n = txa.length := ⟨_, rfl⟩
              obtain ⟨n10, hn10⟩ : ∃ n, n = txb.length := ⟨_, rfl⟩
              obtain ⟨n12, hn12⟩ : ∃ n, n = tx.length := ⟨_, rfl⟩
              have hlt := HLT.out
              have hcase := HC.out
              rw [← hn8, ← hn10] at hlt
              rw [← hn8] at hcase
              have HLT2 := Lib.hid hlt
              have HO8 : Hid (W4.ownsRow _ 5 1 (.slice pv8 n8 cv8) n8 (bsU txa)) := Lib.hid (by have h := HO8'.out; rw [← hn8] at h; exact h)
              have HT10 : Hid (SvB W4 (.slice pv10 n10 cv10) txb) := Lib.hid (by have h := HT10'.out; rw [← hn10] at h; exact h)
              have HO12 : Hid (W4.ownsRow _ 5 1 (.slice pv12 n12 cv12) n12 (bsU tx)) := Lib.hid (by have h := HO12'.out; rw [← hn12] at h; exact h)
              have HX8 : Hid (Bx W4 g8 _ #[.slice pv8 n8 cv8, .int .i64 (cca : Int), .int .i64 mka]) := Lib.hid (by have h := HX8'.out; rw [← hn8] at h; exact h)
              have HX10 : Hid (Bx W4 g10 _ #[.slice pv10 n10 cv10, .int .i64 (ccb : Int), .int .i64 mkb]) := Lib.hid (by have h := HX10'.out; rw [← hn10] at h; exact h)
              have HX12 : Hid (Bx W4 g12 _ #[.slice pv12 n12 cv12, .int .i64 (ccb : Int), .int .i64 mk2]) := Lib.hid (by have h := HX12'.out; rw [← hn12] at h; exact h)
              rw [← hn8] at HN8 HN10 HN12 HNR
              rw [← hn12] at HNR
              have HNN8 := Lib.hid hn8
              have HNN12 := Lib.hid hn12
              clear hX hh hb hg hne hn8 hn10 hn12 HO8' HT10' HO12' HX8' HX10' HX12' HO23 HX3 HY3 HO3 HO2 HX2 HP3 HA3 HB3 HKA3 HKB3 HKA1 HKB1 HPA1 HPB1 HEA HEB HE2 hlt
              obtain ⟨⟨a0, a1, a2⟩, -⟩ := HX8.out.three
              obtain ⟨⟨b0, b1, b2⟩, -⟩ := HX10.out.three
              have hlt8 : n8 ≤ 200 := HLT2.out.1
              rcases hcase with ⟨rfl, rfl⟩ | ⟨h1, h2, rfl⟩
              · go_upto_region 12 with fail
                clear a0 a1 a2 b0 b1 b2 hlt8
                refine wp_region_noPanic ?_
                refine wp_region_held_drew (S := fun W => W.cell? ⟨g12, 0, none⟩ = some (.slice pv12 n12 cv12) ∧ W.cell? ⟨g12, 1, none⟩ = some (.int .i64 (ccb : Int)) ∧ W.cell? ⟨g12, 2, none⟩ = some (.int .i64 (mk2)) ∧ W.cell? ⟨g8, 0, none⟩ = some (.slice pv8 n8 cv8) ∧ W.cell? ⟨g10, 0, none⟩ = some (.slice pv10 n10 cv10) ∧ W.cell? ⟨g10, 1, none⟩ = some (.int .i64 (ccb : Int)) ∧ ApS w W) (by kernel_rfl) (sy_of (HX12.out.below (Below.refl _ _).drew) (HX8.out.below (Below.refl _ _).drew) (HX10.out.below (Below.refl _ _).drew) (HB4.out.drew)) (fun k0 => ?_)
                show wpAnyH _ _ _ _ _ 37 #[false, false, false, false, false, false, false, false, false, false, false, false, false, false, false, false, false, false, false, false, false, false, false, false, false, false, false, false, false, false, false, false, false, false, false, false, false] _ _
                refine wpAnyH_take (i := 0) (oi := { dst := some 67, op := Go.Op.move (Go.Operand.tmp 9), type := 3, pos := "outright.go:231", after := #[], guard := none }) (v := .int .i64 0) rfl (by kernel_rfl) (by kernel_rfl) (by kernel_rfl) (fun _ _ _ h => h) (Or.inl ⟨by rfl, fun W hSw => by (try dsimp only at hSw); go_simp⟩) k0 ?_
                try simp only [Act.put, List.setIfInBounds_toArray, List.set_cons_zero, List.set_cons_succ]
                refine wpAnyH_take (i := 1) (oi := { dst := some 68, op := Go.Op.binOp Go.BinOp.eql 3 (Go.Operand.tmp 67) (Go.Operand.const (Go.Value.int Go.IntKind.i64 0)) 3, type := 4, pos := "outright.go:231", after := #[{ on := 0, ground := Go.Ground.data }], guard := none }) (v := .bool true) rfl (by kernel_rfl) (by kernel_rfl) (by kernel_rfl) (fun _ _ _ h => h) (Or.inl ⟨by rfl, fun W hSw => by (try dsimp only at hSw); go_simp⟩) k0 ?_
                try simp only [Act.put, List.setIfInBounds_toArray, List.set_cons_zero, List.set_cons_succ]
                refine wpAnyH_take (i := 2) (oi := { dst := some 69, op := Go.Op.move (Go.Operand.tmp 68), type := 4, pos := "outright.go:231", after := #[{ on := 1, ground := Go.Ground.data }], guard := none }) (v := .bool true) rfl (by kernel_rfl) (by kernel_rfl) (by kernel_rfl) (fun _ _ _ h => h) (Or.inl ⟨by rfl, fun W hSw => by (try dsimp only at hSw); go_simp⟩) k0 ?_
                try simp only [Act.put, List.setIfInBounds_toArray, List.set_cons_zero, List.set_cons_succ]
                refine wpAnyH_take (i := 3) (oi := { dst := some 70, op := Go.Op.move (Go.Operand.tmp 11), type := 3, pos := "outright.go:231", after := #[{ on := 2, ground := Go.Ground.guard }], guard := some (2, true) }) (v := .int .i64 0) rfl (by kernel_rfl) (by kernel_rfl) (by kernel_rfl) (fun _ _ _ h => h) (Or.inl ⟨by rfl, fun W hSw => by (try dsimp only at hSw); go_simp⟩) k0 ?_
                try simp only [Act.put, List.setIfInBounds_toArray, List.set_cons_zero, List.set_cons_succ]
                refine wpAnyH_take (i := 4) (oi := { dst := some 71, op := Go.Op.binOp Go.BinOp.eql 3 (Go.Operand.tmp 70) (Go.Operand.const (Go.Value.int Go.IntKind.i64 0)) 3, type := 4, pos := "outright.go:231", after := #[{ on := 3, ground := Go.Ground.data }, { on := 2, ground := Go.Ground.guard }], guard := some (2, true) }) (v := .bool true) rfl (by kernel_rfl) (by kernel_rfl) (by kernel_rfl) (fun _ _ _ h => h) (Or.inl ⟨by rfl, fun W hSw => by (try dsimp only at hSw); go_simp⟩) k0 ?_
                try simp only [Act.put, List.setIfInBounds_toArray, List.set_cons_zero, List.set_cons_succ]
                refine wpAnyH_take (i := 5) (oi := { dst := some 72, op := Go.Op.pick (Go.Operand.tmp 69) (Go.Operand.tmp 71) (Go.Operand.const (Go.Value.bool false)), type := 4, pos := "outright.go:231", after := #[{ on := 2, ground := Go.Ground.data }, { on := 4, ground := Go.Ground.data }], guard := none }) (v := .bool true) rfl (by kernel_rfl) (by kernel_rfl) (by kernel_rfl) (fun _ _ _ h => h) (Or.inl ⟨by rfl, fun W hSw => by (try dsimp only at hSw); go_simp⟩) k0 ?_
                try simp only [Act.put, List.setIfInBounds_toArray, List.set_cons_zero, List.set_cons_succ]
                refine wpAnyH_take (i := 6) (oi := { dst := some 73, op := Go.Op.move (Go.Operand.tmp 72), type := 4, pos := "outright.go:231", after := #[{ on := 5, ground := Go.Ground.data }, { on := 2, ground := Go.Ground.chain }], guard := none }) (v := .bool true) rfl (by kernel_rfl) (by kernel_rfl) (by kernel_rfl) (fun _ _ _ h => h) (Or.inl ⟨by rfl, fun W hSw => by (try dsimp only at hSw); go_simp⟩) k0 ?_
                try simp only [Act.put, List.setIfInBounds_toArray, List.set_cons_zero, List.set_cons_succ]
                refine wpAnyH_take (i := 7) (oi := { dst := some 74, op := Go.Op.move (Go.Operand.tmp 13), type := 3, pos := "outright.go:231", after := #[{ on := 6, ground := Go.Ground.guard }], guard := some (6, true) }) (v := .int .i64 0) rfl (by kernel_rfl) (by kernel_rfl) (by kernel_rfl) (fun _ _ _ h => h) (Or.inl ⟨by rfl, fun W hSw => by (try dsimp only at hSw); go_simp⟩) k0 ?_
                try simp only [Act.put, List.setIfInBounds_toArray, List.set_cons_zero, List.set_cons_succ]
                refine wpAnyH_take (i := 8) (oi := { dst := some 75, op := Go.Op.binOp Go.BinOp.eql 3 (Go.Operand.tmp 74) (Go.Operand.const (Go.Value.int Go.IntKind.i64 0)) 3, type := 4, pos := "outright.go:231", after := #[{ on := 7, ground := Go.Ground.data }, { on := 6, ground := Go.Ground.guard }], guard := some (6, true) }) (v := .bool true) rfl (by kernel_rfl) (by kernel_rfl) (by kernel_rfl) (fun _ _ _ h => h) (Or.inl ⟨by rfl, fun W hSw => by (try dsimp only at hSw); go_simp⟩) k0 ?_
                try simp only [Act.put, List.setIfInBounds_toArray, List.set_cons_zero, List.set_cons_succ]
                refine wpAnyH_take (i := 9) (oi := { dst := some 76, op := Go.Op.pick (Go.Operand.tmp 73) (Go.Operand.tmp 75) (Go.Operand.const (Go.Value.bool false)), type := 4, pos := "outright.go:231", after := #[{ on := 6, ground := Go.Ground.data }, { on := 8, ground := Go.Ground.data }], guard := none }) (v := .bool true) rfl (by kernel_rfl) (by kernel_rfl) (by kernel_rfl) (fun _ _ _ h => h) (Or.inl ⟨by rfl, fun W hSw => by (try dsimp only at hSw); go_simp⟩) k0 ?_
                try simp only [Act.put, List.setIfInBounds_toArray, List.set_cons_zero, List.set_cons_succ]
                refine wpAnyH_take (i := 10) (oi := { dst := some 77, op := Go.Op.move (Go.Operand.tmp 76), type := 4, pos := "outright.go:231", after := #[{ on := 9, ground := Go.Ground.data }, { on := 6, ground := Go.Ground.chain }], guard := none }) (v := .bool true) rfl (by kernel_rfl) (by kernel_rfl) (by kernel_rfl) (fun _ _ _ h => h) (Or.inl ⟨by rfl, fun W hSw => by (try dsimp only at hSw); go_simp⟩) k0 ?_
                try simp only [Act.put, List.setIfInBounds_toArray, List.set_cons_zero, List.set_cons_succ]
                refine wpAnyH_take (i := 11) (oi := { dst := some 78, op := Go.Op.fieldAddr 26 (Go.Operand.tmp 12) 0, type := 0, pos := "outright.go:231", after := #[{ on := 10, ground := Go.Ground.guard }], guard := some (10, true) }) (v := .pointer (some ⟨g12, 0, none⟩)) rfl (by kernel_rfl) (by kernel_rfl) (by kernel_rfl) (fun _ _ _ h => h) (Or.inl ⟨by rfl, fun W hSw => by (try dsimp only at hSw); go_simp⟩) k0 ?_
                try simp only [Act.put, List.setIfInBounds_toArray, List.set_cons_zero, List.set_cons_succ]
                refine wpAnyH_take (i := 12) (oi := { dst := some 79, op := Go.Op.load 22 (Go.Operand.tmp 78), type := 22, pos := "outright.go:231", after := #[{ on := 11, ground := Go.Ground.data }, { on := 10, ground := Go.Ground.guard }], guard := some (10, true) }) (v := .slice pv12 n12 cv12) rfl (by kernel_rfl) (by kernel_rfl) (by kernel_rfl) (fun _ _ _ h => h) (Or.inl ⟨by rfl, fun W hSw => by (try dsimp only at hSw); go_simp⟩) k0 ?_
                try simp only [Act.put, List.setIfInBounds_toArray, List.set_cons_zero, List.set_cons_succ]
                refine wpAnyH_take (i := 13) (oi := { dst := some 80, op := Go.Op.fieldAddr 26 (Go.Operand.tmp 8) 0, type := 0, pos := "outright.go:231", after := #[{ on := 10, ground := Go.Ground.guard }], guard := some (10, true) }) (v := .pointer (some ⟨g8, 0, none⟩)) rfl (by kernel_rfl) (by kernel_rfl) (by kernel_rfl) (fun _ _ _ h => h) (Or.inl ⟨by rfl, fun W hSw => by (try dsimp only at hSw); go_simp⟩) k0 ?_
                try simp only [Act.put, List.setIfInBounds_toArray, List.set_cons_zero, List.set_cons_succ]
                refine wpAnyH_take (i := 14) (oi := { dst := some 81, op := Go.Op.load 22 (Go.Operand.tmp 80), type := 22, pos := "outright.go:231", after := #[{ on := 13, ground := Go.Ground.data }, { on := 10, ground := Go.Ground.guard }], guard := some (10, true) }) (v := .slice pv8 n8 cv8) rfl (by kernel_rfl) (by kernel_rfl) (by kernel_rfl) (fun _ _ _ h => h) (Or.inl ⟨by rfl, fun W hSw => by (try dsimp only at hSw); go_simp⟩) k0 ?_
                try simp only [Act.put, List.setIfInBounds_toArray, List.set_cons_zero, List.set_cons_succ]
                refine wpAnyH_take (i := 15) (oi := { dst := some 82, op := Go.Op.fieldAddr 26 (Go.Operand.tmp 10) 0, type := 0, pos := "outright.go:231", after := #[{ on := 10, ground := Go.Ground.guard }], guard := some (10, true) }) (v := .pointer (some ⟨g10, 0, none⟩)) rfl (by kernel_rfl) (by kernel_rfl) (by kernel_rfl) (fun _ _ _ h => h) (Or.inl ⟨by rfl, fun W hSw => by (try dsimp only at hSw); go_simp⟩) k0 ?_
                try simp only [Act.put, List.setIfInBounds_toArray, List.set_cons_zero, List.set_cons_succ]
                refine wpAnyH_take (i := 16) (oi := { dst := some 83, op := Go.Op.load 22 (Go.Operand.tmp 82), type := 22, pos := "outright.go:231", after := #[{ on := 15, ground := Go.Ground.data }, { on := 10, ground := Go.Ground.guard }], guard := some (10, true) }) (v := .slice pv10 n10 cv10) rfl (by kernel_rfl) (by kernel_rfl) (by kernel_rfl) (fun _ _ _ h => h) (Or.inl ⟨by rfl, fun W hSw => by (try dsimp only at hSw); go_simp⟩) k0 ?_
                try simp only [Act.put, List.setIfInBounds_toArray, List.set_cons_zero, List.set_cons_succ]
                refine wpAnyH_ready (rs := [17]) (by kernel_rfl) (by simp) ?_
                refine AllReadyH.cons (o := { dst := some 84, op := Go.Op.call { callee := Go.Callee.builtin Go.Builtin.append, args := #[Go.Operand.tmp 81, Go.Operand.tmp 83], argTypes := #[22, 22] }, type := 22, pos := "outright.go:231", after := #[{ on := 14, ground := Go.Ground.data }, { on := 16, ground := Go.Ground.data }, { on := 10, ground := Go.Ground.chain }, { on := 10, ground := Go.Ground.guard }], guard := some (10, true) }) rfl (fun K hK => ?_) AllReadyH.nil
                rw [if_pos (by rfl)]
                refine op_append_sv (.tmp 81) (.tmp 83) rfl _ _ _ n8 (bsU txa) txb rfl rfl (own_kept HO8.out (Below.refl _ _).drew) (HT10.out.below (Below.refl _ _).drew) (by have := HLT.out; have := HNN8.out; omega) HZ8.out ?_
                intro vv w1 ho1 hg1
                have hb1 : Below w.heap.size w w1 := (sy_bel k0).grown hg1 (sy_bel k0).size (fun r hr => Nat.le_trans HZW.out (World.ownsRow.lt HO8.out r hr).1)
                refine hK.out _ _ (sy_of ((HX12.out.below (Below.refl _ _).drew).grown hg1 HN12.out) ((HX8.out.below (Below.refl _ _).drew).grown hg1 HN8.out) ((HX10.out.below (Below.refl _ _).drew).grown hg1 HN10.out) hb1) (fun k1 => ?_)
                have ht1 := (own_hold (own_far (own_kept HO12.out (Below.refl _ _).drew) hg1 HNR.out) HNN12.out).svb
                have ha1 : SvB w1 vv tx := by rw [HTX.out]; exact (hold_app (by rw [← HNN8.out]; exact ho1)).svb
                clear hK K
                try simp only [List.setIfInBounds_toArray, List.set_cons_zero, List.set_cons_succ]
                refine wpAnyH_ready (rs := [18]) (by kernel_rfl) (by simp) ?_
                refine AllReadyH.cons (o := { dst := some 85, op := Go.Op.call { callee := Go.Callee.value (Go.Operand.func 14), args := #[Go.Operand.tmp 79, Go.Operand.tmp 84], argTypes := #[22, 22] }, type := 4, pos := "outright.go:231", after := #[{ on := 12, ground := Go.Ground.data }, { on := 17, ground := Go.Ground.data }, { on := 17, ground := Go.Ground.chain }, { on := 10, ground := Go.Ground.guard }], guard := some (10, true) }) rfl (fun K hK => ?_) AllReadyH.nil
                go_simp
                go_at_call 14
                refine (same_svb ht1 ha1).mono ?_
                rintro e w2 ⟨rfl, hb2⟩
                go_wp2_with fail
                refine hK.out _ _ (sy_nx hb2 k1) (fun k2 => ?_)
                clear hK K
                try simp only [List.setIfInBounds_toArray, List.set_cons_zero, List.set_cons_succ]
                refine wpAnyH_take (i := 19) (oi := { dst := some 86, op := Go.Op.pick (Go.Operand.tmp 77) (Go.Operand.tmp 85) (Go.Operand.const (Go.Value.bool false)), type := 4, pos := "outright.go:231", after := #[{ on := 10, ground := Go.Ground.data }, { on := 18, ground := Go.Ground.data }], guard := none }) (v := .bool true) rfl (by kernel_rfl) (by kernel_rfl) (by kernel_rfl) (fun _ _ _ h => h) (Or.inl ⟨by rfl, fun W hSw => by (try dsimp only at hSw); go_simp⟩) k2 ?_
                try simp only [Act.put, List.setIfInBounds_toArray, List.set_cons_zero, List.set_cons_succ]
                refine wpAnyH_take (i := 20) (oi := { dst := some 87, op := Go.Op.move (Go.Operand.tmp 86), type := 4, pos := "outright.go:231", after := #[{ on := 19, ground := Go.Ground.data }, { on := 18, ground := Go.Ground.chain }], guard := none }) (v := .bool true) rfl (by kernel_rfl) (by kernel_rfl) (by kernel_rfl) (fun _ _ _ h => h) (Or.inl ⟨by rfl, fun W hSw => by (try dsimp only at hSw); go_simp⟩) k2 ?_
                try simp only [Act.put, List.setIfInBounds_toArray, List.set_cons_zero, List.set_cons_succ]
                refine wpAnyH_take (i := 21) (oi := { dst := some 88, op := Go.Op.fieldAddr 26 (Go.Operand.tmp 12) 1, type := 0, pos := "outright.go:231", after := #[{ on := 20, ground := Go.Ground.guard }], guard := some (20, true) }) (v := .pointer (some ⟨g12, 1, none⟩)) rfl (by kernel_rfl) (by kernel_rfl) (by kernel_rfl) (fun _ _ _ h => h) (Or.inl ⟨by rfl, fun W hSw => by (try dsimp only at hSw); go_simp⟩) k2 ?_
                try simp only [Act.put, List.setIfInBounds_toArray, List.set_cons_zero, List.set_cons_succ]
                refine wpAnyH_take (i := 22) (oi := { dst := some 89, op := Go.Op.load 3 (Go.Operand.tmp 88), type := 3, pos := "outright.go:231", after := #[{ on := 21, ground := Go.Ground.data }, { on := 20, ground := Go.Ground.guard }], guard := some (20, true) }) (v := .int .i64 (ccb : Int)) rfl (by kernel_rfl) (by kernel_rfl) (by kernel_rfl) (fun _ _ _ h => h) (Or.inl ⟨by rfl, fun W hSw => by (try dsimp only at hSw); go_simp⟩) k2 ?_
                try simp only [Act.put, List.setIfInBounds_toArray, List.set_cons_zero, List.set_cons_succ]
                refine wpAnyH_take (i := 23) (oi := { dst := some 90, op := Go.Op.fieldAddr 26 (Go.Operand.tmp 10) 1, type := 0, pos := "outright.go:231", after := #[{ on := 20, ground := Go.Ground.guard }], guard := some (20, true) }) (v := .pointer (some ⟨g10, 1, none⟩)) rfl (by kernel_rfl) (by kernel_rfl) (by kernel_rfl) (fun _ _ _ h => h) (Or.inl ⟨by rfl, fun W hSw => by (try dsimp only at hSw); go_simp⟩) k2 ?_
                try simp only [Act.put, List.setIfInBounds_toArray, List.set_cons_zero, List.set_cons_succ]
                refine wpAnyH_take (i := 24) (oi := { dst := some 91, op := Go.Op.load 3 (Go.Operand.tmp 90), type := 3, pos := "outright.go:231", after := #[{ on := 23, ground := Go.Ground.data }, { on := 20, ground := Go.Ground.guard }], guard := some (20, true) }) (v := .int .i64 (ccb : Int)) rfl (by kernel_rfl) (by kernel_rfl) (by kernel_rfl) (fun _ _ _ h => h) (Or.inl ⟨by rfl, fun W hSw => by (try dsimp only at hSw); go_simp⟩) k2 ?_
                try simp only [Act.put, List.setIfInBounds_toArray, List.set_cons_zero, List.set_cons_succ]
                refine wpAnyH_take (i := 25) (oi := { dst := some 92, op := Go.Op.binOp Go.BinOp.eql 3 (Go.Operand.tmp 89) (Go.Operand.tmp 91) 3, type := 4, pos := "outright.go:231", after := #[{ on := 22, ground := Go.Ground.data }, { on := 24, ground := Go.Ground.data }, { on := 20, ground := Go.Ground.guard }], guard := some (20, true) }) (v := .bool true) rfl (by kernel_rfl) (by kernel_rfl) (by kernel_rfl) (fun _ _ _ h => h) (Or.inl ⟨by rfl, fun W hSw => by (try dsimp only at hSw); go_simp⟩) k2 ?_
                try simp only [Act.put, List.setIfInBounds_toArray, List.set_cons_zero, List.set_cons_succ]
                refine wpAnyH_take (i := 26) (oi := { dst := some 93, op := Go.Op.pick (Go.Operand.tmp 87) (Go.Operand.tmp 92) (Go.Operand.const (Go.Value.bool false)), type := 4, pos := "outright.go:231", after := #[{ on := 20, ground := Go.Ground.data }, { on := 25, ground := Go.Ground.data }], guard := none }) (v := .bool true) rfl (by kernel_rfl) (by kernel_rfl) (by kernel_rfl) (fun _ _ _ h => h) (Or.inl ⟨by rfl, fun W hSw => by (try dsimp only at hSw); go_simp⟩) k2 ?_
                try simp only [Act.put, List.setIfInBounds_toArray, List.set_cons_zero, List.set_cons_succ]
                refine wpAnyH_take (i := 27) (oi := { dst := some 94, op := Go.Op.move (Go.Operand.tmp 93), type := 4, pos := "outright.go:231", after := #[{ on := 26, ground := Go.Ground.data }, { on := 20, ground := Go.Ground.chain }], guard := none }) (v := .bool true) rfl (by kernel_rfl) (by kernel_rfl) (by kernel_rfl) (fun _ _ _ h => h) (Or.inl ⟨by rfl, fun W hSw => by (try dsimp only at hSw); go_simp⟩) k2 ?_
                try simp only [Act.put, List.setIfInBounds_toArray, List.set_cons_zero, List.set_cons_succ]
                refine wpAnyH_take (i := 28) (oi := { dst := some 95, op := Go.Op.fieldAddr 26 (Go.Operand.tmp 12) 2, type := 0, pos := "outright.go:231", after := #[{ on := 27, ground := Go.Ground.guard }], guard := some (27, true) }) (v := .pointer (some ⟨g12, 2, none⟩)) rfl (by kernel_rfl) (by kernel_rfl) (by kernel_rfl) (fun _ _ _ h => h) (Or.inl ⟨by rfl, fun W hSw => by (try dsimp only at hSw); go_simp⟩) k2 ?_
                try simp only [Act.put, List.setIfInBounds_toArray, List.set_cons_zero, List.set_cons_succ]
                refine wpAnyH_take (i := 29) (oi := { dst := some 96, op := Go.Op.load 3 (Go.Operand.tmp 95), type := 3, pos := "outright.go:231", after := #[{ on := 28, ground := Go.Ground.data }, { on := 27, ground := Go.Ground.guard }], guard := some (27, true) }) (v := .int .i64 (mk2)) rfl (by kernel_rfl) (by kernel_rfl) (by kernel_rfl) (fun _ _ _ h => h) (Or.inl ⟨by rfl, fun W hSw => by (try dsimp only at hSw); go_simp⟩) k2 ?_
                try simp only [Act.put, List.setIfInBounds_toArray, List.set_cons_zero, List.set_cons_succ]
                refine wpAnyH_take (i := 30) (oi := { dst := some 97, op := Go.Op.move (Go.Operand.tmp 14), type := 3, pos := "outright.go:231", after := #[{ on := 27, ground := Go.Ground.guard }], guard := some (27, true) }) (v := .int .i64 (mk2)) rfl (by kernel_rfl) (by kernel_rfl) (by kernel_rfl) (fun _ _ _ h => h) (Or.inl ⟨by rfl, fun W hSw => by (try dsimp only at hSw); go_simp⟩) k2 ?_
                try simp only [Act.put, List.setIfInBounds_toArray, List.set_cons_zero, List.set_cons_succ]
                refine wpAnyH_take (i := 31) (oi := { dst := some 98, op := Go.Op.binOp Go.BinOp.eql 3 (Go.Operand.tmp 96) (Go.Operand.tmp 97) 3, type := 4, pos := "outright.go:231", after := #[{ on := 29, ground := Go.Ground.data }, { on := 30, ground := Go.Ground.data }, { on := 27, ground := Go.Ground.guard }], guard := some (27, true) }) (v := .bool true) rfl (by kernel_rfl) (by kernel_rfl) (by kernel_rfl) (fun _ _ _ h => h) (Or.inl ⟨by rfl, fun W hSw => by (try dsimp only at hSw); go_simp⟩) k2 ?_
                try simp only [Act.put, List.setIfInBounds_toArray, List.set_cons_zero, List.set_cons_succ]
                refine wpAnyH_take (i := 32) (oi := { dst := some 99, op := Go.Op.pick (Go.Operand.tmp 94) (Go.Operand.tmp 98) (Go.Operand.const (Go.Value.bool false)), type := 4, pos := "outright.go:231", after := #[{ on := 27, ground := Go.Ground.data }, { on := 31, ground := Go.Ground.data }], guard := none }) (v := .bool true) rfl (by kernel_rfl) (by kernel_rfl) (by kernel_rfl) (fun _ _ _ h => h) (Or.inl ⟨by rfl, fun W hSw => by (try dsimp only at hSw); go_simp⟩) k2 ?_
                try simp only [Act.put, List.setIfInBounds_toArray, List.set_cons_zero, List.set_cons_succ]
                refine wpAnyH_take (i := 33) (oi := { dst := some 100, op := Go.Op.move (Go.Operand.tmp 99), type := 4, pos := "outright.go:231", after := #[{ on := 32, ground := Go.Ground.data }, { on := 27, ground := Go.Ground.chain }], guard := none }) (v := .bool true) rfl (by kernel_rfl) (by kernel_rfl) (by kernel_rfl) (fun _ _ _ h => h) (Or.inl ⟨by rfl, fun W hSw => by (try dsimp only at hSw); go_simp⟩) k2 ?_
                try simp only [Act.put, List.setIfInBounds_toArray, List.set_cons_zero, List.set_cons_succ]
                refine wpAnyH_ready (rs := [34]) (by kernel_rfl) (by simp) ?_
                refine AllReadyH.cons (o := { dst := some 101, op := Go.Op.call { callee := Go.Callee.value (Go.Operand.func 10), args := #[], argTypes := #[] }, type := 4, pos := "outright.go:231", after := #[{ on := 33, ground := Go.Ground.chain }, { on := 33, ground := Go.Ground.guard }], guard := some (33, true) }) rfl (fun K hK => ?_) AllReadyH.nil
                go_simp
                go_at_call 10
                refine (works_any _).mono ?_
                rintro e w3 ⟨rfl, hb3⟩
                go_wp2_with fail
                refine hK.out _ _ (sy_nx hb3 k2) (fun k3 => ?_)
                clear hK K
                try simp only [List.setIfInBounds_toArray, List.set_cons_zero, List.set_cons_succ]
                refine wpAnyH_take (i := 35) (oi := { dst := some 102, op := Go.Op.pick (Go.Operand.tmp 100) (Go.Operand.tmp 101) (Go.Operand.const (Go.Value.bool false)), type := 4, pos := "outright.go:231", after := #[{ on := 33, ground := Go.Ground.data }, { on := 34, ground := Go.Ground.data }], guard := none }) (v := .bool true) rfl (by kernel_rfl) (by kernel_rfl) (by kernel_rfl) (fun _ _ _ h => h) (Or.inl ⟨by rfl, fun W hSw => by (try dsimp only at hSw); go_simp⟩) k3 ?_
                try simp only [Act.put, List.setIfInBounds_toArray, List.set_cons_zero, List.set_cons_succ]
                refine wpAnyH_take (i := 36) (oi := { dst := some 6, op := Go.Op.assign (Go.Operand.tmp 102), type := 4, pos := "outright.go:231", after := #[{ on := 35, ground := Go.Ground.data }, { on := 34, ground := Go.Ground.chain }, { on := 0, ground := Go.Ground.phase }, { on := 1, ground := Go.Ground.phase }, { on := 2, ground := Go.Ground.phase }, { on := 3, ground := Go.Ground.phase }, { on := 4, ground := Go.Ground.phase }, { on := 5, ground := Go.Ground.phase }, { on := 6, ground := Go.Ground.phase }, { on := 7, ground := Go.Ground.phase }, { on := 8, ground := Go.Ground.phase }, { on := 9, ground := Go.Ground.phase }, { on := 10, ground := Go.Ground.phase }, { on := 11, ground := Go.Ground.phase }, { on := 12, ground := Go.Ground.phase }, { on := 13, ground := Go.Ground.phase }, { on := 14, ground := Go.Ground.phase }, { on := 15, ground := Go.Ground.phase }, { on := 16, ground := Go.Ground.phase }, { on := 17, ground := Go.Ground.phase }, { on := 18, ground := Go.Ground.phase }, { on := 19, ground := Go.Ground.phase }, { on := 20, ground := Go.Ground.phase }, { on := 21, ground := Go.Ground.phase }, { on := 22, ground := Go.Ground.phase }, { on := 23, ground := Go.Ground.phase }, { on := 24, ground := Go.Ground.phase }, { on := 25, ground := Go.Ground.phase }, { on := 26, ground := Go.Ground.phase }, { on := 27, ground := Go.Ground.phase }, { on := 28, ground := Go.Ground.phase }, { on := 29, ground := Go.Ground.phase }, { on := 30, ground := Go.Ground.phase }, { on := 31, ground := Go.Ground.phase }, { on := 32, ground := Go.Ground.phase }, { on := 33, ground := Go.Ground.phase }, { on := 34, ground := Go.Ground.phase }, { on := 35, ground := Go.Ground.phase }], guard := none }) (v := .bool true) rfl (by kernel_rfl) (by kernel_rfl) (by kernel_rfl) (fun _ _ _ h => h) (Or.inl ⟨by rfl, fun W hSw => by (try dsimp only at hSw); go_simp⟩) k3 ?_
                try simp only [Act.put, List.setIfInBounds_toArray, List.set_cons_zero, List.set_cons_succ]
                refine wpAnyH_done (by kernel_rfl) ?_ _
                refine NoPanic.normal ?_
                have HBF := Lib.hid (sy_bel k3)
                go_wp2
                go_ret
                exact ⟨rfl, HBF.out⟩
              · go_upto_region 12 with fail
                clear a0 a1 a2 b0 b1 b2 hlt8 h1 h2
                refine wp_region_noPanic ?_
                refine wp_region_held_drew (S := fun W => W.cell? ⟨g12, 0, none⟩ = some (.slice pv12 n12 cv12) ∧ W.cell? ⟨g12, 1, none⟩ = some (.int .i64 (ccb : Int)) ∧ W.cell? ⟨g12, 2, none⟩ = some (.int .i64 ((n8 : Int) + mkb)) ∧ W.cell? ⟨g8, 0, none⟩ = some (.slice pv8 n8 cv8) ∧ W.cell? ⟨g10, 0, none⟩ = some (.slice pv10 n10 cv10) ∧ W.cell? ⟨g10, 1, none⟩ = some (.int .i64 (ccb : Int)) ∧ ApS w W) (by kernel_rfl) (sy_of (HX12.out.below (Below.refl _ _).drew) (HX8.out.below (Below.refl _ _).drew) (HX10.out.below (Below.refl _ _).drew) (HB4.out.drew)) (fun k0 => ?_)
                show wpAnyH _ _ _ _ _ 37 #[false, false, false, false, false, false, false, false, false, false, false, false, false, false, false, false, false, false, false, false, false, false, false, false, false, false, false, false, false, false, false, false, false, false, false, false, false] _ _
                refine wpAnyH_take (i := 0) (oi := { dst := some 67, op := Go.Op.move (Go.Operand.tmp 9), type := 3, pos := "outright.go:231", after := #[], guard := none }) (v := .int .i64 0) rfl (by kernel_rfl) (by kernel_rfl) (by kernel_rfl) (fun _ _ _ h => h) (Or.inl ⟨by rfl, fun W hSw => by (try dsimp only at hSw); go_simp⟩) k0 ?_
                try simp only [Act.put, List.setIfInBounds_toArray, List.set_cons_zero, List.set_cons_succ]
                refine wpAnyH_take (i := 1) (oi := { dst := some 68, op := Go.Op.binOp Go.BinOp.eql 3 (Go.Operand.tmp 67) (Go.Operand.const (Go.Value.int Go.IntKind.i64 0)) 3, type := 4, pos := "outright.go:231", after := #[{ on := 0, ground := Go.Ground.data }], guard := none }) (v := .bool true) rfl (by kernel_rfl) (by kernel_rfl) (by kernel_rfl) (fun _ _ _ h => h) (Or.inl ⟨by rfl, fun W hSw => by (try dsimp only at hSw); go_simp⟩) k0 ?_
                try simp only [Act.put, List.setIfInBounds_toArray, List.set_cons_zero, List.set_cons_succ]
                refine wpAnyH_take (i := 2) (oi := { dst := some 69, op := Go.Op.move (Go.Operand.tmp 68), type := 4, pos := "outright.go:231", after := #[{ on := 1, ground := Go.Ground.data }], guard := none }) (v := .bool true) rfl (by kernel_rfl) (by kernel_rfl) (by kernel_rfl) (fun _ _ _ h => h) (Or.inl ⟨by rfl, fun W hSw => by (try dsimp only at hSw); go_simp⟩) k0 ?_
                try simp only [Act.put, List.setIfInBounds_toArray, List.set_cons_zero, List.set_cons_succ]
                refine wpAnyH_take (i := 3) (oi := { dst := some 70, op := Go.Op.move (Go.Operand.tmp 11), type := 3, pos := "outright.go:231", after := #[{ on := 2, ground := Go.Ground.guard }], guard := some (2, true) }) (v := .int .i64 0) rfl (by kernel_rfl) (by kernel_rfl) (by kernel_rfl) (fun _ _ _ h => h) (Or.inl ⟨by rfl, fun W hSw => by (try dsimp only at hSw); go_simp⟩) k0 ?_
                try simp only [Act.put, List.setIfInBounds_toArray, List.set_cons_zero, List.set_cons_succ]
                refine wpAnyH_take (i := 4) (oi := { dst := some 71, op := Go.Op.binOp Go.BinOp.eql 3 (Go.Operand.tmp 70) (Go.Operand.const (Go.Value.int Go.IntKind.i64 0)) 3, type := 4, pos := "outright.go:231", after := #[{ on := 3, ground := Go.Ground.data }, { on := 2, ground := Go.Ground.guard }], guard := some (2, true) }) (v := .bool true) rfl (by kernel_rfl) (by kernel_rfl) (by kernel_rfl) (fun _ _ _ h => h) (Or.inl ⟨by rfl, fun W hSw => by (try dsimp only at hSw); go_simp⟩) k0 ?_
                try simp only [Act.put, List.setIfInBounds_toArray, List.set_cons_zero, List.set_cons_succ]
                refine wpAnyH_take (i := 5) (oi := { dst := some 72, op := Go.Op.pick (Go.Operand.tmp 69) (Go.Operand.tmp 71) (Go.Operand.const (Go.Value.bool false)), type := 4, pos := "outright.go:231", after := #[{ on := 2, ground := Go.Ground.data }, { on := 4, ground := Go.Ground.data }], guard := none }) (v := .bool true) rfl (by kernel_rfl) (by kernel_rfl) (by kernel_rfl) (fun _ _ _ h => h) (Or.inl ⟨by rfl, fun W hSw => by (try dsimp only at hSw); go_simp⟩) k0 ?_
                try simp only [Act.put, List.setIfInBounds_toArray, List.set_cons_zero, List.set_cons_succ]
                refine wpAnyH_take (i := 6) (oi := { dst := some 73, op := Go.Op.move (Go.Operand.tmp 72), type := 4, pos := "outright.go:231", after := #[{ on := 5, ground := Go.Ground.data }, { on := 2, ground := Go.Ground.chain }], guard := none }) (v := .bool true) rfl (by kernel_rfl) (by kernel_rfl) (by kernel_rfl) (fun _ _ _ h => h) (Or.inl ⟨by rfl, fun W hSw => by (try dsimp only at hSw); go_simp⟩) k0 ?_
                try simp only [Act.put, List.setIfInBounds_toArray, List.set_cons_zero, List.set_cons_succ]
                refine wpAnyH_take (i := 7) (oi := { dst := some 74, op := Go.Op.move (Go.Operand.tmp 13), type := 3, pos := "outright.go:231", after := #[{ on := 6, ground := Go.Ground.guard }], guard := some (6, true) }) (v := .int .i64 0) rfl (by kernel_rfl) (by kernel_rfl) (by kernel_rfl) (fun _ _ _ h => h) (Or.inl ⟨by rfl, fun W hSw => by (try dsimp only at hSw); go_simp⟩) k0 ?_
                try simp only [Act.put, List.setIfInBounds_toArray, List.set_cons_zero, List.set_cons_succ]
                refine wpAnyH_take (i := 8) (oi := { dst := some 75, op := Go.Op.binOp Go.BinOp.eql 3 (Go.Operand.tmp 74) (Go.Operand.const (Go.Value.int Go.IntKind.i64 0)) 3, type := 4, pos := "outright.go:231", after := #[{ on := 7, ground := Go.Ground.data }, { on := 6, ground := Go.Ground.guard }], guard := some (6, true) }) (v := .bool true) rfl (by kernel_rfl) (by kernel_rfl) (by kernel_rfl) (fun _ _ _ h => h) (Or.inl ⟨by rfl, fun W hSw => by (try dsimp only at hSw); go_simp⟩) k0 ?_
                try simp only [Act.put, List.setIfInBounds_toArray, List.set_cons_zero, List.set_cons_succ]
                refine wpAnyH_take (i := 9) (oi := { dst := some 76, op := Go.Op.pick (Go.Operand.tmp 73) (Go.Operand.tmp 75) (Go.Operand.const (Go.Value.bool false)), type := 4, pos := "outright.go:231", after := #[{ on := 6, ground := Go.Ground.data }, { on := 8, ground := Go.Ground.data }], guard := none }) (v := .bool true) rfl (by kernel_rfl) (by kernel_rfl) (by kernel_rfl) (fun _ _ _ h => h) (Or.inl ⟨by rfl, fun W hSw => by (try dsimp only at hSw); go_simp⟩) k0 ?_
                try simp only [Act.put, List.setIfInBounds_toArray, List.set_cons_zero, List.set_cons_succ]
                refine wpAnyH_take (i := 10) (oi := { dst := some 77, op := Go.Op.move (Go.Operand.tmp 76), type := 4, pos := "outright.go:231", after := #[{ on := 9, ground := Go.Ground.data }, { on := 6, ground := Go.Ground.chain }], guard := none }) (v := .bool true) rfl (by kernel_rfl) (by kernel_rfl) (by kernel_rfl) (fun _ _ _ h => h) (Or.inl ⟨by rfl, fun W hSw => by (try dsimp only at hSw); go_simp⟩) k0 ?_
                try simp only [Act.put, List.setIfInBounds_toArray, List.set_cons_zero, List.set_cons_succ]
                refine wpAnyH_take (i := 11) (oi := { dst := some 78, op := Go.Op.fieldAddr 26 (Go.Operand.tmp 12) 0, type := 0, pos := "outright.go:231", after := #[{ on := 10, ground := Go.Ground.guard }], guard := some (10, true) }) (v := .pointer (some ⟨g12, 0, none⟩)) rfl (by kernel_rfl) (by kernel_rfl) (by kernel_rfl) (fun _ _ _ h => h) (Or.inl ⟨by rfl, fun W hSw => by (try dsimp only at hSw); go_simp⟩) k0 ?_
                try simp only [Act.put, List.setIfInBounds_toArray, List.set_cons_zero, List.set_cons_succ]
                refine wpAnyH_take (i := 12) (oi := { dst := some 79, op := Go.Op.load 22 (Go.Operand.tmp 78), type := 22, pos := "outright.go:231", after := #[{ on := 11, ground := Go.Ground.data }, { on := 10, ground := Go.Ground.guard }], guard := some (10, true) }) (v := .slice pv12 n12 cv12) rfl (by kernel_rfl) (by kernel_rfl) (by kernel_rfl) (fun _ _ _ h => h) (Or.inl ⟨by rfl, fun W hSw => by (try dsimp only at hSw); go_simp⟩) k0 ?_
                try simp only [Act.put, List.setIfInBounds_toArray, List.set_cons_zero, List.set_cons_succ]
                refine wpAnyH_take (i := 13) (oi := { dst := some 80, op := Go.Op.fieldAddr 26 (Go.Operand.tmp 8) 0, type := 0, pos := "outright.go:231", after := #[{ on := 10, ground := Go.Ground.guard }], guard := some (10, true) }) (v := .pointer (some ⟨g8, 0, none⟩)) rfl (by kernel_rfl) (by kernel_rfl) (by kernel_rfl) (fun _ _ _ h => h) (Or.inl ⟨by rfl, fun W hSw => by (try dsimp only at hSw); go_simp⟩) k0 ?_
                try simp only [Act.put, List.setIfInBounds_toArray, List.set_cons_zero, List.set_cons_succ]
                refine wpAnyH_take (i := 14) (oi := { dst := some 81, op := Go.Op.load 22 (Go.Operand.tmp 80), type := 22, pos := "outright.go:231", after := #[{ on := 13, ground := Go.Ground.data }, { on := 10, ground := Go.Ground.guard }], guard := some (10, true) }) (v := .slice pv8 n8 cv8) rfl (by kernel_rfl) (by kernel_rfl) (by kernel_rfl) (fun _ _ _ h => h) (Or.inl ⟨by rfl, fun W hSw => by (try dsimp only at hSw); go_simp⟩) k0 ?_
                try simp only [Act.put, List.setIfInBounds_toArray, List.set_cons_zero, List.set_cons_succ]
                refine wpAnyH_take (i := 15) (oi := { dst := some 82, op := Go.Op.fieldAddr 26 (Go.Operand.tmp 10) 0, type := 0, pos := "outright.go:231", after := #[{ on := 10, ground := Go.Ground.guard }], guard := some (10, true) }) (v := .pointer (some ⟨g10, 0, none⟩)) rfl (by kernel_rfl) (by kernel_rfl) (by kernel_rfl) (fun _ _ _ h => h) (Or.inl ⟨by rfl, fun W hSw => by (try dsimp only at hSw); go_simp⟩) k0 ?_
                try simp only [Act.put, List.setIfInBounds_toArray, List.set_cons_zero, List.set_cons_succ]
                refine wpAnyH_take (i := 16) (oi := { dst := some 83, op := Go.Op.load 22 (Go.Operand.tmp 82), type := 22, pos := "outright.go:231", after := #[{ on := 15, ground := Go.Ground.data }, { on := 10, ground := Go.Ground.guard }], guard := some (10, true) }) (v := .slice pv10 n10 cv10) rfl (by kernel_rfl) (by kernel_rfl) (by kernel_rfl) (fun _ _ _ h => h) (Or.inl ⟨by rfl, fun W hSw => by (try dsimp only at hSw); go_simp⟩) k0 ?_
                try simp only [Act.put, List.setIfInBounds_toArray, List.set_cons_zero, List.set_cons_succ]
                refine wpAnyH_ready (rs := [17]) (by kernel_rfl) (by simp) ?_
                refine AllReadyH.cons (o := { dst := some 84, op := Go.Op.call { callee := Go.Callee.builtin Go.Builtin.append, args := #[Go.Operand.tmp 81, Go.Operand.tmp 83], argTypes := #[22, 22] }, type := 22, pos := "outright.go:231", after := #[{ on := 14, ground := Go.Ground.data }, { on := 16, ground := Go.Ground.data }, { on := 10, ground := Go.Ground.chain }, { on := 10, ground := Go.Ground.guard }], guard := some (10, true) }) rfl (fun K hK => ?_) AllReadyH.nil
                rw [if_pos (by rfl)]
                refine op_append_sv (.tmp 81) (.tmp 83) rfl _ _ _ n8 (bsU txa) txb rfl rfl (own_kept HO8.out (Below.refl _ _).drew) (HT10.out.below (Below.refl _ _).drew) (by have := HLT.out; have := HNN8.out; omega) HZ8.out ?_
                intro vv w1 ho1 hg1
                have hb1 : Below w.heap.size w w1 := (sy_bel k0).grown hg1 (sy_bel k0).size (fun r hr => Nat.le_trans HZW.out (World.ownsRow.lt HO8.out r hr).1)
                refine hK.out _ _ (sy_of ((HX12.out.below (Below.refl _ _).drew).grown hg1 HN12.out) ((HX8.out.below (Below.refl _ _).drew).grown hg1 HN8.out) ((HX10.out.below (Below.refl _ _).drew).grown hg1 HN10.out) hb1) (fun k1 => ?_)
                have ht1 := (own_hold (own_far (own_kept HO12.out (Below.refl _ _).drew) hg1 HNR.out) HNN12.out).svb
                have ha1 : SvB w1 vv tx := by rw [HTX.out]; exact (hold_app (by rw [← HNN8.out]; exact ho1)).svb
                clear hK K
                try simp only [List.setIfInBounds_toArray, List.set_cons_zero, List.set_cons_succ]
                refine wpAnyH_ready (rs := [18]) (by kernel_rfl) (by simp) ?_
                refine AllReadyH.cons (o := { dst := some 85, op := Go.Op.call { callee := Go.Callee.value (Go.Operand.func 14), args := #[Go.Operand.tmp 79, Go.Operand.tmp 84], argTypes := #[22, 22] }, type := 4, pos := "outright.go:231", after := #[{ on := 12, ground := Go.Ground.data }, { on := 17, ground := Go.Ground.data }, { on := 17, ground := Go.Ground.chain }, { on := 10, ground := Go.Ground.guard }], guard := some (10, true) }) rfl (fun K hK => ?_) AllReadyH.nil
                go_simp
                go_at_call 14
                refine (same_svb ht1 ha1).mono ?_
                rintro e w2 ⟨rfl, hb2⟩
                go_wp2_with fail
                refine hK.out _ _ (sy_nx hb2 k1) (fun k2 => ?_)
                clear hK K
                try simp only [List.setIfInBounds_toArray, List.set_cons_zero, List.set_cons_succ]
                refine wpAnyH_take (i := 19) (oi := { dst := some 86, op := Go.Op.pick (Go.Operand.tmp 77) (Go.Operand.tmp 85) (Go.Operand.const (Go.Value.bool false)), type := 4, pos := "outright.go:231", after := #[{ on := 10, ground := Go.Ground.data }, { on := 18, ground := Go.Ground.data }], guard := none }) (v := .bool true) rfl (by kernel_rfl) (by kernel_rfl) (by kernel_rfl) (fun _ _ _ h => h) (Or.inl ⟨by rfl, fun W hSw => by (try dsimp only at hSw); go_simp⟩) k2 ?_
                try simp only [Act.put, List.setIfInBounds_toArray, List.set_cons_zero, List.set_cons_succ]
                refine wpAnyH_take (i := 20) (oi := { dst := some 87, op := Go.Op.move (Go.Operand.tmp 86), type := 4, pos := "outright.go:231", after := #[{ on := 19, ground := Go.Ground.data }, { on := 18, ground := Go.Ground.chain }], guard := none }) (v := .bool true) rfl (by kernel_rfl) (by kernel_rfl) (by kernel_rfl) (fun _ _ _ h => h) (Or.inl ⟨by rfl, fun W hSw => by (try dsimp only at hSw); go_simp⟩) k2 ?_
                try simp only [Act.put, List.setIfInBounds_toArray, List.set_cons_zero, List.set_cons_succ]
                refine wpAnyH_take (i := 21) (oi := { dst := some 88, op := Go.Op.fieldAddr 26 (Go.Operand.tmp 12) 1, type := 0, pos := "outright.go:231", after := #[{ on := 20, ground := Go.Ground.guard }], guard := some (20, true) }) (v := .pointer (some ⟨g12, 1, none⟩)) rfl (by kernel_rfl) (by kernel_rfl) (by kernel_rfl) (fun _ _ _ h => h) (Or.inl ⟨by rfl, fun W hSw => by (try dsimp only at hSw); go_simp⟩) k2 ?_
                try simp only [Act.put, List.setIfInBounds_toArray, List.set_cons_zero, List.set_cons_succ]
                refine wpAnyH_take (i := 22) (oi := { dst := some 89, op := Go.Op.load 3 (Go.Operand.tmp 88), type := 3, pos := "outright.go:231", after := #[{ on := 21, ground := Go.Ground.data }, { on := 20, ground := Go.Ground.guard }], guard := some (20, true) }) (v := .int .i64 (ccb : Int)) rfl (by kernel_rfl) (by kernel_rfl) (by kernel_rfl) (fun _ _ _ h => h) (Or.inl ⟨by rfl, fun W hSw => by (try dsimp only at hSw); go_simp⟩) k2 ?_
                try simp only [Act.put, List.setIfInBounds_toArray, List.set_cons_zero, List.set_cons_succ]
                refine wpAnyH_take (i := 23) (oi := { dst := some 90, op := Go.Op.fieldAddr 26 (Go.Operand.tmp 10) 1, type := 0, pos := "outright.go:231", after := #[{ on := 20, ground := Go.Ground.guard }], guard := some (20, true) }) (v := .pointer (some ⟨g10, 1, none⟩)) rfl (by kernel_rfl) (by kernel_rfl) (by kernel_rfl) (fun _ _ _ h => h) (Or.inl ⟨by rfl, fun W hSw => by (try dsimp only at hSw); go_simp⟩) k2 ?_
                try simp only [Act.put, List.setIfInBounds_toArray, List.set_cons_zero, List.set_cons_succ]
                refine wpAnyH_take (i := 24) (oi := { dst := some 91, op := Go.Op.load 3 (Go.Operand.tmp 90), type := 3, pos := "outright.go:231", after := #[{ on := 23, ground := Go.Ground.data }, { on := 20, ground := Go.Ground.guard }], guard := some (20, true) }) (v := .int .i64 (ccb : Int)) rfl (by kernel_rfl) (by kernel_rfl) (by kernel_rfl) (fun _ _ _ h => h) (Or.inl ⟨by rfl, fun W hSw => by (try dsimp only at hSw); go_simp⟩) k2 ?_
                try simp only [Act.put, List.setIfInBounds_toArray, List.set_cons_zero, List.set_cons_succ]
                refine wpAnyH_take (i := 25) (oi := { dst := some 92, op := Go.Op.binOp Go.BinOp.eql 3 (Go.Operand.tmp 89) (Go.Operand.tmp 91) 3, type := 4, pos := "outright.go:231", after := #[{ on := 22, ground := Go.Ground.data }, { on := 24, ground := Go.Ground.data }, { on := 20, ground := Go.Ground.guard }], guard := some (20, true) }) (v := .bool true) rfl (by kernel_rfl) (by kernel_rfl) (by kernel_rfl) (fun _ _ _ h => h) (Or.inl ⟨by rfl, fun W hSw => by (try dsimp only at hSw); go_simp⟩) k2 ?_
                try simp only [Act.put, List.setIfInBounds_toArray, List.set_cons_zero, List.set_cons_succ]
                refine wpAnyH_take (i := 26) (oi := { dst := some 93, op := Go.Op.pick (Go.Operand.tmp 87) (Go.Operand.tmp 92) (Go.Operand.const (Go.Value.bool false)), type := 4, pos := "outright.go:231", after := #[{ on := 20, ground := Go.Ground.data }, { on := 25, ground := Go.Ground.data }], guard := none }) (v := .bool true) rfl (by kernel_rfl) (by kernel_rfl) (by kernel_rfl) (fun _ _ _ h => h) (Or.inl ⟨by rfl, fun W hSw => by (try dsimp only at hSw); go_simp⟩) k2 ?_
                try simp only [Act.put, List.setIfInBounds_toArray, List.set_cons_zero, List.set_cons_succ]
                refine wpAnyH_take (i := 27) (oi := { dst := some 94, op := Go.Op.move (Go.Operand.tmp 93), type := 4, pos := "outright.go:231", after := #[{ on := 26, ground := Go.Ground.data }, { on := 20, ground := Go.Ground.chain }], guard := none }) (v := .bool true) rfl (by kernel_rfl) (by kernel_rfl) (by kernel_rfl) (fun _ _ _ h => h) (Or.inl ⟨by rfl, fun W hSw => by (try dsimp only at hSw); go_simp⟩) k2 ?_
                try simp only [Act.put, List.setIfInBounds_toArray, List.set_cons_zero, List.set_cons_succ]
                refine wpAnyH_take (i := 28) (oi := { dst := some 95, op := Go.Op.fieldAddr 26 (Go.Operand.tmp 12) 2, type := 0, pos := "outright.go:231", after := #[{ on := 27, ground := Go.Ground.guard }], guard := some (27, true) }) (v := .pointer (some ⟨g12, 2, none⟩)) rfl (by kernel_rfl) (by kernel_rfl) (by kernel_rfl) (fun _ _ _ h => h) (Or.inl ⟨by rfl, fun W hSw => by (try dsimp only at hSw); go_simp⟩) k2 ?_
                try simp only [Act.put, List.setIfInBounds_toArray, List.set_cons_zero, List.set_cons_succ]
                refine wpAnyH_take (i := 29) (oi := { dst := some 96, op := Go.Op.load 3 (Go.Operand.tmp 95), type := 3, pos := "outright.go:231", after := #[{ on := 28, ground := Go.Ground.data }, { on := 27, ground := Go.Ground.guard }], guard := some (27, true) }) (v := .int .i64 ((n8 : Int) + mkb)) rfl (by kernel_rfl) (by kernel_rfl) (by kernel_rfl) (fun _ _ _ h => h) (Or.inl ⟨by rfl, fun W hSw => by (try dsimp only at hSw); go_simp⟩) k2 ?_
                try simp only [Act.put, List.setIfInBounds_toArray, List.set_cons_zero, List.set_cons_succ]
                refine wpAnyH_take (i := 30) (oi := { dst := some 97, op := Go.Op.move (Go.Operand.tmp 14), type := 3, pos := "outright.go:231", after := #[{ on := 27, ground := Go.Ground.guard }], guard := some (27, true) }) (v := .int .i64 ((n8 : Int) + mkb)) rfl (by kernel_rfl) (by kernel_rfl) (by kernel_rfl) (fun _ _ _ h => h) (Or.inl ⟨by rfl, fun W hSw => by (try dsimp only at hSw); go_simp⟩) k2 ?_
                try simp only [Act.put, List.setIfInBounds_toArray, List.set_cons_zero, List.set_cons_succ]
                refine wpAnyH_take (i := 31) (oi := { dst := some 98, op := Go.Op.binOp Go.BinOp.eql 3 (Go.Operand.tmp 96) (Go.Operand.tmp 97) 3, type := 4, pos := "outright.go:231", after := #[{ on := 29, ground := Go.Ground.data }, { on := 30, ground := Go.Ground.data }, { on := 27, ground := Go.Ground.guard }], guard := some (27, true) }) (v := .bool true) rfl (by kernel_rfl) (by kernel_rfl) (by kernel_rfl) (fun _ _ _ h => h) (Or.inl ⟨by rfl, fun W hSw => by (try dsimp only at hSw); go_simp⟩) k2 ?_
                try simp only [Act.put, List.setIfInBounds_toArray, List.set_cons_zero, List.set_cons_succ]
                refine wpAnyH_take (i := 32) (oi := { dst := some 99, op := Go.Op.pick (Go.Operand.tmp 94) (Go.Operand.tmp 98) (Go.Operand.const (Go.Value.bool false)), type := 4, pos := "outright.go:231", after := #[{ on := 27, ground := Go.Ground.data }, { on := 31, ground := Go.Ground.data }], guard := none }) (v := .bool true) rfl (by kernel_rfl) (by kernel_rfl) (by kernel_rfl) (fun _ _ _ h => h) (Or.inl ⟨by rfl, fun W hSw => by (try dsimp only at hSw); go_simp⟩) k2 ?_
                try simp only [Act.put, List.setIfInBounds_toArray, List.set_cons_zero, List.set_cons_succ]
                refine wpAnyH_take (i := 33) (oi := { dst := some 100, op := Go.Op.move (Go.Operand.tmp 99), type := 4, pos := "outright.go:231", after := #[{ on := 32, ground := Go.Ground.data }, { on := 27, ground := Go.Ground.chain }], guard := none }) (v := .bool true) rfl (by kernel_rfl) (by kernel_rfl) (by kernel_rfl) (fun _ _ _ h => h) (Or.inl ⟨by rfl, fun W hSw => by (try dsimp only at hSw); go_simp⟩) k2 ?_
                try simp only [Act.put, List.setIfInBounds_toArray, List.set_cons_zero, List.set_cons_succ]
                refine wpAnyH_ready (rs := [34]) (by kernel_rfl) (by simp) ?_
                refine AllReadyH.cons (o := { dst := some 101, op := Go.Op.call { callee := Go.Callee.value (Go.Operand.func 10), args := #[], argTypes := #[] }, type := 4, pos := "outright.go:231", after := #[{ on := 33, ground := Go.Ground.chain }, { on := 33, ground := Go.Ground.guard }], guard := some (33, true) }) rfl (fun K hK => ?_) AllReadyH.nil
                go_simp
                go_at_call 10
                refine (works_any _).mono ?_
                rintro e w3 ⟨rfl, hb3⟩
                go_wp2_with fail
                refine hK.out _ _ (sy_nx hb3 k2) (fun k3 => ?_)
                clear hK K
                try simp only [List.setIfInBounds_toArray, List.set_cons_zero, List.set_cons_succ]
                refine wpAnyH_take (i := 35) (oi := { dst := some 102, op := Go.Op.pick (Go.Operand.tmp 100) (Go.Operand.tmp 101) (Go.Operand.const (Go.Value.bool false)), type := 4, pos := "outright.go:231", after := #[{ on := 33, ground := Go.Ground.data }, { on := 34, ground := Go.Ground.data }], guard := none }) (v := .bool true) rfl (by kernel_rfl) (by kernel_rfl) (by kernel_rfl) (fun _ _ _ h => h) (Or.inl ⟨by rfl, fun W hSw => by (try dsimp only at hSw); go_simp⟩) k3 ?_
                try simp only [Act.put, List.setIfInBounds_toArray, List.set_cons_zero, List.set_cons_succ]
                refine wpAnyH_take (i := 36) (oi := { dst := some 6, op := Go.Op.assign (Go.Operand.tmp 102), type := 4, pos := "outright.go:231", after := #[{ on := 35, ground := Go.Ground.data }, { on := 34, ground := Go.Ground.chain }, { on := 0, ground := Go.Ground.phase }, { on := 1, ground := Go.Ground.phase }, { on := 2, ground := Go.Ground.phase }, { on := 3, ground := Go.Ground.phase }, { on := 4, ground := Go.Ground.phase }, { on := 5, ground := Go.Ground.phase }, { on := 6, ground := Go.Ground.phase }, { on := 7, ground := Go.Ground.phase }, { on := 8, ground := Go.Ground.phase }, { on := 9, ground := Go.Ground.phase }, { on := 10, ground := Go.Ground.phase }, { on := 11, ground := Go.Ground.phase }, { on := 12, ground := Go.Ground.phase }, { on := 13, ground := Go.Ground.phase }, { on := 14, ground := Go.Ground.phase }, { on := 15, ground := Go.Ground.phase }, { on := 16, ground := Go.Ground.phase }, { on := 17, ground := Go.Ground.phase }, { on := 18, ground := Go.Ground.phase }, { on := 19, ground := Go.Ground.phase }, { on := 20, ground := Go.Ground.phase }, { on := 21, ground := Go.Ground.phase }, { on := 22, ground := Go.Ground.phase }, { on := 23, ground := Go.Ground.phase }, { on := 24, ground := Go.Ground.phase }, { on := 25, ground := Go.Ground.phase }, { on := 26, ground := Go.Ground.phase }, { on := 27, ground := Go.Ground.phase }, { on := 28, ground := Go.Ground.phase }, { on := 29, ground := Go.Ground.phase }, { on := 30, ground := Go.Ground.phase }, { on := 31, ground := Go.Ground.phase }, { on := 32, ground := Go.Ground.phase }, { on := 33, ground := Go.Ground.phase }, { on := 34, ground := Go.Ground.phase }, { on := 35, ground := Go.Ground.phase }], guard := none }) (v := .bool true) rfl (by kernel_rfl) (by kernel_rfl) (by kernel_rfl) (fun _ _ _ h => h) (Or.inl ⟨by rfl, fun W hSw => by (try dsimp only at hSw); go_simp⟩) k3 ?_
                try simp only [Act.put, List.setIfInBounds_toArray, List.set_cons_zero, List.set_cons_succ]
                refine wpAnyH_done (by kernel_rfl) ?_ _
                refine NoPanic.normal ?_
                have HBF := Lib.hid (sy_bel k3)
                go_wp2
                go_ret
                exact ⟨rfl, HBF.out⟩
      · have i1 : (256 : Int) < (N : Int) := by omega
        clear h256 HE20 HEA HEB HPA1 HPB1 HKA1 HKB1
        go_wp2_with fail
        refine (works_any _).mono ?_
        rintro e w2 ⟨rfl, hb2⟩
        have HBF := Lib.hid (bel0 HBW1.out hb2)
        clear hb2
        go_wp2
        go_ret
        exact ⟨rfl, HBF.out⟩

end Go.Proofs.Ytfkenoehoocobaa.editTwo

/- The walk of the statement StoreProtects where few bytes are given: it answers true, and below its own memory nothing turns. -/
import Derived.Test.YtnnpnklbhghegaaStOpen
namespace Go.Proofs.Ytnnpnklbhghegaa.storeProtects
open Go.RowKit Go.Shelf E
set_option linter.unusedVariables false

theorem hold_far {w w' : World} {base g : Nat} {sv : Value} {l : List UInt8} (h : Hold w base sv l) (hg : w.grownBy w' (some g)) (hb : g < base) : Hold w' base sv l := by
  obtain ⟨h0, h1 | ⟨q, cap, cur, hv, hq, hh, hle, hm, hsz, ht⟩⟩ := h
  · exact ⟨h0, .inl h1⟩
  · refine ⟨h0, .inr ⟨q, cap, cur, hv, hq, ?_, hle, hm, hsz, ht⟩⟩
    rw [hg.block q (Array.getElem?_eq_some_iff.1 hh).1 (fun e => by have := Option.some.inj e; omega)]
    exact hh
theorem key_cell {W : World} {D : Nat} {t : TypeId} {x0 x1 x2 x3 : UInt8} (h : Bx W D t #[.int .u8 (x0.toNat : Int), .int .u8 (x1.toNat : Int), .int .u8 (x2.toNat : Int), .int .u8 (x3.toNat : Int)]) (q : Nat) (hq : q < 4) : W.cell? ⟨D, q, none⟩ = some (.int .u8 ((gt [x0, x1, x2, x3] q).toNat : Int)) := by
  rw [h.cell q]
  match q, hq with
  | 0, _ => rfl
  | 1, _ => rfl
  | 2, _ => rfl
  | 3, _ => rfl
theorem row_conv {w : World} {g n c : Nat} {l : List UInt8} (h : Row w g 5 (bsU l) c) (hl : l.length = n) : (Go.convert 29 9 (.slice (some ⟨g, 0, none⟩) n c)).run Try.prog w = .ok (.string ⟨l.toArray⟩) w := by
  have h1 := h.rd 0 n (by omega)
  rw [show (l.drop 0).take n = l from subL_all l hl] at h1
  have h2 := conv_rd (c := c) h1
  rw [hl] at h2
  exact h2
theorem put_diff {kv : Int} {n : Nat} {bs ks b : List UInt8} {x : Int} {i : Nat} (hb : bs.length = n) (h : gt (putB (stP kv) n bs ks x b) i ≠ gt bs i) : stP kv (gt ks (i / 2048)) = true := by
  unfold putB at h
  split at h
  · rename_i h0
    obtain ⟨h1, h2, h3⟩ := inB_iff.1 (codeV_in h0)
    rw [gt_putL (by omega)] at h
    split at h
    · rename_i hi
      unfold codeV at h0
      rw [if_pos (codeV_in (p := stP kv) (ks := ks) (by unfold codeV; exact h0))] at h0
      split at h0
      · rename_i ha
        have h9 := (allB_iff _ _ _ _).1 ha (i - x.toNat) (by omega)
        rwa [show x.toNat + (i - x.toNat) = i by omega] at h9
      · cases h0
    · exact absurd rfl h
  · exact absurd rfl h
theorem putB_no {p : UInt8 → Bool} {n : Nat} {bs ks b : List UInt8} {x : Int} (h : codeV p n ks x (b.length : Int) ≠ 0) : putB p n bs ks x b = bs := by unfold putB; rw [if_neg h]
theorem u64n {n : Nat} (h : n ≤ 65536) : IntKind.u64.wrap (n : Int) = (n : Int) := by
  simp [IntKind.wrap, IntKind.bits, IntKind.signed]; omega
theorem wrap_le (z : Int) : wrap64 z ≤ 9223372036854775807 := by unfold wrap64; omega
/-- What is known of the keys of the blocks. -/
def KeysIn (m j : Nat) (ys ks : List UInt8) : Prop := ∀ q, q < j → q < m → (gt ks q).toNat = (gt ys q).toNat % 32
theorem keys_step {n m j : Nat} {ys ks : List UInt8} (hn : n = m * 2048) (hk : ks.length = m) (h : KeysIn m j ys ks) : KeysIn m (j + 1) ys (setK n ks ((j * 2048 : Nat) : Int) (((gt ys j).toNat % 32 : Nat) : Int)) := by
  intro q hq hqm
  have hv : (UInt8.ofNat ((gt ys j).toNat % 32)).toNat = (gt ys j).toNat % 32 := by rw [UInt8.toNat_ofNat']; exact Nat.mod_eq_of_lt (by omega)
  unfold setK
  split
  · rename_i hok
    unfold setOk at hok
    rw [Bool.and_eq_true] at hok
    have h3 := (inB_iff.1 hok.1).2.2
    rw [show (((j * 2048 : Nat) : Int)).toNat / 2048 = j by omega, show (((gt ys j).toNat % 32 : Nat) : Int).toNat = (gt ys j).toNat % 32 from rfl, gt_setX (by omega)]
    by_cases e : q = j
    · rw [if_pos e, hv, e]
    · rw [if_neg e]
      exact h q (by omega) hqm
  · rename_i hok
    by_cases e : q = j
    · exfalso
      apply hok
      unfold setOk
      rw [inB_iff.2 ⟨by omega, by omega, by omega⟩, decide_eq_true ⟨by omega, by omega⟩]
      rfl
    · exact h q (by omega) hqm
theorem py0 (x y : Int) (w : World) : (Instr.index 48 (.agg #[.int .i64 x, .int .i64 y]) (.int .i64 0)).run Try.prog w = .ok (.int .i64 x) w := by kernel_rfl
theorem py1 (x y : Int) (w : World) : (Instr.index 48 (.agg #[.int .i64 x, .int .i64 y]) (.int .i64 1)).run Try.prog w = .ok (.int .i64 y) w := by kernel_rfl
theorem all_bytes {W : World} {a g h n m : Nat} {bs ks : List UInt8} (hs : Sto W a g h n m bs ks) : Calls Try.prog 20 #[.pointer (some ⟨a, 0, none⟩), .int .i64 0, .int .i64 (n : Int)] W (BytPost W bs) := by
  have h1 := bytes_any a g h n m 0 (n : Int) bs ks W (by decide) hs
  have e : bytL n bs 0 (n : Int) = bs := by
    unfold bytL
    rw [if_pos (inB_iff.2 ⟨by omega, by omega, by omega⟩)]
    exact subL_all bs hs.nums.1
  rw [e] at h1
  exact h1
set_option maxRecDepth 100000 in
set_option maxHeartbeats 8000000 in
theorem short (z x0 x1 x2 x3 : UInt8) (ad : Int) (v : Value) (b : List UInt8) (ky : UInt8) (w : World) (had : -9223372036854775808 ≤ ad ∧ ad < 9223372036854775808) (hb : SvB w v b) (hb5 : b.length ≤ 5000) : Calls Try.prog 6 #[.int .u8 (z.toNat : Int), .agg #[.int .u8 (x0.toNat : Int), .int .u8 (x1.toNat : Int), .int .u8 (x2.toNat : Int), .int .u8 (x3.toNat : Int)], .int .i64 ad, v, .int .u8 (ky.toNat : Int)] w (New w (.bool true)) := by
  have HV := Lib.hid hb
  obtain ⟨p, c, rfl, -⟩ := hb
  have HAD := Lib.hid had
  have HBX := Lib.hid (Bx.new w 44 #[.int .u8 (x0.toNat : Int), .int .u8 (x1.toNat : Int), .int .u8 (x2.toNat : Int), .int .u8 (x3.toNat : Int)])
  have HW0 := Lib.hid (below_new w (.cells #[.int .u8 (x0.toNat : Int), .int .u8 (x1.toNat : Int), .int .u8 (x2.toNat : Int), .int .u8 (x3.toNat : Int)] 44))
  obtain ⟨M, hM⟩ : ∃ M, M = 1 + z.toNat % 4 := ⟨_, rfl⟩
  have HMK := Lib.hid (make_any z)
  rw [← hM] at HMK
  have HM : Hid (1 ≤ M ∧ M ≤ 4) := Lib.hid (by omega)
  obtain ⟨nb, hnb⟩ : ∃ nb, nb = b.length := ⟨_, rfl⟩
  have HNB := Lib.hid hnb
  rw [← hnb] at hb5 HV ⊢
  have hb5' : ¬ (5000 : Int) < (nb : Int) := by omega
  have hky := ky.toNat_lt
  clear hM had hnb hb5
  go_enter Try.func6, Try.ntmps6
  go_wp2_with fail
  refine (works_any _).mono ?_
  rintro e w1 ⟨rfl, hb1⟩
  have HX1 := Lib.hid (HBX.out.below hb1)
  have HW1 := Lib.hid (bel0 HW0.out hb1)
  clear hb1 HBX HW0
  go_wp2_with fail
  refine (HMK.out _).mono ?_
  rintro e w2 ⟨a, g, h, rfl, hs, hg1, hg2, hg3, hb2⟩
  have HX2 := Lib.hid (HX1.out.below hb2)
  have HW2 := Lib.hid (bel0 HW1.out hb2)
  have HS2 := Lib.hid hs
  have HG : Hid (w.heap.size < g ∧ w.heap.size < h) := Lib.hid ⟨Nat.lt_of_lt_of_le HX1.out.lt hg2, Nat.lt_of_lt_of_le HX1.out.lt hg3⟩
  clear hs hg1 hg2 hg3 hb2 HX1 HW1 HMK
  obtain ⟨n, hn⟩ : ∃ n, n = M * 2048 := ⟨_, rfl⟩
  have HN := Lib.hid hn
  rw [← hn] at HS2
  generalize List.replicate n (0 : UInt8) = bs0 at *
  generalize List.replicate M (0 : UInt8) = ks0 at *
  clear hn
  go_wp2
  go_loopw [12] (fun i wr => Below w.heap.size w wr ∧ Bx wr w.heap.size 44 #[.int .u8 (x0.toNat : Int), .int .u8 (x1.toNat : Int), .int .u8 (x2.toNat : Int), .int .u8 (x3.toNat : Int)] ∧ ∃ j : Nat, j ≤ 4 ∧ i = .int .i64 (j : Int) ∧ ∃ ks, Sto wr a g h n M bs0 ks ∧ KeysIn M j [x0, x1, x2, x3] ks) (fun i _ => 4 - (intOf i).toNat)
  case atStart => exact ⟨HW2.out, HX2.out, 0, Nat.zero_le _, rfl, ks0, HS2.out, fun q hq _ => by omega⟩
  case round =>
    obtain ⟨hw, hx, j, hj, rfl, ks, hs, hk⟩ := hrel
    have JW := Lib.hid hw
    have JX := Lib.hid hx
    have JS := Lib.hid hs
    have JK := Lib.hid hk
    clear hw hx hs hk HS2 HX2 HW2
    by_cases hlt : j < 4
    · have hj4 : (j : Int) < 4 := by omega
      obtain ⟨q, hq⟩ : ∃ q, q = j * 2048 := ⟨_, rfl⟩
      have hq1 : (j : Int) * 2048 = (q : Int) := by omega
      have hqs : (q : Int) ≤ 65536 := by omega
      obtain ⟨r, hr⟩ : ∃ r, r = (gt [x0, x1, x2, x3] j).toNat := ⟨_, rfl⟩
      have hc := key_cell JX.out j hlt
      rw [← hr] at hc
      have hr256 : r < 256 := by rw [hr]; exact (gt _ j).toNat_lt
      have HKN : Hid (KeysIn M (j + 1) [x0, x1, x2, x3] (setK n ks (q : Int) ((r : Int) % 32))) := Lib.hid (by
        have h9 := keys_step (n := n) HN.out JS.out.nums.2.1 JK.out
        rw [← hq, ← hr] at h9
        rw [show (r : Int) % 32 = ((r % 32 : Nat) : Int) by omega]
        exact h9)
      have HSK := Lib.hid (setKey_any a g h n M (q : Int) ((r : Int) % 32) bs0 ks wr (by omega) JS.out)
      clear hq hr
      go_wp2_with fail
      refine HSK.out.mono ?_
      rintro e w3 ⟨rfl, hg3, hs3⟩
      have HS3 := Lib.hid hs3
      have HX3 := Lib.hid (JX.out.grown hg3 (fun e => by have := Option.some.inj e; have := HG.out.2; omega))
      have HW3 := Lib.hid (below_grown JW.out hg3 (by have := HG.out.2; omega))
      clear hg3 hs3 HSK JS JX JW JK hc
      go_wp2
      go_roundw
      case rel => exact ⟨HW3.out, HX3.out, j + 1, hlt, by go_num, _, HS3.out, HKN.out⟩
      case measure => simp [intOf]; omega
    · obtain rfl : j = 4 := by omega
      have HNM : Hid (n = M * 2048 ∧ n ≤ 65536) := Lib.hid ⟨HN.out, by have := HN.out; have := HM.out; omega⟩
      have HPOS : Hid (0 < n) := Lib.hid (by have := HN.out; have := HM.out; omega)
      have HKEYS := Lib.hid JK.out
      have HGB : Hid (g < wr.heap.size) := Lib.hid JS.out.2.1.lt
      clear hlt JK
      go_wp2_with fail
      refine (size_any a g n _ JS.out.c0).mono ?_
      rintro e wx ⟨rfl, rfl⟩
      go_wp2_with fail
      refine (all_bytes JS.out).mono ?_
      rintro e w4 ⟨sv, rfl, hh, hb4⟩
      obtain ⟨gw, cw, rfl, hge, -, hrow⟩ := own_some (show w4.ownsRow wr.heap.size 5 1 sv n (bsU bs0) from by rw [← JS.out.nums.1]; exact hh) HPOS.out (by rw [bsU_len]; exact JS.out.nums.1)
      have HR4 := Lib.hid hrow
      have HGE4 := Lib.hid hge
      have HS4 := Lib.hid (JS.out.below hb4)
      have HX4 := Lib.hid (JX.out.below hb4)
      have HW4 := Lib.hid (bel0 JW.out hb4)
      clear hh hge hrow hb4 JS JX JW
      go_wp2_with fail
      refine (size_any a g n _ HS4.out.c0).mono ?_
      rintro e wx ⟨rfl, rfl⟩
      go_wp2_with fail
      refine (size_any a g n _ HS4.out.c0).mono ?_
      rintro e wx ⟨rfl, rfl⟩
      have hun : ¬ IntKind.u64.wrap (n : Int) = 0 := by
        rw [u64n HNM.out.2]
        have := HPOS.out
        omega
      go_wp2
      have HY : Hid (wrap64 (Int.tmod (IntKind.u64.wrap ad) (IntKind.u64.wrap (n : Int))) ≤ 9223372036854775807) := Lib.hid (wrap_le _)
      have HKV : Hid (1 ≤ 1 + (ky.toNat : Int) % 15) := Lib.hid (by omega)
      generalize wrap64 (Int.tmod (IntKind.u64.wrap ad) (IntKind.u64.wrap (n : Int))) = y at *
      generalize 1 + (ky.toNat : Int) % 15 = kv at *
      clear hun hky
      generalize wr.heap.size = B0 at *
      go_loopw [14, 16, 17, 18, 19, 66] (fun was _ _ _ _ i wr => Below w.heap.size w wr ∧ Bx wr w.heap.size 44 #[.int .u8 (x0.toNat : Int), .int .u8 (x1.toNat : Int), .int .u8 (x2.toNat : Int), .int .u8 (x3.toNat : Int)] ∧ ∃ j : Nat, j ≤ 2 ∧ i = .int .i64 (j : Int) ∧ ∃ bs, Sto wr a g h n M bs ks ∧ ∃ gw cw, was = .slice (some ⟨gw, 0, none⟩) n cw ∧ B0 ≤ gw ∧ Row wr gw 5 (bsU bs) cw) (fun _ _ _ _ _ i _ => 2 - (intOf i).toNat)
      case atStart => exact ⟨HW4.out, HX4.out, 0, Nat.zero_le _, rfl, bs0, HS4.out, gw, cw, rfl, HGE4.out, HR4.out⟩
      case round =>
        clear HS4 HX4 HW4 HR4 HGE4
        obtain ⟨hw, hx, j, hj, rfl, bs, hs, gw, cw, rfl, hge, hrow⟩ := hrel
        have JW := Lib.hid hw
        have JX := Lib.hid hx
        have JS := Lib.hid hs
        have JA := Lib.hid hrow
        have JGE := Lib.hid hge
        clear hw hx hs hrow hge
        rcases (show j = 0 ∨ j = 1 ∨ j = 2 by omega) with rfl | rfl | rfl
        · skip
          have hix := py0 ad y
          have HXB : Hid (ad ≤ 9223372036854775807) := Lib.hid (by have := HAD.out.2; omega)
          have HPUT := Lib.hid (put_any a g h n M ad kv (.slice p nb c) b bs ks wr HXB.out JS.out (HV.out.below JW.out))
          have HDF : Hid (∀ i, gt (putB (stP kv) n bs ks ad b) i ≠ gt bs i → stP kv (gt ks (i / 2048)) = true) := Lib.hid (fun i h9 => put_diff JS.out.nums.1 h9)
          have HNOP : Hid (codeV (stP kv) n ks ad (b.length : Int) ≠ 0 → putB (stP kv) n bs ks ad b = bs) := Lib.hid putB_no
          have HL1 := Lib.hid JS.out.nums.1
          generalize putB (stP kv) n bs ks ad b = bs2 at *
          generalize codeV (stP kv) n ks ad (b.length : Int) = C at *
          go_wp2_with fail
          refine HPUT.out.mono ?_
          rintro e w5 ⟨rfl, hg5, hs5⟩
          have HS5 := Lib.hid hs5
          have HL2 := Lib.hid hs5.nums.1
          have HX5 := Lib.hid (JX.out.grown hg5 (fun e => by have := Option.some.inj e; have := HG.out.1; omega))
          have HW5 := Lib.hid (below_grown JW.out hg5 (by have := HG.out.1; omega))
          have HA5 := Lib.hid (JA.out.grown hg5 (fun e => by have := Option.some.inj e; have := JGE.out; have := HGB.out; omega))
          clear hg5 hs5 HPUT JS JX JW JA hix
          go_wp2_with fail
          refine (size_any a g n _ HS5.out.c0).mono ?_
          rintro e wx ⟨rfl, rfl⟩
          go_wp2_with fail
          refine (all_bytes HS5.out).mono ?_
          rintro e w7 ⟨sv, rfl, hh, hb7⟩
          obtain ⟨gn, cn, rfl, hge, -, hrow⟩ := own_some (show w7.ownsRow w5.heap.size 5 1 sv n (bsU bs2) from by rw [← HL2.out]; exact hh) HPOS.out (by rw [bsU_len]; exact HL2.out)
          have HNOW := Lib.hid hrow
          have HGE : Hid (B0 ≤ gn) := Lib.hid (Nat.le_trans (Nat.le_of_lt (Nat.lt_of_le_of_lt JGE.out HA5.out.lt)) hge)
          have HWAS := Lib.hid (HA5.out.below hb7)
          have HS7 := Lib.hid (HS5.out.below hb7)
          have HX7 := Lib.hid (HX5.out.below hb7)
          have HW7 := Lib.hid (bel0 HW5.out hb7)
          clear hb7 hh hge hrow HS5 HX5 HW5 HA5
          by_cases hC : C = 0
          · subst hC
            clear HNOP
            go_wp2
            go_loopw [19] (fun i wr => Below w7.heap.size w7 wr ∧ ∃ t : Nat, t ≤ n ∧ i = .int .i64 (t : Int)) (fun i _ => n - (intOf i).toNat)
            case atStart => exact ⟨Below.refl _ _, 0, Nat.zero_le _, rfl⟩
            case round =>
              obtain ⟨hb7, t, ht, rfl⟩ := hrel
              have HB8 := Lib.hid (hb7.trans (Below.refl _ wr).drew)
              have HB7 := Lib.hid hb7
              clear hb7
              by_cases hlt : t < n
              · obtain ⟨u, hu⟩ : ∃ u, u = (gt bs2 t).toNat := ⟨_, rfl⟩
                obtain ⟨v, hv⟩ : ∃ v, v = (gt bs t).toNat := ⟨_, rfl⟩
                have cu : wr.drew.cell? ⟨gn, t, none⟩ = some (.int .u8 (u : Int)) := by
                  rw [((HNOW.out.below HB8.out).cell t (by rw [bsU_len, HL2.out]; exact hlt)), bsU_get _ t (by rw [HL2.out]; exact hlt), hu]
                have cv : wr.drew.cell? ⟨gw, t, none⟩ = some (.int .u8 (v : Int)) := by
                  rw [((HWAS.out.below HB8.out).cell t (by rw [bsU_len, HL1.out]; exact hlt)), bsU_get _ t (by rw [HL1.out]; exact hlt), hv]
                have hltn : (t : Int) < (n : Int) := by omega
                have htn : (t : Int) ≤ 65536 := by have := HNM.out; omega
                by_cases e : u = v
                · have e1 : ((u : Int) != (v : Int)) = false := by rw [e]; simp
                  clear hu hv e
                  go_upto_region 26 with fail
                  refine wp_region_noPanic ?_
                  refine wp_region_held_drew (S := fun W => W = wr.drew) (by kernel_rfl) rfl (fun k0 => ?_)
                  show wpAnyH _ _ _ _ _ 20 #[false, false, false, false, false, false, false, false, false, false, false, false, false, false, false, false, false, false, false, false] _ _
                  refine wpAnyH_take (i := 0) (oi := { dst := some 100, op := Go.Op.move (Go.Operand.tmp 18), type := 29, pos := "outright.go:62", after := #[], guard := none }) (v := .slice (some ⟨gn, 0, none⟩) n cn) rfl (by kernel_rfl) (by kernel_rfl) (by kernel_rfl) (fun _ _ _ h => h) (Or.inl ⟨by rfl, fun W hSw => by (try dsimp only at hSw); go_simp⟩) k0 ?_
                  try simp only [Act.put, List.setIfInBounds_toArray, List.set_cons_zero, List.set_cons_succ]
                  refine wpAnyH_take (i := 1) (oi := { dst := some 101, op := Go.Op.move (Go.Operand.tmp 19), type := 3, pos := "outright.go:62", after := #[], guard := none }) (v := .int .i64 (t : Int)) rfl (by kernel_rfl) (by kernel_rfl) (by kernel_rfl) (fun _ _ _ h => h) (Or.inl ⟨by rfl, fun W hSw => by (try dsimp only at hSw); go_simp⟩) k0 ?_
                  try simp only [Act.put, List.setIfInBounds_toArray, List.set_cons_zero, List.set_cons_succ]
                  refine wpAnyH_take (i := 2) (oi := { dst := some 102, op := Go.Op.indexAddr 29 (Go.Operand.tmp 100) (Go.Operand.tmp 101), type := 0, pos := "outright.go:62", after := #[{ on := 0, ground := Go.Ground.data }, { on := 1, ground := Go.Ground.data }], guard := none }) (v := .pointer (some ⟨gn, t, none⟩)) rfl (by kernel_rfl) (by kernel_rfl) (by kernel_rfl) (fun _ _ _ h => h) (Or.inl ⟨by rfl, fun W hSw => by (try dsimp only at hSw); go_simp⟩) k0 ?_
                  try simp only [Act.put, List.setIfInBounds_toArray, List.set_cons_zero, List.set_cons_succ]
                  refine wpAnyH_take (i := 3) (oi := { dst := some 103, op := Go.Op.load 5 (Go.Operand.tmp 102), type := 5, pos := "outright.go:62", after := #[{ on := 2, ground := Go.Ground.data }], guard := none }) (v := .int .u8 (u : Int)) rfl (by kernel_rfl) (by kernel_rfl) (by kernel_rfl) (fun _ _ _ h => h) (Or.inl ⟨by rfl, fun W hSw => by subst hSw; go_simp⟩) k0 ?_
                  try simp only [Act.put, List.setIfInBounds_toArray, List.set_cons_zero, List.set_cons_succ]
                  refine wpAnyH_take (i := 4) (oi := { dst := some 104, op := Go.Op.move (Go.Operand.tmp 14), type := 29, pos := "outright.go:62", after := #[], guard := none }) (v := .slice (some ⟨gw, 0, none⟩) n cw) rfl (by kernel_rfl) (by kernel_rfl) (by kernel_rfl) (fun _ _ _ h => h) (Or.inl ⟨by rfl, fun W hSw => by (try dsimp only at hSw); go_simp⟩) k0 ?_
                  try simp only [Act.put, List.setIfInBounds_toArray, List.set_cons_zero, List.set_cons_succ]
                  refine wpAnyH_take (i := 5) (oi := { dst := some 105, op := Go.Op.move (Go.Operand.tmp 19), type := 3, pos := "outright.go:62", after := #[], guard := none }) (v := .int .i64 (t : Int)) rfl (by kernel_rfl) (by kernel_rfl) (by kernel_rfl) (fun _ _ _ h => h) (Or.inl ⟨by rfl, fun W hSw => by (try dsimp only at hSw); go_simp⟩) k0 ?_
                  try simp only [Act.put, List.setIfInBounds_toArray, List.set_cons_zero, List.set_cons_succ]
                  refine wpAnyH_take (i := 6) (oi := { dst := some 106, op := Go.Op.indexAddr 29 (Go.Operand.tmp 104) (Go.Operand.tmp 105), type := 0, pos := "outright.go:62", after := #[{ on := 4, ground := Go.Ground.data }, { on := 5, ground := Go.Ground.data }], guard := none }) (v := .pointer (some ⟨gw, t, none⟩)) rfl (by kernel_rfl) (by kernel_rfl) (by kernel_rfl) (fun _ _ _ h => h) (Or.inl ⟨by rfl, fun W hSw => by (try dsimp only at hSw); go_simp⟩) k0 ?_
                  try simp only [Act.put, List.setIfInBounds_toArray, List.set_cons_zero, List.set_cons_succ]
                  refine wpAnyH_take (i := 7) (oi := { dst := some 107, op := Go.Op.load 5 (Go.Operand.tmp 106), type := 5, pos := "outright.go:62", after := #[{ on := 6, ground := Go.Ground.data }], guard := none }) (v := .int .u8 (v : Int)) rfl (by kernel_rfl) (by kernel_rfl) (by kernel_rfl) (fun _ _ _ h => h) (Or.inl ⟨by rfl, fun W hSw => by subst hSw; go_simp⟩) k0 ?_
                  try simp only [Act.put, List.setIfInBounds_toArray, List.set_cons_zero, List.set_cons_succ]
                  refine wpAnyH_take (i := 8) (oi := { dst := some 108, op := Go.Op.binOp Go.BinOp.neq 5 (Go.Operand.tmp 103) (Go.Operand.tmp 107) 5, type := 4, pos := "outright.go:62", after := #[{ on := 3, ground := Go.Ground.data }, { on := 7, ground := Go.Ground.data }], guard := none }) (v := .bool false) rfl (by kernel_rfl) (by kernel_rfl) (by kernel_rfl) (fun _ _ _ h => h) (Or.inl ⟨by rfl, fun W hSw => by (try dsimp only at hSw); go_simp⟩) k0 ?_
                  try simp only [Act.put, List.setIfInBounds_toArray, List.set_cons_zero, List.set_cons_succ]
                  refine wpAnyH_take (i := 9) (oi := { dst := some 109, op := Go.Op.move (Go.Operand.tmp 108), type := 4, pos := "outright.go:62", after := #[{ on := 8, ground := Go.Ground.data }], guard := none }) (v := .bool false) rfl (by kernel_rfl) (by kernel_rfl) (by kernel_rfl) (fun _ _ _ h => h) (Or.inl ⟨by rfl, fun W hSw => by (try dsimp only at hSw); go_simp⟩) k0 ?_
                  try simp only [Act.put, List.setIfInBounds_toArray, List.set_cons_zero, List.set_cons_succ]
                  refine wpAnyH_take (i := 10) (oi := { dst := some 110, op := Go.Op.move (Go.Operand.tmp 19), type := 3, pos := "outright.go:62", after := #[{ on := 9, ground := Go.Ground.guard }], guard := some (9, true) }) (v := undef) rfl (by kernel_rfl) (by kernel_rfl) (by kernel_rfl) (fun _ _ _ h => h) (Or.inr ⟨by rfl, rfl⟩) k0 ?_
                  try simp only [Act.put, List.setIfInBounds_toArray, List.set_cons_zero, List.set_cons_succ]
                  refine wpAnyH_take (i := 11) (oi := { dst := some 111, op := Go.Op.binOp Go.BinOp.quo 3 (Go.Operand.tmp 110) (Go.Operand.const (Go.Value.int Go.IntKind.i64 2048)) 3, type := 3, pos := "outright.go:62", after := #[{ on := 10, ground := Go.Ground.data }, { on := 9, ground := Go.Ground.guard }], guard := some (9, true) }) (v := undef) rfl (by kernel_rfl) (by kernel_rfl) (by kernel_rfl) (fun _ _ _ h => h) (Or.inr ⟨by rfl, rfl⟩) k0 ?_
                  try simp only [Act.put, List.setIfInBounds_toArray, List.set_cons_zero, List.set_cons_succ]
                  refine wpAnyH_take (i := 12) (oi := { dst := some 112, op := Go.Op.indexAddr 44 (Go.Operand.tmp 6) (Go.Operand.tmp 111), type := 0, pos := "outright.go:62", after := #[{ on := 11, ground := Go.Ground.data }, { on := 9, ground := Go.Ground.guard }], guard := some (9, true) }) (v := undef) rfl (by kernel_rfl) (by kernel_rfl) (by kernel_rfl) (fun _ _ _ h => h) (Or.inr ⟨by rfl, rfl⟩) k0 ?_
                  try simp only [Act.put, List.setIfInBounds_toArray, List.set_cons_zero, List.set_cons_succ]
                  refine wpAnyH_take (i := 13) (oi := { dst := some 113, op := Go.Op.load 5 (Go.Operand.tmp 112), type := 5, pos := "outright.go:62", after := #[{ on := 12, ground := Go.Ground.data }, { on := 9, ground := Go.Ground.guard }], guard := some (9, true) }) (v := undef) rfl (by kernel_rfl) (by kernel_rfl) (by kernel_rfl) (fun _ _ _ h => h) (Or.inr ⟨by rfl, rfl⟩) k0 ?_
                  try simp only [Act.put, List.setIfInBounds_toArray, List.set_cons_zero, List.set_cons_succ]
                  refine wpAnyH_take (i := 14) (oi := { dst := some 114, op := Go.Op.binOp Go.BinOp.rem 5 (Go.Operand.tmp 113) (Go.Operand.const (Go.Value.int Go.IntKind.u8 32)) 5, type := 5, pos := "outright.go:62", after := #[{ on := 13, ground := Go.Ground.data }, { on := 9, ground := Go.Ground.guard }], guard := some (9, true) }) (v := undef) rfl (by kernel_rfl) (by kernel_rfl) (by kernel_rfl) (fun _ _ _ h => h) (Or.inr ⟨by rfl, rfl⟩) k0 ?_
                  try simp only [Act.put, List.setIfInBounds_toArray, List.set_cons_zero, List.set_cons_succ]
                  refine wpAnyH_take (i := 15) (oi := { dst := some 115, op := Go.Op.convert 5 3 (Go.Operand.tmp 114), type := 3, pos := "outright.go:62", after := #[{ on := 14, ground := Go.Ground.data }, { on := 9, ground := Go.Ground.guard }], guard := some (9, true) }) (v := undef) rfl (by kernel_rfl) (by kernel_rfl) (by kernel_rfl) (fun _ _ _ h => h) (Or.inr ⟨by rfl, rfl⟩) k0 ?_
                  try simp only [Act.put, List.setIfInBounds_toArray, List.set_cons_zero, List.set_cons_succ]
                  refine wpAnyH_take (i := 16) (oi := { dst := some 116, op := Go.Op.binOp Go.BinOp.quo 3 (Go.Operand.tmp 115) (Go.Operand.const (Go.Value.int Go.IntKind.i64 2)) 3, type := 3, pos := "outright.go:62", after := #[{ on := 15, ground := Go.Ground.data }, { on := 9, ground := Go.Ground.guard }], guard := some (9, true) }) (v := undef) rfl (by kernel_rfl) (by kernel_rfl) (by kernel_rfl) (fun _ _ _ h => h) (Or.inr ⟨by rfl, rfl⟩) k0 ?_
                  try simp only [Act.put, List.setIfInBounds_toArray, List.set_cons_zero, List.set_cons_succ]
                  refine wpAnyH_take (i := 17) (oi := { dst := some 117, op := Go.Op.move (Go.Operand.tmp 13), type := 3, pos := "outright.go:62", after := #[{ on := 9, ground := Go.Ground.guard }], guard := some (9, true) }) (v := undef) rfl (by kernel_rfl) (by kernel_rfl) (by kernel_rfl) (fun _ _ _ h => h) (Or.inr ⟨by rfl, rfl⟩) k0 ?_
                  try simp only [Act.put, List.setIfInBounds_toArray, List.set_cons_zero, List.set_cons_succ]
                  refine wpAnyH_take (i := 18) (oi := { dst := some 118, op := Go.Op.binOp Go.BinOp.neq 3 (Go.Operand.tmp 116) (Go.Operand.tmp 117) 3, type := 4, pos := "outright.go:62", after := #[{ on := 16, ground := Go.Ground.data }, { on := 17, ground := Go.Ground.data }, { on := 9, ground := Go.Ground.guard }], guard := some (9, true) }) (v := undef) rfl (by kernel_rfl) (by kernel_rfl) (by kernel_rfl) (fun _ _ _ h => h) (Or.inr ⟨by rfl, rfl⟩) k0 ?_
                  try simp only [Act.put, List.setIfInBounds_toArray, List.set_cons_zero, List.set_cons_succ]
                  refine wpAnyH_take (i := 19) (oi := { dst := some 119, op := Go.Op.pick (Go.Operand.tmp 109) (Go.Operand.tmp 118) (Go.Operand.const (Go.Value.bool false)), type := 4, pos := "outright.go:62", after := #[{ on := 9, ground := Go.Ground.data }, { on := 18, ground := Go.Ground.data }], guard := none }) (v := .bool false) rfl (by kernel_rfl) (by kernel_rfl) (by kernel_rfl) (fun _ _ _ h => h) (Or.inl ⟨by rfl, fun W hSw => by (try dsimp only at hSw); go_simp⟩) k0 ?_
                  try simp only [Act.put, List.setIfInBounds_toArray, List.set_cons_zero, List.set_cons_succ]
                  refine wpAnyH_done (by kernel_rfl) ?_ _
                  refine NoPanic.normal ?_
                  clear k0
                  go_wp2
                  go_roundw
                  case rel => exact ⟨HB8.out, t + 1, by omega, by go_num⟩
                  case measure => simp [intOf]; omega
                · have e1 : ((u : Int) != (v : Int)) = true := by
                    have : ¬ (u : Int) = (v : Int) := by omega
                    simpa using this
                  have hd := HDF.out t (fun h9 => e (by rw [hu, hv, h9]))
                  obtain ⟨q, hq⟩ : ∃ q, q = t / 2048 := ⟨_, rfl⟩
                  have hqM : q < M := by have := HNM.out; omega
                  have hq4 : q < 4 := by have := HM.out; omega
                  rw [← hq] at hd
                  obtain ⟨r, hr⟩ : ∃ r, r = (gt [x0, x1, x2, x3] q).toNat := ⟨_, rfl⟩
                  have hr256 : r < 256 := by rw [hr]; exact (gt _ q).toNat_lt
                  have cr : wr.drew.cell? ⟨w.heap.size, q, none⟩ = some (.int .u8 (r : Int)) := by
                    rw [key_cell (HX7.out.below HB8.out) q hq4, hr]
                  obtain ⟨r2, hr2⟩ : ∃ r2, r2 = r % 32 := ⟨_, rfl⟩
                  obtain ⟨kk, hkk⟩ : ∃ kk, kk = r2 / 2 := ⟨_, rfl⟩
                  have hkv : kv = (kk : Int) := by
                    have h8 := HKEYS.out q (by omega) hqM
                    unfold stP at hd
                    rw [h8, ← hr, ← hr2, ← hkk] at hd
                    have hk0 : (kv == 0) = false := by have := HKV.out; simp; omega
                    rw [hk0, Bool.false_or] at hd
                    exact of_decide_eq_true hd
                  have e2 : ((kk : Int) != kv) = false := by rw [hkv]; simp
                  have f1 : IntKind.i64.wrap ((t : Int) / 2048) = (q : Int) := by rw [show (t : Int) / 2048 = (q : Int) by omega]; exact i64wrap (by omega)
                  have f2 : (r : Int) % 32 = (r2 : Int) := by omega
                  have f3 : IntKind.i64.wrap (r2 : Int) = (r2 : Int) := i64wrap (by omega)
                  have f4 : IntKind.i64.wrap ((r2 : Int) / 2) = (kk : Int) := by rw [show (r2 : Int) / 2 = (kk : Int) by omega]; exact i64wrap (by omega)
                  have f5 : (q : Int) < 4 := by omega
                  have f6 : Int.tmod (r : Int) 32 = (r2 : Int) := by rw [Int.tmod_eq_emod_of_nonneg (by omega)]; exact f2
                  clear hu hv e hd hq hr hr2 hkk hkv hqM
                  go_upto_region 26 with fail
                  refine wp_region_noPanic ?_
                  refine wp_region_held_drew (S := fun W => W = wr.drew) (by kernel_rfl) rfl (fun k0 => ?_)
                  show wpAnyH _ _ _ _ _ 20 #[false, false, false, false, false, false, false, false, false, false, false, false, false, false, false, false, false, false, false, false] _ _
                  refine wpAnyH_take (i := 0) (oi := { dst := some 100, op := Go.Op.move (Go.Operand.tmp 18), type := 29, pos := "outright.go:62", after := #[], guard := none }) (v := .slice (some ⟨gn, 0, none⟩) n cn) rfl (by kernel_rfl) (by kernel_rfl) (by kernel_rfl) (fun _ _ _ h => h) (Or.inl ⟨by rfl, fun W hSw => by (try dsimp only at hSw); go_simp⟩) k0 ?_
                  try simp only [Act.put, List.setIfInBounds_toArray, List.set_cons_zero, List.set_cons_succ]
                  refine wpAnyH_take (i := 1) (oi := { dst := some 101, op := Go.Op.move (Go.Operand.tmp 19), type := 3, pos := "outright.go:62", after := #[], guard := none }) (v := .int .i64 (t : Int)) rfl (by kernel_rfl) (by kernel_rfl) (by kernel_rfl) (fun _ _ _ h => h) (Or.inl ⟨by rfl, fun W hSw => by (try dsimp only at hSw); go_simp⟩) k0 ?_
                  try simp only [Act.put, List.setIfInBounds_toArray, List.set_cons_zero, List.set_cons_succ]
                  refine wpAnyH_take (i := 2) (oi := { dst := some 102, op := Go.Op.indexAddr 29 (Go.Operand.tmp 100) (Go.Operand.tmp 101), type := 0, pos := "outright.go:62", after := #[{ on := 0, ground := Go.Ground.data }, { on := 1, ground := Go.Ground.data }], guard := none }) (v := .pointer (some ⟨gn, t, none⟩)) rfl (by kernel_rfl) (by kernel_rfl) (by kernel_rfl) (fun _ _ _ h => h) (Or.inl ⟨by rfl, fun W hSw => by (try dsimp only at hSw); go_simp⟩) k0 ?_
                  try simp only [Act.put, List.setIfInBounds_toArray, List.set_cons_zero, List.set_cons_succ]
                  refine wpAnyH_take (i := 3) (oi := { dst := some 103, op := Go.Op.load 5 (Go.Operand.tmp 102), type := 5, pos := "outright.go:62", after := #[{ on := 2, ground := Go.Ground.data }], guard := none }) (v := .int .u8 (u : Int)) rfl (by kernel_rfl) (by kernel_rfl) (by kernel_rfl) (fun _ _ _ h => h) (Or.inl ⟨by rfl, fun W hSw => by subst hSw; go_simp⟩) k0 ?_
                  try simp only [Act.put, List.setIfInBounds_toArray, List.set_cons_zero, List.set_cons_succ]
                  refine wpAnyH_take (i := 4) (oi := { dst := some 104, op := Go.Op.move (Go.Operand.tmp 14), type := 29, pos := "outright.go:62", after := #[], guard := none }) (v := .slice (some ⟨gw, 0, none⟩) n cw) rfl (by kernel_rfl) (by kernel_rfl) (by kernel_rfl) (fun _ _ _ h => h) (Or.inl ⟨by rfl, fun W hSw => by (try dsimp only at hSw); go_simp⟩) k0 ?_
                  try simp only [Act.put, List.setIfInBounds_toArray, List.set_cons_zero, List.set_cons_succ]
                  refine wpAnyH_take (i := 5) (oi := { dst := some 105, op := Go.Op.move (Go.Operand.tmp 19), type := 3, pos := "outright.go:62", after := #[], guard := none }) (v := .int .i64 (t : Int)) rfl (by kernel_rfl) (by kernel_rfl) (by kernel_rfl) (fun _ _ _ h => h) (Or.inl ⟨by rfl, fun W hSw => by (try dsimp only at hSw); go_simp⟩) k0 ?_
                  try simp only [Act.put, List.setIfInBounds_toArray, List.set_cons_zero, List.set_cons_succ]
                  refine wpAnyH_take (i := 6) (oi := { dst := some 106, op := Go.Op.indexAddr 29 (Go.Operand.tmp 104) (Go.Operand.tmp 105), type := 0, pos := "outright.go:62", after := #[{ on := 4, ground := Go.Ground.data }, { on := 5, ground := Go.Ground.data }], guard := none }) (v := .pointer (some ⟨gw, t, none⟩)) rfl (by kernel_rfl) (by kernel_rfl) (by kernel_rfl) (fun _ _ _ h => h) (Or.inl ⟨by rfl, fun W hSw => by (try dsimp only at hSw); go_simp⟩) k0 ?_
                  try simp only [Act.put, List.setIfInBounds_toArray, List.set_cons_zero, List.set_cons_succ]
                  refine wpAnyH_take (i := 7) (oi := { dst := some 107, op := Go.Op.load 5 (Go.Operand.tmp 106), type := 5, pos := "outright.go:62", after := #[{ on := 6, ground := Go.Ground.data }], guard := none }) (v := .int .u8 (v : Int)) rfl (by kernel_rfl) (by kernel_rfl) (by kernel_rfl) (fun _ _ _ h => h) (Or.inl ⟨by rfl, fun W hSw => by subst hSw; go_simp⟩) k0 ?_
                  try simp only [Act.put, List.setIfInBounds_toArray, List.set_cons_zero, List.set_cons_succ]
                  refine wpAnyH_take (i := 8) (oi := { dst := some 108, op := Go.Op.binOp Go.BinOp.neq 5 (Go.Operand.tmp 103) (Go.Operand.tmp 107) 5, type := 4, pos := "outright.go:62", after := #[{ on := 3, ground := Go.Ground.data }, { on := 7, ground := Go.Ground.data }], guard := none }) (v := .bool true) rfl (by kernel_rfl) (by kernel_rfl) (by kernel_rfl) (fun _ _ _ h => h) (Or.inl ⟨by rfl, fun W hSw => by (try dsimp only at hSw); go_simp⟩) k0 ?_
                  try simp only [Act.put, List.setIfInBounds_toArray, List.set_cons_zero, List.set_cons_succ]
                  refine wpAnyH_take (i := 9) (oi := { dst := some 109, op := Go.Op.move (Go.Operand.tmp 108), type := 4, pos := "outright.go:62", after := #[{ on := 8, ground := Go.Ground.data }], guard := none }) (v := .bool true) rfl (by kernel_rfl) (by kernel_rfl) (by kernel_rfl) (fun _ _ _ h => h) (Or.inl ⟨by rfl, fun W hSw => by (try dsimp only at hSw); go_simp⟩) k0 ?_
                  try simp only [Act.put, List.setIfInBounds_toArray, List.set_cons_zero, List.set_cons_succ]
                  refine wpAnyH_take (i := 10) (oi := { dst := some 110, op := Go.Op.move (Go.Operand.tmp 19), type := 3, pos := "outright.go:62", after := #[{ on := 9, ground := Go.Ground.guard }], guard := some (9, true) }) (v := .int .i64 (t : Int)) rfl (by kernel_rfl) (by kernel_rfl) (by kernel_rfl) (fun _ _ _ h => h) (Or.inl ⟨by rfl, fun W hSw => by (try dsimp only at hSw); go_simp⟩) k0 ?_
                  try simp only [Act.put, List.setIfInBounds_toArray, List.set_cons_zero, List.set_cons_succ]
                  refine wpAnyH_take (i := 11) (oi := { dst := some 111, op := Go.Op.binOp Go.BinOp.quo 3 (Go.Operand.tmp 110) (Go.Operand.const (Go.Value.int Go.IntKind.i64 2048)) 3, type := 3, pos := "outright.go:62", after := #[{ on := 10, ground := Go.Ground.data }, { on := 9, ground := Go.Ground.guard }], guard := some (9, true) }) (v := .int .i64 (q : Int)) rfl (by kernel_rfl) (by kernel_rfl) (by kernel_rfl) (fun _ _ _ h => h) (Or.inl ⟨by rfl, fun W hSw => by (try dsimp only at hSw); go_simp⟩) k0 ?_
                  try simp only [Act.put, List.setIfInBounds_toArray, List.set_cons_zero, List.set_cons_succ]
                  refine wpAnyH_take (i := 12) (oi := { dst := some 112, op := Go.Op.indexAddr 44 (Go.Operand.tmp 6) (Go.Operand.tmp 111), type := 0, pos := "outright.go:62", after := #[{ on := 11, ground := Go.Ground.data }, { on := 9, ground := Go.Ground.guard }], guard := some (9, true) }) (v := .pointer (some ⟨w.heap.size, q, none⟩)) rfl (by kernel_rfl) (by kernel_rfl) (by kernel_rfl) (fun _ _ _ h => h) (Or.inl ⟨by rfl, fun W hSw => by (try dsimp only at hSw); go_simp⟩) k0 ?_
                  try simp only [Act.put, List.setIfInBounds_toArray, List.set_cons_zero, List.set_cons_succ]
                  refine wpAnyH_take (i := 13) (oi := { dst := some 113, op := Go.Op.load 5 (Go.Operand.tmp 112), type := 5, pos := "outright.go:62", after := #[{ on := 12, ground := Go.Ground.data }, { on := 9, ground := Go.Ground.guard }], guard := some (9, true) }) (v := .int .u8 (r : Int)) rfl (by kernel_rfl) (by kernel_rfl) (by kernel_rfl) (fun _ _ _ h => h) (Or.inl ⟨by rfl, fun W hSw => by subst hSw; go_simp⟩) k0 ?_
                  try simp only [Act.put, List.setIfInBounds_toArray, List.set_cons_zero, List.set_cons_succ]
                  refine wpAnyH_take (i := 14) (oi := { dst := some 114, op := Go.Op.binOp Go.BinOp.rem 5 (Go.Operand.tmp 113) (Go.Operand.const (Go.Value.int Go.IntKind.u8 32)) 5, type := 5, pos := "outright.go:62", after := #[{ on := 13, ground := Go.Ground.data }, { on := 9, ground := Go.Ground.guard }], guard := some (9, true) }) (v := .int .u8 (r2 : Int)) rfl (by kernel_rfl) (by kernel_rfl) (by kernel_rfl) (fun _ _ _ h => h) (Or.inl ⟨by rfl, fun W hSw => by (try dsimp only at hSw); go_simp⟩) k0 ?_
                  try simp only [Act.put, List.setIfInBounds_toArray, List.set_cons_zero, List.set_cons_succ]
                  refine wpAnyH_take (i := 15) (oi := { dst := some 115, op := Go.Op.convert 5 3 (Go.Operand.tmp 114), type := 3, pos := "outright.go:62", after := #[{ on := 14, ground := Go.Ground.data }, { on := 9, ground := Go.Ground.guard }], guard := some (9, true) }) (v := .int .i64 (r2 : Int)) rfl (by kernel_rfl) (by kernel_rfl) (by kernel_rfl) (fun _ _ _ h => h) (Or.inl ⟨by rfl, fun W hSw => by (try dsimp only at hSw); go_simp⟩) k0 ?_
                  try simp only [Act.put, List.setIfInBounds_toArray, List.set_cons_zero, List.set_cons_succ]
                  refine wpAnyH_take (i := 16) (oi := { dst := some 116, op := Go.Op.binOp Go.BinOp.quo 3 (Go.Operand.tmp 115) (Go.Operand.const (Go.Value.int Go.IntKind.i64 2)) 3, type := 3, pos := "outright.go:62", after := #[{ on := 15, ground := Go.Ground.data }, { on := 9, ground := Go.Ground.guard }], guard := some (9, true) }) (v := .int .i64 (kk : Int)) rfl (by kernel_rfl) (by kernel_rfl) (by kernel_rfl) (fun _ _ _ h => h) (Or.inl ⟨by rfl, fun W hSw => by (try dsimp only at hSw); go_simp⟩) k0 ?_
                  try simp only [Act.put, List.setIfInBounds_toArray, List.set_cons_zero, List.set_cons_succ]
                  refine wpAnyH_take (i := 17) (oi := { dst := some 117, op := Go.Op.move (Go.Operand.tmp 13), type := 3, pos := "outright.go:62", after := #[{ on := 9, ground := Go.Ground.guard }], guard := some (9, true) }) (v := .int .i64 kv) rfl (by kernel_rfl) (by kernel_rfl) (by kernel_rfl) (fun _ _ _ h => h) (Or.inl ⟨by rfl, fun W hSw => by (try dsimp only at hSw); go_simp⟩) k0 ?_
                  try simp only [Act.put, List.setIfInBounds_toArray, List.set_cons_zero, List.set_cons_succ]
                  refine wpAnyH_take (i := 18) (oi := { dst := some 118, op := Go.Op.binOp Go.BinOp.neq 3 (Go.Operand.tmp 116) (Go.Operand.tmp 117) 3, type := 4, pos := "outright.go:62", after := #[{ on := 16, ground := Go.Ground.data }, { on := 17, ground := Go.Ground.data }, { on := 9, ground := Go.Ground.guard }], guard := some (9, true) }) (v := .bool false) rfl (by kernel_rfl) (by kernel_rfl) (by kernel_rfl) (fun _ _ _ h => h) (Or.inl ⟨by rfl, fun W hSw => by (try dsimp only at hSw); go_simp⟩) k0 ?_
                  try simp only [Act.put, List.setIfInBounds_toArray, List.set_cons_zero, List.set_cons_succ]
                  refine wpAnyH_take (i := 19) (oi := { dst := some 119, op := Go.Op.pick (Go.Operand.tmp 109) (Go.Operand.tmp 118) (Go.Operand.const (Go.Value.bool false)), type := 4, pos := "outright.go:62", after := #[{ on := 9, ground := Go.Ground.data }, { on := 18, ground := Go.Ground.data }], guard := none }) (v := .bool false) rfl (by kernel_rfl) (by kernel_rfl) (by kernel_rfl) (fun _ _ _ h => h) (Or.inl ⟨by rfl, fun W hSw => by (try dsimp only at hSw); go_simp⟩) k0 ?_
                  try simp only [Act.put, List.setIfInBounds_toArray, List.set_cons_zero, List.set_cons_succ]
                  refine wpAnyH_done (by kernel_rfl) ?_ _
                  refine NoPanic.normal ?_
                  clear k0
                  go_wp2
                  go_roundw
                  case rel => exact ⟨HB8.out, t + 1, by omega, by go_num⟩
                  case measure => simp [intOf]; omega
              · obtain rfl : t = n := by omega
                go_wp2
                go_roundw
                case rel => exact ⟨bel0 HW7.out HB7.out, HX7.out.below HB7.out, 1, by omega, by go_num, bs2, HS7.out.below HB7.out, gn, cn, rfl, HGE.out, HNOW.out.below HB7.out⟩
                case measure => simp [intOf]
          · obtain rfl := HNOP.out hC
            have cv1 := row_conv HNOW.out HL2.out
            have cv2 := row_conv HWAS.out HL1.out
            have hC0 : (C != 0) = true := by simpa using hC
            clear hC HNOP
            go_wp2
            clear cv1 cv2 hC0
            go_loopw [19] (fun i wr => Below w7.heap.size w7 wr ∧ ∃ t : Nat, t ≤ n ∧ i = .int .i64 (t : Int)) (fun i _ => n - (intOf i).toNat)
            case atStart => exact ⟨Below.refl _ _, 0, Nat.zero_le _, rfl⟩
            case round =>
              obtain ⟨hb7, t, ht, rfl⟩ := hrel
              have HB8 := Lib.hid (hb7.trans (Below.refl _ wr).drew)
              have HB7 := Lib.hid hb7
              clear hb7
              by_cases hlt : t < n
              · obtain ⟨u, hu⟩ : ∃ u, u = (gt bs2 t).toNat := ⟨_, rfl⟩
                obtain ⟨v, hv⟩ : ∃ v, v = (gt bs2 t).toNat := ⟨_, rfl⟩
                have cu : wr.drew.cell? ⟨gn, t, none⟩ = some (.int .u8 (u : Int)) := by
                  rw [((HNOW.out.below HB8.out).cell t (by rw [bsU_len, HL2.out]; exact hlt)), bsU_get _ t (by rw [HL2.out]; exact hlt), hu]
                have cv : wr.drew.cell? ⟨gw, t, none⟩ = some (.int .u8 (v : Int)) := by
                  rw [((HWAS.out.below HB8.out).cell t (by rw [bsU_len, HL1.out]; exact hlt)), bsU_get _ t (by rw [HL1.out]; exact hlt), hv]
                have hltn : (t : Int) < (n : Int) := by omega
                have htn : (t : Int) ≤ 65536 := by have := HNM.out; omega
                by_cases e : u = v
                · have e1 : ((u : Int) != (v : Int)) = false := by rw [e]; simp
                  clear hu hv e
                  go_upto_region 26 with fail
                  refine wp_region_noPanic ?_
                  refine wp_region_held_drew (S := fun W => W = wr.drew) (by kernel_rfl) rfl (fun k0 => ?_)
                  show wpAnyH _ _ _ _ _ 20 #[false, false, false, false, false, false, false, false, false, false, false, false, false, false, false, false, false, false, false, false] _ _
                  refine wpAnyH_take (i := 0) (oi := { dst := some 100, op := Go.Op.move (Go.Operand.tmp 18), type := 29, pos := "outright.go:62", after := #[], guard := none }) (v := .slice (some ⟨gn, 0, none⟩) n cn) rfl (by kernel_rfl) (by kernel_rfl) (by kernel_rfl) (fun _ _ _ h => h) (Or.inl ⟨by rfl, fun W hSw => by (try dsimp only at hSw); go_simp⟩) k0 ?_
                  try simp only [Act.put, List.setIfInBounds_toArray, List.set_cons_zero, List.set_cons_succ]
                  refine wpAnyH_take (i := 1) (oi := { dst := some 101, op := Go.Op.move (Go.Operand.tmp 19), type := 3, pos := "outright.go:62", after := #[], guard := none }) (v := .int .i64 (t : Int)) rfl (by kernel_rfl) (by kernel_rfl) (by kernel_rfl) (fun _ _ _ h => h) (Or.inl ⟨by rfl, fun W hSw => by (try dsimp only at hSw); go_simp⟩) k0 ?_
                  try simp only [Act.put, List.setIfInBounds_toArray, List.set_cons_zero, List.set_cons_succ]
                  refine wpAnyH_take (i := 2) (oi := { dst := some 102, op := Go.Op.indexAddr 29 (Go.Operand.tmp 100) (Go.Operand.tmp 101), type := 0, pos := "outright.go:62", after := #[{ on := 0, ground := Go.Ground.data }, { on := 1, ground := Go.Ground.data }], guard := none }) (v := .pointer (some ⟨gn, t, none⟩)) rfl (by kernel_rfl) (by kernel_rfl) (by kernel_rfl) (fun _ _ _ h => h) (Or.inl ⟨by rfl, fun W hSw => by (try dsimp only at hSw); go_simp⟩) k0 ?_
                  try simp only [Act.put, List.setIfInBounds_toArray, List.set_cons_zero, List.set_cons_succ]
                  refine wpAnyH_take (i := 3) (oi := { dst := some 103, op := Go.Op.load 5 (Go.Operand.tmp 102), type := 5, pos := "outright.go:62", after := #[{ on := 2, ground := Go.Ground.data }], guard := none }) (v := .int .u8 (u : Int)) rfl (by kernel_rfl) (by kernel_rfl) (by kernel_rfl) (fun _ _ _ h => h) (Or.inl ⟨by rfl, fun W hSw => by subst hSw; go_simp⟩) k0 ?_
                  try simp only [Act.put, List.setIfInBounds_toArray, List.set_cons_zero, List.set_cons_succ]
                  refine wpAnyH_take (i := 4) (oi := { dst := some 104, op := Go.Op.move (Go.Operand.tmp 14), type := 29, pos := "outright.go:62", after := #[], guard := none }) (v := .slice (some ⟨gw, 0, none⟩) n cw) rfl (by kernel_rfl) (by kernel_rfl) (by kernel_rfl) (fun _ _ _ h => h) (Or.inl ⟨by rfl, fun W hSw => by (try dsimp only at hSw); go_simp⟩) k0 ?_
                  try simp only [Act.put, List.setIfInBounds_toArray, List.set_cons_zero, List.set_cons_succ]
                  refine wpAnyH_take (i := 5) (oi := { dst := some 105, op := Go.Op.move (Go.Operand.tmp 19), type := 3, pos := "outright.go:62", after := #[], guard := none }) (v := .int .i64 (t : Int)) rfl (by kernel_rfl) (by kernel_rfl) (by kernel_rfl) (fun _ _ _ h => h) (Or.inl ⟨by rfl, fun W hSw => by (try dsimp only at hSw); go_simp⟩) k0 ?_
                  try simp only [Act.put, List.setIfInBounds_toArray, List.set_cons_zero, List.set_cons_succ]
                  refine wpAnyH_take (i := 6) (oi := { dst := some 106, op := Go.Op.indexAddr 29 (Go.Operand.tmp 104) (Go.Operand.tmp 105), type := 0, pos := "outright.go:62", after := #[{ on := 4, ground := Go.Ground.data }, { on := 5, ground := Go.Ground.data }], guard := none }) (v := .pointer (some ⟨gw, t, none⟩)) rfl (by kernel_rfl) (by kernel_rfl) (by kernel_rfl) (fun _ _ _ h => h) (Or.inl ⟨by rfl, fun W hSw => by (try dsimp only at hSw); go_simp⟩) k0 ?_
                  try simp only [Act.put, List.setIfInBounds_toArray, List.set_cons_zero, List.set_cons_succ]
                  refine wpAnyH_take (i := 7) (oi := { dst := some 107, op := Go.Op.load 5 (Go.Operand.tmp 106), type := 5, pos := "outright.go:62", after := #[{ on := 6, ground := Go.Ground.data }], guard := none }) (v := .int .u8 (v : Int)) rfl (by kernel_rfl) (by kernel_rfl) (by kernel_rfl) (fun _ _ _ h => h) (Or.inl ⟨by rfl, fun W hSw => by subst hSw; go_simp⟩) k0 ?_
                  try simp only [Act.put, List.setIfInBounds_toArray, List.set_cons_zero, List.set_cons_succ]
                  refine wpAnyH_take (i := 8) (oi := { dst := some 108, op := Go.Op.binOp Go.BinOp.neq 5 (Go.Operand.tmp 103) (Go.Operand.tmp 107) 5, type := 4, pos := "outright.go:62", after := #[{ on := 3, ground := Go.Ground.data }, { on := 7, ground := Go.Ground.data }], guard := none }) (v := .bool false) rfl (by kernel_rfl) (by kernel_rfl) (by kernel_rfl) (fun _ _ _ h => h) (Or.inl ⟨by rfl, fun W hSw => by (try dsimp only at hSw); go_simp⟩) k0 ?_
                  try simp only [Act.put, List.setIfInBounds_toArray, List.set_cons_zero, List.set_cons_succ]
                  refine wpAnyH_take (i := 9) (oi := { dst := some 109, op := Go.Op.move (Go.Operand.tmp 108), type := 4, pos := "outright.go:62", after := #[{ on := 8, ground := Go.Ground.data }], guard := none }) (v := .bool false) rfl (by kernel_rfl) (by kernel_rfl) (by kernel_rfl) (fun _ _ _ h => h) (Or.inl ⟨by rfl, fun W hSw => by (try dsimp only at hSw); go_simp⟩) k0 ?_
                  try simp only [Act.put, List.setIfInBounds_toArray, List.set_cons_zero, List.set_cons_succ]
                  refine wpAnyH_take (i := 10) (oi := { dst := some 110, op := Go.Op.move (Go.Operand.tmp 19), type := 3, pos := "outright.go:62", after := #[{ on := 9, ground := Go.Ground.guard }], guard := some (9, true) }) (v := undef) rfl (by kernel_rfl) (by kernel_rfl) (by kernel_rfl) (fun _ _ _ h => h) (Or.inr ⟨by rfl, rfl⟩) k0 ?_
                  try simp only [Act.put, List.setIfInBounds_toArray, List.set_cons_zero, List.set_cons_succ]
                  refine wpAnyH_take (i := 11) (oi := { dst := some 111, op := Go.Op.binOp Go.BinOp.quo 3 (Go.Operand.tmp 110) (Go.Operand.const (Go.Value.int Go.IntKind.i64 2048)) 3, type := 3, pos := "outright.go:62", after := #[{ on := 10, ground := Go.Ground.data }, { on := 9, ground := Go.Ground.guard }], guard := some (9, true) }) (v := undef) rfl (by kernel_rfl) (by kernel_rfl) (by kernel_rfl) (fun _ _ _ h => h) (Or.inr ⟨by rfl, rfl⟩) k0 ?_
                  try simp only [Act.put, List.setIfInBounds_toArray, List.set_cons_zero, List.set_cons_succ]
                  refine wpAnyH_take (i := 12) (oi := { dst := some 112, op := Go.Op.indexAddr 44 (Go.Operand.tmp 6) (Go.Operand.tmp 111), type := 0, pos := "outright.go:62", after := #[{ on := 11, ground := Go.Ground.data }, { on := 9, ground := Go.Ground.guard }], guard := some (9, true) }) (v := undef) rfl (by kernel_rfl) (by kernel_rfl) (by kernel_rfl) (fun _ _ _ h => h) (Or.inr ⟨by rfl, rfl⟩) k0 ?_
                  try simp only [Act.put, List.setIfInBounds_toArray, List.set_cons_zero, List.set_cons_succ]
                  refine wpAnyH_take (i := 13) (oi := { dst := some 113, op := Go.Op.load 5 (Go.Operand.tmp 112), type := 5, pos := "outright.go:62", after := #[{ on := 12, ground := Go.Ground.data }, { on := 9, ground := Go.Ground.guard }], guard := some (9, true) }) (v := undef) rfl (by kernel_rfl) (by kernel_rfl) (by kernel_rfl) (fun _ _ _ h => h) (Or.inr ⟨by rfl, rfl⟩) k0 ?_
                  try simp only [Act.put, List.setIfInBounds_toArray, List.set_cons_zero, List.set_cons_succ]
                  refine wpAnyH_take (i := 14) (oi := { dst := some 114, op := Go.Op.binOp Go.BinOp.rem 5 (Go.Operand.tmp 113) (Go.Operand.const (Go.Value.int Go.IntKind.u8 32)) 5, type := 5, pos := "outright.go:62", after := #[{ on := 13, ground := Go.Ground.data }, { on := 9, ground := Go.Ground.guard }], guard := some (9, true) }) (v := undef) rfl (by kernel_rfl) (by kernel_rfl) (by kernel_rfl) (fun _ _ _ h => h) (Or.inr ⟨by rfl, rfl⟩) k0 ?_
                  try simp only [Act.put, List.setIfInBounds_toArray, List.set_cons_zero, List.set_cons_succ]
                  refine wpAnyH_take (i := 15) (oi := { dst := some 115, op := Go.Op.convert 5 3 (Go.Operand.tmp 114), type := 3, pos := "outright.go:62", after := #[{ on := 14, ground := Go.Ground.data }, { on := 9, ground := Go.Ground.guard }], guard := some (9, true) }) (v := undef) rfl (by kernel_rfl) (by kernel_rfl) (by kernel_rfl) (fun _ _ _ h => h) (Or.inr ⟨by rfl, rfl⟩) k0 ?_
                  try simp only [Act.put, List.setIfInBounds_toArray, List.set_cons_zero, List.set_cons_succ]
                  refine wpAnyH_take (i := 16) (oi := { dst := some 116, op := Go.Op.binOp Go.BinOp.quo 3 (Go.Operand.tmp 115) (Go.Operand.const (Go.Value.int Go.IntKind.i64 2)) 3, type := 3, pos := "outright.go:62", after := #[{ on := 15, ground := Go.Ground.data }, { on := 9, ground := Go.Ground.guard }], guard := some (9, true) }) (v := undef) rfl (by kernel_rfl) (by kernel_rfl) (by kernel_rfl) (fun _ _ _ h => h) (Or.inr ⟨by rfl, rfl⟩) k0 ?_
                  try simp only [Act.put, List.setIfInBounds_toArray, List.set_cons_zero, List.set_cons_succ]
                  refine wpAnyH_take (i := 17) (oi := { dst := some 117, op := Go.Op.move (Go.Operand.tmp 13), type := 3, pos := "outright.go:62", after := #[{ on := 9, ground := Go.Ground.guard }], guard := some (9, true) }) (v := undef) rfl (by kernel_rfl) (by kernel_rfl) (by kernel_rfl) (fun _ _ _ h => h) (Or.inr ⟨by rfl, rfl⟩) k0 ?_
                  try simp only [Act.put, List.setIfInBounds_toArray, List.set_cons_zero, List.set_cons_succ]
                  refine wpAnyH_take (i := 18) (oi := { dst := some 118, op := Go.Op.binOp Go.BinOp.neq 3 (Go.Operand.tmp 116) (Go.Operand.tmp 117) 3, type := 4, pos := "outright.go:62", after := #[{ on := 16, ground := Go.Ground.data }, { on := 17, ground := Go.Ground.data }, { on := 9, ground := Go.Ground.guard }], guard := some (9, true) }) (v := undef) rfl (by kernel_rfl) (by kernel_rfl) (by kernel_rfl) (fun _ _ _ h => h) (Or.inr ⟨by rfl, rfl⟩) k0 ?_
                  try simp only [Act.put, List.setIfInBounds_toArray, List.set_cons_zero, List.set_cons_succ]
                  refine wpAnyH_take (i := 19) (oi := { dst := some 119, op := Go.Op.pick (Go.Operand.tmp 109) (Go.Operand.tmp 118) (Go.Operand.const (Go.Value.bool false)), type := 4, pos := "outright.go:62", after := #[{ on := 9, ground := Go.Ground.data }, { on := 18, ground := Go.Ground.data }], guard := none }) (v := .bool false) rfl (by kernel_rfl) (by kernel_rfl) (by kernel_rfl) (fun _ _ _ h => h) (Or.inl ⟨by rfl, fun W hSw => by (try dsimp only at hSw); go_simp⟩) k0 ?_
                  try simp only [Act.put, List.setIfInBounds_toArray, List.set_cons_zero, List.set_cons_succ]
                  refine wpAnyH_done (by kernel_rfl) ?_ _
                  refine NoPanic.normal ?_
                  clear k0
                  go_wp2
                  go_roundw
                  case rel => exact ⟨HB8.out, t + 1, by omega, by go_num⟩
                  case measure => simp [intOf]; omega
                · have e1 : ((u : Int) != (v : Int)) = true := by
                    have : ¬ (u : Int) = (v : Int) := by omega
                    simpa using this
                  have hd := HDF.out t (fun h9 => e (by rw [hu, hv, h9]))
                  obtain ⟨q, hq⟩ : ∃ q, q = t / 2048 := ⟨_, rfl⟩
                  have hqM : q < M := by have := HNM.out; omega
                  have hq4 : q < 4 := by have := HM.out; omega
                  rw [← hq] at hd
                  obtain ⟨r, hr⟩ : ∃ r, r = (gt [x0, x1, x2, x3] q).toNat := ⟨_, rfl⟩
                  have hr256 : r < 256 := by rw [hr]; exact (gt _ q).toNat_lt
                  have cr : wr.drew.cell? ⟨w.heap.size, q, none⟩ = some (.int .u8 (r : Int)) := by
                    rw [key_cell (HX7.out.below HB8.out) q hq4, hr]
                  obtain ⟨r2, hr2⟩ : ∃ r2, r2 = r % 32 := ⟨_, rfl⟩
                  obtain ⟨kk, hkk⟩ : ∃ kk, kk = r2 / 2 := ⟨_, rfl⟩
                  have hkv : kv = (kk : Int) := by
                    have h8 := HKEYS.out q (by omega) hqM
                    unfold stP at hd
                    rw [h8, ← hr, ← hr2, ← hkk] at hd
                    have hk0 : (kv == 0) = false := by have := HKV.out; simp; omega
                    rw [hk0, Bool.false_or] at hd
                    exact of_decide_eq_true hd
                  have e2 : ((kk : Int) != kv) = false := by rw [hkv]; simp
                  have f1 : IntKind.i64.wrap ((t : Int) / 2048) = (q : Int) := by rw [show (t : Int) / 2048 = (q : Int) by omega]; exact i64wrap (by omega)
                  have f2 : (r : Int) % 32 = (r2 : Int) := by omega
                  have f3 : IntKind.i64.wrap (r2 : Int) = (r2 : Int) := i64wrap (by omega)
                  have f4 : IntKind.i64.wrap ((r2 : Int) / 2) = (kk : Int) := by rw [show (r2 : Int) / 2 = (kk : Int) by omega]; exact i64wrap (by omega)
                  have f5 : (q : Int) < 4 := by omega
                  have f6 : Int.tmod (r : Int) 32 = (r2 : Int) := by rw [Int.tmod_eq_emod_of_nonneg (by omega)]; exact f2
                  clear hu hv e hd hq hr hr2 hkk hkv hqM
                  go_upto_region 26 with fail
                  refine wp_region_noPanic ?_
                  refine wp_region_held_drew (S := fun W => W = wr.drew) (by kernel_rfl) rfl (fun k0 => ?_)
                  show wpAnyH _ _ _ _ _ 20 #[false, false, false, false, false, false, false, false, false, false, false, false, false, false, false, false, false, false, false, false] _ _
                  refine wpAnyH_take (i := 0) (oi := { dst := some 100, op := Go.Op.move (Go.Operand.tmp 18), type := 29, pos := "outright.go:62", after := #[], guard := none }) (v := .slice (some ⟨gn, 0, none⟩) n cn) rfl (by kernel_rfl) (by kernel_rfl) (by kernel_rfl) (fun _ _ _ h => h) (Or.inl ⟨by rfl, fun W hSw => by (try dsimp only at hSw); go_simp⟩) k0 ?_
                  try simp only [Act.put, List.setIfInBounds_toArray, List.set_cons_zero, List.set_cons_succ]
                  refine wpAnyH_take (i := 1) (oi := { dst := some 101, op := Go.Op.move (Go.Operand.tmp 19), type := 3, pos := "outright.go:62", after := #[], guard := none }) (v := .int .i64 (t : Int)) rfl (by kernel_rfl) (by kernel_rfl) (by kernel_rfl) (fun _ _ _ h => h) (Or.inl ⟨by rfl, fun W hSw => by (try dsimp only at hSw); go_simp⟩) k0 ?_
                  try simp only [Act.put, List.setIfInBounds_toArray, List.set_cons_zero, List.set_cons_succ]
                  refine wpAnyH_take (i := 2) (oi := { dst := some 102, op := Go.Op.indexAddr 29 (Go.Operand.tmp 100) (Go.Operand.tmp 101), type := 0, pos := "outright.go:62", after := #[{ on := 0, ground := Go.Ground.data }, { on := 1, ground := Go.Ground.data }], guard := none }) (v := .pointer (some ⟨gn, t, none⟩)) rfl (by kernel_rfl) (by kernel_rfl) (by kernel_rfl) (fun _ _ _ h => h) (Or.inl ⟨by rfl, fun W hSw => by (try dsimp only at hSw); go_simp⟩) k0 ?_
                  try simp only [Act.put, List.setIfInBounds_toArray, List.set_cons_zero, List.set_cons_succ]
                  refine wpAnyH_take (i := 3) (oi := { dst := some 103, op := Go.Op.load 5 (Go.Operand.tmp 102), type := 5, pos := "outright.go:62", after := #[{ on := 2, ground := Go.Ground.data }], guard := none }) (v := .int .u8 (u : Int)) rfl (by kernel_rfl) (by kernel_rfl) (by kernel_rfl) (fun _ _ _ h => h) (Or.inl ⟨by rfl, fun W hSw => by subst hSw; go_simp⟩) k0 ?_
                  try simp only [Act.put, List.setIfInBounds_toArray, List.set_cons_zero, List.set_cons_succ]
                  refine wpAnyH_take (i := 4) (oi := { dst := some 104, op := Go.Op.move (Go.Operand.tmp 14), type := 29, pos := "outright.go:62", after := #[], guard := none }) (v := .slice (some ⟨gw, 0, none⟩) n cw) rfl (by kernel_rfl) (by kernel_rfl) (by kernel_rfl) (fun _ _ _ h => h) (Or.inl ⟨by rfl, fun W hSw => by (try dsimp only at hSw); go_simp⟩) k0 ?_
                  try simp only [Act.put, List.setIfInBounds_toArray, List.set_cons_zero, List.set_cons_succ]
                  refine wpAnyH_take (i := 5) (oi := { dst := some 105, op := Go.Op.move (Go.Operand.tmp 19), type := 3, pos := "outright.go:62", after := #[], guard := none }) (v := .int .i64 (t : Int)) rfl (by kernel_rfl) (by kernel_rfl) (by kernel_rfl) (fun _ _ _ h => h) (Or.inl ⟨by rfl, fun W hSw => by (try dsimp only at hSw); go_simp⟩) k0 ?_
                  try simp only [Act.put, List.setIfInBounds_toArray, List.set_cons_zero, List.set_cons_succ]
                  refine wpAnyH_take (i := 6) (oi := { dst := some 106, op := Go.Op.indexAddr 29 (Go.Operand.tmp 104) (Go.Operand.tmp 105), type := 0, pos := "outright.go:62", after := #[{ on := 4, ground := Go.Ground.data }, { on := 5, ground := Go.Ground.data }], guard := none }) (v := .pointer (some ⟨gw, t, none⟩)) rfl (by kernel_rfl) (by kernel_rfl) (by kernel_rfl) (fun _ _ _ h => h) (Or.inl ⟨by rfl, fun W hSw => by (try dsimp only at hSw); go_simp⟩) k0 ?_
                  try simp only [Act.put, List.setIfInBounds_toArray, List.set_cons_zero, List.set_cons_succ]
                  refine wpAnyH_take (i := 7) (oi := { dst := some 107, op := Go.Op.load 5 (Go.Operand.tmp 106), type := 5, pos := "outright.go:62", after := #[{ on := 6, ground := Go.Ground.data }], guard := none }) (v := .int .u8 (v : Int)) rfl (by kernel_rfl) (by kernel_rfl) (by kernel_rfl) (fun _ _ _ h => h) (Or.inl ⟨by rfl, fun W hSw => by subst hSw; go_simp⟩) k0 ?_
                  try simp only [Act.put, List.setIfInBounds_toArray, List.set_cons_zero, List.set_cons_succ]
                  refine wpAnyH_take (i := 8) (oi := { dst := some 108, op := Go.Op.binOp Go.BinOp.neq 5 (Go.Operand.tmp 103) (Go.Operand.tmp 107) 5, type := 4, pos := "outright.go:62", after := #[{ on := 3, ground := Go.Ground.data }, { on := 7, ground := Go.Ground.data }], guard := none }) (v := .bool true) rfl (by kernel_rfl) (by kernel_rfl) (by kernel_rfl) (fun _ _ _ h => h) (Or.inl ⟨by rfl, fun W hSw => by (try dsimp only at hSw); go_simp⟩) k0 ?_
                  try simp only [Act.put, List.setIfInBounds_toArray, List.set_cons_zero, List.set_cons_succ]
                  refine wpAnyH_take (i := 9) (oi := { dst := some 109, op := Go.Op.move (Go.Operand.tmp 108), type := 4, pos := "outright.go:62", after := #[{ on := 8, ground := Go.Ground.data }], guard := none }) (v := .bool true) rfl (by kernel_rfl) (by kernel_rfl) (by kernel_rfl) (fun _ _ _ h => h) (Or.inl ⟨by rfl, fun W hSw => by (try dsimp only at hSw); go_simp⟩) k0 ?_
                  try simp only [Act.put, List.setIfInBounds_toArray, List.set_cons_zero, List.set_cons_succ]
                  refine wpAnyH_take (i := 10) (oi := { dst := some 110, op := Go.Op.move (Go.Operand.tmp 19), type := 3, pos := "outright.go:62", after := #[{ on := 9, ground := Go.Ground.guard }], guard := some (9, true) }) (v := .int .i64 (t : Int)) rfl (by kernel_rfl) (by kernel_rfl) (by kernel_rfl) (fun _ _ _ h => h) (Or.inl ⟨by rfl, fun W hSw => by (try dsimp only at hSw); go_simp⟩) k0 ?_
                  try simp only [Act.put, List.setIfInBounds_toArray, List.set_cons_zero, List.set_cons_succ]
                  refine wpAnyH_take (i := 11) (oi := { dst := some 111, op := Go.Op.binOp Go.BinOp.quo 3 (Go.Operand.tmp 110) (Go.Operand.const (Go.Value.int Go.IntKind.i64 2048)) 3, type := 3, pos := "outright.go:62", after := #[{ on := 10, ground := Go.Ground.data }, { on := 9, ground := Go.Ground.guard }], guard := some (9, true) }) (v := .int .i64 (q : Int)) rfl (by kernel_rfl) (by kernel_rfl) (by kernel_rfl) (fun _ _ _ h => h) (Or.inl ⟨by rfl, fun W hSw => by (try dsimp only at hSw); go_simp⟩) k0 ?_
                  try simp only [Act.put, List.setIfInBounds_toArray, List.set_cons_zero, List.set_cons_succ]
                  refine wpAnyH_take (i := 12) (oi := { dst := some 112, op := Go.Op.indexAddr 44 (Go.Operand.tmp 6) (Go.Operand.tmp 111), type := 0, pos := "outright.go:62", after := #[{ on := 11, ground := Go.Ground.data }, { on := 9, ground := Go.Ground.guard }], guard := some (9, true) }) (v := .pointer (some ⟨w.heap.size, q, none⟩)) rfl (by kernel_rfl) (by kernel_rfl) (by kernel_rfl) (fun _ _ _ h => h) (Or.inl ⟨by rfl, fun W hSw => by (try dsimp only at hSw); go_simp⟩) k0 ?_
                  try simp only [Act.put, List.setIfInBounds_toArray, List.set_cons_zero, List.set_cons_succ]
                  refine wpAnyH_take (i := 13) (oi := { dst := some 113, op := Go.Op.load 5 (Go.Operand.tmp 112), type := 5, pos := "outright.go:62", after := #[{ on := 12, ground := Go.Ground.data }, { on := 9, ground := Go.Ground.guard }], guard := some (9, true) }) (v := .int .u8 (r : Int)) rfl (by kernel_rfl) (by kernel_rfl) (by kernel_rfl) (fun _ _ _ h => h) (Or.inl ⟨by rfl, fun W hSw => by subst hSw; go_simp⟩) k0 ?_
                  try simp only [Act.put, List.setIfInBounds_toArray, List.set_cons_zero, List.set_cons_succ]
                  refine wpAnyH_take (i := 14) (oi := { dst := some 114, op := Go.Op.binOp Go.BinOp.rem 5 (Go.Operand.tmp 113) (Go.Operand.const (Go.Value.int Go.IntKind.u8 32)) 5, type := 5, pos := "outright.go:62", after := #[{ on := 13, ground := Go.Ground.data }, { on := 9, ground := Go.Ground.guard }], guard := some (9, true) }) (v := .int .u8 (r2 : Int)) rfl (by kernel_rfl) (by kernel_rfl) (by kernel_rfl) (fun _ _ _ h => h) (Or.inl ⟨by rfl, fun W hSw => by (try dsimp only at hSw); go_simp⟩) k0 ?_
                  try simp only [Act.put, List.setIfInBounds_toArray, List.set_cons_zero, List.set_cons_succ]
                  refine wpAnyH_take (i := 15) (oi := { dst := some 115, op := Go.Op.convert 5 3 (Go.Operand.tmp 114), type := 3, pos := "outright.go:62", after := #[{ on := 14, ground := Go.Ground.data }, { on := 9, ground := Go.Ground.guard }], guard := some (9, true) }) (v := .int .i64 (r2 : Int)) rfl (by kernel_rfl) (by kernel_rfl) (by kernel_rfl) (fun _ _ _ h => h) (Or.inl ⟨by rfl, fun W hSw => by (try dsimp only at hSw); go_simp⟩) k0 ?_
                  try simp only [Act.put, List.setIfInBounds_toArray, List.set_cons_zero, List.set_cons_succ]
                  refine wpAnyH_take (i := 16) (oi := { dst := some 116, op := Go.Op.binOp Go.BinOp.quo 3 (Go.Operand.tmp 115) (Go.Operand.const (Go.Value.int Go.IntKind.i64 2)) 3, type := 3, pos := "outright.go:62", after := #[{ on := 15, ground := Go.Ground.data }, { on := 9, ground := Go.Ground.guard }], guard := some (9, true) }) (v := .int .i64 (kk : Int)) rfl (by kernel_rfl) (by kernel_rfl) (by kernel_rfl) (fun _ _ _ h => h) (Or.inl ⟨by rfl, fun W hSw => by (try dsimp only at hSw); go_simp⟩) k0 ?_
                  try simp only [Act.put, List.setIfInBounds_toArray, List.set_cons_zero, List.set_cons_succ]
                  refine wpAnyH_take (i := 17) (oi := { dst := some 117, op := Go.Op.move (Go.Operand.tmp 13), type := 3, pos := "outright.go:62", after := #[{ on := 9, ground := Go.Ground.guard }], guard := some (9, true) }) (v := .int .i64 kv) rfl (by kernel_rfl) (by kernel_rfl) (by kernel_rfl) (fun _ _ _ h => h) (Or.inl ⟨by rfl, fun W hSw => by (try dsimp only at hSw); go_simp⟩) k0 ?_
                  try simp only [Act.put, List.setIfInBounds_toArray, List.set_cons_zero, List.set_cons_succ]
                  refine wpAnyH_take (i := 18) (oi := { dst := some 118, op := Go.Op.binOp Go.BinOp.neq 3 (Go.Operand.tmp 116) (Go.Operand.tmp 117) 3, type := 4, pos := "outright.go:62", after := #[{ on := 16, ground := Go.Ground.data }, { on := 17, ground := Go.Ground.data }, { on := 9, ground := Go.Ground.guard }], guard := some (9, true) }) (v := .bool false) rfl (by kernel_rfl) (by kernel_rfl) (by kernel_rfl) (fun _ _ _ h => h) (Or.inl ⟨by rfl, fun W hSw => by (try dsimp only at hSw); go_simp⟩) k0 ?_
                  try simp only [Act.put, List.setIfInBounds_toArray, List.set_cons_zero, List.set_cons_succ]
                  refine wpAnyH_take (i := 19) (oi := { dst := some 119, op := Go.Op.pick (Go.Operand.tmp 109) (Go.Operand.tmp 118) (Go.Operand.const (Go.Value.bool false)), type := 4, pos := "outright.go:62", after := #[{ on := 9, ground := Go.Ground.data }, { on := 18, ground := Go.Ground.data }], guard := none }) (v := .bool false) rfl (by kernel_rfl) (by kernel_rfl) (by kernel_rfl) (fun _ _ _ h => h) (Or.inl ⟨by rfl, fun W hSw => by (try dsimp only at hSw); go_simp⟩) k0 ?_
                  try simp only [Act.put, List.setIfInBounds_toArray, List.set_cons_zero, List.set_cons_succ]
                  refine wpAnyH_done (by kernel_rfl) ?_ _
                  refine NoPanic.normal ?_
                  clear k0
                  go_wp2
                  go_roundw
                  case rel => exact ⟨HB8.out, t + 1, by omega, by go_num⟩
                  case measure => simp [intOf]; omega
              · obtain rfl : t = n := by omega
                go_wp2
                go_roundw
                case rel => exact ⟨bel0 HW7.out HB7.out, HX7.out.below HB7.out, 1, by omega, by go_num, bs2, HS7.out.below HB7.out, gn, cn, rfl, HGE.out, HNOW.out.below HB7.out⟩
                case measure => simp [intOf]
        · skip
          have hix := py1 ad y
          have HXB : Hid (y ≤ 9223372036854775807) := Lib.hid (HY.out)
          have HPUT := Lib.hid (put_any a g h n M y kv (.slice p nb c) b bs ks wr HXB.out JS.out (HV.out.below JW.out))
          have HDF : Hid (∀ i, gt (putB (stP kv) n bs ks y b) i ≠ gt bs i → stP kv (gt ks (i / 2048)) = true) := Lib.hid (fun i h9 => put_diff JS.out.nums.1 h9)
          have HNOP : Hid (codeV (stP kv) n ks y (b.length : Int) ≠ 0 → putB (stP kv) n bs ks y b = bs) := Lib.hid putB_no
          have HL1 := Lib.hid JS.out.nums.1
          generalize putB (stP kv) n bs ks y b = bs2 at *
          generalize codeV (stP kv) n ks y (b.length : Int) = C at *
          go_wp2_with fail
          refine HPUT.out.mono ?_
          rintro e w5 ⟨rfl, hg5, hs5⟩
          have HS5 := Lib.hid hs5
          have HL2 := Lib.hid hs5.nums.1
          have HX5 := Lib.hid (JX.out.grown hg5 (fun e => by have := Option.some.inj e; have := HG.out.1; omega))
          have HW5 := Lib.hid (below_grown JW.out hg5 (by have := HG.out.1; omega))
          have HA5 := Lib.hid (JA.out.grown hg5 (fun e => by have := Option.some.inj e; have := JGE.out; have := HGB.out; omega))
          clear hg5 hs5 HPUT JS JX JW JA hix
          go_wp2_with fail
          refine (size_any a g n _ HS5.out.c0).mono ?_
          rintro e wx ⟨rfl, rfl⟩
          go_wp2_with fail
          refine (all_bytes HS5.out).mono ?_
          rintro e w7 ⟨sv, rfl, hh, hb7⟩
          obtain ⟨gn, cn, rfl, hge, -, hrow⟩ := own_some (show w7.ownsRow w5.heap.size 5 1 sv n (bsU bs2) from by rw [← HL2.out]; exact hh) HPOS.out (by rw [bsU_len]; exact HL2.out)
          have HNOW := Lib.hid hrow
          have HGE : Hid (B0 ≤ gn) := Lib.hid (Nat.le_trans (Nat.le_of_lt (Nat.lt_of_le_of_lt JGE.out HA5.out.lt)) hge)
          have HWAS := Lib.hid (HA5.out.below hb7)
          have HS7 := Lib.hid (HS5.out.below hb7)
          have HX7 := Lib.hid (HX5.out.below hb7)
          have HW7 := Lib.hid (bel0 HW5.out hb7)
          clear hb7 hh hge hrow HS5 HX5 HW5 HA5
          by_cases hC : C = 0
          · subst hC
            clear HNOP
            go_wp2
            go_loopw [19] (fun i wr => Below w7.heap.size w7 wr ∧ ∃ t : Nat, t ≤ n ∧ i = .int .i64 (t : Int)) (fun i _ => n - (intOf i).toNat)
            case atStart => exact ⟨Below.refl _ _, 0, Nat.zero_le _, rfl⟩
            case round =>
              obtain ⟨hb7, t, ht, rfl⟩ := hrel
              have HB8 := Lib.hid (hb7.trans (Below.refl _ wr).drew)
              have HB7 := Lib.hid hb7
              clear hb7
              by_cases hlt : t < n
              · obtain ⟨u, hu⟩ : ∃ u, u = (gt bs2 t).toNat := ⟨_, rfl⟩
                obtain ⟨v, hv⟩ : ∃ v, v = (gt bs t).toNat := ⟨_, rfl⟩
                have cu : wr.drew.cell? ⟨gn, t, none⟩ = some (.int .u8 (u : Int)) := by
                  rw [((HNOW.out.below HB8.out).cell t (by rw [bsU_len, HL2.out]; exact hlt)), bsU_get _ t (by rw [HL2.out]; exact hlt), hu]
                have cv : wr.drew.cell? ⟨gw, t, none⟩ = some (.int .u8 (v : Int)) := by
                  rw [((HWAS.out.below HB8.out).cell t (by rw [bsU_len, HL1.out]; exact hlt)), bsU_get _ t (by rw [HL1.out]; exact hlt), hv]
                have hltn : (t : Int) < (n : Int) := by omega
                have htn : (t : Int) ≤ 65536 := by have := HNM.out; omega
                by_cases e : u = v
                · have e1 : ((u : Int) != (v : Int)) = false := by rw [e]; simp
                  clear hu hv e
                  go_upto_region 26 with fail
                  refine wp_region_noPanic ?_
                  refine wp_region_held_drew (S := fun W => W = wr.drew) (by kernel_rfl) rfl (fun k0 => ?_)
                  show wpAnyH _ _ _ _ _ 20 #[false, false, false, false, false, false, false, false, false, false, false, false, false, false, false, false, false, false, false, false] _ _
                  refine wpAnyH_take (i := 0) (oi := { dst := some 100, op := Go.Op.move (Go.Operand.tmp 18), type := 29, pos := "outright.go:62", after := #[], guard := none }) (v := .slice (some ⟨gn, 0, none⟩) n cn) rfl (by kernel_rfl) (by kernel_rfl) (by kernel_rfl) (fun _ _ _ h => h) (Or.inl ⟨by rfl, fun W hSw => by (try dsimp only at hSw); go_simp⟩) k0 ?_
                  try simp only [Act.put, List.setIfInBounds_toArray, List.set_cons_zero, List.set_cons_succ]
                  refine wpAnyH_take (i := 1) (oi := { dst := some 101, op := Go.Op.move (Go.Operand.tmp 19), type := 3, pos := "outright.go:62", after := #[], guard := none }) (v := .int .i64 (t : Int)) rfl (by kernel_rfl) (by kernel_rfl) (by kernel_rfl) (fun _ _ _ h => h) (Or.inl ⟨by rfl, fun W hSw => by (try dsimp only at hSw); go_simp⟩) k0 ?_
                  try simp only [Act.put, List.setIfInBounds_toArray, List.set_cons_zero, List.set_cons_succ]
                  refine wpAnyH_take (i := 2) (oi := { dst := some 102, op := Go.Op.indexAddr 29 (Go.Operand.tmp 100) (Go.Operand.tmp 101), type := 0, pos := "outright.go:62", after := #[{ on := 0, ground := Go.Ground.data }, { on := 1, ground := Go.Ground.data }], guard := none }) (v := .pointer (some ⟨gn, t, none⟩)) rfl (by kernel_rfl) (by kernel_rfl) (by kernel_rfl) (fun _ _ _ h => h) (Or.inl ⟨by rfl, fun W hSw => by (try dsimp only at hSw); go_simp⟩) k0 ?_
                  try simp only [Act.put, List.setIfInBounds_toArray, List.set_cons_zero, List.set_cons_succ]
                  refine wpAnyH_take (i := 3) (oi := { dst := some 103, op := Go.Op.load 5 (Go.Operand.tmp 102), type := 5, pos := "outright.go:62", after := #[{ on := 2, ground := Go.Ground.data }], guard := none }) (v := .int .u8 (u : Int)) rfl (by kernel_rfl) (by kernel_rfl) (by kernel_rfl) (fun _ _ _ h => h) (Or.inl ⟨by rfl, fun W hSw => by subst hSw; go_simp⟩) k0 ?_
                  try simp only [Act.put, List.setIfInBounds_toArray, List.set_cons_zero, List.set_cons_succ]
                  refine wpAnyH_take (i := 4) (oi := { dst := some 104, op := Go.Op.move (Go.Operand.tmp 14), type := 29, pos := "outright.go:62", after := #[], guard := none }) (v := .slice (some ⟨gw, 0, none⟩) n cw) rfl (by kernel_rfl) (by kernel_rfl) (by kernel_rfl) (fun _ _ _ h => h) (Or.inl ⟨by rfl, fun W hSw => by (try dsimp only at hSw); go_simp⟩) k0 ?_
                  try simp only [Act.put, List.setIfInBounds_toArray, List.set_cons_zero, List.set_cons_succ]
                  refine wpAnyH_take (i := 5) (oi := { dst := some 105, op := Go.Op.move (Go.Operand.tmp 19), type := 3, pos := "outright.go:62", after := #[], guard := none }) (v := .int .i64 (t : Int)) rfl (by kernel_rfl) (by kernel_rfl) (by kernel_rfl) (fun _ _ _ h => h) (Or.inl ⟨by rfl, fun W hSw => by (try dsimp only at hSw); go_simp⟩) k0 ?_
                  try simp only [Act.put, List.setIfInBounds_toArray, List.set_cons_zero, List.set_cons_succ]
                  refine wpAnyH_take (i := 6) (oi := { dst := some 106, op := Go.Op.indexAddr 29 (Go.Operand.tmp 104) (Go.Operand.tmp 105), type := 0, pos := "outright.go:62", after := #[{ on := 4, ground := Go.Ground.data }, { on := 5, ground := Go.Ground.data }], guard := none }) (v := .pointer (some ⟨gw, t, none⟩)) rfl (by kernel_rfl) (by kernel_rfl) (by kernel_rfl) (fun _ _ _ h => h) (Or.inl ⟨by rfl, fun W hSw => by (try dsimp only at hSw); go_simp⟩) k0 ?_
                  try simp only [Act.put, List.setIfInBounds_toArray, List.set_cons_zero, List.set_cons_succ]
                  refine wpAnyH_take (i := 7) (oi := { dst := some 107, op := Go.Op.load 5 (Go.Operand.tmp 106), type := 5, pos := "outright.go:62", after := #[{ on := 6, ground := Go.Ground.data }], guard := none }) (v := .int .u8 (v : Int)) rfl (by kernel_rfl) (by kernel_rfl) (by kernel_rfl) (fun _ _ _ h => h) (Or.inl ⟨by rfl, fun W hSw => by subst hSw; go_simp⟩) k0 ?_
                  try simp only [Act.put, List.setIfInBounds_toArray, List.set_cons_zero, List.set_cons_succ]
                  refine wpAnyH_take (i := 8) (oi := { dst := some 108, op := Go.Op.binOp Go.BinOp.neq 5 (Go.Operand.tmp 103) (Go.Operand.tmp 107) 5, type := 4, pos := "outright.go:62", after := #[{ on := 3, ground := Go.Ground.data }, { on := 7, ground := Go.Ground.data }], guard := none }) (v := .bool false) rfl (by kernel_rfl) (by kernel_rfl) (by kernel_rfl) (fun _ _ _ h => h) (Or.inl ⟨by rfl, fun W hSw => by (try dsimp only at hSw); go_simp⟩) k0 ?_
                  try simp only [Act.put, List.setIfInBounds_toArray, List.set_cons_zero, List.set_cons_succ]
                  refine wpAnyH_take (i := 9) (oi := { dst := some 109, op := Go.Op.move (Go.Operand.tmp 108), type := 4, pos := "outright.go:62", after := #[{ on := 8, ground := Go.Ground.data }], guard := none }) (v := .bool false) rfl (by kernel_rfl) (by kernel_rfl) (by kernel_rfl) (fun _ _ _ h => h) (Or.inl ⟨by rfl, fun W hSw => by (try dsimp only at hSw); go_simp⟩) k0 ?_
                  try simp only [Act.put, List.setIfInBounds_toArray, List.set_cons_zero, List.set_cons_succ]
                  refine wpAnyH_take (i := 10) (oi := { dst := some 110, op := Go.Op.move (Go.Operand.tmp 19), type := 3, pos := "outright.go:62", after := #[{ on := 9, ground := Go.Ground.guard }], guard := some (9, true) }) (v := undef) rfl (by kernel_rfl) (by kernel_rfl) (by kernel_rfl) (fun _ _ _ h => h) (Or.inr ⟨by rfl, rfl⟩) k0 ?_
                  try simp only [Act.put, List.setIfInBounds_toArray, List.set_cons_zero, List.set_cons_succ]
                  refine wpAnyH_take (i := 11) (oi := { dst := some 111, op := Go.Op.binOp Go.BinOp.quo 3 (Go.Operand.tmp 110) (Go.Operand.const (Go.Value.int Go.IntKind.i64 2048)) 3, type := 3, pos := "outright.go:62", after := #[{ on := 10, ground := Go.Ground.data }, { on := 9, ground := Go.Ground.guard }], guard := some (9, true) }) (v := undef) rfl (by kernel_rfl) (by kernel_rfl) (by kernel_rfl) (fun _ _ _ h => h) (Or.inr ⟨by rfl, rfl⟩) k0 ?_
                  try simp only [Act.put, List.setIfInBounds_toArray, List.set_cons_zero, List.set_cons_succ]
                  refine wpAnyH_take (i := 12) (oi := { dst := some 112, op := Go.Op.indexAddr 44 (Go.Operand.tmp 6) (Go.Operand.tmp 111), type := 0, pos := "outright.go:62", after := #[{ on := 11, ground := Go.Ground.data }, { on := 9, ground := Go.Ground.guard }], guard := some (9, true) }) (v := undef) rfl (by kernel_rfl) (by kernel_rfl) (by kernel_rfl) (fun _ _ _ h => h) (Or.inr ⟨by rfl, rfl⟩) k0 ?_
                  try simp only [Act.put, List.setIfInBounds_toArray, List.set_cons_zero, List.set_cons_succ]
                  refine wpAnyH_take (i := 13) (oi := { dst := some 113, op := Go.Op.load 5 (Go.Operand.tmp 112), type := 5, pos := "outright.go:62", after := #[{ on := 12, ground := Go.Ground.data }, { on := 9, ground := Go.Ground.guard }], guard := some (9, true) }) (v := undef) rfl (by kernel_rfl) (by kernel_rfl) (by kernel_rfl) (fun _ _ _ h => h) (Or.inr ⟨by rfl, rfl⟩) k0 ?_
                  try simp only [Act.put, List.setIfInBounds_toArray, List.set_cons_zero, List.set_cons_succ]
                  refine wpAnyH_take (i := 14) (oi := { dst := some 114, op := Go.Op.binOp Go.BinOp.rem 5 (Go.Operand.tmp 113) (Go.Operand.const (Go.Value.int Go.IntKind.u8 32)) 5, type := 5, pos := "outright.go:62", after := #[{ on := 13, ground := Go.Ground.data }, { on := 9, ground := Go.Ground.guard }], guard := some (9, true) }) (v := undef) rfl (by kernel_rfl) (by kernel_rfl) (by kernel_rfl) (fun _ _ _ h => h) (Or.inr ⟨by rfl, rfl⟩) k0 ?_
                  try simp only [Act.put, List.setIfInBounds_toArray, List.set_cons_zero, List.set_cons_succ]
                  refine wpAnyH_take (i := 15) (oi := { dst := some 115, op := Go.Op.convert 5 3 (Go.Operand.tmp 114), type := 3, pos := "outright.go:62", after := #[{ on := 14, ground := Go.Ground.data }, { on := 9, ground := Go.Ground.guard }], guard := some (9, true) }) (v := undef) rfl (by kernel_rfl) (by kernel_rfl) (by kernel_rfl) (fun _ _ _ h => h) (Or.inr ⟨by rfl, rfl⟩) k0 ?_
                  try simp only [Act.put, List.setIfInBounds_toArray, List.set_cons_zero, List.set_cons_succ]
                  refine wpAnyH_take (i := 16) (oi := { dst := some 116, op := Go.Op.binOp Go.BinOp.quo 3 (Go.Operand.tmp 115) (Go.Operand.const (Go.Value.int Go.IntKind.i64 2)) 3, type := 3, pos := "outright.go:62", after := #[{ on := 15, ground := Go.Ground.data }, { on := 9, ground := Go.Ground.guard }], guard := some (9, true) }) (v := undef) rfl (by kernel_rfl) (by kernel_rfl) (by kernel_rfl) (fun _ _ _ h => h) (Or.inr ⟨by rfl, rfl⟩) k0 ?_
                  try simp only [Act.put, List.setIfInBounds_toArray, List.set_cons_zero, List.set_cons_succ]
                  refine wpAnyH_take (i := 17) (oi := { dst := some 117, op := Go.Op.move (Go.Operand.tmp 13), type := 3, pos := "outright.go:62", after := #[{ on := 9, ground := Go.Ground.guard }], guard := some (9, true) }) (v := undef) rfl (by kernel_rfl) (by kernel_rfl) (by kernel_rfl) (fun _ _ _ h => h) (Or.inr ⟨by rfl, rfl⟩) k0 ?_
                  try simp only [Act.put, List.setIfInBounds_toArray, List.set_cons_zero, List.set_cons_succ]
                  refine wpAnyH_take (i := 18) (oi := { dst := some 118, op := Go.Op.binOp Go.BinOp.neq 3 (Go.Operand.tmp 116) (Go.Operand.tmp 117) 3, type := 4, pos := "outright.go:62", after := #[{ on := 16, ground := Go.Ground.data }, { on := 17, ground := Go.Ground.data }, { on := 9, ground := Go.Ground.guard }], guard := some (9, true) }) (v := undef) rfl (by kernel_rfl) (by kernel_rfl) (by kernel_rfl) (fun _ _ _ h => h) (Or.inr ⟨by rfl, rfl⟩) k0 ?_
                  try simp only [Act.put, List.setIfInBounds_toArray, List.set_cons_zero, List.set_cons_succ]
                  refine wpAnyH_take (i := 19) (oi := { dst := some 119, op := Go.Op.pick (Go.Operand.tmp 109) (Go.Operand.tmp 118) (Go.Operand.const (Go.Value.bool false)), type := 4, pos := "outright.go:62", after := #[{ on := 9, ground := Go.Ground.data }, { on := 18, ground := Go.Ground.data }], guard := none }) (v := .bool false) rfl (by kernel_rfl) (by kernel_rfl) (by kernel_rfl) (fun _ _ _ h => h) (Or.inl ⟨by rfl, fun W hSw => by (try dsimp only at hSw); go_simp⟩) k0 ?_
                  try simp only [Act.put, List.setIfInBounds_toArray, List.set_cons_zero, List.set_cons_succ]
                  refine wpAnyH_done (by kernel_rfl) ?_ _
                  refine NoPanic.normal ?_
                  clear k0
                  go_wp2
                  go_roundw
                  case rel => exact ⟨HB8.out, t + 1, by omega, by go_num⟩
                  case measure => simp [intOf]; omega
                · have e1 : ((u : Int) != (v : Int)) = true := by
                    have : ¬ (u : Int) = (v : Int) := by omega
                    simpa using this
                  have hd := HDF.out t (fun h9 => e (by rw [hu, hv, h9]))
                  obtain ⟨q, hq⟩ : ∃ q, q = t / 2048 := ⟨_, rfl⟩
                  have hqM : q < M := by have := HNM.out; omega
                  have hq4 : q < 4 := by have := HM.out; omega
                  rw [← hq] at hd
                  obtain ⟨r, hr⟩ : ∃ r, r = (gt [x0, x1, x2, x3] q).toNat := ⟨_, rfl⟩
                  have hr256 : r < 256 := by rw [hr]; exact (gt _ q).toNat_lt
                  have cr : wr.drew.cell? ⟨w.heap.size, q, none⟩ = some (.int .u8 (r : Int)) := by
                    rw [key_cell (HX7.out.below HB8.out) q hq4, hr]
                  obtain ⟨r2, hr2⟩ : ∃ r2, r2 = r % 32 := ⟨_, rfl⟩
                  obtain ⟨kk, hkk⟩ : ∃ kk, kk = r2 / 2 := ⟨_, rfl⟩
                  have hkv : kv = (kk : Int) := by
                    have h8 := HKEYS.out q (by omega) hqM
                    unfold stP at hd
                    rw [h8, ← hr, ← hr2, ← hkk] at hd
                    have hk0 : (kv == 0) = false := by have := HKV.out; simp; omega
                    rw [hk0, Bool.false_or] at hd
                    exact of_decide_eq_true hd
                  have e2 : ((kk : Int) != kv) = false := by rw [hkv]; simp
                  have f1 : IntKind.i64.wrap ((t : Int) / 2048) = (q : Int) := by rw [show (t : Int) / 2048 = (q : Int) by omega]; exact i64wrap (by omega)
                  have f2 : (r : Int) % 32 = (r2 : Int) := by omega
                  have f3 : IntKind.i64.wrap (r2 : Int) = (r2 : Int) := i64wrap (by omega)
                  have f4 : IntKind.i64.wrap ((r2 : Int) / 2) = (kk : Int) := by rw [show (r2 : Int) / 2 = (kk : Int) by omega]; exact i64wrap (by omega)
                  have f5 : (q : Int) < 4 := by omega
                  have f6 : Int.tmod (r : Int) 32 = (r2 : Int) := by rw [Int.tmod_eq_emod_of_nonneg (by omega)]; exact f2
                  clear hu hv e hd hq hr hr2 hkk hkv hqM
                  go_upto_region 26 with fail
                  refine wp_region_noPanic ?_
                  refine wp_region_held_drew (S := fun W => W = wr.drew) (by kernel_rfl) rfl (fun k0 => ?_)
                  show wpAnyH _ _ _ _ _ 20 #[false, false, false, false, false, false, false, false, false, false, false, false, false, false, false, false, false, false, false, false] _ _
                  refine wpAnyH_take (i := 0) (oi := { dst := some 100, op := Go.Op.move (Go.Operand.tmp 18), type := 29, pos := "outright.go:62", after := #[], guard := none }) (v := .slice (some ⟨gn, 0, none⟩) n cn) rfl (by kernel_rfl) (by kernel_rfl) (by kernel_rfl) (fun _ _ _ h => h) (Or.inl ⟨by rfl, fun W hSw => by (try dsimp only at hSw); go_simp⟩) k0 ?_
                  try simp only [Act.put, List.setIfInBounds_toArray, List.set_cons_zero, List.set_cons_succ]
                  refine wpAnyH_take (i := 1) (oi := { dst := some 101, op := Go.Op.move (Go.Operand.tmp 19), type := 3, pos := "outright.go:62", after := #[], guard := none }) (v := .int .i64 (t : Int)) rfl (by kernel_rfl) (by kernel_rfl) (by kernel_rfl) (fun _ _ _ h => h) (Or.inl ⟨by rfl, fun W hSw => by (try dsimp only at hSw); go_simp⟩) k0 ?_
                  try simp only [Act.put, List.setIfInBounds_toArray, List.set_cons_zero, List.set_cons_succ]
                  refine wpAnyH_take (i := 2) (oi := { dst := some 102, op := Go.Op.indexAddr 29 (Go.Operand.tmp 100) (Go.Operand.tmp 101), type := 0, pos := "outright.go:62", after := #[{ on := 0, ground := Go.Ground.data }, { on := 1, ground := Go.Ground.data }], guard := none }) (v := .pointer (some ⟨gn, t, none⟩)) rfl (by kernel_rfl) (by kernel_rfl) (by kernel_rfl) (fun _ _ _ h => h) (Or.inl ⟨by rfl, fun W hSw => by (try dsimp only at hSw); go_simp⟩) k0 ?_
                  try simp only [Act.put, List.setIfInBounds_toArray, List.set_cons_zero, List.set_cons_succ]
                  refine wpAnyH_take (i := 3) (oi := { dst := some 103, op := Go.Op.load 5 (Go.Operand.tmp 102), type := 5, pos := "outright.go:62", after := #[{ on := 2, ground := Go.Ground.data }], guard := none }) (v := .int .u8 (u : Int)) rfl (by kernel_rfl) (by kernel_rfl) (by kernel_rfl) (fun _ _ _ h => h) (Or.inl ⟨by rfl, fun W hSw => by subst hSw; go_simp⟩) k0 ?_
                  try simp only [Act.put, List.setIfInBounds_toArray, List.set_cons_zero, List.set_cons_succ]
                  refine wpAnyH_take (i := 4) (oi := { dst := some 104, op := Go.Op.move (Go.Operand.tmp 14), type := 29, pos := "outright.go:62", after := #[], guard := none }) (v := .slice (some ⟨gw, 0, none⟩) n cw) rfl (by kernel_rfl) (by kernel_rfl) (by kernel_rfl) (fun _ _ _ h => h) (Or.inl ⟨by rfl, fun W hSw => by (try dsimp only at hSw); go_simp⟩) k0 ?_
                  try simp only [Act.put, List.setIfInBounds_toArray, List.set_cons_zero, List.set_cons_succ]
                  refine wpAnyH_take (i := 5) (oi := { dst := some 105, op := Go.Op.move (Go.Operand.tmp 19), type := 3, pos := "outright.go:62", after := #[], guard := none }) (v := .int .i64 (t : Int)) rfl (by kernel_rfl) (by kernel_rfl) (by kernel_rfl) (fun _ _ _ h => h) (Or.inl ⟨by rfl, fun W hSw => by (try dsimp only at hSw); go_simp⟩) k0 ?_
                  try simp only [Act.put, List.setIfInBounds_toArray, List.set_cons_zero, List.set_cons_succ]
                  refine wpAnyH_take (i := 6) (oi := { dst := some 106, op := Go.Op.indexAddr 29 (Go.Operand.tmp 104) (Go.Operand.tmp 105), type := 0, pos := "outright.go:62", after := #[{ on := 4, ground := Go.Ground.data }, { on := 5, ground := Go.Ground.data }], guard := none }) (v := .pointer (some ⟨gw, t, none⟩)) rfl (by kernel_rfl) (by kernel_rfl) (by kernel_rfl) (fun _ _ _ h => h) (Or.inl ⟨by rfl, fun W hSw => by (try dsimp only at hSw); go_simp⟩) k0 ?_
                  try simp only [Act.put, List.setIfInBounds_toArray, List.set_cons_zero, List.set_cons_succ]
                  refine wpAnyH_take (i := 7) (oi := { dst := some 107, op := Go.Op.load 5 (Go.Operand.tmp 106), type := 5, pos := "outright.go:62", after := #[{ on := 6, ground := Go.Ground.data }], guard := none }) (v := .int .u8 (v : Int)) rfl (by kernel_rfl) (by kernel_rfl) (by kernel_rfl) (fun _ _ _ h => h) (Or.inl ⟨by rfl, fun W hSw => by subst hSw; go_simp⟩) k0 ?_
                  try simp only [Act.put, List.setIfInBounds_toArray, List.set_cons_zero, List.set_cons_succ]
                  refine wpAnyH_take (i := 8) (oi := { dst := some 108, op := Go.Op.binOp Go.BinOp.neq 5 (Go.Operand.tmp 103) (Go.Operand.tmp 107) 5, type := 4, pos := "outright.go:62", after := #[{ on := 3, ground := Go.Ground.data }, { on := 7, ground := Go.Ground.data }], guard := none }) (v := .bool true) rfl (by kernel_rfl) (by kernel_rfl) (by kernel_rfl) (fun _ _ _ h => h) (Or.inl ⟨by rfl, fun W hSw => by (try dsimp only at hSw); go_simp⟩) k0 ?_
                  try simp only [Act.put, List.setIfInBounds_toArray, List.set_cons_zero, List.set_cons_succ]
                  refine wpAnyH_take (i := 9) (oi := { dst := some 109, op := Go.Op.move (Go.Operand.tmp 108), type := 4, pos := "outright.go:62", after := #[{ on := 8, ground := Go.Ground.data }], guard := none }) (v := .bool true) rfl (by kernel_rfl) (by kernel_rfl) (by kernel_rfl) (fun _ _ _ h => h) (Or.inl ⟨by rfl, fun W hSw => by (try dsimp only at hSw); go_simp⟩) k0 ?_
                  try simp only [Act.put, List.setIfInBounds_toArray, List.set_cons_zero, List.set_cons_succ]
                  refine wpAnyH_take (i := 10) (oi := { dst := some 110, op := Go.Op.move (Go.Operand.tmp 19), type := 3, pos := "outright.go:62", after := #[{ on := 9, ground := Go.Ground.guard }], guard := some (9, true) }) (v := .int .i64 (t : Int)) rfl (by kernel_rfl) (by kernel_rfl) (by kernel_rfl) (fun _ _ _ h => h) (Or.inl ⟨by rfl, fun W hSw => by (try dsimp only at hSw); go_simp⟩) k0 ?_
                  try simp only [Act.put, List.setIfInBounds_toArray, List.set_cons_zero, List.set_cons_succ]
                  refine wpAnyH_take (i := 11) (oi := { dst := some 111, op := Go.Op.binOp Go.BinOp.quo 3 (Go.Operand.tmp 110) (Go.Operand.const (Go.Value.int Go.IntKind.i64 2048)) 3, type := 3, pos := "outright.go:62", after := #[{ on := 10, ground := Go.Ground.data }, { on := 9, ground := Go.Ground.guard }], guard := some (9, true) }) (v := .int .i64 (q : Int)) rfl (by kernel_rfl) (by kernel_rfl) (by kernel_rfl) (fun _ _ _ h => h) (Or.inl ⟨by rfl, fun W hSw => by (try dsimp only at hSw); go_simp⟩) k0 ?_
                  try simp only [Act.put, List.setIfInBounds_toArray, List.set_cons_zero, List.set_cons_succ]
                  refine wpAnyH_take (i := 12) (oi := { dst := some 112, op := Go.Op.indexAddr 44 (Go.Operand.tmp 6) (Go.Operand.tmp 111), type := 0, pos := "outright.go:62", after := #[{ on := 11, ground := Go.Ground.data }, { on := 9, ground := Go.Ground.guard }], guard := some (9, true) }) (v := .pointer (some ⟨w.heap.size, q, none⟩)) rfl (by kernel_rfl) (by kernel_rfl) (by kernel_rfl) (fun _ _ _ h => h) (Or.inl ⟨by rfl, fun W hSw => by (try dsimp only at hSw); go_simp⟩) k0 ?_
                  try simp only [Act.put, List.setIfInBounds_toArray, List.set_cons_zero, List.set_cons_succ]
                  refine wpAnyH_take (i := 13) (oi := { dst := some 113, op := Go.Op.load 5 (Go.Operand.tmp 112), type := 5, pos := "outright.go:62", after := #[{ on := 12, ground := Go.Ground.data }, { on := 9, ground := Go.Ground.guard }], guard := some (9, true) }) (v := .int .u8 (r : Int)) rfl (by kernel_rfl) (by kernel_rfl) (by kernel_rfl) (fun _ _ _ h => h) (Or.inl ⟨by rfl, fun W hSw => by subst hSw; go_simp⟩) k0 ?_
                  try simp only [Act.put, List.setIfInBounds_toArray, List.set_cons_zero, List.set_cons_succ]
                  refine wpAnyH_take (i := 14) (oi := { dst := some 114, op := Go.Op.binOp Go.BinOp.rem 5 (Go.Operand.tmp 113) (Go.Operand.const (Go.Value.int Go.IntKind.u8 32)) 5, type := 5, pos := "outright.go:62", after := #[{ on := 13, ground := Go.Ground.data }, { on := 9, ground := Go.Ground.guard }], guard := some (9, true) }) (v := .int .u8 (r2 : Int)) rfl (by kernel_rfl) (by kernel_rfl) (by kernel_rfl) (fun _ _ _ h => h) (Or.inl ⟨by rfl, fun W hSw => by (try dsimp only at hSw); go_simp⟩) k0 ?_
                  try simp only [Act.put, List.setIfInBounds_toArray, List.set_cons_zero, List.set_cons_succ]
                  refine wpAnyH_take (i := 15) (oi := { dst := some 115, op := Go.Op.convert 5 3 (Go.Operand.tmp 114), type := 3, pos := "outright.go:62", after := #[{ on := 14, ground := Go.Ground.data }, { on := 9, ground := Go.Ground.guard }], guard := some (9, true) }) (v := .int .i64 (r2 : Int)) rfl (by kernel_rfl) (by kernel_rfl) (by kernel_rfl) (fun _ _ _ h => h) (Or.inl ⟨by rfl, fun W hSw => by (try dsimp only at hSw); go_simp⟩) k0 ?_
                  try simp only [Act.put, List.setIfInBounds_toArray, List.set_cons_zero, List.set_cons_succ]
                  refine wpAnyH_take (i := 16) (oi := { dst := some 116, op := Go.Op.binOp Go.BinOp.quo 3 (Go.Operand.tmp 115) (Go.Operand.const (Go.Value.int Go.IntKind.i64 2)) 3, type := 3, pos := "outright.go:62", after := #[{ on := 15, ground := Go.Ground.data }, { on := 9, ground := Go.Ground.guard }], guard := some (9, true) }) (v := .int .i64 (kk : Int)) rfl (by kernel_rfl) (by kernel_rfl) (by kernel_rfl) (fun _ _ _ h => h) (Or.inl ⟨by rfl, fun W hSw => by (try dsimp only at hSw); go_simp⟩) k0 ?_
                  try simp only [Act.put, List.setIfInBounds_toArray, List.set_cons_zero, List.set_cons_succ]
                  refine wpAnyH_take (i := 17) (oi := { dst := some 117, op := Go.Op.move (Go.Operand.tmp 13), type := 3, pos := "outright.go:62", after := #[{ on := 9, ground := Go.Ground.guard }], guard := some (9, true) }) (v := .int .i64 kv) rfl (by kernel_rfl) (by kernel_rfl) (by kernel_rfl) (fun _ _ _ h => h) (Or.inl ⟨by rfl, fun W hSw => by (try dsimp only at hSw); go_simp⟩) k0 ?_
                  try simp only [Act.put, List.setIfInBounds_toArray, List.set_cons_zero, List.set_cons_succ]
                  refine wpAnyH_take (i := 18) (oi := { dst := some 118, op := Go.Op.binOp Go.BinOp.neq 3 (Go.Operand.tmp 116) (Go.Operand.tmp 117) 3, type := 4, pos := "outright.go:62", after := #[{ on := 16, ground := Go.Ground.data }, { on := 17, ground := Go.Ground.data }, { on := 9, ground := Go.Ground.guard }], guard := some (9, true) }) (v := .bool false) rfl (by kernel_rfl) (by kernel_rfl) (by kernel_rfl) (fun _ _ _ h => h) (Or.inl ⟨by rfl, fun W hSw => by (try dsimp only at hSw); go_simp⟩) k0 ?_
                  try simp only [Act.put, List.setIfInBounds_toArray, List.set_cons_zero, List.set_cons_succ]
                  refine wpAnyH_take (i := 19) (oi := { dst := some 119, op := Go.Op.pick (Go.Operand.tmp 109) (Go.Operand.tmp 118) (Go.Operand.const (Go.Value.bool false)), type := 4, pos := "outright.go:62", after := #[{ on := 9, ground := Go.Ground.data }, { on := 18, ground := Go.Ground.data }], guard := none }) (v := .bool false) rfl (by kernel_rfl) (by kernel_rfl) (by kernel_rfl) (fun _ _ _ h => h) (Or.inl ⟨by rfl, fun W hSw => by (try dsimp only at hSw); go_simp⟩) k0 ?_
                  try simp only [Act.put, List.setIfInBounds_toArray, List.set_cons_zero, List.set_cons_succ]
                  refine wpAnyH_done (by kernel_rfl) ?_ _
                  refine NoPanic.normal ?_
                  clear k0
                  go_wp2
                  go_roundw
                  case rel => exact ⟨HB8.out, t + 1, by omega, by go_num⟩
                  case measure => simp [intOf]; omega
              · obtain rfl : t = n := by omega
                go_wp2
                go_roundw
                case rel => exact ⟨bel0 HW7.out HB7.out, HX7.out.below HB7.out, 2, by omega, by go_num, bs2, HS7.out.below HB7.out, gn, cn, rfl, HGE.out, HNOW.out.below HB7.out⟩
                case measure => simp [intOf]
          · obtain rfl := HNOP.out hC
            have cv1 := row_conv HNOW.out HL2.out
            have cv2 := row_conv HWAS.out HL1.out
            have hC0 : (C != 0) = true := by simpa using hC
            clear hC HNOP
            go_wp2
            clear cv1 cv2 hC0
            go_loopw [19] (fun i wr => Below w7.heap.size w7 wr ∧ ∃ t : Nat, t ≤ n ∧ i = .int .i64 (t : Int)) (fun i _ => n - (intOf i).toNat)
            case atStart => exact ⟨Below.refl _ _, 0, Nat.zero_le _, rfl⟩
            case round =>
              obtain ⟨hb7, t, ht, rfl⟩ := hrel
              have HB8 := Lib.hid (hb7.trans (Below.refl _ wr).drew)
              have HB7 := Lib.hid hb7
              clear hb7
              by_cases hlt : t < n
              · obtain ⟨u, hu⟩ : ∃ u, u = (gt bs2 t).toNat := ⟨_, rfl⟩
                obtain ⟨v, hv⟩ : ∃ v, v = (gt bs2 t).toNat := ⟨_, rfl⟩
                have cu : wr.drew.cell? ⟨gn, t, none⟩ = some (.int .u8 (u : Int)) := by
                  rw [((HNOW.out.below HB8.out).cell t (by rw [bsU_len, HL2.out]; exact hlt)), bsU_get _ t (by rw [HL2.out]; exact hlt), hu]
                have cv : wr.drew.cell? ⟨gw, t, none⟩ = some (.int .u8 (v : Int)) := by
                  rw [((HWAS.out.below HB8.out).cell t (by rw [bsU_len, HL1.out]; exact hlt)), bsU_get _ t (by rw [HL1.out]; exact hlt), hv]
                have hltn : (t : Int) < (n : Int) := by omega
                have htn : (t : Int) ≤ 65536 := by have := HNM.out; omega
                by_cases e : u = v
                · have e1 : ((u : Int) != (v : Int)) = false := by rw [e]; simp
                  clear hu hv e
                  go_upto_region 26 with fail
                  refine wp_region_noPanic ?_
                  refine wp_region_held_drew (S := fun W => W = wr.drew) (by kernel_rfl) rfl (fun k0 => ?_)
                  show wpAnyH _ _ _ _ _ 20 #[false, false, false, false, false, false, false, false, false, false, false, false, false, false, false, false, false, false, false, false] _ _
                  refine wpAnyH_take (i := 0) (oi := { dst := some 100, op := Go.Op.move (Go.Operand.tmp 18), type := 29, pos := "outright.go:62", after := #[], guard := none }) (v := .slice (some ⟨gn, 0, none⟩) n cn) rfl (by kernel_rfl) (by kernel_rfl) (by kernel_rfl) (fun _ _ _ h => h) (Or.inl ⟨by rfl, fun W hSw => by (try dsimp only at hSw); go_simp⟩) k0 ?_
                  try simp only [Act.put, List.setIfInBounds_toArray, List.set_cons_zero, List.set_cons_succ]
                  refine wpAnyH_take (i := 1) (oi := { dst := some 101, op := Go.Op.move (Go.Operand.tmp 19), type := 3, pos := "outright.go:62", after := #[], guard := none }) (v := .int .i64 (t : Int)) rfl (by kernel_rfl) (by kernel_rfl) (by kernel_rfl) (fun _ _ _ h => h) (Or.inl ⟨by rfl, fun W hSw => by (try dsimp only at hSw); go_simp⟩) k0 ?_
                  try simp only [Act.put, List.setIfInBounds_toArray, List.set_cons_zero, List.set_cons_succ]
                  refine wpAnyH_take (i := 2) (oi := { dst := some 102, op := Go.Op.indexAddr 29 (Go.Operand.tmp 100) (Go.Operand.tmp 101), type := 0, pos := "outright.go:62", after := #[{ on := 0, ground := Go.Ground.data }, { on := 1, ground := Go.Ground.data }], guard := none }) (v := .pointer (some ⟨gn, t, none⟩)) rfl (by kernel_rfl) (by kernel_rfl) (by kernel_rfl) (fun _ _ _ h => h) (Or.inl ⟨by rfl, fun W hSw => by (try dsimp only at hSw); go_simp⟩) k0 ?_
                  try simp only [Act.put, List.setIfInBounds_toArray, List.set_cons_zero, List.set_cons_succ]
                  refine wpAnyH_take (i := 3) (oi := { dst := some 103, op := Go.Op.load 5 (Go.Operand.tmp 102), type := 5, pos := "outright.go:62", after := #[{ on := 2, ground := Go.Ground.data }], guard := none }) (v := .int .u8 (u : Int)) rfl (by kernel_rfl) (by kernel_rfl) (by kernel_rfl) (fun _ _ _ h => h) (Or.inl ⟨by rfl, fun W hSw => by subst hSw; go_simp⟩) k0 ?_
                  try simp only [Act.put, List.setIfInBounds_toArray, List.set_cons_zero, List.set_cons_succ]
                  refine wpAnyH_take (i := 4) (oi := { dst := some 104, op := Go.Op.move (Go.Operand.tmp 14), type := 29, pos := "outright.go:62", after := #[], guard := none }) (v := .slice (some ⟨gw, 0, none⟩) n cw) rfl (by kernel_rfl) (by kernel_rfl) (by kernel_rfl) (fun _ _ _ h => h) (Or.inl ⟨by rfl, fun W hSw => by (try dsimp only at hSw); go_simp⟩) k0 ?_
                  try simp only [Act.put, List.setIfInBounds_toArray, List.set_cons_zero, List.set_cons_succ]
                  refine wpAnyH_take (i := 5) (oi := { dst := some 105, op := Go.Op.move (Go.Operand.tmp 19), type := 3, pos := "outright.go:62", after := #[], guard := none }) (v := .int .i64 (t : Int)) rfl (by kernel_rfl) (by kernel_rfl) (by kernel_rfl) (fun _ _ _ h => h) (Or.inl ⟨by rfl, fun W hSw => by (try dsimp only at hSw); go_simp⟩) k0 ?_
                  try simp only [Act.put, List.setIfInBounds_toArray, List.set_cons_zero, List.set_cons_succ]
                  refine wpAnyH_take (i := 6) (oi := { dst := some 106, op := Go.Op.indexAddr 29 (Go.Operand.tmp 104) (Go.Operand.tmp 105), type := 0, pos := "outright.go:62", after := #[{ on := 4, ground := Go.Ground.data }, { on := 5, ground := Go.Ground.data }], guard := none }) (v := .pointer (some ⟨gw, t, none⟩)) rfl (by kernel_rfl) (by kernel_rfl) (by kernel_rfl) (fun _ _ _ h => h) (Or.inl ⟨by rfl, fun W hSw => by (try dsimp only at hSw); go_simp⟩) k0 ?_
                  try simp only [Act.put, List.setIfInBounds_toArray, List.set_cons_zero, List.set_cons_succ]
                  refine wpAnyH_take (i := 7) (oi := { dst := some 107, op := Go.Op.load 5 (Go.Operand.tmp 106), type := 5, pos := "outright.go:62", after := #[{ on := 6, ground := Go.Ground.data }], guard := none }) (v := .int .u8 (v : Int)) rfl (by kernel_rfl) (by kernel_rfl) (by kernel_rfl) (fun _ _ _ h => h) (Or.inl ⟨by rfl, fun W hSw => by subst hSw; go_simp⟩) k0 ?_
                  try simp only [Act.put, List.setIfInBounds_toArray, List.set_cons_zero, List.set_cons_succ]
                  refine wpAnyH_take (i := 8) (oi := { dst := some 108, op := Go.Op.binOp Go.BinOp.neq 5 (Go.Operand.tmp 103) (Go.Operand.tmp 107) 5, type := 4, pos := "outright.go:62", after := #[{ on := 3, ground := Go.Ground.data }, { on := 7, ground := Go.Ground.data }], guard := none }) (v := .bool false) rfl (by kernel_rfl) (by kernel_rfl) (by kernel_rfl) (fun _ _ _ h => h) (Or.inl ⟨by rfl, fun W hSw => by (try dsimp only at hSw); go_simp⟩) k0 ?_
                  try simp only [Act.put, List.setIfInBounds_toArray, List.set_cons_zero, List.set_cons_succ]
                  refine wpAnyH_take (i := 9) (oi := { dst := some 109, op := Go.Op.move (Go.Operand.tmp 108), type := 4, pos := "outright.go:62", after := #[{ on := 8, ground := Go.Ground.data }], guard := none }) (v := .bool false) rfl (by kernel_rfl) (by kernel_rfl) (by kernel_rfl) (fun _ _ _ h => h) (Or.inl ⟨by rfl, fun W hSw => by (try dsimp only at hSw); go_simp⟩) k0 ?_
                  try simp only [Act.put, List.setIfInBounds_toArray, List.set_cons_zero, List.set_cons_succ]
                  refine wpAnyH_take (i := 10) (oi := { dst := some 110, op := Go.Op.move (Go.Operand.tmp 19), type := 3, pos := "outright.go:62", after := #[{ on := 9, ground := Go.Ground.guard }], guard := some (9, true) }) (v := undef) rfl (by kernel_rfl) (by kernel_rfl) (by kernel_rfl) (fun _ _ _ h => h) (Or.inr ⟨by rfl, rfl⟩) k0 ?_
                  try simp only [Act.put, List.setIfInBounds_toArray, List.set_cons_zero, List.set_cons_succ]
                  refine wpAnyH_take (i := 11) (oi := { dst := some 111, op := Go.Op.binOp Go.BinOp.quo 3 (Go.Operand.tmp 110) (Go.Operand.const (Go.Value.int Go.IntKind.i64 2048)) 3, type := 3, pos := "outright.go:62", after := #[{ on := 10, ground := Go.Ground.data }, { on := 9, ground := Go.Ground.guard }], guard := some (9, true) }) (v := undef) rfl (by kernel_rfl) (by kernel_rfl) (by kernel_rfl) (fun _ _ _ h => h) (Or.inr ⟨by rfl, rfl⟩) k0 ?_
                  try simp only [Act.put, List.setIfInBounds_toArray, List.set_cons_zero, List.set_cons_succ]
                  refine wpAnyH_take (i := 12) (oi := { dst := some 112, op := Go.Op.indexAddr 44 (Go.Operand.tmp 6) (Go.Operand.tmp 111), type := 0, pos := "outright.go:62", after := #[{ on := 11, ground := Go.Ground.data }, { on := 9, ground := Go.Ground.guard }], guard := some (9, true) }) (v := undef) rfl (by kernel_rfl) (by kernel_rfl) (by kernel_rfl) (fun _ _ _ h => h) (Or.inr ⟨by rfl, rfl⟩) k0 ?_
                  try simp only [Act.put, List.setIfInBounds_toArray, List.set_cons_zero, List.set_cons_succ]
                  refine wpAnyH_take (i := 13) (oi := { dst := some 113, op := Go.Op.load 5 (Go.Operand.tmp 112), type := 5, pos := "outright.go:62", after := #[{ on := 12, ground := Go.Ground.data }, { on := 9, ground := Go.Ground.guard }], guard := some (9, true) }) (v := undef) rfl (by kernel_rfl) (by kernel_rfl) (by kernel_rfl) (fun _ _ _ h => h) (Or.inr ⟨by rfl, rfl⟩) k0 ?_
                  try simp only [Act.put, List.setIfInBounds_toArray, List.set_cons_zero, List.set_cons_succ]
                  refine wpAnyH_take (i := 14) (oi := { dst := some 114, op := Go.Op.binOp Go.BinOp.rem 5 (Go.Operand.tmp 113) (Go.Operand.const (Go.Value.int Go.IntKind.u8 32)) 5, type := 5, pos := "outright.go:62", after := #[{ on := 13, ground := Go.Ground.data }, { on := 9, ground := Go.Ground.guard }], guard := some (9, true) }) (v := undef) rfl (by kernel_rfl) (by kernel_rfl) (by kernel_rfl) (fun _ _ _ h => h) (Or.inr ⟨by rfl, rfl⟩) k0 ?_
                  try simp only [Act.put, List.setIfInBounds_toArray, List.set_cons_zero, List.set_cons_succ]
                  refine wpAnyH_take (i := 15) (oi := { dst := some 115, op := Go.Op.convert 5 3 (Go.Operand.tmp 114), type := 3, pos := "outright.go:62", after := #[{ on := 14, ground := Go.Ground.data }, { on := 9, ground := Go.Ground.guard }], guard := some (9, true) }) (v := undef) rfl (by kernel_rfl) (by kernel_rfl) (by kernel_rfl) (fun _ _ _ h => h) (Or.inr ⟨by rfl, rfl⟩) k0 ?_
                  try simp only [Act.put, List.setIfInBounds_toArray, List.set_cons_zero, List.set_cons_succ]
                  refine wpAnyH_take (i := 16) (oi := { dst := some 116, op := Go.Op.binOp Go.BinOp.quo 3 (Go.Operand.tmp 115) (Go.Operand.const (Go.Value.int Go.IntKind.i64 2)) 3, type := 3, pos := "outright.go:62", after := #[{ on := 15, ground := Go.Ground.data }, { on := 9, ground := Go.Ground.guard }], guard := some (9, true) }) (v := undef) rfl (by kernel_rfl) (by kernel_rfl) (by kernel_rfl) (fun _ _ _ h => h) (Or.inr ⟨by rfl, rfl⟩) k0 ?_
                  try simp only [Act.put, List.setIfInBounds_toArray, List.set_cons_zero, List.set_cons_succ]
                  refine wpAnyH_take (i := 17) (oi := { dst := some 117, op := Go.Op.move (Go.Operand.tmp 13), type := 3, pos := "outright.go:62", after := #[{ on := 9, ground := Go.Ground.guard }], guard := some (9, true) }) (v := undef) rfl (by kernel_rfl) (by kernel_rfl) (by kernel_rfl) (fun _ _ _ h => h) (Or.inr ⟨by rfl, rfl⟩) k0 ?_
                  try simp only [Act.put, List.setIfInBounds_toArray, List.set_cons_zero, List.set_cons_succ]
                  refine wpAnyH_take (i := 18) (oi := { dst := some 118, op := Go.Op.binOp Go.BinOp.neq 3 (Go.Operand.tmp 116) (Go.Operand.tmp 117) 3, type := 4, pos := "outright.go:62", after := #[{ on := 16, ground := Go.Ground.data }, { on := 17, ground := Go.Ground.data }, { on := 9, ground := Go.Ground.guard }], guard := some (9, true) }) (v := undef) rfl (by kernel_rfl) (by kernel_rfl) (by kernel_rfl) (fun _ _ _ h => h) (Or.inr ⟨by rfl, rfl⟩) k0 ?_
                  try simp only [Act.put, List.setIfInBounds_toArray, List.set_cons_zero, List.set_cons_succ]
                  refine wpAnyH_take (i := 19) (oi := { dst := some 119, op := Go.Op.pick (Go.Operand.tmp 109) (Go.Operand.tmp 118) (Go.Operand.const (Go.Value.bool false)), type := 4, pos := "outright.go:62", after := #[{ on := 9, ground := Go.Ground.data }, { on := 18, ground := Go.Ground.data }], guard := none }) (v := .bool false) rfl (by kernel_rfl) (by kernel_rfl) (by kernel_rfl) (fun _ _ _ h => h) (Or.inl ⟨by rfl, fun W hSw => by (try dsimp only at hSw); go_simp⟩) k0 ?_
                  try simp only [Act.put, List.setIfInBounds_toArray, List.set_cons_zero, List.set_cons_succ]
                  refine wpAnyH_done (by kernel_rfl) ?_ _
                  refine NoPanic.normal ?_
                  clear k0
                  go_wp2
                  go_roundw
                  case rel => exact ⟨HB8.out, t + 1, by omega, by go_num⟩
                  case measure => simp [intOf]; omega
                · have e1 : ((u : Int) != (v : Int)) = true := by
                    have : ¬ (u : Int) = (v : Int) := by omega
                    simpa using this
                  have hd := HDF.out t (fun h9 => e (by rw [hu, hv, h9]))
                  obtain ⟨q, hq⟩ : ∃ q, q = t / 2048 := ⟨_, rfl⟩
                  have hqM : q < M := by have := HNM.out; omega
                  have hq4 : q < 4 := by have := HM.out; omega
                  rw [← hq] at hd
                  obtain ⟨r, hr⟩ : ∃ r, r = (gt [x0, x1, x2, x3] q).toNat := ⟨_, rfl⟩
                  have hr256 : r < 256 := by rw [hr]; exact (gt _ q).toNat_lt
                  have cr : wr.drew.cell? ⟨w.heap.size, q, none⟩ = some (.int .u8 (r : Int)) := by
                    rw [key_cell (HX7.out.below HB8.out) q hq4, hr]
                  obtain ⟨r2, hr2⟩ : ∃ r2, r2 = r % 32 := ⟨_, rfl⟩
                  obtain ⟨kk, hkk⟩ : ∃ kk, kk = r2 / 2 := ⟨_, rfl⟩
                  have hkv : kv = (kk : Int) := by
                    have h8 := HKEYS.out q (by omega) hqM
                    unfold stP at hd
                    rw [h8, ← hr, ← hr2, ← hkk] at hd
                    have hk0 : (kv == 0) = false := by have := HKV.out; simp; omega
                    rw [hk0, Bool.false_or] at hd
                    exact of_decide_eq_true hd
                  have e2 : ((kk : Int) != kv) = false := by rw [hkv]; simp
                  have f1 : IntKind.i64.wrap ((t : Int) / 2048) = (q : Int) := by rw [show (t : Int) / 2048 = (q : Int) by omega]; exact i64wrap (by omega)
                  have f2 : (r : Int) % 32 = (r2 : Int) := by omega
                  have f3 : IntKind.i64.wrap (r2 : Int) = (r2 : Int) := i64wrap (by omega)
                  have f4 : IntKind.i64.wrap ((r2 : Int) / 2) = (kk : Int) := by rw [show (r2 : Int) / 2 = (kk : Int) by omega]; exact i64wrap (by omega)
                  have f5 : (q : Int) < 4 := by omega
                  have f6 : Int.tmod (r : Int) 32 = (r2 : Int) := by rw [Int.tmod_eq_emod_of_nonneg (by omega)]; exact f2
                  clear hu hv e hd hq hr hr2 hkk hkv hqM
                  go_upto_region 26 with fail
                  refine wp_region_noPanic ?_
                  refine wp_region_held_drew (S := fun W => W = wr.drew) (by kernel_rfl) rfl (fun k0 => ?_)
                  show wpAnyH _ _ _ _ _ 20 #[false, false, false, false, false, false, false, false, false, false, false, false, false, false, false, false, false, false, false, false] _ _
                  refine wpAnyH_take (i := 0) (oi := { dst := some 100, op := Go.Op.move (Go.Operand.tmp 18), type := 29, pos := "outright.go:62", after := #[], guard := none }) (v := .slice (some ⟨gn, 0, none⟩) n cn) rfl (by kernel_rfl) (by kernel_rfl) (by kernel_rfl) (fun _ _ _ h => h) (Or.inl ⟨by rfl, fun W hSw => by (try dsimp only at hSw); go_simp⟩) k0 ?_
                  try simp only [Act.put, List.setIfInBounds_toArray, List.set_cons_zero, List.set_cons_succ]
                  refine wpAnyH_take (i := 1) (oi := { dst := some 101, op := Go.Op.move (Go.Operand.tmp 19), type := 3, pos := "outright.go:62", after := #[], guard := none }) (v := .int .i64 (t : Int)) rfl (by kernel_rfl) (by kernel_rfl) (by kernel_rfl) (fun _ _ _ h => h) (Or.inl ⟨by rfl, fun W hSw => by (try dsimp only at hSw); go_simp⟩) k0 ?_
                  try simp only [Act.put, List.setIfInBounds_toArray, List.set_cons_zero, List.set_cons_succ]
                  refine wpAnyH_take (i := 2) (oi := { dst := some 102, op := Go.Op.indexAddr 29 (Go.Operand.tmp 100) (Go.Operand.tmp 101), type := 0, pos := "outright.go:62", after := #[{ on := 0, ground := Go.Ground.data }, { on := 1, ground := Go.Ground.data }], guard := none }) (v := .pointer (some ⟨gn, t, none⟩)) rfl (by kernel_rfl) (by kernel_rfl) (by kernel_rfl) (fun _ _ _ h => h) (Or.inl ⟨by rfl, fun W hSw => by (try dsimp only at hSw); go_simp⟩) k0 ?_
                  try simp only [Act.put, List.setIfInBounds_toArray, List.set_cons_zero, List.set_cons_succ]
                  refine wpAnyH_take (i := 3) (oi := { dst := some 103, op := Go.Op.load 5 (Go.Operand.tmp 102), type := 5, pos := "outright.go:62", after := #[{ on := 2, ground := Go.Ground.data }], guard := none }) (v := .int .u8 (u : Int)) rfl (by kernel_rfl) (by kernel_rfl) (by kernel_rfl) (fun _ _ _ h => h) (Or.inl ⟨by rfl, fun W hSw => by subst hSw; go_simp⟩) k0 ?_
                  try simp only [Act.put, List.setIfInBounds_toArray, List.set_cons_zero, List.set_cons_succ]
                  refine wpAnyH_take (i := 4) (oi := { dst := some 104, op := Go.Op.move (Go.Operand.tmp 14), type := 29, pos := "outright.go:62", after := #[], guard := none }) (v := .slice (some ⟨gw, 0, none⟩) n cw) rfl (by kernel_rfl) (by kernel_rfl) (by kernel_rfl) (fun _ _ _ h => h) (Or.inl ⟨by rfl, fun W hSw => by (try dsimp only at hSw); go_simp⟩) k0 ?_
                  try simp only [Act.put, List.setIfInBounds_toArray, List.set_cons_zero, List.set_cons_succ]
                  refine wpAnyH_take (i := 5) (oi := { dst := some 105, op := Go.Op.move (Go.Operand.tmp 19), type := 3, pos := "outright.go:62", after := #[], guard := none }) (v := .int .i64 (t : Int)) rfl (by kernel_rfl) (by kernel_rfl) (by kernel_rfl) (fun _ _ _ h => h) (Or.inl ⟨by rfl, fun W hSw => by (try dsimp only at hSw); go_simp⟩) k0 ?_
                  try simp only [Act.put, List.setIfInBounds_toArray, List.set_cons_zero, List.set_cons_succ]
                  refine wpAnyH_take (i := 6) (oi := { dst := some 106, op := Go.Op.indexAddr 29 (Go.Operand.tmp 104) (Go.Operand.tmp 105), type := 0, pos := "outright.go:62", after := #[{ on := 4, ground := Go.Ground.data }, { on := 5, ground := Go.Ground.data }], guard := none }) (v := .pointer (some ⟨gw, t, none⟩)) rfl (by kernel_rfl) (by kernel_rfl) (by kernel_rfl) (fun _ _ _ h => h) (Or.inl ⟨by rfl, fun W hSw => by (try dsimp only at hSw); go_simp⟩) k0 ?_
                  try simp only [Act.put, List.setIfInBounds_toArray, List.set_cons_zero, List.set_cons_succ]
                  refine wpAnyH_take (i := 7) (oi := { dst := some 107, op := Go.Op.load 5 (Go.Operand.tmp 106), type := 5, pos := "outright.go:62", after := #[{ on := 6, ground := Go.Ground.data }], guard := none }) (v := .int .u8 (v : Int)) rfl (by kernel_rfl) (by kernel_rfl) (by kernel_rfl) (fun _ _ _ h => h) (Or.inl ⟨by rfl, fun W hSw => by subst hSw; go_simp⟩) k0 ?_
                  try simp only [Act.put, List.setIfInBounds_toArray, List.set_cons_zero, List.set_cons_succ]
                  refine wpAnyH_take (i := 8) (oi := { dst := some 108, op := Go.Op.binOp Go.BinOp.neq 5 (Go.Operand.tmp 103) (Go.Operand.tmp 107) 5, type := 4, pos := "outright.go:62", after := #[{ on := 3, ground := Go.Ground.data }, { on := 7, ground := Go.Ground.data }], guard := none }) (v := .bool true) rfl (by kernel_rfl) (by kernel_rfl) (by kernel_rfl) (fun _ _ _ h => h) (Or.inl ⟨by rfl, fun W hSw => by (try dsimp only at hSw); go_simp⟩) k0 ?_
                  try simp only [Act.put, List.setIfInBounds_toArray, List.set_cons_zero, List.set_cons_succ]
                  refine wpAnyH_take (i := 9) (oi := { dst := some 109, op := Go.Op.move (Go.Operand.tmp 108), type := 4, pos := "outright.go:62", after := #[{ on := 8, ground := Go.Ground.data }], guard := none }) (v := .bool true) rfl (by kernel_rfl) (by kernel_rfl) (by kernel_rfl) (fun _ _ _ h => h) (Or.inl ⟨by rfl, fun W hSw => by (try dsimp only at hSw); go_simp⟩) k0 ?_
                  try simp only [Act.put, List.setIfInBounds_toArray, List.set_cons_zero, List.set_cons_succ]
                  refine wpAnyH_take (i := 10) (oi := { dst := some 110, op := Go.Op.move (Go.Operand.tmp 19), type := 3, pos := "outright.go:62", after := #[{ on := 9, ground := Go.Ground.guard }], guard := some (9, true) }) (v := .int .i64 (t : Int)) rfl (by kernel_rfl) (by kernel_rfl) (by kernel_rfl) (fun _ _ _ h => h) (Or.inl ⟨by rfl, fun W hSw => by (try dsimp only at hSw); go_simp⟩) k0 ?_
                  try simp only [Act.put, List.setIfInBounds_toArray, List.set_cons_zero, List.set_cons_succ]
                  refine wpAnyH_take (i := 11) (oi := { dst := some 111, op := Go.Op.binOp Go.BinOp.quo 3 (Go.Operand.tmp 110) (Go.Operand.const (Go.Value.int Go.IntKind.i64 2048)) 3, type := 3, pos := "outright.go:62", after := #[{ on := 10, ground := Go.Ground.data }, { on := 9, ground := Go.Ground.guard }], guard := some (9, true) }) (v := .int .i64 (q : Int)) rfl (by kernel_rfl) (by kernel_rfl) (by kernel_rfl) (fun _ _ _ h => h) (Or.inl ⟨by rfl, fun W hSw => by (try dsimp only at hSw); go_simp⟩) k0 ?_
                  try simp only [Act.put, List.setIfInBounds_toArray, List.set_cons_zero, List.set_cons_succ]
                  refine wpAnyH_take (i := 12) (oi := { dst := some 112, op := Go.Op.indexAddr 44 (Go.Operand.tmp 6) (Go.Operand.tmp 111), type := 0, pos := "outright.go:62", after := #[{ on := 11, ground := Go.Ground.data }, { on := 9, ground := Go.Ground.guard }], guard := some (9, true) }) (v := .pointer (some ⟨w.heap.size, q, none⟩)) rfl (by kernel_rfl) (by kernel_rfl) (by kernel_rfl) (fun _ _ _ h => h) (Or.inl ⟨by rfl, fun W hSw => by (try dsimp only at hSw); go_simp⟩) k0 ?_
                  try simp only [Act.put, List.setIfInBounds_toArray, List.set_cons_zero, List.set_cons_succ]
                  refine wpAnyH_take (i := 13) (oi := { dst := some 113, op := Go.Op.load 5 (Go.Operand.tmp 112), type := 5, pos := "outright.go:62", after := #[{ on := 12, ground := Go.Ground.data }, { on := 9, ground := Go.Ground.guard }], guard := some (9, true) }) (v := .int .u8 (r : Int)) rfl (by kernel_rfl) (by kernel_rfl) (by kernel_rfl) (fun _ _ _ h => h) (Or.inl ⟨by rfl, fun W hSw => by subst hSw; go_simp⟩) k0 ?_
                  try simp only [Act.put, List.setIfInBounds_toArray, List.set_cons_zero, List.set_cons_succ]
                  refine wpAnyH_take (i := 14) (oi := { dst := some 114, op := Go.Op.binOp Go.BinOp.rem 5 (Go.Operand.tmp 113) (Go.Operand.const (Go.Value.int Go.IntKind.u8 32)) 5, type := 5, pos := "outright.go:62", after := #[{ on := 13, ground := Go.Ground.data }, { on := 9, ground := Go.Ground.guard }], guard := some (9, true) }) (v := .int .u8 (r2 : Int)) rfl (by kernel_rfl) (by kernel_rfl) (by kernel_rfl) (fun _ _ _ h => h) (Or.inl ⟨by rfl, fun W hSw => by (try dsimp only at hSw); go_simp⟩) k0 ?_
                  try simp only [Act.put, List.setIfInBounds_toArray, List.set_cons_zero, List.set_cons_succ]
                  refine wpAnyH_take (i := 15) (oi := { dst := some 115, op := Go.Op.convert 5 3 (Go.Operand.tmp 114), type := 3, pos := "outright.go:62", after := #[{ on := 14, ground := Go.Ground.data }, { on := 9, ground := Go.Ground.guard }], guard := some (9, true) }) (v := .int .i64 (r2 : Int)) rfl (by kernel_rfl) (by kernel_rfl) (by kernel_rfl) (fun _ _ _ h => h) (Or.inl ⟨by rfl, fun W hSw => by (try dsimp only at hSw); go_simp⟩) k0 ?_
                  try simp only [Act.put, List.setIfInBounds_toArray, List.set_cons_zero, List.set_cons_succ]
                  refine wpAnyH_take (i := 16) (oi := { dst := some 116, op := Go.Op.binOp Go.BinOp.quo 3 (Go.Operand.tmp 115) (Go.Operand.const (Go.Value.int Go.IntKind.i64 2)) 3, type := 3, pos := "outright.go:62", after := #[{ on := 15, ground := Go.Ground.data }, { on := 9, ground := Go.Ground.guard }], guard := some (9, true) }) (v := .int .i64 (kk : Int)) rfl (by kernel_rfl) (by kernel_rfl) (by kernel_rfl) (fun _ _ _ h => h) (Or.inl ⟨by rfl, fun W hSw => by (try dsimp only at hSw); go_simp⟩) k0 ?_
                  try simp only [Act.put, List.setIfInBounds_toArray, List.set_cons_zero, List.set_cons_succ]
                  refine wpAnyH_take (i := 17) (oi := { dst := some 117, op := Go.Op.move (Go.Operand.tmp 13), type := 3, pos := "outright.go:62", after := #[{ on := 9, ground := Go.Ground.guard }], guard := some (9, true) }) (v := .int .i64 kv) rfl (by kernel_rfl) (by kernel_rfl) (by kernel_rfl) (fun _ _ _ h => h) (Or.inl ⟨by rfl, fun W hSw => by (try dsimp only at hSw); go_simp⟩) k0 ?_
                  try simp only [Act.put, List.setIfInBounds_toArray, List.set_cons_zero, List.set_cons_succ]
                  refine wpAnyH_take (i := 18) (oi := { dst := some 118, op := Go.Op.binOp Go.BinOp.neq 3 (Go.Operand.tmp 116) (Go.Operand.tmp 117) 3, type := 4, pos := "outright.go:62", after := #[{ on := 16, ground := Go.Ground.data }, { on := 17, ground := Go.Ground.data }, { on := 9, ground := Go.Ground.guard }], guard := some (9, true) }) (v := .bool false) rfl (by kernel_rfl) (by kernel_rfl) (by kernel_rfl) (fun _ _ _ h => h) (Or.inl ⟨by rfl, fun W hSw => by (try dsimp only at hSw); go_simp⟩) k0 ?_
                  try simp only [Act.put, List.setIfInBounds_toArray, List.set_cons_zero, List.set_cons_succ]
                  refine wpAnyH_take (i := 19) (oi := { dst := some 119, op := Go.Op.pick (Go.Operand.tmp 109) (Go.Operand.tmp 118) (Go.Operand.const (Go.Value.bool false)), type := 4, pos := "outright.go:62", after := #[{ on := 9, ground := Go.Ground.data }, { on := 18, ground := Go.Ground.data }], guard := none }) (v := .bool false) rfl (by kernel_rfl) (by kernel_rfl) (by kernel_rfl) (fun _ _ _ h => h) (Or.inl ⟨by rfl, fun W hSw => by (try dsimp only at hSw); go_simp⟩) k0 ?_
                  try simp only [Act.put, List.setIfInBounds_toArray, List.set_cons_zero, List.set_cons_succ]
                  refine wpAnyH_done (by kernel_rfl) ?_ _
                  refine NoPanic.normal ?_
                  clear k0
                  go_wp2
                  go_roundw
                  case rel => exact ⟨HB8.out, t + 1, by omega, by go_num⟩
                  case measure => simp [intOf]; omega
              · obtain rfl : t = n := by omega
                go_wp2
                go_roundw
                case rel => exact ⟨bel0 HW7.out HB7.out, HX7.out.below HB7.out, 2, by omega, by go_num, bs2, HS7.out.below HB7.out, gn, cn, rfl, HGE.out, HNOW.out.below HB7.out⟩
                case measure => simp [intOf]
        · go_wp2
          go_ret
          exact ⟨rfl, JW.out⟩

end Go.Proofs.Ytnnpnklbhghegaa.storeProtects

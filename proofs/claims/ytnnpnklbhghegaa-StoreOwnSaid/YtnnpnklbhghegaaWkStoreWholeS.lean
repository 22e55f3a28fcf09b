/- The walk of the statement StoreWhole where few bytes are given: it answers true, and below its own memory nothing turns. -/
import Derived.Test.YtnnpnklbhghegaaWkStoreProtectsS
namespace Go.Proofs.Ytnnpnklbhghegaa.storeWhole
open Go.RowKit Go.Shelf E storeProtects
set_option linter.unusedVariables false

theorem one_in {n X j : Nat} {p : UInt8 → Bool} {ks : List UInt8} (h : codeV p n ks ((X + j : Nat) : Int) ((1 : Nat) : Int) = 0) : X + j + 1 ≤ n ∧ p (gt ks ((X + j) / 2048)) = true := by
  obtain ⟨h1, h2, h3⟩ := inB_iff.1 (codeV_in h)
  refine ⟨by omega, ?_⟩
  unfold codeV at h
  rw [if_pos (inB_iff.2 ⟨h1, h2, h3⟩)] at h
  split at h
  · rename_i ha
    exact (allB_iff _ _ _ _).1 ha 0 (by decide)
  · cases h
theorem one_out {n X j : Nat} {p : UInt8 → Bool} {ks : List UInt8} (h : X + j + 1 ≤ n) (hp : p (gt ks ((X + j) / 2048)) = true) : codeV p n ks ((X + j : Nat) : Int) ((1 : Nat) : Int) = 0 := by
  unfold codeV
  rw [if_pos (inB_iff.2 ⟨by omega, by omega, by omega⟩), if_pos]
  rw [allB_iff]
  intro i hi
  obtain rfl : i = 0 := by
    have : i < 1 := hi
    omega
  exact hp
/-- All single bytes can be stored: so can all at once. -/
theorem all_yes {n X nb : Nat} {p : UInt8 → Bool} {ks : List UInt8} (hX : X < n) (h : ∀ j, j < nb → codeV p n ks ((X + j : Nat) : Int) ((1 : Nat) : Int) = 0) : codeV p n ks (X : Int) (nb : Int) = 0 := by
  have hin : X + nb ≤ n := by
    rcases Nat.eq_zero_or_pos nb with h0 | h0
    · omega
    · have := (one_in (h (nb - 1) (by omega))).1
      omega
  unfold codeV
  rw [if_pos (inB_iff.2 ⟨by omega, by omega, by omega⟩), if_pos]
  rw [allB_iff]
  intro i hi
  exact (one_in (h i hi)).2
theorem all_no {n X nb j : Nat} {p : UInt8 → Bool} {ks : List UInt8} (hj : j < nb) (h : codeV p n ks ((X + j : Nat) : Int) ((1 : Nat) : Int) ≠ 0) : codeV p n ks (X : Int) (nb : Int) ≠ 0 := by
  intro h0
  apply h
  obtain ⟨h1, h2, h3⟩ := inB_iff.1 (codeV_in h0)
  unfold codeV at h0
  rw [if_pos (inB_iff.2 ⟨h1, h2, h3⟩)] at h0
  split at h0
  · rename_i ha
    exact one_out (by omega) ((allB_iff _ _ _ _).1 ha j hj)
  · cases h0
theorem putL_more {bs b : List UInt8} {X j : Nat} (hj : j < b.length) (hl : X + b.length ≤ bs.length) : putL (putL bs X (b.take j)) (X + j) [gt b j] = putL bs X (b.take (j + 1)) := by
  rw [← putL_step hj hl]
  have l1 : (putL bs X (b.take j)).length = bs.length := putL_len (by rw [List.length_take]; omega)
  refine ext_gt (by rw [putL_len (by simp; omega), List.length_set]) fun i hi => ?_
  rw [gt_putL (by simp; omega), gt_setX (by omega)]
  by_cases e : i = X + j
  · rw [if_pos (by simp; omega), if_pos e, e]
    simp [gt]
  · rw [if_neg (by simp; omega), if_neg e]
theorem putL_next {bs b : List UInt8} {X j : Nat} (hj : j < b.length) (hl : X + j + 1 ≤ bs.length) : putL (putL bs X (b.take j)) (X + j) [gt b j] = putL bs X (b.take (j + 1)) := by
  have l1 : (b.take (j + 1)).length = j + 1 := by rw [List.length_take]; omega
  have h1 := putL_more (bs := bs) (b := b.take (j + 1)) (X := X) (j := j) (by omega) (by omega)
  rw [List.take_take, List.take_take, Nat.min_eq_left (by omega), Nat.min_eq_left (by omega)] at h1
  have h2 : gt (b.take (j + 1)) j = gt b j := by
    unfold gt
    simp only [List.getD_eq_getElem?_getD]
    rw [List.getElem?_take, if_pos (by omega)]
  rw [h2] at h1
  exact h1
theorem sv_one {w : World} {B off c j : Nat} {b : List UInt8} (h : Rd w (some ⟨B, off, none⟩) b) (hj : j < b.length) (hc : b.length ≤ c) (hm : c ≤ 9223372036854775807) : SvB w (.slice (some ⟨B, off + j, none⟩) 1 (c - j)) [gt b j] := by
  refine ⟨_, _, rfl, .inr ⟨B, off + j, rfl, fun i hi => ?_⟩, by simp; omega, by omega, fun h => by cases h⟩
  obtain rfl : i = 0 := by simpa using hi
  rcases h with h0 | ⟨B', off', h1, h2⟩
  · rw [h0] at hj; simp at hj
  · obtain ⟨rfl, rfl⟩ : B = B' ∧ off = off' := by simpa using h1
    rw [Nat.add_zero, h2 j hj]
    rfl
set_option maxRecDepth 100000 in
set_option maxHeartbeats 8000000 in
theorem short (z x0 x1 x2 x3 : UInt8) (at16 : Nat) (v : Value) (b : List UInt8) (ky : UInt8) (w : World) (had : at16 < 65536) (hb : SvB w v b) (hb5 : b.length ≤ 3000) : Calls Try.prog 7 #[.int .u8 (z.toNat : Int), .agg #[.int .u8 (x0.toNat : Int), .int .u8 (x1.toNat : Int), .int .u8 (x2.toNat : Int), .int .u8 (x3.toNat : Int)], .int .u16 (at16 : Int), v, .int .u8 (ky.toNat : Int)] w (New w (.bool true)) := by
  have HV := Lib.hid hb
  obtain ⟨p, c, rfl, -⟩ := hb
  have HAD := Lib.hid had
  have HBX := Lib.hid (Bx.new w 44 #[.int .u8 (x0.toNat : Int), .int .u8 (x1.toNat : Int), .int .u8 (x2.toNat : Int), .int .u8 (x3.toNat : Int)])
  have HW0 := Lib.hid (below_new w (.cells #[.int .u8 (x0.toNat : Int), .int .u8 (x1.toNat : Int), .int .u8 (x2.toNat : Int), .int .u8 (x3.toNat : Int)] 44))
  obtain ⟨M, hM⟩ : ∃ M, M = 1 + z.toNat % 4 := ⟨_, rfl⟩
  have HMK := Lib.hid (make_any z)
  rw [← hM] at HMK
  have HM : Hid (1 ≤ M ∧ M ≤ 4) := Lib.hid (by omega)
  obtain ⟨nb, hnb⟩ : ∃ nb, nb = b.length := ⟨_, rfl⟩
  have HNB := Lib.hid hnb
  rw [← hnb] at hb5 HV ⊢
  have hb5' : ¬ (3000 : Int) < (nb : Int) := by omega
  have hky := ky.toNat_lt
  clear hM had hnb hb5
  go_enter Try.func7, Try.ntmps7
  go_wp2_with fail
  refine (works_any _).mono ?_
  rintro e w1 ⟨rfl, hb1⟩
  have HX1 := Lib.hid (HBX.out.below hb1)
  have HW1 := Lib.hid (bel0 HW0.out hb1)
  clear hb1 HBX HW0
  go_wp2_with fail
  refine (HMK.out _).mono ?_
  rintro e w2 ⟨a, g, h, rfl, hs, hg1, hg2, hg3, hb2⟩
  have HX2 := Lib.hid (HX1.out.below hb2)
  have HW2 := Lib.hid (bel0 HW1.out hb2)
  have HS2 := Lib.hid hs
  have HG : Hid (w.heap.size < g ∧ w.heap.size < h) := Lib.hid ⟨Nat.lt_of_lt_of_le HX1.out.lt hg2, Nat.lt_of_lt_of_le HX1.out.lt hg3⟩
  clear hs hg1 hg2 hg3 hb2 HX1 HW1 HMK
  obtain ⟨n, hn⟩ : ∃ n, n = M * 2048 := ⟨_, rfl⟩
  have HN := Lib.hid hn
  rw [← hn] at HS2
  generalize List.replicate n (0 : UInt8) = bs0 at *
  generalize List.replicate M (0 : UInt8) = ks0 at *
  clear hn
  go_wp2
  go_loopw [12] (fun i wr => Below w.heap.size w wr ∧ Bx wr w.heap.size 44 #[.int .u8 (x0.toNat : Int), .int .u8 (x1.toNat : Int), .int .u8 (x2.toNat : Int), .int .u8 (x3.toNat : Int)] ∧ ∃ j : Nat, j ≤ 4 ∧ i = .int .i64 (j : Int) ∧ ∃ ks, Sto wr a g h n M bs0 ks ∧ KeysIn M j [x0, x1, x2, x3] ks) (fun i _ => 4 - (intOf i).toNat)
  case atStart => exact ⟨HW2.out, HX2.out, 0, Nat.zero_le _, rfl, ks0, HS2.out, fun q hq _ => by omega⟩
  case round =>
    obtain ⟨hw, hx, j, hj, rfl, ks, hs, hk⟩ := hrel
    have JW := Lib.hid hw
    have JX := Lib.hid hx
    have JS := Lib.hid hs
    have JK := Lib.hid hk
    clear hw hx hs hk HS2 HX2 HW2
    by_cases hlt : j < 4
    · have hj4 : (j : Int) < 4 := by omega
      obtain ⟨q, hq⟩ : ∃ q, q = j * 2048 := ⟨_, rfl⟩
      have hq1 : (j : Int) * 2048 = (q : Int) := by omega
      have hqs : (q : Int) ≤ 65536 := by omega
      obtain ⟨r, hr⟩ : ∃ r, r = (gt [x0, x1, x2, x3] j).toNat := ⟨_, rfl⟩
      have hc := key_cell JX.out j hlt
      rw [← hr] at hc
      have hr256 : r < 256 := by rw [hr]; exact (gt _ j).toNat_lt
      have HKN : Hid (KeysIn M (j + 1) [x0, x1, x2, x3] (setK n ks (q : Int) ((r : Int) % 32))) := Lib.hid (by
        have h9 := keys_step (n := n) HN.out JS.out.nums.2.1 JK.out
        rw [← hq, ← hr] at h9
        rw [show (r : Int) % 32 = ((r % 32 : Nat) : Int) by omega]
        exact h9)
      have HSK := Lib.hid (setKey_any a g h n M (q : Int) ((r : Int) % 32) bs0 ks wr (by omega) JS.out)
      clear hq hr
      go_wp2_with fail
      refine HSK.out.mono ?_
      rintro e w3 ⟨rfl, hg3, hs3⟩
      have HS3 := Lib.hid hs3
      have HX3 := Lib.hid (JX.out.grown hg3 (fun e => by have := Option.some.inj e; have := HG.out.2; omega))
      have HW3 := Lib.hid (below_grown JW.out hg3 (by have := HG.out.2; omega))
      clear hg3 hs3 HSK JS JX JW JK hc
      go_wp2
      go_roundw
      case rel => exact ⟨HW3.out, HX3.out, j + 1, hlt, by go_num, _, HS3.out, HKN.out⟩
      case measure => simp [intOf]; omega
    · obtain rfl : j = 4 := by omega
      have HNM : Hid (n = M * 2048 ∧ n ≤ 65536) := Lib.hid ⟨HN.out, by have := HN.out; have := HM.out; omega⟩
      have HPOS : Hid (0 < n) := Lib.hid (by have := HN.out; have := HM.out; omega)
      have HLT := Lib.hid (And.intro JS.out.1.lt (And.intro JS.out.2.1.lt JS.out.2.2.1.lt))
      clear hlt JK
      go_wp2_with fail
      refine (copy_any a g h n M bs0 ks _ JS.out).mono ?_
      rintro e w4 ⟨a3, g3, h3, rfl, hs4, e1, e2, e3, hb4⟩
      have HS4 := Lib.hid (JS.out.below hb4)
      have HT4 := Lib.hid hs4
      have HW4 := Lib.hid (bel0 JW.out hb4)
      have HGL : Hid (w.heap.size ≤ g) := Lib.hid (Nat.le_of_lt HG.out.1)
      have HGT : Hid (w.heap.size ≤ g3 ∧ a ∉ [g3] ∧ g ∉ [g3] ∧ h ∉ [g3] ∧ a3 ∉ [g] ∧ g3 ∉ [g] ∧ h3 ∉ [g]) := Lib.hid ⟨Nat.le_trans JW.out.size e2, by simp; have := HLT.out; omega, by simp; have := HLT.out; omega, by simp; have := HLT.out; omega, by simp; have := HLT.out; omega, by simp; have := HLT.out; omega, by simp; have := HLT.out; omega⟩
      clear hs4 e1 e2 e3 hb4 JS JX JW HLT
      go_wp2_with fail
      refine (size_any a g n _ HS4.out.c0).mono ?_
      rintro e wx ⟨rfl, rfl⟩
      obtain ⟨X, hX⟩ : ∃ X, X = at16 % n := ⟨_, rfl⟩
      have HX : Hid (X < n) := Lib.hid (by rw [hX]; exact Nat.mod_lt _ HPOS.out)
      have hn0 : ¬ (n : Int) = 0 := by have := HPOS.out; omega
      have hXe : Int.tmod (wrap64 (at16 : Int)) (n : Int) = (X : Int) := by
        rw [show wrap64 (at16 : Int) = (at16 : Int) by have := HAD.out; unfold wrap64; omega, Int.tmod_eq_emod_of_nonneg (by omega), hX]
        rfl
      have HXE := Lib.hid hXe
      clear hX hXe
      go_wp2
      rw [HXE.out]
      generalize (ky.toNat : Int) % 16 = kv at *
      clear hn0 HXE hky
      go_loopw [16, 17] (fun al i wr => Below w.heap.size w wr ∧ Sto wr a g h n M bs0 ks ∧ ∃ j : Nat, j ≤ nb ∧ i = .int .i64 (j : Int) ∧ ((al = .bool true ∧ Sto wr a3 g3 h3 n M (putL bs0 X (b.take j)) ks ∧ ∀ q, q < j → codeV (stP kv) n ks ((X + q : Nat) : Int) ((1 : Nat) : Int) = 0) ∨ (al = .bool false ∧ ∃ q, q < nb ∧ codeV (stP kv) n ks ((X + q : Nat) : Int) ((1 : Nat) : Int) ≠ 0))) (fun _ i _ => nb - (intOf i).toNat)
      case atStart => exact ⟨HW4.out, HS4.out, 0, Nat.zero_le _, rfl, .inl ⟨rfl, by simpa [putL] using HT4.out, fun q hq => by omega⟩⟩
      case round =>
        clear HW4 HS4 HT4
        obtain ⟨hw, hs, j, hj, rfl, hor⟩ := hrel
        have JW := Lib.hid hw
        have JS := Lib.hid hs
        clear hw hs
        rcases hor with ⟨rfl, ht, hall⟩ | ⟨rfl, q, hq, hne⟩
        · have JT := Lib.hid ht
          have JALL := Lib.hid hall
          clear ht hall
          by_cases hlt : j < nb
          · have hjb : j < b.length := by have := HNB.out; omega
            obtain ⟨B, off, rfl⟩ : ∃ B off, p = some ⟨B, off, none⟩ := by
              obtain ⟨p', c', h1, h2, -⟩ := HV.out
              injection h1 with e1 _ _
              rcases h2 with h0 | ⟨B, off, h3, -⟩
              · rw [h0] at hjb; simp at hjb
              · exact ⟨B, off, by rw [e1, h3]⟩
            obtain ⟨hcb, hcm, hrd⟩ : b.length ≤ c ∧ c ≤ 9223372036854775807 ∧ Rd w (some ⟨B, off, none⟩) b := by
              obtain ⟨p', c', h1, h2, h3, h4, -⟩ := HV.out
              injection h1 with e1 e2 e3
              subst e1 e3
              exact ⟨h3, h4, h2⟩
            obtain ⟨q, hq⟩ : ∃ q, q = X + j := ⟨_, rfl⟩
            have hqe : (X : Int) + (j : Int) = (q : Int) := by omega
            have hqs : (q : Int) ≤ 131072 := by have := HX.out; have := HNM.out; omega
            have HP1 := Lib.hid (put_any a3 g3 h3 n M (q : Int) kv (.slice (some ⟨B, off + j, none⟩) 1 (c - j)) [gt b j] (putL bs0 X (b.take j)) ks wr (by omega) JT.out (sv_one (hrd.below JW.out) hjb hcb hcm))
            have hcj : ¬ c = j := by omega
            have hjc : j + 1 ≤ c := by omega
            have hjn : (j : Int) < (nb : Int) := by omega
            have hnb3 : (nb : Int) ≤ 3000 := by omega
            obtain ⟨C, hC⟩ : ∃ C, C = codeV (stP kv) n ks (q : Int) ((([gt b j] : List UInt8).length : Nat) : Int) := ⟨_, rfl⟩
            have HC : Hid (C = codeV (stP kv) n ks ((X + j : Nat) : Int) ((1 : Nat) : Int)) := Lib.hid (by rw [hC, hq]; rfl)
            have HMORE : Hid (C = 0 → putB (stP kv) n (putL bs0 X (b.take j)) ks (q : Int) [gt b j] = putL bs0 X (b.take (j + 1))) := Lib.hid (fun h0 => by
              have h9 : codeV (stP kv) n ks ((X + j : Nat) : Int) ((1 : Nat) : Int) = 0 := by rw [← HC.out]; exact h0
              unfold putB
              rw [if_pos (by rw [← hC]; exact h0), show ((q : Int)).toNat = X + j from hq]
              exact putL_next hjb (by rw [JS.out.nums.1]; exact (one_in h9).1))
            rw [← hC] at HP1
            generalize putB (stP kv) n (putL bs0 X (b.take j)) ks (q : Int) [gt b j] = bt at *
            have hltn := hlt
            clear hC hq hcb hcm hrd hjb JT hlt
            by_cases hC0 : C = 0
            · have HE := Lib.hid (HMORE.out hC0)
              have HZ : Hid (codeV (stP kv) n ks ((X + j : Nat) : Int) ((1 : Nat) : Int) = 0) := Lib.hid (by rw [← HC.out]; exact hC0)
              subst hC0
              clear HC HMORE
              go_wp2_with fail
              refine HP1.out.mono ?_
              rintro e w5 ⟨rfl, hg5, hs5⟩
              have HS5 := Lib.hid (JS.out.kp (Kp.of hg5 (by simp)) HGT.out.2.1 HGT.out.2.2.1 HGT.out.2.2.2.1)
              have HW5 := Lib.hid (below_grown JW.out hg5 HGT.out.1)
              have HT5 := Lib.hid hs5
              clear hg5 hs5 HP1 JS JW hcj hjc hqe hqs
              go_wp2
              go_roundw
              case rel => exact ⟨HW5.out, HS5.out, j + 1, hltn, by go_num, .inl ⟨rfl, by rw [← HE.out]; exact HT5.out, fun q hq => by
                rcases Nat.lt_succ_iff_lt_or_eq.1 hq with h | h
                · exact JALL.out q h
                · rw [h]; exact HZ.out⟩⟩
              case measure => simp [intOf]; omega
            · have HZ : Hid (codeV (stP kv) n ks ((X + j : Nat) : Int) ((1 : Nat) : Int) ≠ 0) := Lib.hid (by rw [← HC.out]; exact hC0)
              have e0 : (C == 0) = false := by simpa using hC0
              clear HC HMORE hC0
              go_wp2_with fail
              refine HP1.out.mono ?_
              rintro e w5 ⟨rfl, hg5, hs5⟩
              have HS5 := Lib.hid (JS.out.kp (Kp.of hg5 (by simp)) HGT.out.2.1 HGT.out.2.2.1 HGT.out.2.2.2.1)
              have HW5 := Lib.hid (below_grown JW.out hg5 HGT.out.1)
              clear hg5 hs5 HP1 JS JW hcj hjc hqe hqs
              go_wp2
              go_roundw
              case rel => exact ⟨HW5.out, HS5.out, j + 1, hltn, by go_num, .inr ⟨by simp, j, hltn, HZ.out⟩⟩
              case measure => simp [intOf]; omega
          · obtain rfl : j = nb := by omega
            have HC0 : Hid (codeV (stP kv) n ks (X : Int) (b.length : Int) = 0) := Lib.hid (by
              have h9 := all_yes (nb := j) HX.out JALL.out
              rw [HNB.out] at h9
              exact h9)
            have HPB : Hid (putB (stP kv) n bs0 ks (X : Int) b = putL bs0 X b) := Lib.hid (by unfold putB; rw [if_pos HC0.out]; rfl)
            have HTL : Hid (Sto wr a3 g3 h3 n M (putL bs0 X b) ks) := Lib.hid (by have h9 := JT.out; rw [HNB.out, List.take_length] at h9; exact h9)
            have HP2 := Lib.hid (put_any a g h n M (X : Int) kv (.slice p j c) b bs0 ks wr (by have := HX.out; have := HNM.out; omega) JS.out (HV.out.below JW.out))
            rw [HPB.out, HC0.out] at HP2
            generalize putL bs0 X b = bs2 at *
            clear HPB HC0 JALL JT
            go_wp2_with fail
            refine HP2.out.mono ?_
            rintro e w6 ⟨rfl, hg6, hs6⟩
            have HS6 := Lib.hid hs6
            have HT6 := Lib.hid (HTL.out.kp (Kp.of hg6 (by simp)) HGT.out.2.2.2.2.1 HGT.out.2.2.2.2.2.1 HGT.out.2.2.2.2.2.2)
            have HW6 := Lib.hid (below_grown JW.out hg6 HGL.out)
            clear hg6 hs6 HP2 HTL JS JW
            go_upto_region 24 with fail
            refine wp_region_noPanic ?_
            refine wp_region_held_drew (S := fun W => Below w6.heap.size w6 W) (by kernel_rfl) ((Below.refl _ w6).drew) (fun k0 => ?_)
            show wpAnyH _ _ _ _ _ 16 #[false, false, false, false, false, false, false, false, false, false, false, false, false, false, false, false] _ _
            refine wpAnyH_take (i := 0) (oi := { dst := some 85, op := Go.Op.move (Go.Operand.tmp 18), type := 3, pos := "outright.go:99", after := #[], guard := none }) (v := .int .i64 0) rfl (by kernel_rfl) (by kernel_rfl) (by kernel_rfl) (fun _ _ _ h => h) (Or.inl ⟨by rfl, fun W hSw => by (try dsimp only at hSw); go_simp⟩) k0 ?_
            try simp only [Act.put, List.setIfInBounds_toArray, List.set_cons_zero, List.set_cons_succ]
            refine wpAnyH_take (i := 1) (oi := { dst := some 86, op := Go.Op.binOp Go.BinOp.eql 3 (Go.Operand.tmp 85) (Go.Operand.const (Go.Value.int Go.IntKind.i64 0)) 3, type := 4, pos := "outright.go:99", after := #[{ on := 0, ground := Go.Ground.data }], guard := none }) (v := .bool true) rfl (by kernel_rfl) (by kernel_rfl) (by kernel_rfl) (fun _ _ _ h => h) (Or.inl ⟨by rfl, fun W hSw => by (try dsimp only at hSw); go_simp⟩) k0 ?_
            try simp only [Act.put, List.setIfInBounds_toArray, List.set_cons_zero, List.set_cons_succ]
            refine wpAnyH_take (i := 2) (oi := { dst := some 87, op := Go.Op.move (Go.Operand.tmp 86), type := 4, pos := "outright.go:99", after := #[{ on := 1, ground := Go.Ground.data }], guard := none }) (v := .bool true) rfl (by kernel_rfl) (by kernel_rfl) (by kernel_rfl) (fun _ _ _ h => h) (Or.inl ⟨by rfl, fun W hSw => by (try dsimp only at hSw); go_simp⟩) k0 ?_
            try simp only [Act.put, List.setIfInBounds_toArray, List.set_cons_zero, List.set_cons_succ]
            refine wpAnyH_take (i := 3) (oi := { dst := some 88, op := Go.Op.move (Go.Operand.tmp 11), type := 23, pos := "outright.go:99", after := #[{ on := 2, ground := Go.Ground.guard }], guard := some (2, true) }) (v := .pointer (some ⟨a, 0, none⟩)) rfl (by kernel_rfl) (by kernel_rfl) (by kernel_rfl) (fun _ _ _ h => h) (Or.inl ⟨by rfl, fun W hSw => by (try dsimp only at hSw); go_simp⟩) k0 ?_
            try simp only [Act.put, List.setIfInBounds_toArray, List.set_cons_zero, List.set_cons_succ]
            refine wpAnyH_take (i := 4) (oi := { dst := some 89, op := Go.Op.move (Go.Operand.tmp 11), type := 23, pos := "outright.go:99", after := #[{ on := 2, ground := Go.Ground.guard }], guard := some (2, true) }) (v := .pointer (some ⟨a, 0, none⟩)) rfl (by kernel_rfl) (by kernel_rfl) (by kernel_rfl) (fun _ _ _ h => h) (Or.inl ⟨by rfl, fun W hSw => by (try dsimp only at hSw); go_simp⟩) k0 ?_
            try simp only [Act.put, List.setIfInBounds_toArray, List.set_cons_zero, List.set_cons_succ]
            refine wpAnyH_take (i := 8) (oi := { dst := some 93, op := Go.Op.move (Go.Operand.tmp 13), type := 23, pos := "outright.go:99", after := #[{ on := 2, ground := Go.Ground.guard }], guard := some (2, true) }) (v := .pointer (some ⟨a3, 0, none⟩)) rfl (by kernel_rfl) (by kernel_rfl) (by kernel_rfl) (fun _ _ _ h => h) (Or.inl ⟨by rfl, fun W hSw => by (try dsimp only at hSw); go_simp⟩) k0 ?_
            try simp only [Act.put, List.setIfInBounds_toArray, List.set_cons_zero, List.set_cons_succ]
            refine wpAnyH_take (i := 9) (oi := { dst := some 94, op := Go.Op.move (Go.Operand.tmp 13), type := 23, pos := "outright.go:99", after := #[{ on := 2, ground := Go.Ground.guard }], guard := some (2, true) }) (v := .pointer (some ⟨a3, 0, none⟩)) rfl (by kernel_rfl) (by kernel_rfl) (by kernel_rfl) (fun _ _ _ h => h) (Or.inl ⟨by rfl, fun W hSw => by (try dsimp only at hSw); go_simp⟩) k0 ?_
            try simp only [Act.put, List.setIfInBounds_toArray, List.set_cons_zero, List.set_cons_succ]
            refine wpAnyH_ready (rs := [5]) (by kernel_rfl) (by simp) ?_
            refine AllReadyH.cons (o := { dst := some 90, op := Go.Op.call { callee := Go.Callee.value (Go.Operand.func 21), args := #[Go.Operand.tmp 89], argTypes := #[23] }, type := 3, pos := "outright.go:99", after := #[{ on := 4, ground := Go.Ground.data }, { on := 2, ground := Go.Ground.chain }, { on := 2, ground := Go.Ground.guard }], guard := some (2, true) }) rfl (fun K hK => ?_) AllReadyH.nil
            go_simp
            go_at_call 21
            refine (size_any a g n _ (HS6.out.below k0).c0).mono ?_
            rintro e x1 ⟨rfl, rfl⟩
            have nb := k0
            go_wp2_with fail
            refine hK.out _ _ nb (fun k1 => ?_)
            clear nb
            clear hK K
            try simp only [List.setIfInBounds_toArray, List.set_cons_zero, List.set_cons_succ]
            refine wpAnyH_ready (rs := [6]) (by kernel_rfl) (by simp) ?_
            refine AllReadyH.cons (o := { dst := some 91, op := Go.Op.call { callee := Go.Callee.value (Go.Operand.func 20), args := #[Go.Operand.tmp 88, Go.Operand.const (Go.Value.int Go.IntKind.i64 0), Go.Operand.tmp 90], argTypes := #[23, 3, 3] }, type := 29, pos := "outright.go:99", after := #[{ on := 3, ground := Go.Ground.data }, { on := 5, ground := Go.Ground.data }, { on := 5, ground := Go.Ground.chain }, { on := 2, ground := Go.Ground.guard }], guard := some (2, true) }) rfl (fun K hK => ?_) AllReadyH.nil
            go_simp
            go_at_call 20
            refine (all_bytes (HS6.out.below k1)).mono ?_
            rintro e x2 ⟨sv1, rfl, hh, hb⟩
            have HV1 := Lib.hid hh.svb
            have nb := bel0 k1 hb
            clear hh hb
            go_wp2_with fail
            refine hK.out _ _ nb (fun k2 => ?_)
            clear nb
            clear hK K
            try simp only [List.setIfInBounds_toArray, List.set_cons_zero, List.set_cons_succ]
            refine wpAnyH_ready (rs := [7, 10]) (by kernel_rfl) (by simp) ?_
            refine AllReadyH.cons (o := { dst := some 92, op := Go.Op.convert 29 9 (Go.Operand.tmp 91), type := 9, pos := "outright.go:99", after := #[{ on := 6, ground := Go.Ground.data }, { on := 2, ground := Go.Ground.guard }], guard := some (2, true) }) rfl (fun K hK => ?_) (AllReadyH.cons (o := { dst := some 95, op := Go.Op.call { callee := Go.Callee.value (Go.Operand.func 21), args := #[Go.Operand.tmp 94], argTypes := #[23] }, type := 3, pos := "outright.go:99", after := #[{ on := 9, ground := Go.Ground.data }, { on := 6, ground := Go.Ground.chain }, { on := 2, ground := Go.Ground.guard }], guard := some (2, true) }) rfl (fun K hK => ?_) AllReadyH.nil)
            · have cv3 := conv_sv HV1.out
              go_simp
              refine hK.out _ _ k2 (fun k3 => ?_)
              clear cv3
              clear hK K
              try simp only [List.setIfInBounds_toArray, List.set_cons_zero, List.set_cons_succ]
              refine wpAnyH_ready (rs := [10]) (by kernel_rfl) (by simp) ?_
              refine AllReadyH.cons (o := { dst := some 95, op := Go.Op.call { callee := Go.Callee.value (Go.Operand.func 21), args := #[Go.Operand.tmp 94], argTypes := #[23] }, type := 3, pos := "outright.go:99", after := #[{ on := 9, ground := Go.Ground.data }, { on := 6, ground := Go.Ground.chain }, { on := 2, ground := Go.Ground.guard }], guard := some (2, true) }) rfl (fun K hK => ?_) AllReadyH.nil
              go_simp
              go_at_call 21
              refine (size_any a3 g3 n _ (HT6.out.below k3).c0).mono ?_
              rintro e x4 ⟨rfl, rfl⟩
              have nb := k3
              go_wp2_with fail
              refine hK.out _ _ nb (fun k4 => ?_)
              clear nb
              clear hK K
              try simp only [List.setIfInBounds_toArray, List.set_cons_zero, List.set_cons_succ]
              refine wpAnyH_ready (rs := [11]) (by kernel_rfl) (by simp) ?_
              refine AllReadyH.cons (o := { dst := some 96, op := Go.Op.call { callee := Go.Callee.value (Go.Operand.func 20), args := #[Go.Operand.tmp 93, Go.Operand.const (Go.Value.int Go.IntKind.i64 0), Go.Operand.tmp 95], argTypes := #[23, 3, 3] }, type := 29, pos := "outright.go:99", after := #[{ on := 8, ground := Go.Ground.data }, { on := 10, ground := Go.Ground.data }, { on := 10, ground := Go.Ground.chain }, { on := 2, ground := Go.Ground.guard }], guard := some (2, true) }) rfl (fun K hK => ?_) AllReadyH.nil
              go_simp
              go_at_call 20
              refine (all_bytes (HT6.out.below k4)).mono ?_
              rintro e x5 ⟨sv2, rfl, hh, hb⟩
              have HV2 := Lib.hid hh.svb
              replace HV1 := Lib.hid (HV1.out.below hb)
              have nb := bel0 k4 hb
              clear hh hb
              go_wp2_with fail
              refine hK.out _ _ nb (fun k5 => ?_)
              clear nb
              clear hK K
              try simp only [List.setIfInBounds_toArray, List.set_cons_zero, List.set_cons_succ]
              refine wpAnyH_ready (rs := [12]) (by kernel_rfl) (by simp) ?_
              refine AllReadyH.cons (o := { dst := some 97, op := Go.Op.convert 29 9 (Go.Operand.tmp 96), type := 9, pos := "outright.go:99", after := #[{ on := 11, ground := Go.Ground.data }, { on := 2, ground := Go.Ground.guard }], guard := some (2, true) }) rfl (fun K hK => ?_) AllReadyH.nil
              have cv6 := conv_sv HV2.out
              go_simp
              refine hK.out _ _ k5 (fun k6 => ?_)
              clear cv6
              clear hK K
              try simp only [List.setIfInBounds_toArray, List.set_cons_zero, List.set_cons_succ]
              refine wpAnyH_take (i := 13) (oi := { dst := some 98, op := Go.Op.binOp Go.BinOp.eql 9 (Go.Operand.tmp 92) (Go.Operand.tmp 97) 9, type := 4, pos := "outright.go:99", after := #[{ on := 7, ground := Go.Ground.data }, { on := 12, ground := Go.Ground.data }, { on := 2, ground := Go.Ground.guard }], guard := some (2, true) }) (v := .bool true) rfl (by kernel_rfl) (by kernel_rfl) (by kernel_rfl) (fun _ _ _ h => h) (Or.inl ⟨by rfl, fun W hSw => by (try dsimp only at hSw); go_simp⟩) k6 ?_
              try simp only [Act.put, List.setIfInBounds_toArray, List.set_cons_zero, List.set_cons_succ]
              refine wpAnyH_take (i := 14) (oi := { dst := some 99, op := Go.Op.pick (Go.Operand.tmp 87) (Go.Operand.tmp 98) (Go.Operand.const (Go.Value.bool false)), type := 4, pos := "outright.go:99", after := #[{ on := 2, ground := Go.Ground.data }, { on := 13, ground := Go.Ground.data }], guard := none }) (v := .bool true) rfl (by kernel_rfl) (by kernel_rfl) (by kernel_rfl) (fun _ _ _ h => h) (Or.inl ⟨by rfl, fun W hSw => by (try dsimp only at hSw); go_simp⟩) k6 ?_
              try simp only [Act.put, List.setIfInBounds_toArray, List.set_cons_zero, List.set_cons_succ]
              refine wpAnyH_take (i := 15) (oi := { dst := some 10, op := Go.Op.assign (Go.Operand.tmp 99), type := 4, pos := "outright.go:99", after := #[{ on := 14, ground := Go.Ground.data }, { on := 11, ground := Go.Ground.chain }, { on := 0, ground := Go.Ground.phase }, { on := 1, ground := Go.Ground.phase }, { on := 2, ground := Go.Ground.phase }, { on := 3, ground := Go.Ground.phase }, { on := 4, ground := Go.Ground.phase }, { on := 5, ground := Go.Ground.phase }, { on := 6, ground := Go.Ground.phase }, { on := 7, ground := Go.Ground.phase }, { on := 8, ground := Go.Ground.phase }, { on := 9, ground := Go.Ground.phase }, { on := 10, ground := Go.Ground.phase }, { on := 11, ground := Go.Ground.phase }, { on := 12, ground := Go.Ground.phase }, { on := 13, ground := Go.Ground.phase }, { on := 14, ground := Go.Ground.phase }], guard := none }) (v := .bool true) rfl (by kernel_rfl) (by kernel_rfl) (by kernel_rfl) (fun _ _ _ h => h) (Or.inl ⟨by rfl, fun W hSw => by (try dsimp only at hSw); go_simp⟩) k6 ?_
              try simp only [Act.put, List.setIfInBounds_toArray, List.set_cons_zero, List.set_cons_succ]
              refine wpAnyH_done (by kernel_rfl) ?_ _
              refine NoPanic.normal ?_
              have HBF := Lib.hid (bel0 HW6.out k6)
              clear k0 k1 k2 k3 k4 k5 k6
              go_wp2
              go_ret
              exact ⟨rfl, HBF.out⟩
            · go_simp
              go_at_call 21
              refine (size_any a3 g3 n _ (HT6.out.below k2).c0).mono ?_
              rintro e x3 ⟨rfl, rfl⟩
              have nb := k2
              go_wp2_with fail
              refine hK.out _ _ nb (fun k3 => ?_)
              clear nb
              clear hK K
              try simp only [List.setIfInBounds_toArray, List.set_cons_zero, List.set_cons_succ]
              refine wpAnyH_ready (rs := [7, 11]) (by kernel_rfl) (by simp) ?_
              refine AllReadyH.cons (o := { dst := some 92, op := Go.Op.convert 29 9 (Go.Operand.tmp 91), type := 9, pos := "outright.go:99", after := #[{ on := 6, ground := Go.Ground.data }, { on := 2, ground := Go.Ground.guard }], guard := some (2, true) }) rfl (fun K hK => ?_) (AllReadyH.cons (o := { dst := some 96, op := Go.Op.call { callee := Go.Callee.value (Go.Operand.func 20), args := #[Go.Operand.tmp 93, Go.Operand.const (Go.Value.int Go.IntKind.i64 0), Go.Operand.tmp 95], argTypes := #[23, 3, 3] }, type := 29, pos := "outright.go:99", after := #[{ on := 8, ground := Go.Ground.data }, { on := 10, ground := Go.Ground.data }, { on := 10, ground := Go.Ground.chain }, { on := 2, ground := Go.Ground.guard }], guard := some (2, true) }) rfl (fun K hK => ?_) AllReadyH.nil)
              · have cv4 := conv_sv HV1.out
                go_simp
                refine hK.out _ _ k3 (fun k4 => ?_)
                clear cv4
                clear hK K
                try simp only [List.setIfInBounds_toArray, List.set_cons_zero, List.set_cons_succ]
                refine wpAnyH_ready (rs := [11]) (by kernel_rfl) (by simp) ?_
                refine AllReadyH.cons (o := { dst := some 96, op := Go.Op.call { callee := Go.Callee.value (Go.Operand.func 20), args := #[Go.Operand.tmp 93, Go.Operand.const (Go.Value.int Go.IntKind.i64 0), Go.Operand.tmp 95], argTypes := #[23, 3, 3] }, type := 29, pos := "outright.go:99", after := #[{ on := 8, ground := Go.Ground.data }, { on := 10, ground := Go.Ground.data }, { on := 10, ground := Go.Ground.chain }, { on := 2, ground := Go.Ground.guard }], guard := some (2, true) }) rfl (fun K hK => ?_) AllReadyH.nil
                go_simp
                go_at_call 20
                refine (all_bytes (HT6.out.below k4)).mono ?_
                rintro e x5 ⟨sv2, rfl, hh, hb⟩
                have HV2 := Lib.hid hh.svb
                replace HV1 := Lib.hid (HV1.out.below hb)
                have nb := bel0 k4 hb
                clear hh hb
                go_wp2_with fail
                refine hK.out _ _ nb (fun k5 => ?_)
                clear nb
                clear hK K
                try simp only [List.setIfInBounds_toArray, List.set_cons_zero, List.set_cons_succ]
                refine wpAnyH_ready (rs := [12]) (by kernel_rfl) (by simp) ?_
                refine AllReadyH.cons (o := { dst := some 97, op := Go.Op.convert 29 9 (Go.Operand.tmp 96), type := 9, pos := "outright.go:99", after := #[{ on := 11, ground := Go.Ground.data }, { on := 2, ground := Go.Ground.guard }], guard := some (2, true) }) rfl (fun K hK => ?_) AllReadyH.nil
                have cv6 := conv_sv HV2.out
                go_simp
                refine hK.out _ _ k5 (fun k6 => ?_)
                clear cv6
                clear hK K
                try simp only [List.setIfInBounds_toArray, List.set_cons_zero, List.set_cons_succ]
                refine wpAnyH_take (i := 13) (oi := { dst := some 98, op := Go.Op.binOp Go.BinOp.eql 9 (Go.Operand.tmp 92) (Go.Operand.tmp 97) 9, type := 4, pos := "outright.go:99", after := #[{ on := 7, ground := Go.Ground.data }, { on := 12, ground := Go.Ground.data }, { on := 2, ground := Go.Ground.guard }], guard := some (2, true) }) (v := .bool true) rfl (by kernel_rfl) (by kernel_rfl) (by kernel_rfl) (fun _ _ _ h => h) (Or.inl ⟨by rfl, fun W hSw => by (try dsimp only at hSw); go_simp⟩) k6 ?_
                try simp only [Act.put, List.setIfInBounds_toArray, List.set_cons_zero, List.set_cons_succ]
                refine wpAnyH_take (i := 14) (oi := { dst := some 99, op := Go.Op.pick (Go.Operand.tmp 87) (Go.Operand.tmp 98) (Go.Operand.const (Go.Value.bool false)), type := 4, pos := "outright.go:99", after := #[{ on := 2, ground := Go.Ground.data }, { on := 13, ground := Go.Ground.data }], guard := none }) (v := .bool true) rfl (by kernel_rfl) (by kernel_rfl) (by kernel_rfl) (fun _ _ _ h => h) (Or.inl ⟨by rfl, fun W hSw => by (try dsimp only at hSw); go_simp⟩) k6 ?_
                try simp only [Act.put, List.setIfInBounds_toArray, List.set_cons_zero, List.set_cons_succ]
                refine wpAnyH_take (i := 15) (oi := { dst := some 10, op := Go.Op.assign (Go.Operand.tmp 99), type := 4, pos := "outright.go:99", after := #[{ on := 14, ground := Go.Ground.data }, { on := 11, ground := Go.Ground.chain }, { on := 0, ground := Go.Ground.phase }, { on := 1, ground := Go.Ground.phase }, { on := 2, ground := Go.Ground.phase }, { on := 3, ground := Go.Ground.phase }, { on := 4, ground := Go.Ground.phase }, { on := 5, ground := Go.Ground.phase }, { on := 6, ground := Go.Ground.phase }, { on := 7, ground := Go.Ground.phase }, { on := 8, ground := Go.Ground.phase }, { on := 9, ground := Go.Ground.phase }, { on := 10, ground := Go.Ground.phase }, { on := 11, ground := Go.Ground.phase }, { on := 12, ground := Go.Ground.phase }, { on := 13, ground := Go.Ground.phase }, { on := 14, ground := Go.Ground.phase }], guard := none }) (v := .bool true) rfl (by kernel_rfl) (by kernel_rfl) (by kernel_rfl) (fun _ _ _ h => h) (Or.inl ⟨by rfl, fun W hSw => by (try dsimp only at hSw); go_simp⟩) k6 ?_
                try simp only [Act.put, List.setIfInBounds_toArray, List.set_cons_zero, List.set_cons_succ]
                refine wpAnyH_done (by kernel_rfl) ?_ _
                refine NoPanic.normal ?_
                have HBF := Lib.hid (bel0 HW6.out k6)
                clear k0 k1 k2 k3 k4 k5 k6
                go_wp2
                go_ret
                exact ⟨rfl, HBF.out⟩
              · go_simp
                go_at_call 20
                refine (all_bytes (HT6.out.below k3)).mono ?_
                rintro e x4 ⟨sv2, rfl, hh, hb⟩
                have HV2 := Lib.hid hh.svb
                replace HV1 := Lib.hid (HV1.out.below hb)
                have nb := bel0 k3 hb
                clear hh hb
                go_wp2_with fail
                refine hK.out _ _ nb (fun k4 => ?_)
                clear nb
                clear hK K
                try simp only [List.setIfInBounds_toArray, List.set_cons_zero, List.set_cons_succ]
                refine wpAnyH_ready (rs := [7, 12]) (by kernel_rfl) (by simp) ?_
                refine AllReadyH.cons (o := { dst := some 92, op := Go.Op.convert 29 9 (Go.Operand.tmp 91), type := 9, pos := "outright.go:99", after := #[{ on := 6, ground := Go.Ground.data }, { on := 2, ground := Go.Ground.guard }], guard := some (2, true) }) rfl (fun K hK => ?_) (AllReadyH.cons (o := { dst := some 97, op := Go.Op.convert 29 9 (Go.Operand.tmp 96), type := 9, pos := "outright.go:99", after := #[{ on := 11, ground := Go.Ground.data }, { on := 2, ground := Go.Ground.guard }], guard := some (2, true) }) rfl (fun K hK => ?_) AllReadyH.nil)
                · have cv5 := conv_sv HV1.out
                  go_simp
                  refine hK.out _ _ k4 (fun k5 => ?_)
                  clear cv5
                  clear hK K
                  try simp only [List.setIfInBounds_toArray, List.set_cons_zero, List.set_cons_succ]
                  refine wpAnyH_ready (rs := [12]) (by kernel_rfl) (by simp) ?_
                  refine AllReadyH.cons (o := { dst := some 97, op := Go.Op.convert 29 9 (Go.Operand.tmp 96), type := 9, pos := "outright.go:99", after := #[{ on := 11, ground := Go.Ground.data }, { on := 2, ground := Go.Ground.guard }], guard := some (2, true) }) rfl (fun K hK => ?_) AllReadyH.nil
                  have cv6 := conv_sv HV2.out
                  go_simp
                  refine hK.out _ _ k5 (fun k6 => ?_)
                  clear cv6
                  clear hK K
                  try simp only [List.setIfInBounds_toArray, List.set_cons_zero, List.set_cons_succ]
                  refine wpAnyH_take (i := 13) (oi := { dst := some 98, op := Go.Op.binOp Go.BinOp.eql 9 (Go.Operand.tmp 92) (Go.Operand.tmp 97) 9, type := 4, pos := "outright.go:99", after := #[{ on := 7, ground := Go.Ground.data }, { on := 12, ground := Go.Ground.data }, { on := 2, ground := Go.Ground.guard }], guard := some (2, true) }) (v := .bool true) rfl (by kernel_rfl) (by kernel_rfl) (by kernel_rfl) (fun _ _ _ h => h) (Or.inl ⟨by rfl, fun W hSw => by (try dsimp only at hSw); go_simp⟩) k6 ?_
                  try simp only [Act.put, List.setIfInBounds_toArray, List.set_cons_zero, List.set_cons_succ]
                  refine wpAnyH_take (i := 14) (oi := { dst := some 99, op := Go.Op.pick (Go.Operand.tmp 87) (Go.Operand.tmp 98) (Go.Operand.const (Go.Value.bool false)), type := 4, pos := "outright.go:99", after := #[{ on := 2, ground := Go.Ground.data }, { on := 13, ground := Go.Ground.data }], guard := none }) (v := .bool true) rfl (by kernel_rfl) (by kernel_rfl) (by kernel_rfl) (fun _ _ _ h => h) (Or.inl ⟨by rfl, fun W hSw => by (try dsimp only at hSw); go_simp⟩) k6 ?_
                  try simp only [Act.put, List.setIfInBounds_toArray, List.set_cons_zero, List.set_cons_succ]
                  refine wpAnyH_take (i := 15) (oi := { dst := some 10, op := Go.Op.assign (Go.Operand.tmp 99), type := 4, pos := "outright.go:99", after := #[{ on := 14, ground := Go.Ground.data }, { on := 11, ground := Go.Ground.chain }, { on := 0, ground := Go.Ground.phase }, { on := 1, ground := Go.Ground.phase }, { on := 2, ground := Go.Ground.phase }, { on := 3, ground := Go.Ground.phase }, { on := 4, ground := Go.Ground.phase }, { on := 5, ground := Go.Ground.phase }, { on := 6, ground := Go.Ground.phase }, { on := 7, ground := Go.Ground.phase }, { on := 8, ground := Go.Ground.phase }, { on := 9, ground := Go.Ground.phase }, { on := 10, ground := Go.Ground.phase }, { on := 11, ground := Go.Ground.phase }, { on := 12, ground := Go.Ground.phase }, { on := 13, ground := Go.Ground.phase }, { on := 14, ground := Go.Ground.phase }], guard := none }) (v := .bool true) rfl (by kernel_rfl) (by kernel_rfl) (by kernel_rfl) (fun _ _ _ h => h) (Or.inl ⟨by rfl, fun W hSw => by (try dsimp only at hSw); go_simp⟩) k6 ?_
                  try simp only [Act.put, List.setIfInBounds_toArray, List.set_cons_zero, List.set_cons_succ]
                  refine wpAnyH_done (by kernel_rfl) ?_ _
                  refine NoPanic.normal ?_
                  have HBF := Lib.hid (bel0 HW6.out k6)
                  clear k0 k1 k2 k3 k4 k5 k6
                  go_wp2
                  go_ret
                  exact ⟨rfl, HBF.out⟩
                · have cv5 := conv_sv HV2.out
                  go_simp
                  refine hK.out _ _ k4 (fun k5 => ?_)
                  clear cv5
                  clear hK K
                  try simp only [List.setIfInBounds_toArray, List.set_cons_zero, List.set_cons_succ]
                  refine wpAnyH_ready (rs := [7]) (by kernel_rfl) (by simp) ?_
                  refine AllReadyH.cons (o := { dst := some 92, op := Go.Op.convert 29 9 (Go.Operand.tmp 91), type := 9, pos := "outright.go:99", after := #[{ on := 6, ground := Go.Ground.data }, { on := 2, ground := Go.Ground.guard }], guard := some (2, true) }) rfl (fun K hK => ?_) AllReadyH.nil
                  have cv6 := conv_sv HV1.out
                  go_simp
                  refine hK.out _ _ k5 (fun k6 => ?_)
                  clear cv6
                  clear hK K
                  try simp only [List.setIfInBounds_toArray, List.set_cons_zero, List.set_cons_succ]
                  refine wpAnyH_take (i := 13) (oi := { dst := some 98, op := Go.Op.binOp Go.BinOp.eql 9 (Go.Operand.tmp 92) (Go.Operand.tmp 97) 9, type := 4, pos := "outright.go:99", after := #[{ on := 7, ground := Go.Ground.data }, { on := 12, ground := Go.Ground.data }, { on := 2, ground := Go.Ground.guard }], guard := some (2, true) }) (v := .bool true) rfl (by kernel_rfl) (by kernel_rfl) (by kernel_rfl) (fun _ _ _ h => h) (Or.inl ⟨by rfl, fun W hSw => by (try dsimp only at hSw); go_simp⟩) k6 ?_
                  try simp only [Act.put, List.setIfInBounds_toArray, List.set_cons_zero, List.set_cons_succ]
                  refine wpAnyH_take (i := 14) (oi := { dst := some 99, op := Go.Op.pick (Go.Operand.tmp 87) (Go.Operand.tmp 98) (Go.Operand.const (Go.Value.bool false)), type := 4, pos := "outright.go:99", after := #[{ on := 2, ground := Go.Ground.data }, { on := 13, ground := Go.Ground.data }], guard := none }) (v := .bool true) rfl (by kernel_rfl) (by kernel_rfl) (by kernel_rfl) (fun _ _ _ h => h) (Or.inl ⟨by rfl, fun W hSw => by (try dsimp only at hSw); go_simp⟩) k6 ?_
                  try simp only [Act.put, List.setIfInBounds_toArray, List.set_cons_zero, List.set_cons_succ]
                  refine wpAnyH_take (i := 15) (oi := { dst := some 10, op := Go.Op.assign (Go.Operand.tmp 99), type := 4, pos := "outright.go:99", after := #[{ on := 14, ground := Go.Ground.data }, { on := 11, ground := Go.Ground.chain }, { on := 0, ground := Go.Ground.phase }, { on := 1, ground := Go.Ground.phase }, { on := 2, ground := Go.Ground.phase }, { on := 3, ground := Go.Ground.phase }, { on := 4, ground := Go.Ground.phase }, { on := 5, ground := Go.Ground.phase }, { on := 6, ground := Go.Ground.phase }, { on := 7, ground := Go.Ground.phase }, { on := 8, ground := Go.Ground.phase }, { on := 9, ground := Go.Ground.phase }, { on := 10, ground := Go.Ground.phase }, { on := 11, ground := Go.Ground.phase }, { on := 12, ground := Go.Ground.phase }, { on := 13, ground := Go.Ground.phase }, { on := 14, ground := Go.Ground.phase }], guard := none }) (v := .bool true) rfl (by kernel_rfl) (by kernel_rfl) (by kernel_rfl) (fun _ _ _ h => h) (Or.inl ⟨by rfl, fun W hSw => by (try dsimp only at hSw); go_simp⟩) k6 ?_
                  try simp only [Act.put, List.setIfInBounds_toArray, List.set_cons_zero, List.set_cons_succ]
                  refine wpAnyH_done (by kernel_rfl) ?_ _
                  refine NoPanic.normal ?_
                  have HBF := Lib.hid (bel0 HW6.out k6)
                  clear k0 k1 k2 k3 k4 k5 k6
                  go_wp2
                  go_ret
                  exact ⟨rfl, HBF.out⟩
        · have HNE : Hid (codeV (stP kv) n ks (X : Int) (b.length : Int) ≠ 0) := Lib.hid (by
            have h9 := all_no hq hne
            rw [HNB.out] at h9
            exact h9)
          have HP2 := Lib.hid (put_any a g h n M (X : Int) kv (.slice p nb c) b bs0 ks wr (by have := HX.out; have := HNM.out; omega) JS.out (HV.out.below JW.out))
          generalize codeV (stP kv) n ks (X : Int) (b.length : Int) = C at *
          have e0 : (C != 0) = true := by simpa using HNE.out
          clear hq hne HNE
          by_cases hlt : j < nb
          · have hjn : (j : Int) < (nb : Int) := by omega
            clear hlt
            go_wp2_with fail
            refine HP2.out.mono ?_
            rintro e w6 ⟨rfl, hg6, -⟩
            have HW6 := Lib.hid (below_grown JW.out hg6 HGL.out)
            clear hg6 HP2
            go_wp2
            go_ret
            exact ⟨rfl, HW6.out⟩
          · have hjn : ¬ (j : Int) < (nb : Int) := by omega
            clear hlt
            go_wp2_with fail
            refine HP2.out.mono ?_
            rintro e w6 ⟨rfl, hg6, -⟩
            have HW6 := Lib.hid (below_grown JW.out hg6 HGL.out)
            clear hg6 HP2
            go_wp2
            go_ret
            exact ⟨rfl, HW6.out⟩


end Go.Proofs.Ytnnpnklbhghegaa.storeWhole

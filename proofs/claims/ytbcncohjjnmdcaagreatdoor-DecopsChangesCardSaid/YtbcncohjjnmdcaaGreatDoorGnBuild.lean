/- The storage that a statement describes: the program's and that of the given answers. -/
import Derived.Test.YtbcncohjjnmdcaaGreatDoorRows
import Derived.Test.YtbcncohjjnmdcaaGreatDoorGnOpen
import Derived.Test.YtbcncohjjnmdcaaGreatDoorStD
namespace Go.Proofs.YtbcncohjjnmdcaaGreatDoor
namespace E
end E
open Go.RowKit Go.Shelf E
set_option linter.unusedVariables false
namespace M

/-- What build leaves: the same bytes and keys on both sides. -/
def Built (w : World) (e : Ending) (w' : World) : Prop := ∃ (A g h A2 g2 h2 n m : Nat) (bs ks : List UInt8), e = .returned (.tuple #[.pointer (some ⟨A, 0, none⟩), .pointer (some ⟨A2, 0, none⟩)]) ∧ Sto w' A g h n m bs ks ∧ Rfs w' A2 g2 h2 n m n m bs ks ∧ (w.heap.size ≤ A ∧ w.heap.size ≤ g ∧ w.heap.size ≤ h) ∧ (w.heap.size ≤ A2 ∧ w.heap.size ≤ g2 ∧ w.heap.size ≤ h2) ∧ g ≠ g2 ∧ Below w.heap.size w w'
/-- Both storages at one moment. -/
def Both (w : World) (A g h A2 g2 h2 n m : Nat) (bs ks : List UInt8) (W : World) : Prop := Sto W A g h n m bs ks ∧ Rfs W A2 g2 h2 n m n m bs ks ∧ Below w.heap.size w W
section
variable {w W W' : World} {A g h A2 g2 h2 n m : Nat} {bs ks bs' ks' : List UInt8}
theorem rfs_kp {l : List Nat} {a gg hh c d : Nat} (s : Rfs W a gg hh n m c d bs ks) (k : Kp W W' l) (h1 : a ∉ l) (h2 : gg ∉ l) (h3 : hh ∉ l) : Rfs W' a gg hh n m c d bs ks := ⟨s.1.kp k h1, s.2.1.kp k h2, s.2.2.1.kp k h3, s.2.2.2⟩
theorem Both.p1 (b : Both w A g h A2 g2 h2 n m bs ks W) (hg : w.heap.size ≤ g) (hn : g ≠ g2) (hgr : W.grownBy W' (some g)) : Rfs W' A2 g2 h2 n m n m bs ks ∧ Below w.heap.size w W' ∧ Kp W W' [g] := by
  have k : Kp W W' [g] := Kp.of hgr (List.mem_singleton.2 rfl)
  exact ⟨rfs_kp b.2.1 k (by simpa using (Row.ne b.2.1.1.row b.1.2.1 (by decide))) (by simpa using hn.symm) (by simpa using (Row.ne b.2.1.2.2.1 b.1.2.1 (by decide))), Kp.below b.2.2 k (by simpa using hg), k⟩
theorem both_p2 (hs0 : Sto W A g h n m bs' ks) (hr0 : Rfs W A2 g2 h2 n m n m bs ks) (hb : Below w.heap.size w W) (hg : w.heap.size ≤ g2) (hn : g ≠ g2) (hgr : W.grownBy W' (some g2)) (hr : Rfs W' A2 g2 h2 n m n m bs' ks) : Both w A g h A2 g2 h2 n m bs' ks W' ∧ Kp W W' [g2] := by
  have k : Kp W W' [g2] := Kp.of hgr (List.mem_singleton.2 rfl)
  exact ⟨⟨hs0.kp k (by simpa using (Row.ne hs0.1.row hr0.2.1 (by decide))) (by simpa using hn) (by simpa using (Row.ne hs0.2.2.1 hr0.2.1 (by decide))), hr, Kp.below hb k (by simpa using hg)⟩, k⟩
theorem Both.k1 (b : Both w A g h A2 g2 h2 n m bs ks W) (hg : w.heap.size ≤ h) (hgr : W.grownBy W' (some h)) : Rfs W' A2 g2 h2 n m n m bs ks ∧ Below w.heap.size w W' ∧ Kp W W' [h] := by
  have k : Kp W W' [h] := Kp.of hgr (List.mem_singleton.2 rfl)
  exact ⟨rfs_kp b.2.1 k (by simpa using (Row.ne b.2.1.1.row b.1.2.2.1 (by decide))) (by simpa using (Row.ne b.2.1.2.1 b.1.2.2.1 (by decide))) (by simpa using (Row.ne b.2.1.2.2.1 b.1.2.2.1 (by decide))), Kp.below b.2.2 k (by simpa using hg), k⟩
theorem both_k2 (hs0 : Sto W A g h n m bs ks') (hr0 : Rfs W A2 g2 h2 n m n m bs ks) (hb : Below w.heap.size w W) (hg : w.heap.size ≤ h2) (hgr : W.grownBy W' (some h2)) (hr : Rfs W' A2 g2 h2 n m n m bs ks') : Both w A g h A2 g2 h2 n m bs ks' W' ∧ Kp W W' [h2] := by
  have k : Kp W W' [h2] := Kp.of hgr (List.mem_singleton.2 rfl)
  exact ⟨⟨hs0.kp k (by simpa using (Row.ne hs0.1.row hr0.2.2.1 (by decide))) (by simpa using (Row.ne hs0.2.1 hr0.2.2.1 (by decide))) (by simpa using (Row.ne hs0.2.2.1 hr0.2.2.1 (by decide))), hr, Kp.below hb k (by simpa using hg)⟩, k⟩
end
theorem bd_mk {f : (Nat → Value) → Act} {a : Act} (h : a = f (fun i => a.tmps.getD i undef)) : ∃ u, a = f u := ⟨_, h⟩
theorem sizeOk_of (q : Nat) (hq : q < 4) : sizeOk ((2048 * (q + 1) : Nat) : Int) = true := by
  unfold sizeOk
  exact decide_eq_true (by omega)
def BdA (A A2 N : Nat) (BX : Nat) (u : Nat → Value) : Act := { tmps := #[u 0, .pointer (some ⟨BX, 0, none⟩), .pointer none, .pointer none, .int .i64 (N : Int), .pointer (some ⟨A, 0, none⟩), u 6, .pointer (some ⟨A2, 0, none⟩), u 8, u 9, u 10, u 11, u 12, u 13, u 14, u 15, u 16, u 17, u 18, u 19, u 20, u 21, u 22, u 23, u 24, u 25, u 26, u 27, u 28, u 29, u 30, u 31, u 32, u 33, u 34, u 35, u 36, u 37, u 38, u 39, u 40, u 41, u 42, u 43, u 44, u 45, u 46, u 47, u 48, u 49, u 50, u 51, u 52, u 53, u 54, u 55, u 56, u 57, u 58, u 59, u 60, u 61, u 62, u 63, u 64, u 65, u 66, u 67, u 68, u 69, u 70, u 71, u 72, u 73, u 74, u 75, u 76, u 77, u 78, u 79, u 80, u 81, u 82, u 83, u 84, u 85, u 86, u 87, u 88, u 89, u 90, u 91, u 92, u 93, u 94, u 95, u 96, u 97, u 98, u 99, u 100, u 101, u 102, u 103, u 104, u 105, u 106, u 107, u 108, u 109, u 110, u 111, u 112, u 113, u 114], defers := [] }
/-- Behind the loop of the parts. -/
def BdQ (w : World) (A g h A2 g2 h2 N M : Nat) (cs : Array Value) (e : Exit) (a : Act) (W : World) : Prop := e = .exit 0 ∧ (∃ u : Nat → Value, a = BdA A A2 N w.heap.size u) ∧ ∃ bs, Both w A g h A2 g2 h2 N M bs (List.replicate M 0) W ∧ Bx W w.heap.size 34 cs
set_option maxRecDepth 100000 in
set_option maxHeartbeats 4000000 in
theorem build_any (x y z : Value) (w : World) (hM : MemAt w x y z) : Calls Tryz.prog 14 #[.agg #[x, y, z]] w (Built w) := by
  obtain ⟨⟨bb, rfl⟩, ⟨kl, hkl⟩, ⟨p, np, cp, rfl, hpr⟩⟩ := hM
  have hbb := bb.toNat_lt
  generalize bb.toNat = X at *
  obtain ⟨q, hq⟩ : ∃ q, q = X % 4 := ⟨_, rfl⟩
  have hq4 : q < 4 := by omega
  obtain ⟨N, hN⟩ : ∃ N, N = 2048 * (q + 1) := ⟨_, rfl⟩
  obtain ⟨M, hMd⟩ : ∃ M, M = q + 1 := ⟨_, rfl⟩
  have HEQ : Hid (2048 * ((X : Int) % 4 + 1) = (N : Int)) := Lib.hid (by omega)
  have HSO : Hid (sizeOk (N : Int) = true) := Lib.hid (by rw [hN]; exact sizeOk_of q hq4)
  have HND : Hid (N / 2048 = M) := Lib.hid (by omega)
  have hN1 : 2048 ≤ N := by omega
  have hN2 : N ≤ 8192 := by omega
  have hNM : Hid (N = M * 2048) := Lib.hid (by omega)
  have hXI : (X : Int) < 256 := by omega
  clear hN hMd hq hq4
  obtain ⟨kp, kc, rfl, hkr, hk1, hk2, hk3⟩ := id hkl
  obtain ⟨nk, hnk⟩ : ∃ n, n = kl.length := ⟨_, rfl⟩
  rw [← hnk] at hkl hk1 ⊢
  have HNK := Lib.hid hnk
  have HKR := Lib.hid hkr
  have HPR := Lib.hid hpr
  clear hkr hpr hkl hnk hbb
  obtain ⟨wB, hwB⟩ : ∃ W, W = w.alloc (.cells #[.int .u8 (X : Int), .slice kp nk kc, .slice p np cp] 34) := ⟨_, rfl⟩
  have bB : Below w.heap.size w wB := by rw [hwB]; exact below_new _ _
  have HBX : Hid (Bx wB w.heap.size 34 #[.int .u8 (X : Int), .slice kp nk kc, .slice p np cp]) := Lib.hid (by rw [hwB]; exact Bx.new w _ _)
  have HB0 := Lib.hid bB
  have HWB := Lib.hid hwB
  have HNEW := Lib.hid (new_any (N : Int) wB HSO.out)
  have HRN := Lib.hid (fun X => rnew_any (N : Int) X HSO.out)
  clear bB
  have f0 := HBX.out.cell 0
  simp only [List.getElem?_toArray, List.getElem?_cons_zero] at f0
  rw [hwB] at f0
  clear hwB
  go_enter Tryz.func14, Tryz.ntmps14
  go_wp2_with fail
  rw [← HWB.out, HEQ.out]
  refine HNEW.out.mono ?_
  rintro e w1 ⟨A, g, h, rfl, hst, hA, hg, hh, hb⟩
  rw [Int.toNat_natCast, HND.out] at hst
  have HG : Hid (w.heap.size ≤ A ∧ w.heap.size ≤ g ∧ w.heap.size ≤ h) := Lib.hid (by have := HB0.out.size; omega)
  have HST := Lib.hid hst
  have HB1 := Lib.hid (bel0 HB0.out hb)
  have HX1 := Lib.hid (HBX.out.below hb)
  clear hst hA hg hh hb HNEW HBX HB0 f0 HWB
  go_wp2_with fail
  refine (HRN.out w1).mono ?_
  rintro e w2 ⟨A2, g2, h2, rfl, hrf, hA, hg, hh, hb⟩
  rw [Int.toNat_natCast, HND.out] at hrf
  have HG2 : Hid (w.heap.size ≤ A2 ∧ w.heap.size ≤ g2 ∧ w.heap.size ≤ h2) := Lib.hid (by have := HB1.out.size; omega)
  have HGN : Hid (g ≠ g2) := Lib.hid (by have := HST.out.2.1.lt; omega)
  have HBO : Hid (Both w A g h A2 g2 h2 N M (List.replicate N 0) (List.replicate M 0) w2) := Lib.hid ⟨HST.out.below hb, hrf, bel0 HB1.out hb⟩
  have HX2 := Lib.hid (HX1.out.below hb)
  clear hrf hA hg hh hb HRN HST HB1 HX1
  go_wp2
  have HXN : Hid (∀ W bs ks, Both w A g h A2 g2 h2 N M bs ks W → Bx W w.heap.size 34 #[.int .u8 (X : Int), .slice kp nk kc, .slice p np cp] → w.heap.size ≠ g ∧ w.heap.size ≠ g2 ∧ w.heap.size ≠ h ∧ w.heap.size ≠ h2) := Lib.hid (fun W bs ks hb hx => ⟨Row.ne hx.row hb.1.2.1 (by decide), Row.ne hx.row hb.2.1.2.1 (by decide), Row.ne hx.row hb.1.2.2.1 (by decide), Row.ne hx.row hb.2.1.2.2.1 (by decide)⟩)
  refine Code.wp_mono (Q := BdQ w A g h A2 g2 h2 N M #[.int .u8 (X : Int), .slice kp nk kc, .slice p np cp]) ?_ ?_
  rotate_left
  · go_loopw [8] (fun i wr => ∃ (k : Nat) (bs : List UInt8), k ≤ np ∧ k ≤ 20 ∧ i = .int .i64 (k : Int) ∧ Both w A g h A2 g2 h2 N M bs (List.replicate M 0) wr ∧ Bx wr w.heap.size 34 #[.int .u8 (X : Int), .slice kp nk kc, .slice p np cp]) (fun i _ => 20 - (intOf i).toNat)
    case atStart => exact ⟨0, _, Nat.zero_le _, Nat.zero_le _, rfl, HBO.out, HX2.out⟩
    case round =>
      clear HBO HX2
      obtain ⟨k, bs, hk1, hk2, rfl, hbo, hx⟩ := hrel
      have HBO := Lib.hid hbo
      have HX := Lib.hid hx
      have f2 := hx.cell 2
      simp only [List.getElem?_toArray, List.getElem?_cons_succ, List.getElem?_cons_zero] at f2
      clear hbo hx
      by_cases hlt : k < np ∧ k < 20
      · obtain ⟨hlt1, hlt2⟩ := hlt
        have hlt1' : (k : Int) < (np : Int) := by omega
        have hlt2' : (k : Int) < 20 := by omega
        obtain ⟨PB, off, rfl, hpa⟩ : ∃ B off, p = some ⟨B, off, none⟩ ∧ ∀ i, i < np → PartAt w B (off + i * 2) := by
          rcases HPR.out with h0 | h1
          · omega
          · exact h1
        obtain ⟨xa, bv, b, hc0, hxa, hc1, hsv⟩ := hpa k hlt1
        have g0 := (HBO.out.2.2.cell (World.block_lt_of_cell? w _ hc0)).trans hc0
        have g1 := (HBO.out.2.2.cell (World.block_lt_of_cell? w _ hc1)).trans hc1
        have HSV := Lib.hid hsv
        obtain ⟨bp, bc, rfl, -, hb1, hb2, -⟩ := hsv
        obtain ⟨nb, hnb⟩ : ∃ n, n = b.length := ⟨_, rfl⟩
        rw [← hnb] at HSV hb1 g1
        have HNB := Lib.hid hnb
        obtain ⟨at', hat⟩ : ∃ a, a = xa % N := ⟨_, rfl⟩
        have hatN : at' < N := by rw [hat]; exact Nat.mod_lt _ (by omega)
        have HAT : Hid ((xa : Int) % (N : Int) = (at' : Int)) := Lib.hid (by rw [hat]; omega)
        clear hpa hc0 hc1 hnb hat
        have hN0 : ((N : Int) == 0) = false := by
          have : N ≠ 0 := by omega
          simpa using this
        have hxaI : (xa : Int) < 65536 := by omega
        by_cases hin : nb ≤ 300 ∧ at' + nb ≤ N
        · obtain ⟨hi1, hi2⟩ := hin
          have hi1' : (nb : Int) ≤ 300 := by omega
          have hi2' : (xa : Int) % (N : Int) + (nb : Int) ≤ (N : Int) := by have := HAT.out; omega
          have hi3' : 0 ≤ (xa : Int) % (N : Int) := by have := HAT.out; omega
          have HPT := Lib.hid (put_any A g h N M (at' : Int) 0 _ b bs _ wr (by omega) HBO.out.1 (HSV.out.below HBO.out.2.2))
          go_wp2_with fail
          rw [HAT.out]
          refine HPT.out.mono ?_
          rintro e w3 ⟨rfl, hgr, hs⟩
          obtain ⟨hr3, hb3, hk3⟩ := HBO.out.p1 HG.out.2.1 HGN.out hgr
          have HS3 := Lib.hid (And.intro hs (And.intro hr3 hb3))
          have HX3 := Lib.hid (HX.out.kp hk3 (by simpa using (HXN.out _ _ _ HBO.out HX.out).1))
          have HXG := Lib.hid (HXN.out _ _ _ HBO.out HX.out).2.1
          have HPR3 := Lib.hid (rput_any A2 g2 h2 N M N M (at' : Int) 0 _ b bs _ w3 hr3 (fun w' hg' => HSV.out.below (hb3.grown hg' hb3.size (fun r hr => by cases hr; exact HG2.out.2.1))))
          clear hs hr3 hb3 hgr hk3 HPT HBO HX f2 g0 g1
          go_wp2_with fail
          refine HPR3.out.mono ?_
          rintro e w4 ⟨rfl, hgr, hr⟩
          obtain ⟨hbo4, hk4⟩ := both_p2 HS3.out.1 HS3.out.2.1 HS3.out.2.2 HG2.out.2.1 HGN.out hgr hr
          have HBO4 := Lib.hid hbo4
          have HX4 := Lib.hid (HX3.out.kp hk4 (by simpa using HXG.out))
          clear hgr hr hbo4 hk4 HS3 HX3 HPR3
          go_wp2
          go_roundw
          case rel => exact ⟨k + 1, _, hlt1, hlt2, by go_num, HBO4.out, HX4.out⟩
          case measure => simp [intOf]; omega
        · by_cases hi1 : nb ≤ 300
          · have hi1' : (nb : Int) ≤ 300 := by omega
            have hi2' : ¬ ((xa : Int) % (N : Int) + (nb : Int) ≤ (N : Int)) := by have := HAT.out; omega
            have hi3' : 0 ≤ (xa : Int) % (N : Int) := by have := HAT.out; omega
            have hi4' : (xa : Int) % (N : Int) < (N : Int) := by have := HAT.out; omega
            go_wp2
            go_roundw
            case rel => exact ⟨k + 1, _, hlt1, hlt2, by go_num, HBO.out, HX.out⟩
            case measure => simp [intOf]; omega
          · have hi1' : ¬ ((nb : Int) ≤ 300) := by omega
            go_wp2
            go_roundw
            case rel => exact ⟨k + 1, _, hlt1, hlt2, by go_num, HBO.out, HX.out⟩
            case measure => simp [intOf]; omega
      · by_cases hkn : k < np
        · have hkn' : (k : Int) < (np : Int) := by omega
          have hkm' : ¬ ((k : Int) < 20) := by omega
          go_wp2
          unfold BdQ
          exact ⟨rfl, bd_mk rfl, bs, HBO.out, HX.out⟩
        · have hkn' : ¬ ((k : Int) < (np : Int)) := by omega
          go_wp2
          unfold BdQ
          exact ⟨rfl, bd_mk rfl, bs, HBO.out, HX.out⟩
  clear HBO HX2 HPR
  intro e a w5 hH
  unfold BdQ at hH
  obtain ⟨rfl, ⟨u, rfl⟩, bs, hbo, hx⟩ := hH
  unfold BdA
  have HBO := Lib.hid hbo
  have HX2 := Lib.hid hx
  clear hbo hx
  go_wp2
  go_loopw [11] (fun i wr => ∃ (k : Nat) (ks : List UInt8), k ≤ nk ∧ k ≤ 4 ∧ i = .int .i64 (k : Int) ∧ Both w A g h A2 g2 h2 N M bs ks wr ∧ Bx wr w.heap.size 34 #[.int .u8 (X : Int), .slice kp nk kc, .slice p np cp]) (fun i _ => 4 - (intOf i).toNat)
  case atStart => exact ⟨0, _, Nat.zero_le _, Nat.zero_le _, rfl, HBO.out, HX2.out⟩
  case round =>
    clear HBO HX2
    obtain ⟨k, ks, hk1', hk2', rfl, hbo, hx⟩ := hrel
    have HBO := Lib.hid hbo
    have HX := Lib.hid hx
    have f1 := hx.cell 1
    simp only [List.getElem?_toArray, List.getElem?_cons_succ, List.getElem?_cons_zero] at f1
    clear hbo hx
    by_cases hlt : k < nk ∧ k < 4
    · obtain ⟨hlt1, hlt2⟩ := hlt
      have hlt1' : (k : Int) < (nk : Int) := by omega
      have hlt2' : (k : Int) < 4 := by omega
      obtain ⟨KB, ko, rfl, hkc⟩ : ∃ B off, kp = some ⟨B, off, none⟩ ∧ ∀ j, j < nk → w.cell? ⟨B, off + j, none⟩ = some (.int .u8 ((gt kl j).toNat : Int)) := by
        rcases HKR.out with h0 | ⟨KB, ko, h1, h2⟩
        · have := HNK.out
          rw [h0] at this
          simp at this
          omega
        · exact ⟨KB, ko, h1, fun j hj => h2 j (by rw [← HNK.out]; exact hj)⟩
      have HCK : Hid (∀ X, Below w.heap.size w X → X.cell? ⟨KB, ko + k, none⟩ = some (.int .u8 ((gt kl k).toNat : Int))) := Lib.hid (fun X hX => (hX.cell (World.block_lt_of_cell? w _ (hkc k hlt1))).trans (hkc k hlt1))
      have g1 := HCK.out wr HBO.out.2.2
      have hv := (gt kl k).toNat_lt
      generalize (gt kl k).toNat = v at HCK g1 hv
      have hvI : (v : Int) < 256 := by omega
      have HSK := Lib.hid (setKey_any A g h N M ((k : Int) * 2048) ((v : Int) % 32) bs ks wr (by omega) HBO.out.1)
      clear hkc hv
      go_wp2_with fail
      refine HSK.out.mono ?_
      rintro e w6 ⟨rfl, hgr, hs⟩
      obtain ⟨hr3, hb3, hk3⟩ := HBO.out.k1 HG.out.2.2 hgr
      have HS3 := Lib.hid (And.intro hs (And.intro hr3 hb3))
      have HX3 := Lib.hid (HX.out.kp hk3 (by simpa using (HXN.out _ _ _ HBO.out HX.out).2.2.1))
      have HXG := Lib.hid (HXN.out _ _ _ HBO.out HX.out).2.2.2
      have HRS := Lib.hid (rsetKey_any A2 g2 h2 N M N M ((k : Int) * 2048) ((v : Int) % 32) bs ks w6 hr3)
      have g1' := HCK.out w6 hb3
      have f1' := HX3.out.cell 1
      simp only [List.getElem?_toArray, List.getElem?_cons_succ, List.getElem?_cons_zero] at f1'
      clear hs hr3 hb3 hgr hk3 HSK HBO HX f1 g1
      go_wp2_with fail
      refine HRS.out.mono ?_
      rintro e w7 ⟨rfl, hgr, hr⟩
      obtain ⟨hbo4, hk4⟩ := both_k2 HS3.out.1 HS3.out.2.1 HS3.out.2.2 HG2.out.2.2 hgr hr
      have HBO4 := Lib.hid hbo4
      have HX4 := Lib.hid (HX3.out.kp hk4 (by simpa using HXG.out))
      clear hgr hr hbo4 hk4 HS3 HX3 HRS g1' f1'
      go_wp2
      go_roundw
      case rel => exact ⟨k + 1, _, hlt1, hlt2, by go_num, HBO4.out, HX4.out⟩
      case measure => simp [intOf]; omega
    · have HR : Hid (Built w (.returned (.tuple #[.pointer (some ⟨A, 0, none⟩), .pointer (some ⟨A2, 0, none⟩)])) wr) := Lib.hid ⟨A, g, h, A2, g2, h2, N, M, bs, ks, rfl, HBO.out.1, HBO.out.2.1, HG.out, HG2.out, HGN.out, HBO.out.2.2⟩
      clear HBO HX
      by_cases hkn : k < nk
      · have hkn' : (k : Int) < (nk : Int) := by omega
        have hkm' : ¬ ((k : Int) < 4) := by omega
        go_wp2
        go_ret2
        exact HR.out
      · have hkn' : ¬ ((k : Int) < (nk : Int)) := by omega
        go_wp2
        go_ret2
        exact HR.out

end M
end Go.Proofs.YtbcncohjjnmdcaaGreatDoor

/- The statement WordFields: the walks where a field is put. -/
import Derived.Test.YtkbnciekhllcpaaRows
import Derived.WalkKit
import Derived.ProofKit
import Derived.Deep.QuietTactic
import Derived.BigQuiet
import Derived.OwnWalk
import Derived.Laws.CopyOwn
import Derived.Laws.AppendOwn
import Derived.Laws.OwnMore
import Derived.Laws.AppendOwnNone
import Derived.Deep.Draws
import Derived.Lib.Hide
import Derived.Test.YtkbnciekhllcpaaFields1
namespace Go.Proofs.Ytkbnciekhllcpaa
open Go.RowKit
set_option linter.unusedVariables false
namespace W

theorem rdDraw {w : World} {p : Option Addr} {l : List Int} (h : Rd w p l) (m : Nat) : Rd (w.drewN m) p l := h.below (belowDraw w m)

set_option maxRecDepth 100000 in
theorem fields_both (p : Option Addr) (c : Nat) (l dl el : List Int) (at' v hv fv : Int) (w : World) (hn : l.length ≤ 4096) (hs : Src w p c l) (hd : dl.length = l.length) (hdb : IsB dl) (he : el.length = l.length) (heb : IsB el) 
    (HWH : Hid (∀ W g cap, St w p c l g W → l.length + 8 ≤ cap → Calls Try.prog 20 #[.slice (some ⟨g, 0, none⟩) l.length cap, .int .i64 at'] W fun e w' => e = .returned (.tuple #[.int .u32 hv, .bool true]) ∧ W = w'))
    (HRH : Hid (∀ W g, St w p c l g W → Calls Try.prog 21 #[.slice p l.length c, .int .i64 at'] W fun e w' => e = .returned (.tuple #[.int .u32 hv, .bool true]) ∧ W = w'))
    (HWF : Hid (∀ W g cap, St w p c l g W → l.length + 8 ≤ cap → Calls Try.prog 22 #[.slice (some ⟨g, 0, none⟩) l.length cap, .int .i64 at'] W fun e w' => e = .returned (.tuple #[.int .u32 fv, .bool true]) ∧ W = w'))
    (HRF : Hid (∀ W g, St w p c l g W → Calls Try.prog 23 #[.slice p l.length c, .int .i64 at'] W fun e w' => e = .returned (.tuple #[.int .u32 fv, .bool true]) ∧ W = w'))
    (HWPH : Hid (∀ W g cap, St w p c l g W → l.length + 8 ≤ cap → Calls Try.prog 24 #[.slice (some ⟨g, 0, none⟩) l.length cap, .int .i64 at', .int .u32 v] W (Put1 W l.length dl)))
    (HRPH : Hid (∀ W g, St w p c l g W → Calls Try.prog 25 #[.slice p l.length c, .int .i64 at', .int .u32 v] W (Put1 W l.length dl)))
    (HWPF : Hid (∀ W g cap, St w p c l g W → l.length + 8 ≤ cap → Calls Try.prog 26 #[.slice (some ⟨g, 0, none⟩) l.length cap, .int .i64 at', .int .u32 v] W (Put1 W l.length el)))
    (HRPF : Hid (∀ W g, St w p c l g W → Calls Try.prog 27 #[.slice p l.length c, .int .i64 at', .int .u32 v] W (Put1 W l.length el))) :
    Calls Try.prog 3 #[.slice p l.length c, .int .i64 at', .int .u32 v] w fun e w' => e = .returned (.bool true) ∧ Below w.heap.size w w' := by
  have hn' : l.length ≤ 9223372036854775807 := by omega
  have LE := Lib.hid (fun W (h : Src W p c l) => lent_any p c l W hn h)
  have KE := Lib.hid (fun g c' W (h1 : l.length + 8 ≤ c') h2 (h : Src W p c l) => kept_true g c' c p l W hn h1 h2 h.rd)
  have SD := Lib.hid (fun W q r c1 c2 (h1 : Rd W q dl) (h2 : Rd W r dl) => same_true q r c1 c2 dl W (by omega) h1 h2)
  have SE := Lib.hid (fun W q r c1 c2 (h1 : Rd W q el) (h2 : Rd W r el) => same_true q r c1 c2 el W (by omega) h1 h2)
  rw [hd] at SD
  rw [he] at SE
  have HD := Lib.hid hd; clear hd
  have HE := Lib.hid he; clear he
  have HS0 := Lib.hid hs; clear hs
  have HDB := Lib.hid hdb; clear hdb
  have HEB := Lib.hid heb; clear heb
  go_enter Try.func3, Try.ntmps3
  go_wp2_with fail
  refine (works_any _).mono ?_
  rintro e w1 ⟨rfl, _, hb1⟩
  have HS1 := Lib.hid (HS0.out.below hb1)
  go_wp2_with fail
  refine (LE.out _ HS1.out).mono ?_
  intro e w2 hlp
  obtain ⟨g, cap, rfl, hcap, hg, hb2, hall⟩ := lentForm hlp
  have S2 := Lib.hid (show St w p c l g w2 from ⟨hb1.trans (hb2.mono hb1.size), HS1.out.below hb2, Nat.le_trans hb1.size hg, hall⟩)
  have G2 := Lib.hid (show g < w2.heap.size from World.block_lt_of_cell? w2 _ (hall 0 (by omega)))
  clear hlp hall hb1 hb2 HS1 hg
  go_wp2_with fail
  refine (HWH.out _ g _ S2.out hcap).mono ?_
  rintro e w' ⟨rfl, rfl⟩
  go_wp2_with fail
  refine (HRH.out _ g S2.out).mono ?_
  rintro e w' ⟨rfl, rfl⟩
  go_wp2_with fail
  refine (HWF.out _ g _ S2.out hcap).mono ?_
  rintro e w' ⟨rfl, rfl⟩
  go_wp2_with fail
  refine (HRF.out _ g S2.out).mono ?_
  rintro e w' ⟨rfl, rfl⟩
  go_wp2_with fail
  refine (HWPH.out _ g _ S2.out hcap).mono ?_
  rintro e w3 ⟨g3, cap3, rfl, hle3, hb3, ho3⟩
  have S3 := Lib.hid (S2.out.next hb3)
  have O3 := Lib.hid ho3; have L3 := Lib.hid hle3; have B3 := Lib.hid hb3; clear ho3 hle3 hb3
  go_wp2_with fail
  refine (HRPH.out _ g S3.out).mono ?_
  rintro e w4 ⟨g4, cap4, rfl, hle4, hb4, ho4⟩
  have S4 := Lib.hid (S3.out.next hb4)
  have O4 := Lib.hid ho4; have B4 := Lib.hid hb4; clear ho4 hle4 hb4
  have D4 := Lib.hid (ownBelow O3.out B4.out)
  go_wp2_with fail
  refine (HWPF.out _ g _ S4.out hcap).mono ?_
  rintro e w5 ⟨g5, cap5, rfl, hle5, hb5, ho5⟩
  have S5 := Lib.hid (S4.out.next hb5)
  have O5 := Lib.hid ho5; have L5 := Lib.hid hle5; have B5 := Lib.hid hb5; clear ho5 hle5 hb5
  have D5 := Lib.hid (ownBelow D4.out B5.out); have P5 := Lib.hid (ownBelow O4.out B5.out)
  go_wp2_with fail
  refine (HRPF.out _ g S5.out).mono ?_
  rintro e w6 ⟨g6, cap6, rfl, hle6, hb6, ho6⟩
  have S6 := Lib.hid (S5.out.next hb6)
  have O6 := Lib.hid ho6; have B6 := Lib.hid hb6; clear ho6 hle6 hb6
  have D6 := Lib.hid (ownBelow D5.out B6.out); have P6 := Lib.hid (ownBelow P5.out B6.out); have E6 := Lib.hid (ownBelow O5.out B6.out)
  go_wp2_with fail
  refine (SD.out _ _ _ _ _ (ownRd D6.out HD.out) (ownRd P6.out HD.out)).mono ?_
  rintro e w' ⟨rfl, m1, rfl⟩
  go_wp2_with fail
  refine (SE.out _ _ _ _ _ (rdDraw (ownRd E6.out HE.out) _) (rdDraw (ownRd O6.out HE.out) _)).mono ?_
  rintro e w' ⟨rfl, m2, rfl⟩
  have N3 := Lib.hid (show w.heap.size ≤ g3 ∧ g3 ≠ g from by have h1 := S2.out.1.size; have h2 := G2.out; have h3 := L3.out; omega)
  have SW := Lib.hid (S6.out.draw (m1 + m2))
  have DW := Lib.hid (ownBelow D6.out (belowDraw w6 (m1 + m2)))
  have N5 := Lib.hid (show w.heap.size ≤ g5 ∧ g5 ≠ g ∧ g5 ≠ g3 from by have h1 := S2.out.1.size; have h2 := G2.out; have h3 := L3.out; have h4 := L5.out; have h5 := (O3.out.lt g3 rfl).2; have h6 := B4.out.size; have h7 := B3.out.size; omega)
  have EW := Lib.hid (ownBelow E6.out (belowDraw w6 (m1 + m2)))
  clear HWH HRH HWF HRF HWPH HRPH HWPF HRPF LE SD SE S2 G2 S3 S4 S6 D4 D6 P6 O3 O4 L3 B3 B4 B6 S5 D5 P5 E6 O5 O6 L5 B5
  go_wp2
  go_loopw [24] (fun i wr => (w6.drewN (m1 + m2)).grownBy wr (some g3) ∧ ∃ (k : Nat) (xs : List Int), k ≤ l.length ∧ i = .int .i64 k ∧ xs.length = l.length ∧ IsB xs ∧ wr.ownsRow w2.heap.size 5 1 (.slice (some ⟨g3, 0, none⟩) l.length cap3) l.length (bs xs)) (fun i _ => l.length - (intOf i).toNat)
  case atStart => exact ⟨grownSelf _ _, 0, dl, Nat.zero_le _, rfl, HD.out, HDB.out, DW.out⟩
  case round =>
    obtain ⟨hgr, k, xs, hk, rfl, hlen, hxs, hown⟩ := hrel
    by_cases hlt : k < l.length
    · obtain ⟨x, hx⟩ : ∃ x, xs.getD k 0 = x := ⟨_, rfl⟩
      have hxb := hxs.at k
      have hcell : wr.cell? ⟨g3, k, none⟩ = some (.int .u8 x) := by rw [hown.cellAt k (by omega), ← hx]; simp [bs, List.getD_eq_getElem?_getD, List.getElem?_eq_getElem (show k < xs.length by omega)]
      have hfr := hown.frozenAt k
      rw [hx] at hxb
      have hst := hown.stored k (.int .u8 ((x + 1) % 256))
      rw [bs_set] at hst
      have HST := Lib.hid hst
      have HXS := Lib.hid (show IsB (xs.set k ((x + 1) % 256)) from hxs.set k _ (by omega))
      have HLN := Lib.hid (show (xs.set k ((x + 1) % 256)).length = l.length by rw [List.length_set, hlen])
      have HGR := Lib.hid hgr
      clear hst hxs hlen hown hx hgr
      go_wp2
      go_roundw
      case rel => exact ⟨grownTrans HGR.out HST.out.2, k + 1, _, by omega, by go_num, HLN.out, HXS.out, HST.out.1⟩
      case measure => simp [intOf]; omega
    · obtain rfl : k = l.length := by omega
      have S7 := Lib.hid (SW.out.grown hgr N3.out.1 N3.out.2 HS0.out)
      have E7 := Lib.hid (EW.out.kept hgr (.inr (by simp [Value.ownBlock]; exact N5.out.2.2)))
      clear hgr hlen hxs hown
      obtain ⟨wo, ho⟩ : ∃ wo : World, wo = wr := ⟨_, rfl⟩
      subst ho
      go_wp2
      go_loopw [25] (fun i wr => wo.grownBy wr (some g5) ∧ ∃ (k : Nat) (xs : List Int), k ≤ l.length ∧ i = .int .i64 k ∧ xs.length = l.length ∧ IsB xs ∧ wr.ownsRow w4.heap.size 5 1 (.slice (some ⟨g5, 0, none⟩) l.length cap5) l.length (bs xs)) (fun i _ => l.length - (intOf i).toNat)
      case atStart => exact ⟨grownSelf _ _, 0, el, Nat.zero_le _, rfl, HE.out, HEB.out, E7.out⟩
      case round =>
        obtain ⟨hgr, k, xs, hk, rfl, hlen, hxs, hown⟩ := hrel
        by_cases hlt : k < l.length
        · obtain ⟨x, hx⟩ : ∃ x, xs.getD k 0 = x := ⟨_, rfl⟩
          have hxb := hxs.at k
          have hcell : wr.cell? ⟨g5, k, none⟩ = some (.int .u8 x) := by rw [hown.cellAt k (by omega), ← hx]; simp [bs, List.getD_eq_getElem?_getD, List.getElem?_eq_getElem (show k < xs.length by omega)]
          have hfr := hown.frozenAt k
          rw [hx] at hxb
          have hst := hown.stored k (.int .u8 ((x + 1) % 256))
          rw [bs_set] at hst
          have HST := Lib.hid hst
          have HXS := Lib.hid (show IsB (xs.set k ((x + 1) % 256)) from hxs.set k _ (by omega))
          have HLN := Lib.hid (show (xs.set k ((x + 1) % 256)).length = l.length by rw [List.length_set, hlen])
          have HGR := Lib.hid hgr
          clear hst hxs hlen hown hx hgr
          go_wp2
          go_roundw
          case rel => exact ⟨grownTrans HGR.out HST.out.2, k + 1, _, by omega, by go_num, HLN.out, HXS.out, HST.out.1⟩
          case measure => simp [intOf]; omega
        · obtain rfl : k = l.length := by omega
          have S8 := Lib.hid (S7.out.grown hgr N5.out.1 N5.out.2.1 HS0.out)
          clear hgr hlen hxs hown
          go_wp2_with fail
          refine (KE.out _ _ _ hcap S8.out.2.2.2 S8.out.2.1).mono ?_
          rintro e w' ⟨rfl, m3, rfl⟩
          go_wp2
          go_ret
          exact ⟨rfl, (S8.out.draw m3).1⟩

set_option maxRecDepth 100000 in
theorem fields_half (p : Option Addr) (c : Nat) (l dl el : List Int) (at' v hv fv : Int) (w : World) (hn : l.length ≤ 4096) (hs : Src w p c l) (hd : dl.length = l.length) (hdb : IsB dl) (he : el.length = l.length) (heb : IsB el) 
    (HWH : Hid (∀ W g cap, St w p c l g W → l.length + 8 ≤ cap → Calls Try.prog 20 #[.slice (some ⟨g, 0, none⟩) l.length cap, .int .i64 at'] W fun e w' => e = .returned (.tuple #[.int .u32 hv, .bool true]) ∧ W = w'))
    (HRH : Hid (∀ W g, St w p c l g W → Calls Try.prog 21 #[.slice p l.length c, .int .i64 at'] W fun e w' => e = .returned (.tuple #[.int .u32 hv, .bool true]) ∧ W = w'))
    (HWF : Hid (∀ W g cap, St w p c l g W → l.length + 8 ≤ cap → Calls Try.prog 22 #[.slice (some ⟨g, 0, none⟩) l.length cap, .int .i64 at'] W fun e w' => e = .returned (.tuple #[.int .u32 0, .bool false]) ∧ W = w'))
    (HRF : Hid (∀ W g, St w p c l g W → Calls Try.prog 23 #[.slice p l.length c, .int .i64 at'] W fun e w' => e = .returned (.tuple #[.int .u32 0, .bool false]) ∧ W = w'))
    (HWPH : Hid (∀ W g cap, St w p c l g W → l.length + 8 ≤ cap → Calls Try.prog 24 #[.slice (some ⟨g, 0, none⟩) l.length cap, .int .i64 at', .int .u32 v] W (Put1 W l.length dl)))
    (HRPH : Hid (∀ W g, St w p c l g W → Calls Try.prog 25 #[.slice p l.length c, .int .i64 at', .int .u32 v] W (Put1 W l.length dl)))
    (HWPF : Hid (∀ W g cap, St w p c l g W → l.length + 8 ≤ cap → Calls Try.prog 26 #[.slice (some ⟨g, 0, none⟩) l.length cap, .int .i64 at', .int .u32 v] W fun e w' => e = .returned (.tuple #[.slice none 0 0, .bool false]) ∧ Below W.heap.size W w'))
    (HRPF : Hid (∀ W g, St w p c l g W → Calls Try.prog 27 #[.slice p l.length c, .int .i64 at', .int .u32 v] W fun e w' => e = .returned (.tuple #[.slice none 0 0, .bool false]) ∧ W = w')) :
    Calls Try.prog 3 #[.slice p l.length c, .int .i64 at', .int .u32 v] w fun e w' => e = .returned (.bool true) ∧ Below w.heap.size w w' := by
  have hn' : l.length ≤ 9223372036854775807 := by omega
  have LE := Lib.hid (fun W (h : Src W p c l) => lent_any p c l W hn h)
  have KE := Lib.hid (fun g c' W (h1 : l.length + 8 ≤ c') h2 (h : Src W p c l) => kept_true g c' c p l W hn h1 h2 h.rd)
  have SD := Lib.hid (fun W q r c1 c2 (h1 : Rd W q dl) (h2 : Rd W r dl) => same_true q r c1 c2 dl W (by omega) h1 h2)
  have SE := Lib.hid (fun W q r c1 c2 (h1 : Rd W q el) (h2 : Rd W r el) => same_true q r c1 c2 el W (by omega) h1 h2)
  rw [hd] at SD
  rw [he] at SE
  have HD := Lib.hid hd; clear hd
  have HE := Lib.hid he; clear he
  have HS0 := Lib.hid hs; clear hs
  have HDB := Lib.hid hdb; clear hdb
  have HEB := Lib.hid heb; clear heb
  go_enter Try.func3, Try.ntmps3
  go_wp2_with fail
  refine (works_any _).mono ?_
  rintro e w1 ⟨rfl, _, hb1⟩
  have HS1 := Lib.hid (HS0.out.below hb1)
  go_wp2_with fail
  refine (LE.out _ HS1.out).mono ?_
  intro e w2 hlp
  obtain ⟨g, cap, rfl, hcap, hg, hb2, hall⟩ := lentForm hlp
  have S2 := Lib.hid (show St w p c l g w2 from ⟨hb1.trans (hb2.mono hb1.size), HS1.out.below hb2, Nat.le_trans hb1.size hg, hall⟩)
  have G2 := Lib.hid (show g < w2.heap.size from World.block_lt_of_cell? w2 _ (hall 0 (by omega)))
  clear hlp hall hb1 hb2 HS1 hg
  go_wp2_with fail
  refine (HWH.out _ g _ S2.out hcap).mono ?_
  rintro e w' ⟨rfl, rfl⟩
  go_wp2_with fail
  refine (HRH.out _ g S2.out).mono ?_
  rintro e w' ⟨rfl, rfl⟩
  go_wp2_with fail
  refine (HWF.out _ g _ S2.out hcap).mono ?_
  rintro e w' ⟨rfl, rfl⟩
  go_wp2_with fail
  refine (HRF.out _ g S2.out).mono ?_
  rintro e w' ⟨rfl, rfl⟩
  go_wp2_with fail
  refine (HWPH.out _ g _ S2.out hcap).mono ?_
  rintro e w3 ⟨g3, cap3, rfl, hle3, hb3, ho3⟩
  have S3 := Lib.hid (S2.out.next hb3)
  have O3 := Lib.hid ho3; have L3 := Lib.hid hle3; have B3 := Lib.hid hb3; clear ho3 hle3 hb3
  go_wp2_with fail
  refine (HRPH.out _ g S3.out).mono ?_
  rintro e w4 ⟨g4, cap4, rfl, hle4, hb4, ho4⟩
  have S4 := Lib.hid (S3.out.next hb4)
  have O4 := Lib.hid ho4; have B4 := Lib.hid hb4; clear ho4 hle4 hb4
  have D4 := Lib.hid (ownBelow O3.out B4.out)
  go_wp2_with fail
  refine (HWPF.out _ g _ S4.out hcap).mono ?_
  rintro e w6 ⟨rfl, hb6⟩
  have S6 := Lib.hid (S4.out.next hb6)
  have D6 := Lib.hid (ownBelow D4.out hb6); have P6 := Lib.hid (ownBelow O4.out hb6); have B6 := Lib.hid hb6; clear hb6
  go_wp2_with fail
  refine (HRPF.out _ g S6.out).mono ?_
  rintro e w' ⟨rfl, rfl⟩
  go_wp2_with fail
  refine (SD.out _ _ _ _ _ (ownRd D6.out HD.out) (ownRd P6.out HD.out)).mono ?_
  rintro e w' ⟨rfl, m1, rfl⟩
  go_wp2_with fail
  refine (same_true none none 0 0 [] _ (by decide) (rdNil _ _) (rdNil _ _)).mono ?_
  rintro e w' ⟨rfl, m2, rfl⟩
  have N3 := Lib.hid (show w.heap.size ≤ g3 ∧ g3 ≠ g from by have h1 := S2.out.1.size; have h2 := G2.out; have h3 := L3.out; omega)
  have SW := Lib.hid (S6.out.draw (m1 + m2))
  have DW := Lib.hid (ownBelow D6.out (belowDraw w6 (m1 + m2)))
  clear HWH HRH HWF HRF HWPH HRPH HWPF HRPF LE SD SE S2 G2 S3 S4 S6 D4 D6 P6 O3 O4 L3 B3 B4 B6
  go_wp2
  go_loopw [24] (fun i wr => (w6.drewN (m1 + m2)).grownBy wr (some g3) ∧ ∃ (k : Nat) (xs : List Int), k ≤ l.length ∧ i = .int .i64 k ∧ xs.length = l.length ∧ IsB xs ∧ wr.ownsRow w2.heap.size 5 1 (.slice (some ⟨g3, 0, none⟩) l.length cap3) l.length (bs xs)) (fun i _ => l.length - (intOf i).toNat)
  case atStart => exact ⟨grownSelf _ _, 0, dl, Nat.zero_le _, rfl, HD.out, HDB.out, DW.out⟩
  case round =>
    obtain ⟨hgr, k, xs, hk, rfl, hlen, hxs, hown⟩ := hrel
    by_cases hlt : k < l.length
    · obtain ⟨x, hx⟩ : ∃ x, xs.getD k 0 = x := ⟨_, rfl⟩
      have hxb := hxs.at k
      have hcell : wr.cell? ⟨g3, k, none⟩ = some (.int .u8 x) := by rw [hown.cellAt k (by omega), ← hx]; simp [bs, List.getD_eq_getElem?_getD, List.getElem?_eq_getElem (show k < xs.length by omega)]
      have hfr := hown.frozenAt k
      rw [hx] at hxb
      have hst := hown.stored k (.int .u8 ((x + 1) % 256))
      rw [bs_set] at hst
      have HST := Lib.hid hst
      have HXS := Lib.hid (show IsB (xs.set k ((x + 1) % 256)) from hxs.set k _ (by omega))
      have HLN := Lib.hid (show (xs.set k ((x + 1) % 256)).length = l.length by rw [List.length_set, hlen])
      have HGR := Lib.hid hgr
      clear hst hxs hlen hown hx hgr
      go_wp2
      go_roundw
      case rel => exact ⟨grownTrans HGR.out HST.out.2, k + 1, _, by omega, by go_num, HLN.out, HXS.out, HST.out.1⟩
      case measure => simp [intOf]; omega
    · obtain rfl : k = l.length := by omega
      have S7 := Lib.hid (SW.out.grown hgr N3.out.1 N3.out.2 HS0.out)
      clear hgr hlen hxs hown
      go_wp2
      go_loop [25] (fun i => i = .int .i64 0) (fun _ => 0)
      case atStart => rfl
      case round =>
        subst hrel
        go_wp2_with fail
        refine (KE.out _ _ _ hcap S7.out.2.2.2 S7.out.2.1).mono ?_
        rintro e w' ⟨rfl, m3, rfl⟩
        go_wp2
        go_ret
        exact ⟨rfl, (S7.out.draw m3).1⟩

end W
end Go.Proofs.Ytkbnciekhllcpaa

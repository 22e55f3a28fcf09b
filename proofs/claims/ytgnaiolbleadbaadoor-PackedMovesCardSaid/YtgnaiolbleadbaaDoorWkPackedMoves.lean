/- The walk of the statement PackedMoves: it answers true, and below its own memory nothing turns. -/
import Derived.Test.YtgnaiolbleadbaaDoorPkWorks
import Derived.Test.YtgnaiolbleadbaaDoorPkPure
import Derived.Test.YtgnaiolbleadbaaDoorPkLaid
import Derived.Test.YtgnaiolbleadbaaDoorPkRef6
namespace Go.Proofs.YtgnaiolbleadbaaDoor.packedMoves
open Go.ChangeShapes Go.WideShapes Go.ChangeAt Go.RowKit Go.ChangeMaps E
set_option linter.unusedVariables false

set_option maxRecDepth 100000 in
set_option maxHeartbeats 2000000 in
theorem walk (p : Option Addr) (c : Nat) (l : List UInt8) (hc : l.length ≤ c) (hcc : c ≤ 9223372036854775807) (hnil : p = none → c = 0) (q : Option Addr) (d : Nat) (m : List UInt8) (hd : m.length ≤ d) (hdd : d ≤ 9223372036854775807) (hnil2 : q = none → d = 0) (n : Int) (hn1 : -9223372036854775808 ≤ n) (hn2 : n < 9223372036854775808) (w : World) (hg : Sg w) (hr : Rd w p l) (hq : Rd w q m) :
    Calls Tryd.prog 5 #[.slice p l.length c, .slice q m.length d, .int .i64 n] w (New w (.bool true)) := by
  by_cases h1 : 18 < l.length
  · by_cases h2 : 18 < m.length
    · have HR := Lib.hid (hr.take 18 : Rd w p (l.take 18))
      have HQ := Lib.hid (hq.take 18 : Rd w q (m.take 18))
      have HP := Lib.hid (fun (k : Int) W (h : Rd W p (l.take 18)) => (MvPost.sv (pack_any p c k (l.take 18) W h) (packL_len _ _)))
      have HRP := Lib.hid (fun (k : Int) W (h : Rd W p (l.take 18)) => (RmPost.sv (rpack_any p c k (l.take 18) W h)))
      have HU := Lib.hid (fun (k : Int) W (h : Rd W p (l.take 18)) => (MvPost.sv (unpack_any p c k (l.take 18) W h) (unpackL_len _ _)))
      have HRU := Lib.hid (fun (k : Int) W (h : Rd W p (l.take 18)) => (RmPost.sv (runpack_any p c k (l.take 18) W h)))
      have HO := Lib.hid (fun W (h : Rd W p (l.take 18)) (h2 : Rd W q (m.take 18)) => (MvPost.sv (offset_any p q c d (l.take 18) (m.take 18) W h h2) (by rw [offL_len]; rfl)))
      have HRO := Lib.hid (fun W (h : Rd W p (l.take 18)) (h2 : Rd W q (m.take 18)) => (RmPost.sv (roff_any p q c d (l.take 18) (m.take 18) W h h2)))
      have hll : (l.take 18).length = 18 := by simp; omega
      rw [hll] at HP HRP HU HRU HO HRO
      have hlm : (m.take 18).length = 18 := by simp; omega
      rw [hlm] at HO HRO
      clear hll
      clear hlm
      clear hr hq
      have HG := Lib.hid hg
      clear hg
      go_enter Tryd.func5, Tryd.ntmps5
      go_wp2
      generalize wrap64 (1 + wrap64 ((IntKind.u64.wrap n).tmod 16)) = k2 at *
      generalize decide (18 < (l.length : Int)) = b1
      generalize decide (18 < (m.length : Int)) = b2
      clear h1 h2
      have i0 : ∀ W, (Instr.index 35 (.agg #[.int .i64 n, .int .i64 k2]) (.int .i64 0)).run Tryd.prog W = .ok (.int .i64 n) W := fun _ => by kernel_rfl
      have i1 : ∀ W, (Instr.index 35 (.agg #[.int .i64 n, .int .i64 k2]) (.int .i64 1)).run Tryd.prog W = .ok (.int .i64 k2) W := fun _ => by kernel_rfl
      go_loopw [8, 26] (fun _ i wr => Below w.heap.size w wr ∧ ∃ t : Nat, t ≤ 2 ∧ i = .int .i64 t) (fun _ i _ => 2 - (intOf i).toNat)
      case atStart => exact ⟨Below.refl _ _, 0, Nat.zero_le _, rfl⟩
      case round =>
        obtain ⟨hbw, t, ht, rfl⟩ := hrel
        have HB := Lib.hid hbw
        clear hbw
        by_cases hlt : t < 2
        · rcases (show t = 0 ∨ t = 1 by omega) with rfl | rfl
          · go_wp2_with fail
            refine (HP.out _ _ (HR.out.below HB.out)).mono ?_
            rintro e wa0 ⟨sa0, rfl, hs, hb⟩
            have HBa0 := Lib.hid (bel0 HB.out hb)
            have HSa0 := Lib.hid hs
            clear hb hs
            go_wp2_with fail
            refine (HRP.out _ _ (HR.out.below HBa0.out)).mono ?_
            rintro e wb0 ⟨sb0, rfl, hs, hb⟩
            have HBb0 := Lib.hid (bel0 HBa0.out hb)
            have HSb0 := Lib.hid hs
            have HSc0 := Lib.hid (HSa0.out.below hb)
            clear hb hs
            go_wp2_with fail
            refine (same_sv HSc0.out HSb0.out).mono ?_
            rintro e w' ⟨rfl, rfl⟩
            go_wp2_with fail
            refine (HU.out _ _ (HR.out.below HBb0.out)).mono ?_
            rintro e wa1 ⟨sa1, rfl, hs, hb⟩
            have HBa1 := Lib.hid (bel0 HBb0.out hb)
            have HSa1 := Lib.hid hs
            clear hb hs
            go_wp2_with fail
            refine (HRU.out _ _ (HR.out.below HBa1.out)).mono ?_
            rintro e wb1 ⟨sb1, rfl, hs, hb⟩
            have HBb1 := Lib.hid (bel0 HBa1.out hb)
            have HSb1 := Lib.hid hs
            have HSc1 := Lib.hid (HSa1.out.below hb)
            clear hb hs
            go_wp2_with fail
            refine (same_sv HSc1.out HSb1.out).mono ?_
            rintro e w' ⟨rfl, rfl⟩
            go_wp2
            go_roundw
            case rel => exact ⟨HBb1.out, 1, by omega, by go_num⟩
            case measure => simp [intOf]
          · go_wp2_with fail
            refine (HP.out _ _ (HR.out.below HB.out)).mono ?_
            rintro e wa0 ⟨sa0, rfl, hs, hb⟩
            have HBa0 := Lib.hid (bel0 HB.out hb)
            have HSa0 := Lib.hid hs
            clear hb hs
            go_wp2_with fail
            refine (HRP.out _ _ (HR.out.below HBa0.out)).mono ?_
            rintro e wb0 ⟨sb0, rfl, hs, hb⟩
            have HBb0 := Lib.hid (bel0 HBa0.out hb)
            have HSb0 := Lib.hid hs
            have HSc0 := Lib.hid (HSa0.out.below hb)
            clear hb hs
            go_wp2_with fail
            refine (same_sv HSc0.out HSb0.out).mono ?_
            rintro e w' ⟨rfl, rfl⟩
            go_wp2_with fail
            refine (HU.out _ _ (HR.out.below HBb0.out)).mono ?_
            rintro e wa1 ⟨sa1, rfl, hs, hb⟩
            have HBa1 := Lib.hid (bel0 HBb0.out hb)
            have HSa1 := Lib.hid hs
            clear hb hs
            go_wp2_with fail
            refine (HRU.out _ _ (HR.out.below HBa1.out)).mono ?_
            rintro e wb1 ⟨sb1, rfl, hs, hb⟩
            have HBb1 := Lib.hid (bel0 HBa1.out hb)
            have HSb1 := Lib.hid hs
            have HSc1 := Lib.hid (HSa1.out.below hb)
            clear hb hs
            go_wp2_with fail
            refine (same_sv HSc1.out HSb1.out).mono ?_
            rintro e w' ⟨rfl, rfl⟩
            go_wp2
            go_roundw
            case rel => exact ⟨HBb1.out, 2, by omega, by go_num⟩
            case measure => simp [intOf]
        · obtain rfl : t = 2 := by omega
          go_wp2_with fail
          refine (HO.out _ (HR.out.below HB.out) (HQ.out.below HB.out)).mono ?_
          rintro e w1 ⟨sa, rfl, hs, hb⟩
          have HB1 := Lib.hid (bel0 HB.out hb)
          have HSa := Lib.hid hs
          clear hb hs
          go_wp2_with fail
          refine (HRO.out _ (HR.out.below HB1.out) (HQ.out.below HB1.out)).mono ?_
          rintro e w2 ⟨sb, rfl, hs, hb⟩
          have HB2 := Lib.hid (bel0 HB1.out hb)
          have HSb := Lib.hid hs
          have HSc := Lib.hid (HSa.out.below hb)
          clear hb hs
          go_wp2_with fail
          refine (same_sv HSc.out HSb.out).mono ?_
          rintro e w' ⟨rfl, rfl⟩
          go_wp2_with fail
          refine (works_any _ (HG.out.below HB2.out)).mono ?_
          rintro e w3 ⟨rfl, hb⟩
          have HB3 := Lib.hid (bel0 HB2.out hb)
          clear hb
          go_wp2
          go_ret
          exact ⟨rfl, HB3.out⟩

    · have HR := Lib.hid (hr.take 18 : Rd w p (l.take 18))
      have HQ := Lib.hid (hq : Rd w q m)
      have HP := Lib.hid (fun (k : Int) W (h : Rd W p (l.take 18)) => (MvPost.sv (pack_any p c k (l.take 18) W h) (packL_len _ _)))
      have HRP := Lib.hid (fun (k : Int) W (h : Rd W p (l.take 18)) => (RmPost.sv (rpack_any p c k (l.take 18) W h)))
      have HU := Lib.hid (fun (k : Int) W (h : Rd W p (l.take 18)) => (MvPost.sv (unpack_any p c k (l.take 18) W h) (unpackL_len _ _)))
      have HRU := Lib.hid (fun (k : Int) W (h : Rd W p (l.take 18)) => (RmPost.sv (runpack_any p c k (l.take 18) W h)))
      have HO := Lib.hid (fun W (h : Rd W p (l.take 18)) (h2 : Rd W q m) => (MvPost.sv (offset_any p q c d (l.take 18) m W h h2) (by rw [offL_len]; rfl)))
      have HRO := Lib.hid (fun W (h : Rd W p (l.take 18)) (h2 : Rd W q m) => (RmPost.sv (roff_any p q c d (l.take 18) m W h h2)))
      have hll : (l.take 18).length = 18 := by simp; omega
      rw [hll] at HP HRP HU HRU HO HRO
      clear hll
      clear hr hq
      have HG := Lib.hid hg
      clear hg
      go_enter Tryd.func5, Tryd.ntmps5
      go_wp2
      generalize wrap64 (1 + wrap64 ((IntKind.u64.wrap n).tmod 16)) = k2 at *
      generalize decide (18 < (l.length : Int)) = b1
      generalize decide (18 < (m.length : Int)) = b2
      clear h1 h2
      have i0 : ∀ W, (Instr.index 35 (.agg #[.int .i64 n, .int .i64 k2]) (.int .i64 0)).run Tryd.prog W = .ok (.int .i64 n) W := fun _ => by kernel_rfl
      have i1 : ∀ W, (Instr.index 35 (.agg #[.int .i64 n, .int .i64 k2]) (.int .i64 1)).run Tryd.prog W = .ok (.int .i64 k2) W := fun _ => by kernel_rfl
      go_loopw [8, 26] (fun _ i wr => Below w.heap.size w wr ∧ ∃ t : Nat, t ≤ 2 ∧ i = .int .i64 t) (fun _ i _ => 2 - (intOf i).toNat)
      case atStart => exact ⟨Below.refl _ _, 0, Nat.zero_le _, rfl⟩
      case round =>
        obtain ⟨hbw, t, ht, rfl⟩ := hrel
        have HB := Lib.hid hbw
        clear hbw
        by_cases hlt : t < 2
        · rcases (show t = 0 ∨ t = 1 by omega) with rfl | rfl
          · go_wp2_with fail
            refine (HP.out _ _ (HR.out.below HB.out)).mono ?_
            rintro e wa0 ⟨sa0, rfl, hs, hb⟩
            have HBa0 := Lib.hid (bel0 HB.out hb)
            have HSa0 := Lib.hid hs
            clear hb hs
            go_wp2_with fail
            refine (HRP.out _ _ (HR.out.below HBa0.out)).mono ?_
            rintro e wb0 ⟨sb0, rfl, hs, hb⟩
            have HBb0 := Lib.hid (bel0 HBa0.out hb)
            have HSb0 := Lib.hid hs
            have HSc0 := Lib.hid (HSa0.out.below hb)
            clear hb hs
            go_wp2_with fail
            refine (same_sv HSc0.out HSb0.out).mono ?_
            rintro e w' ⟨rfl, rfl⟩
            go_wp2_with fail
            refine (HU.out _ _ (HR.out.below HBb0.out)).mono ?_
            rintro e wa1 ⟨sa1, rfl, hs, hb⟩
            have HBa1 := Lib.hid (bel0 HBb0.out hb)
            have HSa1 := Lib.hid hs
            clear hb hs
            go_wp2_with fail
            refine (HRU.out _ _ (HR.out.below HBa1.out)).mono ?_
            rintro e wb1 ⟨sb1, rfl, hs, hb⟩
            have HBb1 := Lib.hid (bel0 HBa1.out hb)
            have HSb1 := Lib.hid hs
            have HSc1 := Lib.hid (HSa1.out.below hb)
            clear hb hs
            go_wp2_with fail
            refine (same_sv HSc1.out HSb1.out).mono ?_
            rintro e w' ⟨rfl, rfl⟩
            go_wp2
            go_roundw
            case rel => exact ⟨HBb1.out, 1, by omega, by go_num⟩
            case measure => simp [intOf]
          · go_wp2_with fail
            refine (HP.out _ _ (HR.out.below HB.out)).mono ?_
            rintro e wa0 ⟨sa0, rfl, hs, hb⟩
            have HBa0 := Lib.hid (bel0 HB.out hb)
            have HSa0 := Lib.hid hs
            clear hb hs
            go_wp2_with fail
            refine (HRP.out _ _ (HR.out.below HBa0.out)).mono ?_
            rintro e wb0 ⟨sb0, rfl, hs, hb⟩
            have HBb0 := Lib.hid (bel0 HBa0.out hb)
            have HSb0 := Lib.hid hs
            have HSc0 := Lib.hid (HSa0.out.below hb)
            clear hb hs
            go_wp2_with fail
            refine (same_sv HSc0.out HSb0.out).mono ?_
            rintro e w' ⟨rfl, rfl⟩
            go_wp2_with fail
            refine (HU.out _ _ (HR.out.below HBb0.out)).mono ?_
            rintro e wa1 ⟨sa1, rfl, hs, hb⟩
            have HBa1 := Lib.hid (bel0 HBb0.out hb)
            have HSa1 := Lib.hid hs
            clear hb hs
            go_wp2_with fail
            refine (HRU.out _ _ (HR.out.below HBa1.out)).mono ?_
            rintro e wb1 ⟨sb1, rfl, hs, hb⟩
            have HBb1 := Lib.hid (bel0 HBa1.out hb)
            have HSb1 := Lib.hid hs
            have HSc1 := Lib.hid (HSa1.out.below hb)
            clear hb hs
            go_wp2_with fail
            refine (same_sv HSc1.out HSb1.out).mono ?_
            rintro e w' ⟨rfl, rfl⟩
            go_wp2
            go_roundw
            case rel => exact ⟨HBb1.out, 2, by omega, by go_num⟩
            case measure => simp [intOf]
        · obtain rfl : t = 2 := by omega
          go_wp2_with fail
          refine (HO.out _ (HR.out.below HB.out) (HQ.out.below HB.out)).mono ?_
          rintro e w1 ⟨sa, rfl, hs, hb⟩
          have HB1 := Lib.hid (bel0 HB.out hb)
          have HSa := Lib.hid hs
          clear hb hs
          go_wp2_with fail
          refine (HRO.out _ (HR.out.below HB1.out) (HQ.out.below HB1.out)).mono ?_
          rintro e w2 ⟨sb, rfl, hs, hb⟩
          have HB2 := Lib.hid (bel0 HB1.out hb)
          have HSb := Lib.hid hs
          have HSc := Lib.hid (HSa.out.below hb)
          clear hb hs
          go_wp2_with fail
          refine (same_sv HSc.out HSb.out).mono ?_
          rintro e w' ⟨rfl, rfl⟩
          go_wp2_with fail
          refine (works_any _ (HG.out.below HB2.out)).mono ?_
          rintro e w3 ⟨rfl, hb⟩
          have HB3 := Lib.hid (bel0 HB2.out hb)
          clear hb
          go_wp2
          go_ret
          exact ⟨rfl, HB3.out⟩

  · by_cases h2 : 18 < m.length
    · have HR := Lib.hid (hr : Rd w p l)
      have HQ := Lib.hid (hq.take 18 : Rd w q (m.take 18))
      have HP := Lib.hid (fun (k : Int) W (h : Rd W p l) => (MvPost.sv (pack_any p c k l W h) (packL_len _ _)))
      have HRP := Lib.hid (fun (k : Int) W (h : Rd W p l) => (RmPost.sv (rpack_any p c k l W h)))
      have HU := Lib.hid (fun (k : Int) W (h : Rd W p l) => (MvPost.sv (unpack_any p c k l W h) (unpackL_len _ _)))
      have HRU := Lib.hid (fun (k : Int) W (h : Rd W p l) => (RmPost.sv (runpack_any p c k l W h)))
      have HO := Lib.hid (fun W (h : Rd W p l) (h2 : Rd W q (m.take 18)) => (MvPost.sv (offset_any p q c d l (m.take 18) W h h2) (by rw [offL_len]; rfl)))
      have HRO := Lib.hid (fun W (h : Rd W p l) (h2 : Rd W q (m.take 18)) => (RmPost.sv (roff_any p q c d l (m.take 18) W h h2)))
      have hlm : (m.take 18).length = 18 := by simp; omega
      rw [hlm] at HO HRO
      clear hlm
      clear hr hq
      have HG := Lib.hid hg
      clear hg
      go_enter Tryd.func5, Tryd.ntmps5
      go_wp2
      generalize wrap64 (1 + wrap64 ((IntKind.u64.wrap n).tmod 16)) = k2 at *
      generalize decide (18 < (l.length : Int)) = b1
      generalize decide (18 < (m.length : Int)) = b2
      clear h1 h2
      have i0 : ∀ W, (Instr.index 35 (.agg #[.int .i64 n, .int .i64 k2]) (.int .i64 0)).run Tryd.prog W = .ok (.int .i64 n) W := fun _ => by kernel_rfl
      have i1 : ∀ W, (Instr.index 35 (.agg #[.int .i64 n, .int .i64 k2]) (.int .i64 1)).run Tryd.prog W = .ok (.int .i64 k2) W := fun _ => by kernel_rfl
      go_loopw [8, 26] (fun _ i wr => Below w.heap.size w wr ∧ ∃ t : Nat, t ≤ 2 ∧ i = .int .i64 t) (fun _ i _ => 2 - (intOf i).toNat)
      case atStart => exact ⟨Below.refl _ _, 0, Nat.zero_le _, rfl⟩
      case round =>
        obtain ⟨hbw, t, ht, rfl⟩ := hrel
        have HB := Lib.hid hbw
        clear hbw
        by_cases hlt : t < 2
        · rcases (show t = 0 ∨ t = 1 by omega) with rfl | rfl
          · go_wp2_with fail
            refine (HP.out _ _ (HR.out.below HB.out)).mono ?_
            rintro e wa0 ⟨sa0, rfl, hs, hb⟩
            have HBa0 := Lib.hid (bel0 HB.out hb)
            have HSa0 := Lib.hid hs
            clear hb hs
            go_wp2_with fail
            refine (HRP.out _ _ (HR.out.below HBa0.out)).mono ?_
            rintro e wb0 ⟨sb0, rfl, hs, hb⟩
            have HBb0 := Lib.hid (bel0 HBa0.out hb)
            have HSb0 := Lib.hid hs
            have HSc0 := Lib.hid (HSa0.out.below hb)
            clear hb hs
            go_wp2_with fail
            refine (same_sv HSc0.out HSb0.out).mono ?_
            rintro e w' ⟨rfl, rfl⟩
            go_wp2_with fail
            refine (HU.out _ _ (HR.out.below HBb0.out)).mono ?_
            rintro e wa1 ⟨sa1, rfl, hs, hb⟩
            have HBa1 := Lib.hid (bel0 HBb0.out hb)
            have HSa1 := Lib.hid hs
            clear hb hs
            go_wp2_with fail
            refine (HRU.out _ _ (HR.out.below HBa1.out)).mono ?_
            rintro e wb1 ⟨sb1, rfl, hs, hb⟩
            have HBb1 := Lib.hid (bel0 HBa1.out hb)
            have HSb1 := Lib.hid hs
            have HSc1 := Lib.hid (HSa1.out.below hb)
            clear hb hs
            go_wp2_with fail
            refine (same_sv HSc1.out HSb1.out).mono ?_
            rintro e w' ⟨rfl, rfl⟩
            go_wp2
            go_roundw
            case rel => exact ⟨HBb1.out, 1, by omega, by go_num⟩
            case measure => simp [intOf]
          · go_wp2_with fail
            refine (HP.out _ _ (HR.out.below HB.out)).mono ?_
            rintro e wa0 ⟨sa0, rfl, hs, hb⟩
            have HBa0 := Lib.hid (bel0 HB.out hb)
            have HSa0 := Lib.hid hs
            clear hb hs
            go_wp2_with fail
            refine (HRP.out _ _ (HR.out.below HBa0.out)).mono ?_
            rintro e wb0 ⟨sb0, rfl, hs, hb⟩
            have HBb0 := Lib.hid (bel0 HBa0.out hb)
            have HSb0 := Lib.hid hs
            have HSc0 := Lib.hid (HSa0.out.below hb)
            clear hb hs
            go_wp2_with fail
            refine (same_sv HSc0.out HSb0.out).mono ?_
            rintro e w' ⟨rfl, rfl⟩
            go_wp2_with fail
            refine (HU.out _ _ (HR.out.below HBb0.out)).mono ?_
            rintro e wa1 ⟨sa1, rfl, hs, hb⟩
            have HBa1 := Lib.hid (bel0 HBb0.out hb)
            have HSa1 := Lib.hid hs
            clear hb hs
            go_wp2_with fail
            refine (HRU.out _ _ (HR.out.below HBa1.out)).mono ?_
            rintro e wb1 ⟨sb1, rfl, hs, hb⟩
            have HBb1 := Lib.hid (bel0 HBa1.out hb)
            have HSb1 := Lib.hid hs
            have HSc1 := Lib.hid (HSa1.out.below hb)
            clear hb hs
            go_wp2_with fail
            refine (same_sv HSc1.out HSb1.out).mono ?_
            rintro e w' ⟨rfl, rfl⟩
            go_wp2
            go_roundw
            case rel => exact ⟨HBb1.out, 2, by omega, by go_num⟩
            case measure => simp [intOf]
        · obtain rfl : t = 2 := by omega
          go_wp2_with fail
          refine (HO.out _ (HR.out.below HB.out) (HQ.out.below HB.out)).mono ?_
          rintro e w1 ⟨sa, rfl, hs, hb⟩
          have HB1 := Lib.hid (bel0 HB.out hb)
          have HSa := Lib.hid hs
          clear hb hs
          go_wp2_with fail
          refine (HRO.out _ (HR.out.below HB1.out) (HQ.out.below HB1.out)).mono ?_
          rintro e w2 ⟨sb, rfl, hs, hb⟩
          have HB2 := Lib.hid (bel0 HB1.out hb)
          have HSb := Lib.hid hs
          have HSc := Lib.hid (HSa.out.below hb)
          clear hb hs
          go_wp2_with fail
          refine (same_sv HSc.out HSb.out).mono ?_
          rintro e w' ⟨rfl, rfl⟩
          go_wp2_with fail
          refine (works_any _ (HG.out.below HB2.out)).mono ?_
          rintro e w3 ⟨rfl, hb⟩
          have HB3 := Lib.hid (bel0 HB2.out hb)
          clear hb
          go_wp2
          go_ret
          exact ⟨rfl, HB3.out⟩

    · have HR := Lib.hid (hr : Rd w p l)
      have HQ := Lib.hid (hq : Rd w q m)
      have HP := Lib.hid (fun (k : Int) W (h : Rd W p l) => (MvPost.sv (pack_any p c k l W h) (packL_len _ _)))
      have HRP := Lib.hid (fun (k : Int) W (h : Rd W p l) => (RmPost.sv (rpack_any p c k l W h)))
      have HU := Lib.hid (fun (k : Int) W (h : Rd W p l) => (MvPost.sv (unpack_any p c k l W h) (unpackL_len _ _)))
      have HRU := Lib.hid (fun (k : Int) W (h : Rd W p l) => (RmPost.sv (runpack_any p c k l W h)))
      have HO := Lib.hid (fun W (h : Rd W p l) (h2 : Rd W q m) => (MvPost.sv (offset_any p q c d l m W h h2) (by rw [offL_len]; rfl)))
      have HRO := Lib.hid (fun W (h : Rd W p l) (h2 : Rd W q m) => (RmPost.sv (roff_any p q c d l m W h h2)))
      clear hr hq
      have HG := Lib.hid hg
      clear hg
      go_enter Tryd.func5, Tryd.ntmps5
      go_wp2
      generalize wrap64 (1 + wrap64 ((IntKind.u64.wrap n).tmod 16)) = k2 at *
      generalize decide (18 < (l.length : Int)) = b1
      generalize decide (18 < (m.length : Int)) = b2
      clear h1 h2
      have i0 : ∀ W, (Instr.index 35 (.agg #[.int .i64 n, .int .i64 k2]) (.int .i64 0)).run Tryd.prog W = .ok (.int .i64 n) W := fun _ => by kernel_rfl
      have i1 : ∀ W, (Instr.index 35 (.agg #[.int .i64 n, .int .i64 k2]) (.int .i64 1)).run Tryd.prog W = .ok (.int .i64 k2) W := fun _ => by kernel_rfl
      go_loopw [8, 26] (fun _ i wr => Below w.heap.size w wr ∧ ∃ t : Nat, t ≤ 2 ∧ i = .int .i64 t) (fun _ i _ => 2 - (intOf i).toNat)
      case atStart => exact ⟨Below.refl _ _, 0, Nat.zero_le _, rfl⟩
      case round =>
        obtain ⟨hbw, t, ht, rfl⟩ := hrel
        have HB := Lib.hid hbw
        clear hbw
        by_cases hlt : t < 2
        · rcases (show t = 0 ∨ t = 1 by omega) with rfl | rfl
          · go_wp2_with fail
            refine (HP.out _ _ (HR.out.below HB.out)).mono ?_
            rintro e wa0 ⟨sa0, rfl, hs, hb⟩
            have HBa0 := Lib.hid (bel0 HB.out hb)
            have HSa0 := Lib.hid hs
            clear hb hs
            go_wp2_with fail
            refine (HRP.out _ _ (HR.out.below HBa0.out)).mono ?_
            rintro e wb0 ⟨sb0, rfl, hs, hb⟩
            have HBb0 := Lib.hid (bel0 HBa0.out hb)
            have HSb0 := Lib.hid hs
            have HSc0 := Lib.hid (HSa0.out.below hb)
            clear hb hs
            go_wp2_with fail
            refine (same_sv HSc0.out HSb0.out).mono ?_
            rintro e w' ⟨rfl, rfl⟩
            go_wp2_with fail
            refine (HU.out _ _ (HR.out.below HBb0.out)).mono ?_
            rintro e wa1 ⟨sa1, rfl, hs, hb⟩
            have HBa1 := Lib.hid (bel0 HBb0.out hb)
            have HSa1 := Lib.hid hs
            clear hb hs
            go_wp2_with fail
            refine (HRU.out _ _ (HR.out.below HBa1.out)).mono ?_
            rintro e wb1 ⟨sb1, rfl, hs, hb⟩
            have HBb1 := Lib.hid (bel0 HBa1.out hb)
            have HSb1 := Lib.hid hs
            have HSc1 := Lib.hid (HSa1.out.below hb)
            clear hb hs
            go_wp2_with fail
            refine (same_sv HSc1.out HSb1.out).mono ?_
            rintro e w' ⟨rfl, rfl⟩
            go_wp2
            go_roundw
            case rel => exact ⟨HBb1.out, 1, by omega, by go_num⟩
            case measure => simp [intOf]
          · go_wp2_with fail
            refine (HP.out _ _ (HR.out.below HB.out)).mono ?_
            rintro e wa0 ⟨sa0, rfl, hs, hb⟩
            have HBa0 := Lib.hid (bel0 HB.out hb)
            have HSa0 := Lib.hid hs
            clear hb hs
            go_wp2_with fail
            refine (HRP.out _ _ (HR.out.below HBa0.out)).mono ?_
            rintro e wb0 ⟨sb0, rfl, hs, hb⟩
            have HBb0 := Lib.hid (bel0 HBa0.out hb)
            have HSb0 := Lib.hid hs
            have HSc0 := Lib.hid (HSa0.out.below hb)
            clear hb hs
            go_wp2_with fail
            refine (same_sv HSc0.out HSb0.out).mono ?_
            rintro e w' ⟨rfl, rfl⟩
            go_wp2_with fail
            refine (HU.out _ _ (HR.out.below HBb0.out)).mono ?_
            rintro e wa1 ⟨sa1, rfl, hs, hb⟩
            have HBa1 := Lib.hid (bel0 HBb0.out hb)
            have HSa1 := Lib.hid hs
            clear hb hs
            go_wp2_with fail
            refine (HRU.out _ _ (HR.out.below HBa1.out)).mono ?_
            rintro e wb1 ⟨sb1, rfl, hs, hb⟩
            have HBb1 := Lib.hid (bel0 HBa1.out hb)
            have HSb1 := Lib.hid hs
            have HSc1 := Lib.hid (HSa1.out.below hb)
            clear hb hs
            go_wp2_with fail
            refine (same_sv HSc1.out HSb1.out).mono ?_
            rintro e w' ⟨rfl, rfl⟩
            go_wp2
            go_roundw
            case rel => exact ⟨HBb1.out, 2, by omega, by go_num⟩
            case measure => simp [intOf]
        · obtain rfl : t = 2 := by omega
          go_wp2_with fail
          refine (HO.out _ (HR.out.below HB.out) (HQ.out.below HB.out)).mono ?_
          rintro e w1 ⟨sa, rfl, hs, hb⟩
          have HB1 := Lib.hid (bel0 HB.out hb)
          have HSa := Lib.hid hs
          clear hb hs
          go_wp2_with fail
          refine (HRO.out _ (HR.out.below HB1.out) (HQ.out.below HB1.out)).mono ?_
          rintro e w2 ⟨sb, rfl, hs, hb⟩
          have HB2 := Lib.hid (bel0 HB1.out hb)
          have HSb := Lib.hid hs
          have HSc := Lib.hid (HSa.out.below hb)
          clear hb hs
          go_wp2_with fail
          refine (same_sv HSc.out HSb.out).mono ?_
          rintro e w' ⟨rfl, rfl⟩
          go_wp2_with fail
          refine (works_any _ (HG.out.below HB2.out)).mono ?_
          rintro e w3 ⟨rfl, hb⟩
          have HB3 := Lib.hid (bel0 HB2.out hb)
          clear hb
          go_wp2
          go_ret
          exact ⟨rfl, HB3.out⟩


end Go.Proofs.YtgnaiolbleadbaaDoor.packedMoves

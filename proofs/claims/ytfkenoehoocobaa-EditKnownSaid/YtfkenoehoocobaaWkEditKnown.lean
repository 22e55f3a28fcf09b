/- The walk of the statement EditKnown: it answers true, and below its own memory nothing turns. -/
import Derived.Test.YtfkenoehoocobaaEdWorks
namespace Go.Proofs.Ytfkenoehoocobaa.editKnown
open Go.RowKit E
set_option linter.unusedVariables false

theorem svb_third (w : World) (o1 o2 : Obj) (l : List UInt8) (hl : l.length ≤ 1000) : SvB (((w.alloc o1).alloc o2).alloc (.cells (bsU l).toArray 5)) (.slice (some ⟨w.heap.size + 1 + 1, 0, none⟩) l.length l.length) l := by
  have h := svb_second (w.alloc o1) o2 l hl
  rw [World.size_alloc] at h
  exact h
theorem make257 (W : World) : (Instr.makeSlice 22 (.int .i64 257) (.int .i64 257)).run Try.prog W = .ok (.slice (some ⟨W.heap.size, 0, none⟩) 257 257) (W.alloc (.cells (bsU (List.replicate 257 0)).toArray 5)) := by
  obtain ⟨i0, hi, hz0, hz1, hz2⟩ := info_parts info5
  have h := run_make (P := Try.prog) W 22 5 i0 (.int .u8 0) Try.underlying22 hi hz0 .i64 .i64 257 257 (by omega) (by omega) (by rw [hz2]; omega) (by omega)
  rw [hz1] at h
  have e : madeCells (Value.int .u8 0).cells 257 = (bsU (List.replicate 257 0)).toArray := by
    apply Array.ext'
    have e0 : (Value.int .u8 0).cells = #[.int .u8 0] := rfl
    rw [e0, toList_madeCells_one]
    show _ = bsU _
    rw [bsU, List.map_replicate]
    rfl
  have e1 : (257 : Int).toNat * 1 = 257 := rfl
  rw [e1, e] at h
  exact h
/-- What Edit answers, in numbers. -/
def KPost (w : World) (l : List UInt8) (k : Nat) (cc mk code : Int) (e : Ending) (w' : World) : Prop :=
  ∃ pv cv, e = .returned (.tuple #[.agg #[.slice pv k cv, .int .i64 cc, .int .i64 mk], .int .i64 code]) ∧ SvB w' (.slice pv k cv) l ∧ Below w.heap.size w w'
theorem ke {pv sv : Value} {pat src : List UInt8} {w : World} (l : List UInt8) (k cc : Nat) (mk : Int) (code : Nat) (cc' code' : Int) (hp : SvB w pv pat) (hs : SvB w sv src) (h : edRes pat src = (l, cc, mk, code)) (hk : l.length = k) (h1 : (cc : Int) = cc') (h2 : (code : Int) = code') :
    Calls Try.prog 12 #[pv, sv] w (KPost w l k cc' mk code') :=
  (edit4_any pv sv pat src w l cc mk code hp hs h).mono fun e w' h' => by
    obtain ⟨p, c, e1, e2, e3⟩ := h'
    subst hk h1 h2
    exact ⟨p, c, e1, e2.svb, e3⟩
theorem sb {w : World} {u v : Value} {l : List UInt8} (h1 : SvB w u l) (h2 : SvB w v l) : Calls Try.prog 14 #[u, v] w (New w (.bool true)) := same_svb h1 h2
set_option maxRecDepth 100000 in
set_option maxHeartbeats 4000000 in
theorem walk (w : World) : Calls Try.prog 9 #[] w (New w (.bool true)) := by
  have hmk := make257
  go_enter Try.func9, Try.ntmps9
  have HX : Hid (Below w.heap.size w (World.alloc (World.alloc w (.cells (bsU [64, 32, 32, 107, 32, 32, 33, 75, 32, 32, 64, 195, 217]).toArray 5)) (.cells (bsU [2, 87, 66, 108]).toArray 5))) := Lib.hid (bel0 (below_new _ _) (below_new _ _))
  have P : Hid (SvB (World.alloc (World.alloc w (.cells (bsU [64, 32, 32, 107, 32, 32, 33, 75, 32, 32, 64, 195, 217]).toArray 5)) (.cells (bsU [2, 87, 66, 108]).toArray 5)) (.slice (some ⟨w.heap.size, 0, none⟩) 13 13) [64, 32, 32, 107, 32, 32, 33, 75, 32, 32, 64, 195, 217]) := Lib.hid ((svb_new _ [64, 32, 32, 107, 32, 32, 33, 75, 32, 32, 64, 195, 217] (by simp)).below (below_new _ _))
  have S : Hid (SvB (World.alloc (World.alloc w (.cells (bsU [64, 32, 32, 107, 32, 32, 33, 75, 32, 32, 64, 195, 217]).toArray 5)) (.cells (bsU [2, 87, 66, 108]).toArray 5)) (.slice (some ⟨w.heap.size + 1, 0, none⟩) 4 4) [2, 87, 66, 108]) := Lib.hid (svb_second _ _ [2, 87, 66, 108] (by simp))
  go_wp2_with fail
  refine (ke [64, 64, 242, 107, 245, 247, 244, 75, 242, 246, 64, 64, 64] 13 2 (2) 0 2 0 P.out S.out (by decide +kernel) rfl rfl rfl).mono ?_
  rintro e w1 ⟨pv1, cv1, rfl, hh, hb⟩
  have HL := Lib.hid (bel0 HX.out hb)
  have P1 := Lib.hid (P.out.below hb)
  have S1 := Lib.hid (S.out.below hb)
  have A1 := Lib.hid (hh)
  have HB1 := Lib.hid (HL.out)
  clear hb HL HX P S
  clear S1
  have HX : Hid (Below w1.heap.size w1 (World.alloc (World.alloc w1 (.cells #[.slice pv1 13 cv1, .int .i64 2, .int .i64 2] 26)) (.cells (bsU [0, 0, 2, 109]).toArray 5))) := Lib.hid (bel0 (below_new _ _) (below_new _ _))
  have R1_ : Hid (Bx (World.alloc (World.alloc w1 (.cells #[.slice pv1 13 cv1, .int .i64 2, .int .i64 2] 26)) (.cells (bsU [0, 0, 2, 109]).toArray 5)) w1.heap.size 26 #[.slice pv1 13 cv1, .int .i64 2, .int .i64 2]) := Lib.hid ((Bx.new w1 26 #[.slice pv1 13 cv1, .int .i64 2, .int .i64 2]).below (below_new _ _))
  have S : Hid (SvB (World.alloc (World.alloc w1 (.cells #[.slice pv1 13 cv1, .int .i64 2, .int .i64 2] 26)) (.cells (bsU [0, 0, 2, 109]).toArray 5)) (.slice (some ⟨w1.heap.size + 1, 0, none⟩) 4 4) [0, 0, 2, 109]) := Lib.hid (svb_second _ _ [0, 0, 2, 109] (by simp))
  have PX := Lib.hid (P1.out.below HX.out)
  go_wp2_with fail
  refine (ke [64, 64, 64, 64, 64, 64, 64, 75, 242, 246, 64, 195, 217] 13 1 (-1) 0 1 0 PX.out S.out (by decide +kernel) rfl rfl rfl).mono ?_
  rintro e w2 ⟨pv2, cv2, rfl, hh, hb⟩
  have HL := Lib.hid (bel0 HX.out hb)
  have P2 := Lib.hid (P1.out.below HL.out)
  have A2 := Lib.hid (A1.out.below HL.out)
  have R1_2 := Lib.hid (R1_.out.below hb)
  have S2 := Lib.hid (S.out.below hb)
  have B2 := Lib.hid (hh)
  have HB2 := Lib.hid (bel0 HB1.out HL.out)
  clear hb HL HX P1 A1 R1_ S HB1
  clear S2 PX
  have HX : Hid (Below w2.heap.size w2 (World.alloc (World.alloc w2 (.cells #[.slice pv2 13 cv2, .int .i64 1, .int .i64 (-1)] 26)) (.cells (bsU [0, 0, 0, 12]).toArray 5))) := Lib.hid (bel0 (below_new _ _) (below_new _ _))
  have R2_ : Hid (Bx (World.alloc (World.alloc w2 (.cells #[.slice pv2 13 cv2, .int .i64 1, .int .i64 (-1)] 26)) (.cells (bsU [0, 0, 0, 12]).toArray 5)) w2.heap.size 26 #[.slice pv2 13 cv2, .int .i64 1, .int .i64 (-1)]) := Lib.hid ((Bx.new w2 26 #[.slice pv2 13 cv2, .int .i64 1, .int .i64 (-1)]).below (below_new _ _))
  have S : Hid (SvB (World.alloc (World.alloc w2 (.cells #[.slice pv2 13 cv2, .int .i64 1, .int .i64 (-1)] 26)) (.cells (bsU [0, 0, 0, 12]).toArray 5)) (.slice (some ⟨w2.heap.size + 1, 0, none⟩) 4 4) [0, 0, 0, 12]) := Lib.hid (svb_second _ _ [0, 0, 0, 12] (by simp))
  have PX := Lib.hid (P2.out.below HX.out)
  go_wp2_with fail
  refine (ke [64, 64, 64, 64, 64, 64, 64, 75, 240, 240, 64, 64, 64] 13 0 (-1) 0 0 0 PX.out S.out (by decide +kernel) rfl rfl rfl).mono ?_
  rintro e w3 ⟨pv3, cv3, rfl, hh, hb⟩
  have HL := Lib.hid (bel0 HX.out hb)
  have P3 := Lib.hid (P2.out.below HL.out)
  have A3 := Lib.hid (A2.out.below HL.out)
  have R1_3 := Lib.hid (R1_2.out.below HL.out)
  have B3 := Lib.hid (B2.out.below HL.out)
  have R2_3 := Lib.hid (R2_.out.below hb)
  have S3 := Lib.hid (S.out.below hb)
  have C3 := Lib.hid (hh)
  have HB3 := Lib.hid (bel0 HB2.out HL.out)
  clear hb HL HX P2 A2 R1_2 B2 R2_ S HB2
  clear S3 PX
  have HX : Hid (Below w3.heap.size w3 (World.alloc (World.alloc w3 (.cells #[.slice pv3 13 cv3, .int .i64 0, .int .i64 (-1)] 26)) (.cells (bsU [64, 64, 242, 107, 245, 247, 244, 75, 242, 246, 64, 64, 64]).toArray 5))) := Lib.hid (bel0 (below_new _ _) (below_new _ _))
  have R3_ : Hid (Bx (World.alloc (World.alloc w3 (.cells #[.slice pv3 13 cv3, .int .i64 0, .int .i64 (-1)] 26)) (.cells (bsU [64, 64, 242, 107, 245, 247, 244, 75, 242, 246, 64, 64, 64]).toArray 5)) w3.heap.size 26 #[.slice pv3 13 cv3, .int .i64 0, .int .i64 (-1)]) := Lib.hid ((Bx.new w3 26 #[.slice pv3 13 cv3, .int .i64 0, .int .i64 (-1)]).below (below_new _ _))
  have S : Hid (SvB (World.alloc (World.alloc w3 (.cells #[.slice pv3 13 cv3, .int .i64 0, .int .i64 (-1)] 26)) (.cells (bsU [64, 64, 242, 107, 245, 247, 244, 75, 242, 246, 64, 64, 64]).toArray 5)) (.slice (some ⟨w3.heap.size + 1, 0, none⟩) 13 13) [64, 64, 242, 107, 245, 247, 244, 75, 242, 246, 64, 64, 64]) := Lib.hid (svb_second _ _ [64, 64, 242, 107, 245, 247, 244, 75, 242, 246, 64, 64, 64] (by simp))
  have hbx : Below w3.heap.size w3 (World.alloc w3 (.cells #[.slice pv3 13 cv3, .int .i64 0, .int .i64 (-1)] 26)) := below_new _ _
  obtain ⟨⟨k1a, k1b, k1c⟩, _⟩ := (R1_3.out.below hbx).three
  obtain ⟨⟨k2a, k2b, k2c⟩, _⟩ := (R2_3.out.below hbx).three
  have AX := Lib.hid (A3.out.below HX.out)
  clear hbx
  go_wp2_with fail
  refine (sb AX.out S.out).mono ?_
  rintro e w4 ⟨rfl, hb⟩
  have HL := Lib.hid (bel0 HX.out hb)
  have P4 := Lib.hid (P3.out.below HL.out)
  have A4 := Lib.hid (A3.out.below HL.out)
  have R1_4 := Lib.hid (R1_3.out.below HL.out)
  have B4 := Lib.hid (B3.out.below HL.out)
  have R2_4 := Lib.hid (R2_3.out.below HL.out)
  have C4 := Lib.hid (C3.out.below HL.out)
  have R3_4 := Lib.hid (R3_.out.below hb)
  have S4 := Lib.hid (S.out.below hb)
  have HB4 := Lib.hid (bel0 HB3.out HL.out)
  clear hb HL HX P3 A3 R1_3 B3 R2_3 C3 R3_ S HB3
  clear S4
  clear AX k1a k1b k1c k2a k2b k2c
  have HX : Hid (Below w4.heap.size w4 (World.alloc w4 (.cells (bsU [64, 64, 64, 64, 64, 64, 64, 75, 242, 246, 64, 195, 217]).toArray 5))) := Lib.hid (below_new _ _)
  have S : Hid (SvB (World.alloc w4 (.cells (bsU [64, 64, 64, 64, 64, 64, 64, 75, 242, 246, 64, 195, 217]).toArray 5)) (.slice (some ⟨w4.heap.size, 0, none⟩) 13 13) [64, 64, 64, 64, 64, 64, 64, 75, 242, 246, 64, 195, 217]) := Lib.hid (svb_new _ [64, 64, 64, 64, 64, 64, 64, 75, 242, 246, 64, 195, 217] (by simp))
  obtain ⟨⟨ka, kb, kc⟩, _⟩ := (R2_4.out).three
  have AX := Lib.hid (B4.out.below HX.out)
  go_wp2_with fail
  refine (sb AX.out S.out).mono ?_
  rintro e w5 ⟨rfl, hb⟩
  have HL := Lib.hid (bel0 HX.out hb)
  have P5 := Lib.hid (P4.out.below HL.out)
  have A5 := Lib.hid (A4.out.below HL.out)
  have R1_5 := Lib.hid (R1_4.out.below HL.out)
  have B5 := Lib.hid (B4.out.below HL.out)
  have R2_5 := Lib.hid (R2_4.out.below HL.out)
  have C5 := Lib.hid (C4.out.below HL.out)
  have R3_5 := Lib.hid (R3_4.out.below HL.out)
  have S5 := Lib.hid (S.out.below hb)
  have HB5 := Lib.hid (bel0 HB4.out HL.out)
  clear hb HL HX P4 A4 R1_4 B4 R2_4 C4 R3_4 S HB4
  clear S5
  clear AX ka kb kc
  have HX : Hid (Below w5.heap.size w5 (World.alloc w5 (.cells (bsU [64, 64, 64, 64, 64, 64, 64, 75, 240, 240, 64, 64, 64]).toArray 5))) := Lib.hid (below_new _ _)
  have S : Hid (SvB (World.alloc w5 (.cells (bsU [64, 64, 64, 64, 64, 64, 64, 75, 240, 240, 64, 64, 64]).toArray 5)) (.slice (some ⟨w5.heap.size, 0, none⟩) 13 13) [64, 64, 64, 64, 64, 64, 64, 75, 240, 240, 64, 64, 64]) := Lib.hid (svb_new _ [64, 64, 64, 64, 64, 64, 64, 75, 240, 240, 64, 64, 64] (by simp))
  obtain ⟨⟨ka, kb, kc⟩, _⟩ := (R3_5.out).three
  have AX := Lib.hid (C5.out.below HX.out)
  go_wp2_with fail
  refine (sb AX.out S.out).mono ?_
  rintro e w6 ⟨rfl, hb⟩
  have HL := Lib.hid (bel0 HX.out hb)
  have P6 := Lib.hid (P5.out.below HL.out)
  have A6 := Lib.hid (A5.out.below HL.out)
  have R1_6 := Lib.hid (R1_5.out.below HL.out)
  have B6 := Lib.hid (B5.out.below HL.out)
  have R2_6 := Lib.hid (R2_5.out.below HL.out)
  have C6 := Lib.hid (C5.out.below HL.out)
  have R3_6 := Lib.hid (R3_5.out.below HL.out)
  have S6 := Lib.hid (S.out.below hb)
  have HB6 := Lib.hid (bel0 HB5.out HL.out)
  clear hb HL HX P5 A5 R1_5 B5 R2_5 C5 R3_5 S HB5
  clear S6
  clear AX ka kb kc
  clear P6
  clear A6
  clear B6
  clear C6
  clear R1_6
  clear R2_6
  clear R3_6
  have HX : Hid (Below w6.heap.size w6 (World.alloc (World.alloc w6 (.cells (bsU [92, 32, 32, 34, 32, 32, 32]).toArray 5)) (.cells (bsU [28, 12, 0, 12]).toArray 5))) := Lib.hid (bel0 (below_new _ _) (below_new _ _))
  have Q : Hid (SvB (World.alloc (World.alloc w6 (.cells (bsU [92, 32, 32, 34, 32, 32, 32]).toArray 5)) (.cells (bsU [28, 12, 0, 12]).toArray 5)) (.slice (some ⟨w6.heap.size, 0, none⟩) 7 7) [92, 32, 32, 34, 32, 32, 32]) := Lib.hid ((svb_new _ [92, 32, 32, 34, 32, 32, 32] (by simp)).below (below_new _ _))
  have S : Hid (SvB (World.alloc (World.alloc w6 (.cells (bsU [92, 32, 32, 34, 32, 32, 32]).toArray 5)) (.cells (bsU [28, 12, 0, 12]).toArray 5)) (.slice (some ⟨w6.heap.size + 1, 0, none⟩) 4 4) [28, 12, 0, 12]) := Lib.hid (svb_second _ _ [28, 12, 0, 12] (by simp))
  go_wp2_with fail
  refine (ke [92, 241, 92, 92, 92, 92, 92] 7 0 (1) 0 0 0 Q.out S.out (by decide +kernel) rfl rfl rfl).mono ?_
  rintro e w7 ⟨pv4, cv4, rfl, hh, hb⟩
  have HL := Lib.hid (bel0 HX.out hb)
  have Q7 := Lib.hid (Q.out.below hb)
  have S7 := Lib.hid (S.out.below hb)
  have D7 := Lib.hid (hh)
  have HB7 := Lib.hid (bel0 HB6.out HL.out)
  clear hb HL HX Q S HB6
  clear Q7
  clear S7
  have HX : Hid (Below w7.heap.size w7 (World.alloc (World.alloc (World.alloc w7 (.cells #[.slice pv4 7 cv4, .int .i64 0, .int .i64 1] 26)) (.cells (bsU [32, 32]).toArray 5)) (.cells (bsU [18]).toArray 5))) := Lib.hid (bel0 (bel0 (below_new _ _) (below_new _ _)) (below_new _ _))
  have R4_ : Hid (Bx (World.alloc (World.alloc (World.alloc w7 (.cells #[.slice pv4 7 cv4, .int .i64 0, .int .i64 1] 26)) (.cells (bsU [32, 32]).toArray 5)) (.cells (bsU [18]).toArray 5)) w7.heap.size 26 #[.slice pv4 7 cv4, .int .i64 0, .int .i64 1]) := Lib.hid (((Bx.new w7 26 #[.slice pv4 7 cv4, .int .i64 0, .int .i64 1]).below (below_new _ _)).below (below_new _ _))
  have Q : Hid (SvB (World.alloc (World.alloc (World.alloc w7 (.cells #[.slice pv4 7 cv4, .int .i64 0, .int .i64 1] 26)) (.cells (bsU [32, 32]).toArray 5)) (.cells (bsU [18]).toArray 5)) (.slice (some ⟨w7.heap.size + 1, 0, none⟩) 2 2) [32, 32]) := Lib.hid ((svb_second _ _ [32, 32] (by simp)).below (below_new _ _))
  have S : Hid (SvB (World.alloc (World.alloc (World.alloc w7 (.cells #[.slice pv4 7 cv4, .int .i64 0, .int .i64 1] 26)) (.cells (bsU [32, 32]).toArray 5)) (.cells (bsU [18]).toArray 5)) (.slice (some ⟨w7.heap.size + 1 + 1, 0, none⟩) 1 1) [18]) := Lib.hid (svb_third _ _ _ [18] (by simp))
  go_wp2_with fail
  refine (ke [241, 242] 2 1 (0) 0 1 0 Q.out S.out (by decide +kernel) rfl rfl rfl).mono ?_
  rintro e w8 ⟨pv5, cv5, rfl, hh, hb⟩
  have HL := Lib.hid (bel0 HX.out hb)
  have D8 := Lib.hid (D7.out.below HL.out)
  have R4_8 := Lib.hid (R4_.out.below hb)
  have Q8 := Lib.hid (Q.out.below hb)
  have S8 := Lib.hid (S.out.below hb)
  have E18 := Lib.hid (hh)
  have HB8 := Lib.hid (bel0 HB7.out HL.out)
  clear hb HL HX D7 R4_ Q S HB7
  clear Q8
  clear S8
  have HX : Hid (Below w8.heap.size w8 (World.alloc (World.alloc (World.alloc w8 (.cells #[.slice pv5 2 cv5, .int .i64 1, .int .i64 0] 26)) (.cells (bsU [32, 32]).toArray 5)) (.cells (bsU [161]).toArray 5))) := Lib.hid (bel0 (bel0 (below_new _ _) (below_new _ _)) (below_new _ _))
  have R5_ : Hid (Bx (World.alloc (World.alloc (World.alloc w8 (.cells #[.slice pv5 2 cv5, .int .i64 1, .int .i64 0] 26)) (.cells (bsU [32, 32]).toArray 5)) (.cells (bsU [161]).toArray 5)) w8.heap.size 26 #[.slice pv5 2 cv5, .int .i64 1, .int .i64 0]) := Lib.hid (((Bx.new w8 26 #[.slice pv5 2 cv5, .int .i64 1, .int .i64 0]).below (below_new _ _)).below (below_new _ _))
  have Q : Hid (SvB (World.alloc (World.alloc (World.alloc w8 (.cells #[.slice pv5 2 cv5, .int .i64 1, .int .i64 0] 26)) (.cells (bsU [32, 32]).toArray 5)) (.cells (bsU [161]).toArray 5)) (.slice (some ⟨w8.heap.size + 1, 0, none⟩) 2 2) [32, 32]) := Lib.hid ((svb_second _ _ [32, 32] (by simp)).below (below_new _ _))
  have S : Hid (SvB (World.alloc (World.alloc (World.alloc w8 (.cells #[.slice pv5 2 cv5, .int .i64 1, .int .i64 0] 26)) (.cells (bsU [32, 32]).toArray 5)) (.cells (bsU [161]).toArray 5)) (.slice (some ⟨w8.heap.size + 1 + 1, 0, none⟩) 1 1) [161]) := Lib.hid (svb_third _ _ _ [161] (by simp))
  go_wp2_with fail
  refine (ke [] 0 0 (0) 7 0 7 Q.out S.out (by decide +kernel) rfl rfl rfl).mono ?_
  rintro e w9 ⟨pv6, cv6, rfl, hh, hb⟩
  have HL := Lib.hid (bel0 HX.out hb)
  have D9 := Lib.hid (D8.out.below HL.out)
  have R4_9 := Lib.hid (R4_8.out.below HL.out)
  have E19 := Lib.hid (E18.out.below HL.out)
  have R5_9 := Lib.hid (R5_.out.below hb)
  have Q9 := Lib.hid (Q.out.below hb)
  have S9 := Lib.hid (S.out.below hb)
  have Z9 := Lib.hid (hh)
  have HB9 := Lib.hid (bel0 HB8.out HL.out)
  clear hb HL HX D8 R4_8 E18 R5_ Q S HB8
  clear Q9
  clear S9
  clear Z9
  have HX : Hid (Below w9.heap.size w9 (World.alloc (World.alloc w9 (.cells #[.slice pv6 0 cv6, .int .i64 0, .int .i64 0] 26)) (.cells (bsU [32, 32]).toArray 5))) := Lib.hid (bel0 (below_new _ _) (below_new _ _))
  have Q : Hid (SvB (World.alloc (World.alloc w9 (.cells #[.slice pv6 0 cv6, .int .i64 0, .int .i64 0] 26)) (.cells (bsU [32, 32]).toArray 5)) (.slice (some ⟨w9.heap.size + 1, 0, none⟩) 2 2) [32, 32]) := Lib.hid (svb_second _ _ [32, 32] (by simp))
  go_wp2_with fail
  refine (ke [] 0 0 (0) 5 0 5 Q.out (SvB.nil _) (by decide +kernel) rfl rfl rfl).mono ?_
  rintro e w10 ⟨pv7, cv7, rfl, hh, hb⟩
  have HL := Lib.hid (bel0 HX.out hb)
  have D10 := Lib.hid (D9.out.below HL.out)
  have R4_10 := Lib.hid (R4_9.out.below HL.out)
  have E110 := Lib.hid (E19.out.below HL.out)
  have R5_10 := Lib.hid (R5_9.out.below HL.out)
  have Q10 := Lib.hid (Q.out.below hb)
  have HB10 := Lib.hid (bel0 HB9.out HL.out)
  clear hb HL HX D9 R4_9 E19 R5_9 Q HB9
  clear Q10
  have HX : Hid (Below w10.heap.size w10 (World.alloc w10 (.cells #[.slice pv7 0 cv7, .int .i64 0, .int .i64 0] 26))) := Lib.hid (below_new _ _)
  go_wp2_with fail
  refine (ke [] 0 0 (0) 6 0 6 (SvB.nil _) (SvB.nil _) (by decide +kernel) rfl rfl rfl).mono ?_
  rintro e w11 ⟨pv8, cv8, rfl, hh, hb⟩
  have HL := Lib.hid (bel0 HX.out hb)
  have D11 := Lib.hid (D10.out.below HL.out)
  have R4_11 := Lib.hid (R4_10.out.below HL.out)
  have E111 := Lib.hid (E110.out.below HL.out)
  have R5_11 := Lib.hid (R5_10.out.below HL.out)
  have HB11 := Lib.hid (bel0 HB10.out HL.out)
  clear hb HL HX D10 R4_10 E110 R5_10 HB10
  have HX : Hid (Below w11.heap.size w11 (World.alloc (World.alloc w11 (.cells #[.slice pv8 0 cv8, .int .i64 0, .int .i64 0] 26)) (.cells (bsU (List.replicate 257 0)).toArray 5))) := Lib.hid (bel0 (below_new _ _) (below_new _ _))
  have Q : Hid (SvB (World.alloc (World.alloc w11 (.cells #[.slice pv8 0 cv8, .int .i64 0, .int .i64 0] 26)) (.cells (bsU (List.replicate 257 0)).toArray 5)) (.slice (some ⟨w11.heap.size + 1, 0, none⟩) 257 257) (List.replicate 257 0)) := Lib.hid (svb_second _ _ (List.replicate 257 0) (by simp))
  go_wp2_with fail
  refine (ke [] 0 0 (0) 6 0 6 Q.out (SvB.nil _) (by decide +kernel) rfl rfl rfl).mono ?_
  rintro e w12 ⟨pv9, cv9, rfl, hh, hb⟩
  have HL := Lib.hid (bel0 HX.out hb)
  have D12 := Lib.hid (D11.out.below HL.out)
  have R4_12 := Lib.hid (R4_11.out.below HL.out)
  have E112 := Lib.hid (E111.out.below HL.out)
  have R5_12 := Lib.hid (R5_11.out.below HL.out)
  have Q12 := Lib.hid (Q.out.below hb)
  have HB12 := Lib.hid (bel0 HB11.out HL.out)
  clear hb HL HX D11 R4_11 E111 R5_11 Q HB11
  clear Q12
  have HX : Hid (Below w12.heap.size w12 (World.alloc (World.alloc w12 (.cells #[.slice pv9 0 cv9, .int .i64 0, .int .i64 0] 26)) (.cells (bsU [92, 241, 92, 92, 92, 92, 92]).toArray 5))) := Lib.hid (bel0 (below_new _ _) (below_new _ _))
  have S : Hid (SvB (World.alloc (World.alloc w12 (.cells #[.slice pv9 0 cv9, .int .i64 0, .int .i64 0] 26)) (.cells (bsU [92, 241, 92, 92, 92, 92, 92]).toArray 5)) (.slice (some ⟨w12.heap.size + 1, 0, none⟩) 7 7) [92, 241, 92, 92, 92, 92, 92]) := Lib.hid (svb_second _ _ [92, 241, 92, 92, 92, 92, 92] (by simp))
  have hbx : Below w12.heap.size w12 (World.alloc w12 (.cells #[.slice pv9 0 cv9, .int .i64 0, .int .i64 0] 26)) := below_new _ _
  obtain ⟨⟨k1a, k1b, k1c⟩, _⟩ := (R4_12.out.below hbx).three
  have AX := Lib.hid (D12.out.below HX.out)
  clear hbx
  go_wp2_with fail
  refine (sb AX.out S.out).mono ?_
  rintro e w13 ⟨rfl, hb⟩
  have HL := Lib.hid (bel0 HX.out hb)
  have D13 := Lib.hid (D12.out.below HL.out)
  have R4_13 := Lib.hid (R4_12.out.below HL.out)
  have E113 := Lib.hid (E112.out.below HL.out)
  have R5_13 := Lib.hid (R5_12.out.below HL.out)
  have S13 := Lib.hid (S.out.below hb)
  have HB13 := Lib.hid (bel0 HB12.out HL.out)
  clear hb HL HX D12 R4_12 E112 R5_12 S HB12
  clear S13
  clear AX k1a k1b k1c
  have HX : Hid (Below w13.heap.size w13 (World.alloc w13 (.cells (bsU [241, 242]).toArray 5))) := Lib.hid (below_new _ _)
  have S : Hid (SvB (World.alloc w13 (.cells (bsU [241, 242]).toArray 5)) (.slice (some ⟨w13.heap.size, 0, none⟩) 2 2) [241, 242]) := Lib.hid (svb_new _ [241, 242] (by simp))
  obtain ⟨⟨ka, kb, kc⟩, _⟩ := (R5_13.out).three
  have AX := Lib.hid (E113.out.below HX.out)
  go_wp2_with fail
  refine (sb AX.out S.out).mono ?_
  rintro e w14 ⟨rfl, hb⟩
  have HL := Lib.hid (bel0 HX.out hb)
  have D14 := Lib.hid (D13.out.below HL.out)
  have R4_14 := Lib.hid (R4_13.out.below HL.out)
  have E114 := Lib.hid (E113.out.below HL.out)
  have R5_14 := Lib.hid (R5_13.out.below HL.out)
  have S14 := Lib.hid (S.out.below hb)
  have HB14 := Lib.hid (bel0 HB13.out HL.out)
  clear hb HL HX D13 R4_13 E113 R5_13 S HB13
  clear S14
  clear AX ka kb kc
  have HX : Hid (Below w14.heap.size w14 w14) := Lib.hid (Below.refl _ _)
  go_wp2_with fail
  refine (works_any _).mono ?_
  rintro e w15 ⟨rfl, hb⟩
  have HL := Lib.hid (bel0 HX.out hb)
  have D15 := Lib.hid (D14.out.below HL.out)
  have R4_15 := Lib.hid (R4_14.out.below HL.out)
  have E115 := Lib.hid (E114.out.below HL.out)
  have R5_15 := Lib.hid (R5_14.out.below HL.out)
  have HB15 := Lib.hid (bel0 HB14.out HL.out)
  clear hb HL HX D14 R4_14 E114 R5_14 HB14
  go_wp2
  go_ret
  exact ⟨rfl, HB15.out⟩

end Go.Proofs.Ytfkenoehoocobaa.editKnown

/- Chapter 12: what was decoded can be encoded, and is decoded again as the same. -/
import Derived.Test.YtijkbenbjdeocaaDoorCcWorks
import Derived.Deep.QuietTactic
namespace Go.Proofs.YtijkbenbjdeocaaDoor
open Go.RowKit E
set_option linter.unusedVariables false
namespace ccwAgain

set_option maxRecDepth 100000 in
set_option maxHeartbeats 2000000 in
theorem walk (sv : Value) (l : List UInt8) (w : World) (h : SvB w sv l) (hf : Fb w) : Calls Tryd.prog 8 #[sv] w (New w (.bool true)) := by
  have HV := Lib.hid h
  have K0 : Hid (Fb w) := Lib.hid hf
  have HDc : Hid (∀ W, SvB W sv l → Fb W → Calls Tryd.prog 15 #[sv] W (New W (.tuple #[(decR l).1.v, .bool (decR l).2]))) := Lib.hid (fun W h hf => decode_any h hf)
  have HEn : Hid ((decR l).2 = true → ∀ W, Fb W → Calls Tryd.prog 12 #[(decR l).1.v] W fun e w' => ∃ sv, e = .returned (.tuple #[sv, .int .i64 0]) ∧ SvB w' sv (encS (decR l).1) ∧ Below W.heap.size W w') := Lib.hid (fun h0 W h => by
    have h1 := encode_any (decR l).1 W h
    rw [enc_dec l h0] at h1
    exact h1)
  have HDx : Hid ((decR l).2 = true → ∀ W sx, SvB W sx (encS (decR l).1) → Fb W → Calls Tryd.prog 15 #[sx] W (New W (.tuple #[(decR l).1.v, .bool true]))) := Lib.hid (fun h0 W sx h hf => by
    have h1 := decode_any h hf
    rw [dec_enc _ (enc_dec l h0)] at h1
    exact h1)
  have HDs : Hid (∀ W, SvB W sv l → Calls Tryd.prog 17 #[sv] W (New W (.tuple #[(decS l).1.v, .bool (decS l).2]))) := Lib.hid (fun W h => decodeCsw_any h)
  have HSn : Hid ((decS l).2 = true → ∀ W, Calls Tryd.prog 21 #[(decS l).1.v] W fun e w' => ∃ sx, e = .returned (.tuple #[sx, .int .i64 0]) ∧ SvB w' sx l ∧ Below W.heap.size W w') := Lib.hid (fun h0 W => by
    have h1 := encodeCsw_any (decS l).1 W
    rw [show encSC (decS l).1 = 0 from if_pos (encS_dec l h0).1, (encS_dec l h0).2] at h1
    exact h1)
  have HL8 : Hid ((decS l).2 = true → l.length = 8) := Lib.hid (fun h0 => by
    unfold decS at h0
    split at h0
    · rename_i hc
      exact hc.1
    · cases h0)
  obtain ⟨p, c, rfl, -⟩ := h
  clear hf
  unfold Cw.v Cs.v at *
  generalize encS (decR l).1 = l1 at *
  generalize (decR l).2 = ok1 at *
  generalize (decR l).1 = Q at *
  generalize (decS l).2 = ok2 at *
  generalize (decS l).1 = S at *
  go_enter Tryd.func8, Tryd.ntmps8
  go_wp2_with fail
  refine (HDc.out _ HV.out K0.out).mono ?_
  rintro e V0 ⟨rfl, hb⟩
  have hbb := bel0 hb (below_new _ (.cells #[.int .i64 Q.o, .int .i64 Q.a, .bool Q.cd, .bool Q.cc, .bool Q.sl, .bool Q.sk, .bool Q.pc, .int .i64 Q.n] 26))
  have K1 : Hid (Below w.heap.size w (V0.alloc (.cells #[.int .i64 Q.o, .int .i64 Q.a, .bool Q.cd, .bool Q.cc, .bool Q.sl, .bool Q.sk, .bool Q.pc, .int .i64 Q.n] 26)) ∧ Fb (V0.alloc (.cells #[.int .i64 Q.o, .int .i64 Q.a, .bool Q.cd, .bool Q.cc, .bool Q.sl, .bool Q.sk, .bool Q.pc, .int .i64 Q.n] 26))) := Lib.hid ⟨hbb, K0.out.below hbb⟩
  have HV1 := Lib.hid (HV.out.below hbb)
  have HN := Lib.hid (Bx.new V0 26 #[.int .i64 Q.o, .int .i64 Q.a, .bool Q.cd, .bool Q.cc, .bool Q.sl, .bool Q.sk, .bool Q.pc, .int .i64 Q.n])
  clear hb hbb K0 HV HDc
  cases ok1 with
  | true =>
    have n0 := HN.out.cell 0
    change _ = some (Value.int .i64 Q.o) at n0
    have n1 := HN.out.cell 1
    change _ = some (Value.int .i64 Q.a) at n1
    have n2 := HN.out.cell 2
    change _ = some (Value.bool Q.cd) at n2
    have n3 := HN.out.cell 3
    change _ = some (Value.bool Q.cc) at n3
    have n4 := HN.out.cell 4
    change _ = some (Value.bool Q.sl) at n4
    have n5 := HN.out.cell 5
    change _ = some (Value.bool Q.sk) at n5
    have n6 := HN.out.cell 6
    change _ = some (Value.bool Q.pc) at n6
    have n7 := HN.out.cell 7
    change _ = some (Value.int .i64 Q.n) at n7
    go_wp2_with fail
    clear n0 n1 n2 n3 n4 n5 n6 n7
    generalize V0.alloc (.cells #[.int .i64 Q.o, .int .i64 Q.a, .bool Q.cd, .bool Q.cc, .bool Q.sl, .bool Q.sk, .bool Q.pc, .int .i64 Q.n] 26) = V1 at K1 HV1 HN ⊢
    generalize V0.heap.size = G at HN ⊢
    refine (HEn.out (by trivial) _ K1.out.2).mono ?_
    rintro e V2 ⟨sx, rfl, hsv, hb⟩
    have HX2 := Lib.hid hsv
    have K2 : Hid (Below w.heap.size w V2 ∧ Fb V2) := Lib.hid ⟨bel0 K1.out.1 hb, K1.out.2.below hb⟩
    have HV2 := Lib.hid (HV1.out.below hb)
    have HN2 := Lib.hid (HN.out.below hb)
    clear hb hsv K1 HV1 HN HEn
    go_wp2_with fail
    refine (HDx.out (by trivial) _ _ HX2.out K2.out.2).mono ?_
    rintro e V3 ⟨rfl, hb⟩
    have hbb := bel0 hb (below_new _ (.cells #[.int .i64 Q.o, .int .i64 Q.a, .bool Q.cd, .bool Q.cc, .bool Q.sl, .bool Q.sk, .bool Q.pc, .int .i64 Q.n] 26))
    have K3 : Hid (Below w.heap.size w (V3.alloc (.cells #[.int .i64 Q.o, .int .i64 Q.a, .bool Q.cd, .bool Q.cc, .bool Q.sl, .bool Q.sk, .bool Q.pc, .int .i64 Q.n] 26)) ∧ Fb (V3.alloc (.cells #[.int .i64 Q.o, .int .i64 Q.a, .bool Q.cd, .bool Q.cc, .bool Q.sl, .bool Q.sk, .bool Q.pc, .int .i64 Q.n] 26))) := Lib.hid ⟨bel0 K2.out.1 hbb, K2.out.2.below hbb⟩
    have HV3 := Lib.hid (HV2.out.below hbb)
    have HN3 := Lib.hid (HN2.out.below hbb)
    have HM3 := Lib.hid (Bx.new V3 26 #[.int .i64 Q.o, .int .i64 Q.a, .bool Q.cd, .bool Q.cc, .bool Q.sl, .bool Q.sk, .bool Q.pc, .int .i64 Q.n])
    clear hb hbb K2 HV2 HN2 HX2 HDx
    have n0 := HN3.out.cell 0
    change _ = some (Value.int .i64 Q.o) at n0
    have n1 := HN3.out.cell 1
    change _ = some (Value.int .i64 Q.a) at n1
    have n2 := HN3.out.cell 2
    change _ = some (Value.bool Q.cd) at n2
    have n3 := HN3.out.cell 3
    change _ = some (Value.bool Q.cc) at n3
    have n4 := HN3.out.cell 4
    change _ = some (Value.bool Q.sl) at n4
    have n5 := HN3.out.cell 5
    change _ = some (Value.bool Q.sk) at n5
    have n6 := HN3.out.cell 6
    change _ = some (Value.bool Q.pc) at n6
    have n7 := HN3.out.cell 7
    change _ = some (Value.int .i64 Q.n) at n7
    have m0 := HM3.out.cell 0
    change _ = some (Value.int .i64 Q.o) at m0
    have m1 := HM3.out.cell 1
    change _ = some (Value.int .i64 Q.a) at m1
    have m2 := HM3.out.cell 2
    change _ = some (Value.bool Q.cd) at m2
    have m3 := HM3.out.cell 3
    change _ = some (Value.bool Q.cc) at m3
    have m4 := HM3.out.cell 4
    change _ = some (Value.bool Q.sl) at m4
    have m5 := HM3.out.cell 5
    change _ = some (Value.bool Q.sk) at m5
    have m6 := HM3.out.cell 6
    change _ = some (Value.bool Q.pc) at m6
    have m7 := HM3.out.cell 7
    change _ = some (Value.int .i64 Q.n) at m7
    go_wp2_with fail
    clear n0 n1 n2 n3 n4 n5 n6 n7 m0 m1 m2 m3 m4 m5 m6 m7 HM3 HN3
    generalize V3.alloc (.cells #[.int .i64 Q.o, .int .i64 Q.a, .bool Q.cd, .bool Q.cc, .bool Q.sl, .bool Q.sk, .bool Q.pc, .int .i64 Q.n] 26) = V4 at K3 HV3 ⊢
    have K2 := K3
    have HV2 := HV3
    clear K3 HV3
    refine (HDs.out _ HV2.out).mono ?_
    rintro e V2 ⟨rfl, hb⟩
    have hbb := bel0 hb (below_new _ (.cells #[.int .i64 S.k, .int .i64 S.a, .int .i64 S.u, .int .i64 S.c, .int .i64 S.n] 36))
    have K3 : Hid (Below w.heap.size w (V2.alloc (.cells #[.int .i64 S.k, .int .i64 S.a, .int .i64 S.u, .int .i64 S.c, .int .i64 S.n] 36)) ∧ Fb (V2.alloc (.cells #[.int .i64 S.k, .int .i64 S.a, .int .i64 S.u, .int .i64 S.c, .int .i64 S.n] 36))) := Lib.hid ⟨bel0 K2.out.1 hbb, K2.out.2.below hbb⟩
    have HV3 := Lib.hid (HV2.out.below hbb)
    have HN := Lib.hid (Bx.new V2 36 #[.int .i64 S.k, .int .i64 S.a, .int .i64 S.u, .int .i64 S.c, .int .i64 S.n])
    clear hb hbb K2 HV2 HDs
    cases ok2 with
    | true =>
      have n0 := HN.out.cell 0
      change _ = some (Value.int .i64 S.k) at n0
      have n1 := HN.out.cell 1
      change _ = some (Value.int .i64 S.a) at n1
      have n2 := HN.out.cell 2
      change _ = some (Value.int .i64 S.u) at n2
      have n3 := HN.out.cell 3
      change _ = some (Value.int .i64 S.c) at n3
      have n4 := HN.out.cell 4
      change _ = some (Value.int .i64 S.n) at n4
      go_wp2_with fail
      clear n0 n1 n2 n3 n4 HN
      generalize V2.alloc (.cells #[.int .i64 S.k, .int .i64 S.a, .int .i64 S.u, .int .i64 S.c, .int .i64 S.n] 36) = V3 at K3 HV3 ⊢
      refine (HSn.out (by trivial) _).mono ?_
      rintro e V4 ⟨sx, rfl, hsv, hb⟩
      have K4 : Hid (Below w.heap.size w V4 ∧ Fb V4) := Lib.hid ⟨bel0 K3.out.1 hb, K3.out.2.below hb⟩
      have HV4 := HV3.out.below hb
      have HL := HL8.out (by trivial)
      clear hb K3 HV3 HSn
      obtain ⟨p1, d1, rfl, hr1, -⟩ := hsv
      obtain ⟨p2, d2, he2, hr2, -⟩ := HV4
      obtain ⟨rfl, -, rfl⟩ : p = p2 ∧ l.length = l.length ∧ c = d2 := by simpa using he2
      have hne : l ≠ [] := fun h0 => by rw [h0] at HL; simp at HL
      obtain ⟨B1, o1, rfl, hc1⟩ := hr1.resolve_left hne
      obtain ⟨B2, o2, rfl, hc2⟩ := hr2.resolve_left hne
      have x0 := hc1 0 (by omega)
      have x4 := hc1 4 (by omega)
      have x7 := hc1 7 (by omega)
      have y0 := hc2 0 (by omega)
      have y4 := hc2 4 (by omega)
      have y7 := hc2 7 (by omega)
      rw [Nat.add_zero] at x0 y0
      rw [HL]
      clear HL hne hc1 hc2 HL8
      go_wp2_with fail
      go_quiet (fail)
      go_wp2_with fail
      have K4' := K4
      clear K4
      have K4 : Hid (Below w.heap.size w (V4.drewN nq) ∧ Fb (V4.drewN nq)) := Lib.hid ⟨bel0 K4'.out.1 (belowDraw _ _), K4'.out.2.below (belowDraw _ _)⟩
      refine (works_any _ K4.out.2).mono ?_
      rintro e V5 ⟨rfl, hb⟩
      have HB := Lib.hid (bel0 K4.out.1 hb)
      clear hb
      go_wp2
      go_ret
      exact ⟨rfl, HB.out⟩
    | false =>
      have K4 := K3
      go_wp2_with fail
      refine (works_any _ K4.out.2).mono ?_
      rintro e V5 ⟨rfl, hb⟩
      have HB := Lib.hid (bel0 K4.out.1 hb)
      clear hb
      go_wp2
      go_ret
      exact ⟨rfl, HB.out⟩
  | false =>
    have K2 := K1
    have HV2 := HV1
    clear K1 HV1 HN HEn HDx
    go_wp2_with fail
    generalize V0.alloc (.cells #[.int .i64 Q.o, .int .i64 Q.a, .bool Q.cd, .bool Q.cc, .bool Q.sl, .bool Q.sk, .bool Q.pc, .int .i64 Q.n] 26) = V4 at K2 HV2 ⊢
    refine (HDs.out _ HV2.out).mono ?_
    rintro e V2 ⟨rfl, hb⟩
    have hbb := bel0 hb (below_new _ (.cells #[.int .i64 S.k, .int .i64 S.a, .int .i64 S.u, .int .i64 S.c, .int .i64 S.n] 36))
    have K3 : Hid (Below w.heap.size w (V2.alloc (.cells #[.int .i64 S.k, .int .i64 S.a, .int .i64 S.u, .int .i64 S.c, .int .i64 S.n] 36)) ∧ Fb (V2.alloc (.cells #[.int .i64 S.k, .int .i64 S.a, .int .i64 S.u, .int .i64 S.c, .int .i64 S.n] 36))) := Lib.hid ⟨bel0 K2.out.1 hbb, K2.out.2.below hbb⟩
    have HV3 := Lib.hid (HV2.out.below hbb)
    have HN := Lib.hid (Bx.new V2 36 #[.int .i64 S.k, .int .i64 S.a, .int .i64 S.u, .int .i64 S.c, .int .i64 S.n])
    clear hb hbb K2 HV2 HDs
    cases ok2 with
    | true =>
      have n0 := HN.out.cell 0
      change _ = some (Value.int .i64 S.k) at n0
      have n1 := HN.out.cell 1
      change _ = some (Value.int .i64 S.a) at n1
      have n2 := HN.out.cell 2
      change _ = some (Value.int .i64 S.u) at n2
      have n3 := HN.out.cell 3
      change _ = some (Value.int .i64 S.c) at n3
      have n4 := HN.out.cell 4
      change _ = some (Value.int .i64 S.n) at n4
      go_wp2_with fail
      clear n0 n1 n2 n3 n4 HN
      generalize V2.alloc (.cells #[.int .i64 S.k, .int .i64 S.a, .int .i64 S.u, .int .i64 S.c, .int .i64 S.n] 36) = V3 at K3 HV3 ⊢
      refine (HSn.out (by trivial) _).mono ?_
      rintro e V4 ⟨sx, rfl, hsv, hb⟩
      have K4 : Hid (Below w.heap.size w V4 ∧ Fb V4) := Lib.hid ⟨bel0 K3.out.1 hb, K3.out.2.below hb⟩
      have HV4 := HV3.out.below hb
      have HL := HL8.out (by trivial)
      clear hb K3 HV3 HSn
      obtain ⟨p1, d1, rfl, hr1, -⟩ := hsv
      obtain ⟨p2, d2, he2, hr2, -⟩ := HV4
      obtain ⟨rfl, -, rfl⟩ : p = p2 ∧ l.length = l.length ∧ c = d2 := by simpa using he2
      have hne : l ≠ [] := fun h0 => by rw [h0] at HL; simp at HL
      obtain ⟨B1, o1, rfl, hc1⟩ := hr1.resolve_left hne
      obtain ⟨B2, o2, rfl, hc2⟩ := hr2.resolve_left hne
      have x0 := hc1 0 (by omega)
      have x4 := hc1 4 (by omega)
      have x7 := hc1 7 (by omega)
      have y0 := hc2 0 (by omega)
      have y4 := hc2 4 (by omega)
      have y7 := hc2 7 (by omega)
      rw [Nat.add_zero] at x0 y0
      rw [HL]
      clear HL hne hc1 hc2 HL8
      go_wp2_with fail
      go_quiet (fail)
      go_wp2_with fail
      have K4' := K4
      clear K4
      have K4 : Hid (Below w.heap.size w (V4.drewN nq) ∧ Fb (V4.drewN nq)) := Lib.hid ⟨bel0 K4'.out.1 (belowDraw _ _), K4'.out.2.below (belowDraw _ _)⟩
      refine (works_any _ K4.out.2).mono ?_
      rintro e V5 ⟨rfl, hb⟩
      have HB := Lib.hid (bel0 K4.out.1 hb)
      clear hb
      go_wp2
      go_ret
      exact ⟨rfl, HB.out⟩
    | false =>
      have K4 := K3
      go_wp2_with fail
      refine (works_any _ K4.out.2).mono ?_
      rintro e V5 ⟨rfl, hb⟩
      have HB := Lib.hid (bel0 K4.out.1 hb)
      clear hb
      go_wp2
      go_ret
      exact ⟨rfl, HB.out⟩
end ccwAgain
end Go.Proofs.YtijkbenbjdeocaaDoor

/- Chapter 12: what can be encoded is decoded as it was. -/
import Derived.Test.YtijkbenbjdeocaaDoorCcWorks
namespace Go.Proofs.YtijkbenbjdeocaaDoor
open Go.RowKit E
set_option linter.unusedVariables false
namespace ccwBack

/-- The world of the walk: both words in their boxes. -/
structure Bk (w : World) (E G : Nat) (Q : Cw) (S : Cs) (W : World) : Prop where
  bel : Below w.heap.size w W
  box : Bx W E 26 #[.int .i64 Q.o, .int .i64 Q.a, .bool Q.cd, .bool Q.cc, .bool Q.sl, .bool Q.sk, .bool Q.pc, .int .i64 Q.n]
  bos : Bx W G 36 #[.int .i64 S.k, .int .i64 S.a, .int .i64 S.u, .int .i64 S.c, .int .i64 S.n]
  fb : Fb W
theorem Bk.next {w W W' : World} {E G : Nat} {Q : Cw} {S : Cs} (h : Bk w E G Q S W) (hb : Below W.heap.size W W') : Bk w E G Q S W' := ⟨bel0 h.bel hb, h.box.below hb, h.bos.below hb, h.fb.below hb⟩
theorem encS_len {Q : Cw} (h : encC Q = 0) : (encS Q).length = 8 := by
  rw [show encS Q = encL Q from if_pos h]
  rfl
theorem encSS_len {S : Cs} (h : rngS S = true) : (encSS S).length = 8 := by
  rw [show encSS S = encSL S from if_pos h]
  rfl
theorem encSC_zero {S : Cs} (h : encSC S = 0) : rngS S = true := by
  unfold encSC at h
  split at h
  · assumption
  · omega
theorem cawL_len {k a : Int} (h : cawC k a = 0) : (cawL k a).length = 4 := by
  rw [show cawL k a = w4 (k * 16) a from if_pos h]
  rfl
theorem svb_out {w : World} {sv : Value} {l : List UInt8} (h : SvB w sv l) : ∃ p c, sv = .slice p l.length c := by
  obtain ⟨p, c, h1, _⟩ := h
  exact ⟨p, c, h1⟩
set_option maxRecDepth 100000 in
set_option maxHeartbeats 2000000 in
theorem walk (Q : Cw) (S : Cs) (a : Int) (w : World) (hf : Fb w) : Calls Tryd.prog 7 #[Q.v, S.v, .int .i64 a] w (New w (.bool true)) := by
  have H0 : Hid (Bk w w.heap.size (w.heap.size + 1) Q S ((w.alloc (.cells #[.int .i64 Q.o, .int .i64 Q.a, .bool Q.cd, .bool Q.cc, .bool Q.sl, .bool Q.sk, .bool Q.pc, .int .i64 Q.n] 26)).alloc (.cells #[.int .i64 S.k, .int .i64 S.a, .int .i64 S.u, .int .i64 S.c, .int .i64 S.n] 36))) := Lib.hid (by
    refine ⟨below2 _ _ _, (Bx.new w 26 #[.int .i64 Q.o, .int .i64 Q.a, .bool Q.cd, .bool Q.cc, .bool Q.sl, .bool Q.sk, .bool Q.pc, .int .i64 Q.n]).below (below_new _ _), ?_, hf.below (below2 _ _ _)⟩
    have h := Bx.new (w.alloc (.cells #[.int .i64 Q.o, .int .i64 Q.a, .bool Q.cd, .bool Q.cc, .bool Q.sl, .bool Q.sk, .bool Q.pc, .int .i64 Q.n] 26)) 36 #[.int .i64 S.k, .int .i64 S.a, .int .i64 S.u, .int .i64 S.c, .int .i64 S.n]
    rw [World.size_alloc] at h
    exact h)
  have HEn : Hid (∀ W, Fb W → Calls Tryd.prog 12 #[.agg #[.int .i64 Q.o, .int .i64 Q.a, .bool Q.cd, .bool Q.cc, .bool Q.sl, .bool Q.sk, .bool Q.pc, .int .i64 Q.n]] W fun e w' => ∃ sv, e = .returned (.tuple #[sv, .int .i64 (encC Q)]) ∧ SvB w' sv (encS Q) ∧ Below W.heap.size W w') := Lib.hid (fun W h => encode_any Q W h)
  have HDe : Hid (encC Q = 0 → ∀ W sv, SvB W sv (encS Q) → Fb W → Calls Tryd.prog 15 #[sv] W (New W (.tuple #[.agg #[.int .i64 Q.o, .int .i64 Q.a, .bool Q.cd, .bool Q.cc, .bool Q.sl, .bool Q.sk, .bool Q.pc, .int .i64 Q.n], .bool true]))) := Lib.hid (fun h0 W sv h hf => by
    have h1 := decode_any h hf
    rw [dec_enc Q h0] at h1
    exact h1)
  have HSn : Hid (∀ W, Calls Tryd.prog 21 #[.agg #[.int .i64 S.k, .int .i64 S.a, .int .i64 S.u, .int .i64 S.c, .int .i64 S.n]] W fun e w' => ∃ sv, e = .returned (.tuple #[sv, .int .i64 (encSC S)]) ∧ SvB w' sv (encSS S) ∧ Below W.heap.size W w') := Lib.hid (fun W => encodeCsw_any S W)
  have HSe : Hid (encSC S = 0 → ∀ W sv, SvB W sv (encSS S) → Calls Tryd.prog 17 #[sv] W (New W (.tuple #[.agg #[.int .i64 S.k, .int .i64 S.a, .int .i64 S.u, .int .i64 S.c, .int .i64 S.n], .bool true]))) := Lib.hid (fun h0 W sv h => by
    have h1 := decodeCsw_any h
    rw [decS_enc S (encSC_zero h0)] at h1
    exact h1)
  have HAn : Hid (∀ W, Calls Tryd.prog 23 #[.int .i64 S.k, .int .i64 a] W fun e w' => ∃ sv, e = .returned (.tuple #[sv, .int .i64 (cawC S.k a)]) ∧ SvB w' sv (cawL S.k a) ∧ Below W.heap.size W w') := Lib.hid (fun W => encodeCaw_any S.k a W)
  have HAe : Hid (cawC S.k a = 0 → ∀ W sv, SvB W sv (cawL S.k a) → Calls Tryd.prog 19 #[sv] W fun e w' => e = .returned (.tuple #[.int .i64 S.k, .int .i64 a, .bool true]) ∧ W = w') := Lib.hid (fun h0 W sv h => by
    have h1 := caw_any h
    rw [caw_back S.k a h0] at h1
    exact h1)
  have HL1 : Hid (encC Q = 0 → (encS Q).length = 8) := Lib.hid encS_len
  have HL2 : Hid (encSC S = 0 → (encSS S).length = 8) := Lib.hid (fun h => encSS_len (encSC_zero h))
  have HL3 : Hid (cawC S.k a = 0 → (cawL S.k a).length = 4) := Lib.hid cawL_len
  have HL4 : Hid (cawC S.k a ≠ 0 → (cawL S.k a).length = 0) := Lib.hid (fun h => by rw [show cawL S.k a = [] from if_neg h]; rfl)
  unfold Cw.v Cs.v
  generalize encC Q = c1 at *
  generalize encSC S = c2 at *
  generalize cawC S.k a = c3 at *
  generalize encS Q = l1 at *
  generalize encSS S = l2 at *
  generalize cawL S.k a = l3 at *
  go_enter Tryd.func7, Tryd.ntmps7
  go_wp2_with fail
  obtain ⟨W0, hW⟩ : ∃ W0, W0 = (w.alloc (.cells #[.int .i64 Q.o, .int .i64 Q.a, .bool Q.cd, .bool Q.cc, .bool Q.sl, .bool Q.sk, .bool Q.pc, .int .i64 Q.n] 26)).alloc (.cells #[.int .i64 S.k, .int .i64 S.a, .int .i64 S.u, .int .i64 S.c, .int .i64 S.n] 36) := ⟨_, rfl⟩
  rw [← hW] at H0 ⊢
  clear hW
  generalize hE : w.heap.size = E at H0 ⊢
  generalize hG : E + 1 = G at H0 ⊢
  clear hE hG hf
  refine (HEn.out _ H0.out.fb).mono ?_
  rintro e W1 ⟨sv, rfl, hsv, hb⟩
  have K0 := Lib.hid (H0.out.next hb)
  have HS1 := Lib.hid hsv
  clear hb hsv H0 HEn
  by_cases h1 : c1 = 0
  · subst h1
    have HL := HL1.out rfl
    obtain ⟨p1, d1, rfl⟩ := svb_out HS1.out
    have HC := Lib.hid (HDe.out rfl _ _ HS1.out K0.out.fb)
    rw [HL] at HC ⊢
    clear HL HL1 HDe HS1
    go_wp2_with fail
    refine HC.out.mono ?_
    rintro e W2 ⟨rfl, hb⟩
    have K1 := Lib.hid ((K0.out.next hb).next (below_new _ (.cells #[.int .i64 Q.o, .int .i64 Q.a, .bool Q.cd, .bool Q.cc, .bool Q.sl, .bool Q.sk, .bool Q.pc, .int .i64 Q.n] 26)))
    have HN := Lib.hid (Bx.new W2 26 #[.int .i64 Q.o, .int .i64 Q.a, .bool Q.cd, .bool Q.cc, .bool Q.sl, .bool Q.sk, .bool Q.pc, .int .i64 Q.n])
    clear hb K0 HC
    have q0 := K1.out.box.cell 0
    change _ = some (Value.int .i64 Q.o) at q0
    have q1 := K1.out.box.cell 1
    change _ = some (Value.int .i64 Q.a) at q1
    have q2 := K1.out.box.cell 2
    change _ = some (Value.bool Q.cd) at q2
    have q3 := K1.out.box.cell 3
    change _ = some (Value.bool Q.cc) at q3
    have q4 := K1.out.box.cell 4
    change _ = some (Value.bool Q.sl) at q4
    have q5 := K1.out.box.cell 5
    change _ = some (Value.bool Q.sk) at q5
    have q6 := K1.out.box.cell 6
    change _ = some (Value.bool Q.pc) at q6
    have q7 := K1.out.box.cell 7
    change _ = some (Value.int .i64 Q.n) at q7
    have s0 := K1.out.bos.cell 0
    change _ = some (Value.int .i64 S.k) at s0
    have s1 := K1.out.bos.cell 1
    change _ = some (Value.int .i64 S.a) at s1
    have s2 := K1.out.bos.cell 2
    change _ = some (Value.int .i64 S.u) at s2
    have s3 := K1.out.bos.cell 3
    change _ = some (Value.int .i64 S.c) at s3
    have s4 := K1.out.bos.cell 4
    change _ = some (Value.int .i64 S.n) at s4
    have n0 := HN.out.cell 0
    change _ = some (Value.int .i64 Q.o) at n0
    have n1 := HN.out.cell 1
    change _ = some (Value.int .i64 Q.a) at n1
    have n2 := HN.out.cell 2
    change _ = some (Value.bool Q.cd) at n2
    have n3 := HN.out.cell 3
    change _ = some (Value.bool Q.cc) at n3
    have n4 := HN.out.cell 4
    change _ = some (Value.bool Q.sl) at n4
    have n5 := HN.out.cell 5
    change _ = some (Value.bool Q.sk) at n5
    have n6 := HN.out.cell 6
    change _ = some (Value.bool Q.pc) at n6
    have n7 := HN.out.cell 7
    change _ = some (Value.int .i64 Q.n) at n7
    go_wp2_with fail
    clear s0 s1 s2 s3 s4 n0 n1 n2 n3 n4 n5 n6 n7 q0 q1 q2 q3 q4 q5 q6 q7 HN
    generalize W2.alloc (.cells #[.int .i64 Q.o, .int .i64 Q.a, .bool Q.cd, .bool Q.cc, .bool Q.sl, .bool Q.sk, .bool Q.pc, .int .i64 Q.n] 26) = W2' at K1 ⊢
    refine (HSn.out _).mono ?_
    rintro e V2 ⟨sv, rfl, hsv, hb⟩
    have K2 := Lib.hid (K1.out.next hb)
    have HS2 := Lib.hid hsv
    clear hb hsv K1 HSn
    by_cases h2 : c2 = 0
    · subst h2
      have HL := HL2.out rfl
      obtain ⟨p1, d1, rfl⟩ := svb_out HS2.out
      have HC := Lib.hid (HSe.out rfl _ _ HS2.out)
      rw [HL] at HC ⊢
      clear HL HL2 HSe HS2
      go_wp2_with fail
      refine HC.out.mono ?_
      rintro e V3 ⟨rfl, hb⟩
      have K3 := Lib.hid ((K2.out.next hb).next (below_new _ (.cells #[.int .i64 S.k, .int .i64 S.a, .int .i64 S.u, .int .i64 S.c, .int .i64 S.n] 36)))
      have HN := Lib.hid (Bx.new V3 36 #[.int .i64 S.k, .int .i64 S.a, .int .i64 S.u, .int .i64 S.c, .int .i64 S.n])
      clear hb K2 HC
      have s0 := K3.out.bos.cell 0
      change _ = some (Value.int .i64 S.k) at s0
      have s1 := K3.out.bos.cell 1
      change _ = some (Value.int .i64 S.a) at s1
      have s2 := K3.out.bos.cell 2
      change _ = some (Value.int .i64 S.u) at s2
      have s3 := K3.out.bos.cell 3
      change _ = some (Value.int .i64 S.c) at s3
      have s4 := K3.out.bos.cell 4
      change _ = some (Value.int .i64 S.n) at s4
      have n0 := HN.out.cell 0
      change _ = some (Value.int .i64 S.k) at n0
      have n1 := HN.out.cell 1
      change _ = some (Value.int .i64 S.a) at n1
      have n2 := HN.out.cell 2
      change _ = some (Value.int .i64 S.u) at n2
      have n3 := HN.out.cell 3
      change _ = some (Value.int .i64 S.c) at n3
      have n4 := HN.out.cell 4
      change _ = some (Value.int .i64 S.n) at n4
      go_wp2_with fail
      clear s0 s1 s2 s3 s4 n0 n1 n2 n3 n4 HN
      generalize V3.alloc (.cells #[.int .i64 S.k, .int .i64 S.a, .int .i64 S.u, .int .i64 S.c, .int .i64 S.n] 36) = V3' at K3 ⊢
      refine (HAn.out _).mono ?_
      rintro e V4 ⟨sv, rfl, hsv, hb⟩
      have K4 := Lib.hid (K3.out.next hb)
      have HS4 := Lib.hid hsv
      clear hb hsv K3 HAn
      obtain ⟨p1, d1, rfl⟩ := svb_out HS4.out
      by_cases h3 : c3 = 0
      · subst h3
        have HL := HL3.out rfl
        have HC := Lib.hid (HAe.out rfl _ _ HS4.out)
        rw [HL] at HC ⊢
        clear HL HL3 HL4 HAe HS4
        have s0 := K4.out.bos.cell 0
        change _ = some (Value.int .i64 S.k) at s0
        have s1 := K4.out.bos.cell 1
        change _ = some (Value.int .i64 S.a) at s1
        have s2 := K4.out.bos.cell 2
        change _ = some (Value.int .i64 S.u) at s2
        have s3 := K4.out.bos.cell 3
        change _ = some (Value.int .i64 S.c) at s3
        have s4 := K4.out.bos.cell 4
        change _ = some (Value.int .i64 S.n) at s4
        go_wp2_with fail
        refine HC.out.mono ?_
        rintro e V5 ⟨rfl, rfl⟩
        go_wp2_with fail
        refine (works_any _ K4.out.fb).mono ?_
        rintro e V5 ⟨rfl, hb⟩
        have HB := Lib.hid (bel0 K4.out.bel hb)
        clear hb
        go_wp2
        go_ret
        exact ⟨rfl, HB.out⟩
      · have HL := HL4.out h3
        rw [HL]
        clear HL HL3 HL4 HAe HS4
        go_wp2_with fail
        refine (works_any _ K4.out.fb).mono ?_
        rintro e V5 ⟨rfl, hb⟩
        have HB := Lib.hid (bel0 K4.out.bel hb)
        clear hb
        go_wp2
        go_ret
        exact ⟨rfl, HB.out⟩
    · clear HL2 HSe HS2
      have K3 := K2
      have s0 := K3.out.bos.cell 0
      change _ = some (Value.int .i64 S.k) at s0
      have s1 := K3.out.bos.cell 1
      change _ = some (Value.int .i64 S.a) at s1
      have s2 := K3.out.bos.cell 2
      change _ = some (Value.int .i64 S.u) at s2
      have s3 := K3.out.bos.cell 3
      change _ = some (Value.int .i64 S.c) at s3
      have s4 := K3.out.bos.cell 4
      change _ = some (Value.int .i64 S.n) at s4
      go_wp2_with fail
      clear s0 s1 s2 s3 s4
      refine (HAn.out _).mono ?_
      rintro e V4 ⟨sv, rfl, hsv, hb⟩
      have K4 := Lib.hid (K3.out.next hb)
      have HS4 := Lib.hid hsv
      clear hb hsv K3 HAn
      obtain ⟨p1, d1, rfl⟩ := svb_out HS4.out
      by_cases h3 : c3 = 0
      · subst h3
        have HL := HL3.out rfl
        have HC := Lib.hid (HAe.out rfl _ _ HS4.out)
        rw [HL] at HC ⊢
        clear HL HL3 HL4 HAe HS4
        have s0 := K4.out.bos.cell 0
        change _ = some (Value.int .i64 S.k) at s0
        have s1 := K4.out.bos.cell 1
        change _ = some (Value.int .i64 S.a) at s1
        have s2 := K4.out.bos.cell 2
        change _ = some (Value.int .i64 S.u) at s2
        have s3 := K4.out.bos.cell 3
        change _ = some (Value.int .i64 S.c) at s3
        have s4 := K4.out.bos.cell 4
        change _ = some (Value.int .i64 S.n) at s4
        go_wp2_with fail
        refine HC.out.mono ?_
        rintro e V5 ⟨rfl, rfl⟩
        go_wp2_with fail
        refine (works_any _ K4.out.fb).mono ?_
        rintro e V5 ⟨rfl, hb⟩
        have HB := Lib.hid (bel0 K4.out.bel hb)
        clear hb
        go_wp2
        go_ret
        exact ⟨rfl, HB.out⟩
      · have HL := HL4.out h3
        rw [HL]
        clear HL HL3 HL4 HAe HS4
        go_wp2_with fail
        refine (works_any _ K4.out.fb).mono ?_
        rintro e V5 ⟨rfl, hb⟩
        have HB := Lib.hid (bel0 K4.out.bel hb)
        clear hb
        go_wp2
        go_ret
        exact ⟨rfl, HB.out⟩
  · clear HL1 HDe HS1
    have K1 := K0
    have s0 := K1.out.bos.cell 0
    change _ = some (Value.int .i64 S.k) at s0
    have s1 := K1.out.bos.cell 1
    change _ = some (Value.int .i64 S.a) at s1
    have s2 := K1.out.bos.cell 2
    change _ = some (Value.int .i64 S.u) at s2
    have s3 := K1.out.bos.cell 3
    change _ = some (Value.int .i64 S.c) at s3
    have s4 := K1.out.bos.cell 4
    change _ = some (Value.int .i64 S.n) at s4
    go_wp2_with fail
    clear s0 s1 s2 s3 s4
    refine (HSn.out _).mono ?_
    rintro e V2 ⟨sv, rfl, hsv, hb⟩
    have K2 := Lib.hid (K1.out.next hb)
    have HS2 := Lib.hid hsv
    clear hb hsv K1 HSn
    by_cases h2 : c2 = 0
    · subst h2
      have HL := HL2.out rfl
      obtain ⟨p1, d1, rfl⟩ := svb_out HS2.out
      have HC := Lib.hid (HSe.out rfl _ _ HS2.out)
      rw [HL] at HC ⊢
      clear HL HL2 HSe HS2
      go_wp2_with fail
      refine HC.out.mono ?_
      rintro e V3 ⟨rfl, hb⟩
      have K3 := Lib.hid ((K2.out.next hb).next (below_new _ (.cells #[.int .i64 S.k, .int .i64 S.a, .int .i64 S.u, .int .i64 S.c, .int .i64 S.n] 36)))
      have HN := Lib.hid (Bx.new V3 36 #[.int .i64 S.k, .int .i64 S.a, .int .i64 S.u, .int .i64 S.c, .int .i64 S.n])
      clear hb K2 HC
      have s0 := K3.out.bos.cell 0
      change _ = some (Value.int .i64 S.k) at s0
      have s1 := K3.out.bos.cell 1
      change _ = some (Value.int .i64 S.a) at s1
      have s2 := K3.out.bos.cell 2
      change _ = some (Value.int .i64 S.u) at s2
      have s3 := K3.out.bos.cell 3
      change _ = some (Value.int .i64 S.c) at s3
      have s4 := K3.out.bos.cell 4
      change _ = some (Value.int .i64 S.n) at s4
      have n0 := HN.out.cell 0
      change _ = some (Value.int .i64 S.k) at n0
      have n1 := HN.out.cell 1
      change _ = some (Value.int .i64 S.a) at n1
      have n2 := HN.out.cell 2
      change _ = some (Value.int .i64 S.u) at n2
      have n3 := HN.out.cell 3
      change _ = some (Value.int .i64 S.c) at n3
      have n4 := HN.out.cell 4
      change _ = some (Value.int .i64 S.n) at n4
      go_wp2_with fail
      clear s0 s1 s2 s3 s4 n0 n1 n2 n3 n4 HN
      generalize V3.alloc (.cells #[.int .i64 S.k, .int .i64 S.a, .int .i64 S.u, .int .i64 S.c, .int .i64 S.n] 36) = V3' at K3 ⊢
      refine (HAn.out _).mono ?_
      rintro e V4 ⟨sv, rfl, hsv, hb⟩
      have K4 := Lib.hid (K3.out.next hb)
      have HS4 := Lib.hid hsv
      clear hb hsv K3 HAn
      obtain ⟨p1, d1, rfl⟩ := svb_out HS4.out
      by_cases h3 : c3 = 0
      · subst h3
        have HL := HL3.out rfl
        have HC := Lib.hid (HAe.out rfl _ _ HS4.out)
        rw [HL] at HC ⊢
        clear HL HL3 HL4 HAe HS4
        have s0 := K4.out.bos.cell 0
        change _ = some (Value.int .i64 S.k) at s0
        have s1 := K4.out.bos.cell 1
        change _ = some (Value.int .i64 S.a) at s1
        have s2 := K4.out.bos.cell 2
        change _ = some (Value.int .i64 S.u) at s2
        have s3 := K4.out.bos.cell 3
        change _ = some (Value.int .i64 S.c) at s3
        have s4 := K4.out.bos.cell 4
        change _ = some (Value.int .i64 S.n) at s4
        go_wp2_with fail
        refine HC.out.mono ?_
        rintro e V5 ⟨rfl, rfl⟩
        go_wp2_with fail
        refine (works_any _ K4.out.fb).mono ?_
        rintro e V5 ⟨rfl, hb⟩
        have HB := Lib.hid (bel0 K4.out.bel hb)
        clear hb
        go_wp2
        go_ret
        exact ⟨rfl, HB.out⟩
      · have HL := HL4.out h3
        rw [HL]
        clear HL HL3 HL4 HAe HS4
        go_wp2_with fail
        refine (works_any _ K4.out.fb).mono ?_
        rintro e V5 ⟨rfl, hb⟩
        have HB := Lib.hid (bel0 K4.out.bel hb)
        clear hb
        go_wp2
        go_ret
        exact ⟨rfl, HB.out⟩
    · clear HL2 HSe HS2
      have K3 := K2
      have s0 := K3.out.bos.cell 0
      change _ = some (Value.int .i64 S.k) at s0
      have s1 := K3.out.bos.cell 1
      change _ = some (Value.int .i64 S.a) at s1
      have s2 := K3.out.bos.cell 2
      change _ = some (Value.int .i64 S.u) at s2
      have s3 := K3.out.bos.cell 3
      change _ = some (Value.int .i64 S.c) at s3
      have s4 := K3.out.bos.cell 4
      change _ = some (Value.int .i64 S.n) at s4
      go_wp2_with fail
      clear s0 s1 s2 s3 s4
      refine (HAn.out _).mono ?_
      rintro e V4 ⟨sv, rfl, hsv, hb⟩
      have K4 := Lib.hid (K3.out.next hb)
      have HS4 := Lib.hid hsv
      clear hb hsv K3 HAn
      obtain ⟨p1, d1, rfl⟩ := svb_out HS4.out
      by_cases h3 : c3 = 0
      · subst h3
        have HL := HL3.out rfl
        have HC := Lib.hid (HAe.out rfl _ _ HS4.out)
        rw [HL] at HC ⊢
        clear HL HL3 HL4 HAe HS4
        have s0 := K4.out.bos.cell 0
        change _ = some (Value.int .i64 S.k) at s0
        have s1 := K4.out.bos.cell 1
        change _ = some (Value.int .i64 S.a) at s1
        have s2 := K4.out.bos.cell 2
        change _ = some (Value.int .i64 S.u) at s2
        have s3 := K4.out.bos.cell 3
        change _ = some (Value.int .i64 S.c) at s3
        have s4 := K4.out.bos.cell 4
        change _ = some (Value.int .i64 S.n) at s4
        go_wp2_with fail
        refine HC.out.mono ?_
        rintro e V5 ⟨rfl, rfl⟩
        go_wp2_with fail
        refine (works_any _ K4.out.fb).mono ?_
        rintro e V5 ⟨rfl, hb⟩
        have HB := Lib.hid (bel0 K4.out.bel hb)
        clear hb
        go_wp2
        go_ret
        exact ⟨rfl, HB.out⟩
      · have HL := HL4.out h3
        rw [HL]
        clear HL HL3 HL4 HAe HS4
        go_wp2_with fail
        refine (works_any _ K4.out.fb).mono ?_
        rintro e V5 ⟨rfl, hb⟩
        have HB := Lib.hid (bel0 K4.out.bel hb)
        clear hb
        go_wp2
        go_ret
        exact ⟨rfl, HB.out⟩
end ccwBack
end Go.Proofs.YtijkbenbjdeocaaDoor

/- The contract of the given answers' Encode. -/
import Derived.Test.YtaodghaicmjadaaDoorIsREnA
import Derived.Test.YtaodghaicmjadaaDoorIsREnB
import Derived.Test.YtaodghaicmjadaaDoorIsREnC
import Derived.Test.YtaodghaicmjadaaDoorIsREnD
import Derived.Test.YtaodghaicmjadaaDoorIsREnE
import Derived.Test.YtaodghaicmjadaaDoorIsDecP
namespace Go.Proofs.YtaodghaicmjadaaDoor
open Go.RowKit Go.Shelf
set_option linter.unusedVariables false
namespace E

theorem shape_1 (Q : Ins) (hf : Q.fo = 1) (h0 : 0 ≤ Q.op) (h1 : Q.op < 256) (h : okB 1 Q = true) : ∃ op r1 r2 : Nat, op < 256 ∧ r1 < 16 ∧ r2 < 16 ∧ Q = Ins.mk (op : Int) 1 (r1 : Int) (r2 : Int) 0 0 0 0 0 0 0 0 := by
  unfold okB Ins.hd at h
  simp only [fldsT, List.foldl_cons, List.foldl_nil, ckStep, fs, fv, Ins.set, Ins.get, Bool.true_and] at h
  simp only [inR, Bool.and_eq_true, decide_eq_true_eq, ins_iff, true_and] at h
  refine ⟨Q.op.toNat, Q.r1.toNat, Q.r2.toNat, by omega, by omega, by omega, ?_⟩
  rw [ins_iff]
  refine ⟨?_, ?_, ?_, ?_, ?_, ?_, ?_, ?_, ?_, ?_, ?_, ?_⟩ <;> dsimp only <;> omega
theorem shape_2 (Q : Ins) (hf : Q.fo = 2) (h0 : 0 ≤ Q.op) (h1 : Q.op < 256) (h : okB 2 Q = true) : ∃ op r1 x2 b2 d2 : Nat, op < 256 ∧ r1 < 16 ∧ x2 < 16 ∧ b2 < 16 ∧ d2 < 4096 ∧ Q = Ins.mk (op : Int) 2 (r1 : Int) 0 (x2 : Int) 0 0 (b2 : Int) (d2 : Int) 0 0 0 := by
  unfold okB Ins.hd at h
  simp only [fldsT, List.foldl_cons, List.foldl_nil, ckStep, fs, fv, Ins.set, Ins.get, Bool.true_and] at h
  simp only [inR, Bool.and_eq_true, decide_eq_true_eq, ins_iff, true_and] at h
  refine ⟨Q.op.toNat, Q.r1.toNat, Q.x2.toNat, Q.b2.toNat, Q.d2.toNat, by omega, by omega, by omega, by omega, by omega, ?_⟩
  rw [ins_iff]
  refine ⟨?_, ?_, ?_, ?_, ?_, ?_, ?_, ?_, ?_, ?_, ?_, ?_⟩ <;> dsimp only <;> omega
theorem shape_3 (Q : Ins) (hf : Q.fo = 3) (h0 : 0 ≤ Q.op) (h1 : Q.op < 256) (h : okB 3 Q = true) : ∃ op r1 r2 b2 d2 : Nat, op < 256 ∧ r1 < 16 ∧ r2 < 16 ∧ b2 < 16 ∧ d2 < 4096 ∧ Q = Ins.mk (op : Int) 3 (r1 : Int) (r2 : Int) 0 0 0 (b2 : Int) (d2 : Int) 0 0 0 := by
  unfold okB Ins.hd at h
  simp only [fldsT, List.foldl_cons, List.foldl_nil, ckStep, fs, fv, Ins.set, Ins.get, Bool.true_and] at h
  simp only [inR, Bool.and_eq_true, decide_eq_true_eq, ins_iff, true_and] at h
  refine ⟨Q.op.toNat, Q.r1.toNat, Q.r2.toNat, Q.b2.toNat, Q.d2.toNat, by omega, by omega, by omega, by omega, by omega, ?_⟩
  rw [ins_iff]
  refine ⟨?_, ?_, ?_, ?_, ?_, ?_, ?_, ?_, ?_, ?_, ?_, ?_⟩ <;> dsimp only <;> omega
theorem shape_4 (Q : Ins) (hf : Q.fo = 4) (h0 : 0 ≤ Q.op) (h1 : Q.op < 256) (h : okB 4 Q = true) : ∃ op b1 d1 i2 : Nat, op < 256 ∧ b1 < 16 ∧ d1 < 4096 ∧ i2 < 256 ∧ Q = Ins.mk (op : Int) 4 0 0 0 (b1 : Int) (d1 : Int) 0 0 0 0 (i2 : Int) := by
  unfold okB Ins.hd at h
  simp only [fldsT, List.foldl_cons, List.foldl_nil, ckStep, fs, fv, Ins.set, Ins.get, Bool.true_and] at h
  simp only [inR, Bool.and_eq_true, decide_eq_true_eq, ins_iff, true_and, and_true] at h
  refine ⟨Q.op.toNat, Q.b1.toNat, Q.d1.toNat, Q.i2.toNat, by omega, by omega, by omega, by omega, ?_⟩
  rw [ins_iff]
  refine ⟨?_, ?_, ?_, ?_, ?_, ?_, ?_, ?_, ?_, ?_, ?_, ?_⟩ <;> dsimp only <;> omega
theorem shape_5 (Q : Ins) (hf : Q.fo = 5) (h0 : 0 ≤ Q.op) (h1 : Q.op < 256) (h : okB 5 Q = true) : ∃ op b1 d1 b2 d2 l1 : Nat, op < 256 ∧ b1 < 16 ∧ d1 < 4096 ∧ b2 < 16 ∧ d2 < 4096 ∧ l1 < 256 ∧ Q = Ins.mk (op : Int) 5 0 0 0 (b1 : Int) (d1 : Int) (b2 : Int) (d2 : Int) (l1 : Int) 0 0 := by
  unfold okB Ins.hd at h
  simp only [fldsT, List.foldl_cons, List.foldl_nil, ckStep, fs, fv, Ins.set, Ins.get, Bool.true_and] at h
  simp only [inR, Bool.and_eq_true, decide_eq_true_eq, ins_iff, true_and] at h
  refine ⟨Q.op.toNat, Q.b1.toNat, Q.d1.toNat, Q.b2.toNat, Q.d2.toNat, Q.l1.toNat, by omega, by omega, by omega, by omega, by omega, by omega, ?_⟩
  rw [ins_iff]
  refine ⟨?_, ?_, ?_, ?_, ?_, ?_, ?_, ?_, ?_, ?_, ?_, ?_⟩ <;> dsimp only <;> omega
theorem shape_6 (Q : Ins) (hf : Q.fo = 6) (h0 : 0 ≤ Q.op) (h1 : Q.op < 256) (h : okB 6 Q = true) : ∃ op b1 d1 b2 d2 l1 l2 : Nat, op < 256 ∧ b1 < 16 ∧ d1 < 4096 ∧ b2 < 16 ∧ d2 < 4096 ∧ l1 < 16 ∧ l2 < 16 ∧ Q = Ins.mk (op : Int) 6 0 0 0 (b1 : Int) (d1 : Int) (b2 : Int) (d2 : Int) (l1 : Int) (l2 : Int) 0 := by
  unfold okB Ins.hd at h
  simp only [fldsT, List.foldl_cons, List.foldl_nil, ckStep, fs, fv, Ins.set, Ins.get, Bool.true_and] at h
  simp only [inR, Bool.and_eq_true, decide_eq_true_eq, ins_iff, true_and] at h
  refine ⟨Q.op.toNat, Q.b1.toNat, Q.d1.toNat, Q.b2.toNat, Q.d2.toNat, Q.l1.toNat, Q.l2.toNat, by omega, by omega, by omega, by omega, by omega, by omega, by omega, ?_⟩
  rw [ins_iff]
  refine ⟨?_, ?_, ?_, ?_, ?_, ?_, ?_, ?_, ?_, ?_, ?_, ?_⟩ <;> dsimp only <;> omega
theorem shape_7 (Q : Ins) (hf : Q.fo = 7) (h0 : 0 ≤ Q.op) (h1 : Q.op < 256) (h : okB 7 Q = true) : ∃ op i2 : Nat, op < 256 ∧ i2 < 256 ∧ Q = Ins.mk (op : Int) 7 0 0 0 0 0 0 0 0 0 (i2 : Int) := by
  unfold okB Ins.hd at h
  simp only [fldsT, List.foldl_cons, List.foldl_nil, ckStep, fs, fv, Ins.set, Ins.get, Bool.true_and] at h
  simp only [inR, Bool.and_eq_true, decide_eq_true_eq, ins_iff, true_and, and_true] at h
  refine ⟨Q.op.toNat, Q.i2.toNat, by omega, by omega, ?_⟩
  rw [ins_iff]
  refine ⟨?_, ?_, ?_, ?_, ?_, ?_, ?_, ?_, ?_, ?_, ?_, ?_⟩ <;> dsimp only <;> omega
theorem shape_8 (Q : Ins) (hf : Q.fo = 8) (h0 : 0 ≤ Q.op) (h1 : Q.op < 256) (h : okB 8 Q = true) : ∃ op r1 : Nat, op < 256 ∧ r1 < 16 ∧ Q = Ins.mk (op : Int) 8 (r1 : Int) 0 0 0 0 0 0 0 0 0 := by
  have hz : inR 0 4 = true := rfl
  unfold okB Ins.hd at h
  simp only [fldsT, List.foldl_cons, List.foldl_nil, ckStep, fs, fv, Ins.set, Ins.get, hz, Bool.true_and, Bool.and_true] at h
  simp only [inR, Bool.and_eq_true, decide_eq_true_eq, ins_iff, true_and] at h
  refine ⟨Q.op.toNat, Q.r1.toNat, by omega, by omega, ?_⟩
  rw [ins_iff]
  refine ⟨?_, ?_, ?_, ?_, ?_, ?_, ?_, ?_, ?_, ?_, ?_, ?_⟩ <;> dsimp only <;> omega
theorem shape_9 (Q : Ins) (hf : Q.fo = 9) (h0 : 0 ≤ Q.op) (h1 : Q.op < 256) (h : okB 9 Q = true) : ∃ op b1 d1 : Nat, op < 256 ∧ b1 < 16 ∧ d1 < 4096 ∧ Q = Ins.mk (op : Int) 9 0 0 0 (b1 : Int) (d1 : Int) 0 0 0 0 0 := by
  have hz : inR 0 8 = true := rfl
  unfold okB Ins.hd at h
  simp only [fldsT, List.foldl_cons, List.foldl_nil, ckStep, fs, fv, Ins.set, Ins.get, hz, Bool.true_and, Bool.and_true] at h
  simp only [inR, Bool.and_eq_true, decide_eq_true_eq, ins_iff, true_and] at h
  refine ⟨Q.op.toNat, Q.b1.toNat, Q.d1.toNat, by omega, by omega, by omega, ?_⟩
  rw [ins_iff]
  refine ⟨?_, ?_, ?_, ?_, ?_, ?_, ?_, ?_, ?_, ?_, ?_, ?_⟩ <;> dsimp only <;> omega
theorem len_of {Q : Ins} (h : chkV Q = 0) : 8 * (lenO Q.op - 1) = bitsN (fldsT (foO (ixC Q.op))) := by
  cases e : ixC Q.op with
  | none =>
    unfold chkV foB at h
    rw [e] at h
    simp at h
  | some k =>
    obtain ⟨hk, hop⟩ := ixC_some e
    rw [← hop]
    exact of_decide_eq_true (all97 tot_all hk)
set_option maxRecDepth 100000 in
theorem enc_refused (Q : Ins) (h : chkV Q ≠ 0) (w : World) : Calls Tryd.prog 16 #[Q.val] w (New w (.tuple #[.slice none 0 0, .int .i64 (chkV Q)])) := by
  have HC := Lib.hid (fun W => check_ref Q W)
  obtain ⟨k, hk⟩ : ∃ k, k = chkV Q := ⟨_, rfl⟩
  have hkb : (k != 0) = true := by rw [hk, bne_iff_ne]; exact h
  rw [← hk] at HC ⊢
  have HQ1 := Lib.hid (Bx.new w 28 Q.cs)
  have HB1 := Lib.hid (below_new w (.cells Q.cs 28))
  obtain ⟨I, hI⟩ : ∃ I, I = w.heap.size := ⟨_, rfl⟩
  obtain ⟨w1, hw1⟩ : ∃ w1, w1 = w.alloc (.cells Q.cs 28) := ⟨_, rfl⟩
  rw [← hw1] at HB1 HQ1
  rw [← hI] at HQ1
  obtain ⟨c0, c1, c2, c3, c4, c5, c6, c7, c8, c9, c10, c11⟩ := bx_cells HQ1.out
  unfold Ins.cs at hw1
  unfold Ins.val at HC ⊢
  clear h hk
  have HWI := Lib.hid (And.intro hw1 hI)
  rw [hw1] at c0 c1 c2 c3 c4 c5 c6 c7 c8 c9 c10 c11
  rw [hI] at c0 c1 c2 c3 c4 c5 c6 c7 c8 c9 c10 c11
  clear hw1 hI
  go_enter Tryd.func16, Tryd.ntmps16
  go_wp2_with fail
  clear c0 c1 c2 c3 c4 c5 c6 c7 c8 c9 c10 c11
  rw [← HWI.out.1, ← HWI.out.2]
  refine (HC.out _).mono ?_
  rintro e w2 ⟨rfl, hb⟩
  have HB2 := Lib.hid (bel0 HB1.out hb)
  clear hb HQ1 HB1 HC HWI
  go_wp2
  exact bodyPost_ret (results_tt rfl rfl rfl) rfl ⟨rfl, HB2.out⟩
theorem encode_ref (Q : Ins) (w : World) : Calls Tryd.prog 16 #[Q.val] w (EncPost w Q) := by
  by_cases h0 : chkV Q = 0
  · obtain ⟨F, hF, h1, h9, hf, hok, _, ho0, ho1⟩ := chk_zero h0
    have hbits := len_of h0
    rw [← hF] at hbits
    have hlp := len_pos ho0 ho1
    have hC := fun W => check_ref Q W
    rw [h0] at hC
    have key : Calls Tryd.prog 16 #[Q.val] w fun e w' => ∃ sv, e = .returned (.tuple #[sv, .int .i64 0]) ∧ Hold w' w.heap.size sv (lastB (enW F Q) (lenO Q.op)) ∧ Below w.heap.size w w' := by
      clear hF
      obtain rfl | rfl | rfl | rfl | rfl | rfl | rfl | rfl | rfl : F = 1 ∨ F = 2 ∨ F = 3 ∨ F = 4 ∨ F = 5 ∨ F = 6 ∨ F = 7 ∨ F = 8 ∨ F = 9 := by omega
      · obtain ⟨op, r1, r2, h, h_r1, h_r2, rfl⟩ := shape_1 Q hf ho0 ho1 hok
        have hl : lenO (op : Int) = 2 := by
          have e : bitsN (fldsT 1) = 8 := rfl
          rw [e] at hbits
          dsimp only at hbits hlp
          omega
        dsimp only
        rw [hl, by_1 op r1 r2 h h_r1 h_r2]
        exact enc_1 op r1 r2 h h_r1 h_r2 w hC
      · obtain ⟨op, r1, x2, b2, d2, h, h_r1, h_x2, h_b2, h_d2, rfl⟩ := shape_2 Q hf ho0 ho1 hok
        have hl : lenO (op : Int) = 4 := by
          have e : bitsN (fldsT 2) = 24 := rfl
          rw [e] at hbits
          dsimp only at hbits hlp
          omega
        dsimp only
        rw [hl, by_2 op r1 x2 b2 d2 h h_r1 h_x2 h_b2 h_d2]
        exact enc_2 op r1 x2 b2 d2 h h_r1 h_x2 h_b2 h_d2 w hC
      · obtain ⟨op, r1, r2, b2, d2, h, h_r1, h_r2, h_b2, h_d2, rfl⟩ := shape_3 Q hf ho0 ho1 hok
        have hl : lenO (op : Int) = 4 := by
          have e : bitsN (fldsT 3) = 24 := rfl
          rw [e] at hbits
          dsimp only at hbits hlp
          omega
        dsimp only
        rw [hl, by_3 op r1 r2 b2 d2 h h_r1 h_r2 h_b2 h_d2]
        exact enc_3 op r1 r2 b2 d2 h h_r1 h_r2 h_b2 h_d2 w hC
      · obtain ⟨op, b1, d1, i2, h, h_b1, h_d1, h_i2, rfl⟩ := shape_4 Q hf ho0 ho1 hok
        have hl : lenO (op : Int) = 4 := by
          have e : bitsN (fldsT 4) = 24 := rfl
          rw [e] at hbits
          dsimp only at hbits hlp
          omega
        dsimp only
        rw [hl, by_4 op b1 d1 i2 h h_b1 h_d1 h_i2]
        exact enc_4 op b1 d1 i2 h h_b1 h_d1 h_i2 w hC
      · obtain ⟨op, b1, d1, b2, d2, l1, h, h_b1, h_d1, h_b2, h_d2, h_l1, rfl⟩ := shape_5 Q hf ho0 ho1 hok
        have hl : lenO (op : Int) = 6 := by
          have e : bitsN (fldsT 5) = 40 := rfl
          rw [e] at hbits
          dsimp only at hbits hlp
          omega
        dsimp only
        rw [hl, by_5 op b1 d1 b2 d2 l1 h h_b1 h_d1 h_b2 h_d2 h_l1]
        exact enc_5 op b1 d1 b2 d2 l1 h h_b1 h_d1 h_b2 h_d2 h_l1 w hC
      · obtain ⟨op, b1, d1, b2, d2, l1, l2, h, h_b1, h_d1, h_b2, h_d2, h_l1, h_l2, rfl⟩ := shape_6 Q hf ho0 ho1 hok
        have hl : lenO (op : Int) = 6 := by
          have e : bitsN (fldsT 6) = 40 := rfl
          rw [e] at hbits
          dsimp only at hbits hlp
          omega
        dsimp only
        rw [hl, by_6 op b1 d1 b2 d2 l1 l2 h h_b1 h_d1 h_b2 h_d2 h_l1 h_l2]
        exact enc_6 op b1 d1 b2 d2 l1 l2 h h_b1 h_d1 h_b2 h_d2 h_l1 h_l2 w hC
      · obtain ⟨op, i2, h, h_i2, rfl⟩ := shape_7 Q hf ho0 ho1 hok
        have hl : lenO (op : Int) = 2 := by
          have e : bitsN (fldsT 7) = 8 := rfl
          rw [e] at hbits
          dsimp only at hbits hlp
          omega
        dsimp only
        rw [hl, by_7 op i2 h h_i2]
        exact enc_7 op i2 h h_i2 w hC
      · obtain ⟨op, r1, h, h_r1, rfl⟩ := shape_8 Q hf ho0 ho1 hok
        have hl : lenO (op : Int) = 2 := by
          have e : bitsN (fldsT 8) = 8 := rfl
          rw [e] at hbits
          dsimp only at hbits hlp
          omega
        dsimp only
        rw [hl, by_8 op r1 h h_r1]
        exact enc_8 op r1 h h_r1 w hC
      · obtain ⟨op, b1, d1, h, h_b1, h_d1, rfl⟩ := shape_9 Q hf ho0 ho1 hok
        have hl : lenO (op : Int) = 4 := by
          have e : bitsN (fldsT 9) = 24 := rfl
          rw [e] at hbits
          dsimp only at hbits hlp
          omega
        dsimp only
        rw [hl, by_9 op b1 d1 h h_b1 h_d1]
        exact enc_9 op b1 d1 h h_b1 h_d1 w hC
    refine key.mono ?_
    rintro e w' ⟨sv, he, hh, hb⟩
    rw [hF] at hh
    exact .inr ⟨h0, sv, he, hh, hb⟩
  · exact (enc_refused Q h0 w).mono fun e w' h => .inl ⟨h0, h⟩
/-- The bytes that Encode answers. -/
def encL (Q : Ins) : List UInt8 := if chkV Q = 0 then lastB (enW (foO (ixC Q.op)) Q) (lenO Q.op) else []
theorem encL_len (Q : Ins) : (encL Q).length ≤ 6 := by
  unfold encL
  split
  · show (lastT _ _ _).length ≤ 6
    rw [lastT_len]
    exact len_small _
  · simp
def EncR (w : World) (Q : Ins) (e : Ending) (w' : World) : Prop := ∃ p c, e = .returned (.tuple #[.slice p (encL Q).length c, .int .i64 (chkV Q)]) ∧ Rd w' p (encL Q) ∧ Below w.heap.size w w'
theorem enc_of {w : World} {Q : Ins} {e : Ending} {w' : World} (h : EncPost w Q e w') : EncR w Q e w' := by
  unfold EncR encL
  rcases h with ⟨h0, he, hb⟩ | ⟨h0, sv, he, hh, hb⟩
  · rw [if_neg h0]
    exact ⟨none, 0, he, .inl rfl, hb⟩
  · rw [if_pos h0, h0]
    obtain ⟨p, c, rfl, hr, _⟩ := hh.full
    exact ⟨p, c, he, hr, hb⟩
end E
end Go.Proofs.YtaodghaicmjadaaDoor

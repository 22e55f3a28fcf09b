/- The walk of the statement DecopsSums. -/
import Derived.Test.YtbcncohjjnmdcaaGreatDoorRows
import Derived.Test.YtbcncohjjnmdcaaGreatDoorDpSumsP
import Derived.Test.YtbcncohjjnmdcaaGreatDoorDpXec
import Derived.Test.YtbcncohjjnmdcaaGreatDoorWkDecopsNone
namespace Go.Proofs.YtbcncohjjnmdcaaGreatDoor
namespace E
end E
open Go.RowKit Go.Shelf E
set_option linter.unusedVariables false
namespace M

theorem ckb_mk {f : (Nat → Value) → Act} {a : Act} (h : a = f (fun i => a.tmps.getD i undef)) : ∃ u, a = f u := ⟨_, h⟩
theorem sg_kpg {W0 W : World} {g : Nat} (h : Sg W0) (k : Kp W0 W [g]) (hg : g ≠ 0) : Sg W := fun d => by
  have h0 := h d
  have hl := World.block_lt_of_cell? W0 _ h0
  have hb := k.block 0 hl (by simpa using fun e => hg e.symm)
  rw [← h0]
  simp only [World.cell?, hb]
theorem kp_rowIn {w W : World} {l : List Nat} (h : Kp w W l) {b : Nat} (hb : b ∈ l) (cs : Array Value) : Kp w (W.setRow b cs) l := ⟨h.os, h.tape, h.output, by simpa [World.setRow] using h.size, fun k hk hn => (setRow_other W b k _ (fun e => hn (by rw [e]; exact hb))).trans (h.block k hk hn)⟩
theorem kp_more {w W : World} {g b : Nat} (h : Kp w W [g]) : Kp w W [g, b] := ⟨h.os, h.tape, h.output, h.size, fun k hk hn => h.block k hk (fun hm => hn (by simp at hm; simp [hm]))⟩
def R23 (x y : Nat) : Nat → Int := fun j => if j = 2 then (x : Int) else if j = 3 then (y : Int) else 0
theorem R23_ok {x y : Nat} (hx : x < 4294967296) (hy : y < 4294967296) : RegOk (R23 x y) := fun n => by
  unfold R23
  split
  · omega
  · split <;> omega
theorem regs_selfZ (x y : Nat) (w : World) : (binOp .eql 28 (.agg #[.int .u32 0, .int .u32 0, .int .u32 (x : Int), .int .u32 (y : Int), .int .u32 0, .int .u32 0, .int .u32 0, .int .u32 0, .int .u32 0, .int .u32 0, .int .u32 0, .int .u32 0, .int .u32 0, .int .u32 0, .int .u32 0, .int .u32 0]) (.agg #[.int .u32 0, .int .u32 0, .int .u32 (x : Int), .int .u32 (y : Int), .int .u32 0, .int .u32 0, .int .u32 0, .int .u32 0, .int .u32 0, .int .u32 0, .int .u32 0, .int .u32 0, .int .u32 0, .int .u32 0, .int .u32 0, .int .u32 0])).run Tryz.prog w = .ok (.bool true) w := regs_self (R23 x y) w
attribute [local go_sem 5000] regs_selfZ
set_option maxRecDepth 100000 in
set_option maxHeartbeats 20000000 in
theorem sums_core (x y : Nat) (hx : x < 4294967296) (hy : y < 4294967296) (w : World) (hsg : Sg w) : Calls Tryz.prog 8 #[.int .u32 (x : Int), .int .u32 (y : Int)] w (New w (.bool true)) := by
  have HSG := Lib.hid hsg
  have HNEW := Lib.hid (new_any 2048 w (by decide))
  have hR := R23_ok hx hy
  have kl0 : kb0.length = 2048 := by kernel_rfl
  obtain ⟨l1, hl1⟩ : ∃ l, l = E.putL kb0 64 (fbL x) := ⟨_, rfl⟩
  obtain ⟨l2, hl2⟩ : ∃ l, l = E.putL l1 72 (fbL y) := ⟨_, rfl⟩
  obtain ⟨s, hs⟩ : ∃ s, s = sV x + sV y := ⟨_, rfl⟩
  obtain ⟨F, hF⟩ : ∃ F, F = fldL (decide (s < 0)) s.natAbs 8 := ⟨_, rfl⟩
  obtain ⟨l3, hl3⟩ : ∃ l, l = E.putL l2 64 F := ⟨_, rfl⟩
  have e1 := fbL_len x
  have e2 := fbL_len y
  have eF : F.length = 8 := by rw [hF]; exact fldL_len _ _ _
  have kl1 : l1.length = 2048 := by rw [hl1, put_len (by omega), kl0]
  have kl2 : l2.length = 2048 := by rw [hl2, put_len (by omega), kl1]
  have s1 : E.subL l1 64 8 = fbL x := by
    have h := sub_put (l := kb0) (b := fbL x) (a := 64) (by omega)
    rw [e1] at h
    rw [hl1, h]
  have s2 : E.subL l2 64 8 = fbL x := by rw [hl2, sub_put_low (by omega) (by omega), s1]
  have s3 : E.subL l2 72 8 = fbL y := by
    have h := sub_put (l := l1) (b := fbL y) (a := 72) (by omega)
    rw [e2] at h
    rw [hl2, h]
  have s4 : E.subL l3 64 8 = F := by
    have h := sub_put (l := l2) (b := F) (a := 64) (by omega)
    rw [eF] at h
    rw [hl3, h]
  have sx : -2147483648 ≤ sV x ∧ sV x < 2147483648 := by unfold sV; split <;> omega
  have sy : -2147483648 ≤ sV y ∧ sV y < 2147483648 := by unfold sV; split <;> omega
  have hadd : addL (fbL x) (fbL y) = (F, ccS s, 0) := by rw [add_fb x y hx hy, hF, hs]
  have htb : tbL F = (s % 4294967296, if -2147483648 ≤ s ∧ s ≤ 2147483647 then 0 else 9) := by rw [hF]; exact tb_fld s (by omega) (by omega)
  have X1 : Hid (∀ A g h W, Sto W A g h 2048 1 kb0 (List.replicate 1 0) → Sg W → Calls Tryz.prog 24 #[.agg #[.int .i64 78, .int .i64 2, .int .i64 2, .int .i64 0, .int .i64 0, .int .i64 0, .int .i64 0, .int .i64 0, .int .i64 64, .int .i64 0, .int .i64 0, .int .i64 0], .agg #[.int .u32 0, .int .u32 0, .int .u32 (x : Int), .int .u32 (y : Int), .int .u32 0, .int .u32 0, .int .u32 0, .int .u32 0, .int .u32 0, .int .u32 0, .int .u32 0, .int .u32 0, .int .u32 0, .int .u32 0, .int .u32 0, .int .u32 0], .pointer (some ⟨A, 0, none⟩)] W fun e w' => e = .returned (.tuple #[.agg #[.int .u32 0, .int .u32 0, .int .u32 (x : Int), .int .u32 (y : Int), .int .u32 0, .int .u32 0, .int .u32 0, .int .u32 0, .int .u32 0, .int .u32 0, .int .u32 0, .int .u32 0, .int .u32 0, .int .u32 0, .int .u32 0, .int .u32 0], .int .i64 0, .int .i64 0]) ∧ Sto w' A g h 2048 1 l1 (List.replicate 1 0) ∧ Kp W w' [g]) := Lib.hid (fun A g h W hs hg => xec_post (q := (⟨78, 2, 2, 0, 0, 0, 0, 0, 64, 0, 0, 0⟩ : Qn)) (R := (R23 x y)) (o := .go (R23 x y) (⟨0, 0, false, false, false, 0, 0, 0, 0, 0⟩ : Psw) 0 l1) hs hg (by kernel_rfl) (runs_78' (⟨78, 2, 2, 0, 0, 0, 0, 0, 64, 0, 0, 0⟩ : Qn) (R23 x y) (⟨0, 0, false, false, false, 0, 0, 0, 0, 0⟩ : Psw) 2048 kb0 (List.replicate 1 0) hR ⟨by decide, by decide, by decide, by decide, by decide, by decide, by decide, by decide, by decide, by decide, by decide⟩ rfl _ ((cvd_out (⟨78, 2, 2, 0, 0, 0, 0, 0, 64, 0, 0, 0⟩ : Qn) (R23 x y) kb0 64 (by kernel_rfl) (by decide) (by decide)).trans (by rw [hl1]; rfl))))
  have X2 : Hid (∀ A g h W, Sto W A g h 2048 1 l1 (List.replicate 1 0) → Sg W → Calls Tryz.prog 24 #[.agg #[.int .i64 78, .int .i64 2, .int .i64 3, .int .i64 0, .int .i64 0, .int .i64 0, .int .i64 0, .int .i64 0, .int .i64 72, .int .i64 0, .int .i64 0, .int .i64 0], .agg #[.int .u32 0, .int .u32 0, .int .u32 (x : Int), .int .u32 (y : Int), .int .u32 0, .int .u32 0, .int .u32 0, .int .u32 0, .int .u32 0, .int .u32 0, .int .u32 0, .int .u32 0, .int .u32 0, .int .u32 0, .int .u32 0, .int .u32 0], .pointer (some ⟨A, 0, none⟩)] W fun e w' => e = .returned (.tuple #[.agg #[.int .u32 0, .int .u32 0, .int .u32 (x : Int), .int .u32 (y : Int), .int .u32 0, .int .u32 0, .int .u32 0, .int .u32 0, .int .u32 0, .int .u32 0, .int .u32 0, .int .u32 0, .int .u32 0, .int .u32 0, .int .u32 0, .int .u32 0], .int .i64 0, .int .i64 0]) ∧ Sto w' A g h 2048 1 l2 (List.replicate 1 0) ∧ Kp W w' [g]) := Lib.hid (fun A g h W hs hg => xec_post (q := (⟨78, 2, 3, 0, 0, 0, 0, 0, 72, 0, 0, 0⟩ : Qn)) (R := (R23 x y)) (o := .go (R23 x y) (⟨0, 0, false, false, false, 0, 0, 0, 0, 0⟩ : Psw) 0 l2) hs hg (by kernel_rfl) (runs_78' (⟨78, 2, 3, 0, 0, 0, 0, 0, 72, 0, 0, 0⟩ : Qn) (R23 x y) (⟨0, 0, false, false, false, 0, 0, 0, 0, 0⟩ : Psw) 2048 l1 (List.replicate 1 0) hR ⟨by decide, by decide, by decide, by decide, by decide, by decide, by decide, by decide, by decide, by decide, by decide⟩ rfl _ ((cvd_out (⟨78, 2, 3, 0, 0, 0, 0, 0, 72, 0, 0, 0⟩ : Qn) (R23 x y) l1 72 (by kernel_rfl) (by decide) (by decide)).trans (by rw [hl2]; rfl))))
  have X3 : Hid (∀ A g h W, Sto W A g h 2048 1 l2 (List.replicate 1 0) → Sg W → Calls Tryz.prog 24 #[.agg #[.int .i64 79, .int .i64 2, .int .i64 7, .int .i64 0, .int .i64 0, .int .i64 0, .int .i64 0, .int .i64 0, .int .i64 64, .int .i64 0, .int .i64 0, .int .i64 0], .agg #[.int .u32 0, .int .u32 0, .int .u32 (x : Int), .int .u32 (y : Int), .int .u32 0, .int .u32 0, .int .u32 0, .int .u32 0, .int .u32 0, .int .u32 0, .int .u32 0, .int .u32 0, .int .u32 0, .int .u32 0, .int .u32 0, .int .u32 0], .pointer (some ⟨A, 0, none⟩)] W fun e w' => e = .returned (.tuple #[.agg #[.int .u32 0, .int .u32 0, .int .u32 (x : Int), .int .u32 (y : Int), .int .u32 0, .int .u32 0, .int .u32 0, .int .u32 (x : Int), .int .u32 0, .int .u32 0, .int .u32 0, .int .u32 0, .int .u32 0, .int .u32 0, .int .u32 0, .int .u32 0], .int .i64 0, .int .i64 0]) ∧ Sto w' A g h 2048 1 l2 (List.replicate 1 0) ∧ Kp W w' [g]) := Lib.hid (fun A g h W hs hg => xec_post (q := (⟨79, 2, 7, 0, 0, 0, 0, 0, 64, 0, 0, 0⟩ : Qn)) (R := (R23 x y)) (o := .go (upd (R23 x y) 7 (x : Int)) (⟨0, 0, false, false, false, 0, 0, 0, 0, 0⟩ : Psw) 0 l2) hs hg (by kernel_rfl) (runs_79' (⟨79, 2, 7, 0, 0, 0, 0, 0, 64, 0, 0, 0⟩ : Qn) (R23 x y) (⟨0, 0, false, false, false, 0, 0, 0, 0, 0⟩ : Psw) 2048 l2 (List.replicate 1 0) hR ⟨by decide, by decide, by decide, by decide, by decide, by decide, by decide, by decide, by decide, by decide, by decide⟩ rfl _ ((cvb_out (⟨79, 2, 7, 0, 0, 0, 0, 0, 64, 0, 0, 0⟩ : Qn) (R23 x y) l2 64 (x : Int) 0 (by kernel_rfl) (by decide) (by decide) (by rw [s2]; exact tb_fb x hx)).trans (thenO_go _ rfl))))
  have X4 : Hid (∀ A g h W, Sto W A g h 2048 1 l2 (List.replicate 1 0) → Sg W → Calls Tryz.prog 24 #[.agg #[.int .i64 250, .int .i64 6, .int .i64 0, .int .i64 0, .int .i64 0, .int .i64 0, .int .i64 64, .int .i64 0, .int .i64 72, .int .i64 7, .int .i64 7, .int .i64 0], .agg #[.int .u32 0, .int .u32 0, .int .u32 (x : Int), .int .u32 (y : Int), .int .u32 0, .int .u32 0, .int .u32 0, .int .u32 0, .int .u32 0, .int .u32 0, .int .u32 0, .int .u32 0, .int .u32 0, .int .u32 0, .int .u32 0, .int .u32 0], .pointer (some ⟨A, 0, none⟩)] W fun e w' => e = .returned (.tuple #[.agg #[.int .u32 0, .int .u32 0, .int .u32 (x : Int), .int .u32 (y : Int), .int .u32 0, .int .u32 0, .int .u32 0, .int .u32 0, .int .u32 0, .int .u32 0, .int .u32 0, .int .u32 0, .int .u32 0, .int .u32 0, .int .u32 0, .int .u32 0], .int .i64 (ccS s : Int), .int .i64 0]) ∧ Sto w' A g h 2048 1 l3 (List.replicate 1 0) ∧ Kp W w' [g]) := Lib.hid (fun A g h W hs hg => xec_post (q := (⟨250, 6, 0, 0, 0, 0, 64, 0, 72, 7, 7, 0⟩ : Qn)) (R := (R23 x y)) (o := .go (R23 x y) { (⟨0, 0, false, false, false, 0, 0, 0, 0, 0⟩ : Psw) with cc := (ccS s : Int) } 0 l3) hs hg (by kernel_rfl) (runs_250' (⟨250, 6, 0, 0, 0, 0, 64, 0, 72, 7, 7, 0⟩ : Qn) (R23 x y) (⟨0, 0, false, false, false, 0, 0, 0, 0, 0⟩ : Psw) 2048 l2 (List.replicate 1 0) hR ⟨by decide, by decide, by decide, by decide, by decide, by decide, by decide, by decide, by decide, by decide, by decide⟩ rfl _ ((ap_out (⟨250, 6, 0, 0, 0, 0, 64, 0, 72, 7, 7, 0⟩ : Qn) (R23 x y) l2 64 72 (fbL x) (fbL y) F (ccS s) (by kernel_rfl) (by kernel_rfl) rfl rfl (by decide) (by decide) s2 s3 hadd eF).trans (by rw [hl3]))))
  have X5 : Hid (-2147483648 ≤ s ∧ s ≤ 2147483647 → ∀ A g h W, Sto W A g h 2048 1 l3 (List.replicate 1 0) → Sg W → Calls Tryz.prog 24 #[.agg #[.int .i64 79, .int .i64 2, .int .i64 7, .int .i64 0, .int .i64 0, .int .i64 0, .int .i64 0, .int .i64 0, .int .i64 64, .int .i64 0, .int .i64 0, .int .i64 0], .agg #[.int .u32 0, .int .u32 0, .int .u32 (x : Int), .int .u32 (y : Int), .int .u32 0, .int .u32 0, .int .u32 0, .int .u32 0, .int .u32 0, .int .u32 0, .int .u32 0, .int .u32 0, .int .u32 0, .int .u32 0, .int .u32 0, .int .u32 0], .pointer (some ⟨A, 0, none⟩)] W fun e w' => e = .returned (.tuple #[.agg #[.int .u32 0, .int .u32 0, .int .u32 (x : Int), .int .u32 (y : Int), .int .u32 0, .int .u32 0, .int .u32 0, .int .u32 (s % 4294967296), .int .u32 0, .int .u32 0, .int .u32 0, .int .u32 0, .int .u32 0, .int .u32 0, .int .u32 0, .int .u32 0], .int .i64 0, .int .i64 0]) ∧ Sto w' A g h 2048 1 l3 (List.replicate 1 0) ∧ Kp W w' [g]) := Lib.hid (fun hr A g h W hs hg => xec_post (q := (⟨79, 2, 7, 0, 0, 0, 0, 0, 64, 0, 0, 0⟩ : Qn)) (R := (R23 x y)) (o := .go (upd (R23 x y) 7 (s % 4294967296)) (⟨0, 0, false, false, false, 0, 0, 0, 0, 0⟩ : Psw) 0 l3) hs hg (by kernel_rfl) (runs_79' (⟨79, 2, 7, 0, 0, 0, 0, 0, 64, 0, 0, 0⟩ : Qn) (R23 x y) (⟨0, 0, false, false, false, 0, 0, 0, 0, 0⟩ : Psw) 2048 l3 (List.replicate 1 0) hR ⟨by decide, by decide, by decide, by decide, by decide, by decide, by decide, by decide, by decide, by decide, by decide⟩ rfl _ ((cvb_out (⟨79, 2, 7, 0, 0, 0, 0, 0, 64, 0, 0, 0⟩ : Qn) (R23 x y) l3 64 (s % 4294967296) 0 (by kernel_rfl) (by decide) (by decide) (by rw [s4, htb, if_pos hr])).trans (thenO_go _ rfl))))
  have X6 : Hid (¬ (-2147483648 ≤ s ∧ s ≤ 2147483647) → ∀ A g h W, Sto W A g h 2048 1 l3 (List.replicate 1 0) → Sg W → Calls Tryz.prog 24 #[.agg #[.int .i64 79, .int .i64 2, .int .i64 7, .int .i64 0, .int .i64 0, .int .i64 0, .int .i64 0, .int .i64 0, .int .i64 64, .int .i64 0, .int .i64 0, .int .i64 0], .agg #[.int .u32 0, .int .u32 0, .int .u32 (x : Int), .int .u32 (y : Int), .int .u32 0, .int .u32 0, .int .u32 0, .int .u32 0, .int .u32 0, .int .u32 0, .int .u32 0, .int .u32 0, .int .u32 0, .int .u32 0, .int .u32 0, .int .u32 0], .pointer (some ⟨A, 0, none⟩)] W fun e w' => e = .returned (.tuple #[.agg #[.int .u32 0, .int .u32 0, .int .u32 (x : Int), .int .u32 (y : Int), .int .u32 0, .int .u32 0, .int .u32 0, .int .u32 0, .int .u32 0, .int .u32 0, .int .u32 0, .int .u32 0, .int .u32 0, .int .u32 0, .int .u32 0, .int .u32 0], .int .i64 0, .int .i64 9]) ∧ Sto w' A g h 2048 1 l3 (List.replicate 1 0) ∧ Kp W w' [g]) := Lib.hid (fun hr A g h W hs hg => xec_post (q := (⟨79, 2, 7, 0, 0, 0, 0, 0, 64, 0, 0, 0⟩ : Qn)) (R := (R23 x y)) (o := .stop 9) hs hg (by kernel_rfl) (runs_79' (⟨79, 2, 7, 0, 0, 0, 0, 0, 64, 0, 0, 0⟩ : Qn) (R23 x y) (⟨0, 0, false, false, false, 0, 0, 0, 0, 0⟩ : Psw) 2048 l3 (List.replicate 1 0) hR ⟨by decide, by decide, by decide, by decide, by decide, by decide, by decide, by decide, by decide, by decide, by decide⟩ rfl _ ((cvb_out (⟨79, 2, 7, 0, 0, 0, 0, 0, 64, 0, 0, 0⟩ : Qn) (R23 x y) l3 64 (s % 4294967296) 9 (by kernel_rfl) (by decide) (by decide) (by rw [s4, htb, if_neg hr])).trans (thenO_stop _ (by decide)))))
  have w1 : wrap32 (x : Int) = sV x := by unfold wrap32 sV; split <;> omega
  have w2 : wrap32 (y : Int) = sV y := by unfold wrap32 sV; split <;> omega
  have HS5 := Lib.hid (And.intro hs (And.intro sx (And.intro sy (And.intro w1 w2))))
  clear hsg hl1 hl2 hs hF hl3 e1 e2 eF kl0 kl1 kl2 s1 s2 s3 s4 sx sy hadd htb hR w1 w2
  go_enter Tryz.func8, Tryz.ntmps8
  go_wp2_with fail
  refine HNEW.out.mono ?_
  rintro e x1 ⟨A, g, h, rfl, hst, hA, hg, hh, hb⟩
  have HG : Hid (w.heap.size ≤ g) := Lib.hid hg
  have HT : Hid (Sto x1 A g h 2048 1 kb0 (List.replicate 1 0)) := Lib.hid hst
  have HB := Lib.hid hb
  clear hst hA hg hh hb HNEW
  go_wp2_with fail
  obtain ⟨B7, hB7⟩ : ∃ b, b = x1.heap.size := ⟨_, rfl⟩
  obtain ⟨y1, hy1⟩ : ∃ zz, zz = x1.alloc (.cells #[.int .u32 0, .int .u32 0, .int .u32 (x : Int), .int .u32 (y : Int), .int .u32 0, .int .u32 0, .int .u32 0, .int .u32 0, .int .u32 0, .int .u32 0, .int .u32 0, .int .u32 0, .int .u32 0, .int .u32 0, .int .u32 0, .int .u32 0] 28) := ⟨_, rfl⟩
  have b1 : Below x1.heap.size x1 y1 := by rw [hy1]; exact below_new _ _
  have H7 : Hid (Bx y1 B7 28 #[.int .u32 0, .int .u32 0, .int .u32 (x : Int), .int .u32 (y : Int), .int .u32 0, .int .u32 0, .int .u32 0, .int .u32 0, .int .u32 0, .int .u32 0, .int .u32 0, .int .u32 0, .int .u32 0, .int .u32 0, .int .u32 0, .int .u32 0]) := Lib.hid (by rw [hy1, hB7]; exact Bx.new x1 _ _)
  have HT1 := Lib.hid (HT.out.below b1)
  have HB1 := Lib.hid (bel0 HB.out b1)
  rw [← hy1, ← hB7]
  clear hy1 hB7 b1 HT HB
  have HG0 : Hid (g ≠ 0) := Lib.hid (by have h0 := HSG.out 0; have := World.block_lt_of_cell? w _ h0; have := HG.out; omega)
  have HSGY : Hid (∀ W, Kp y1 W [g] → Sg W) := Lib.hid (fun W hk => sg_kpg (HSG.out.below HB1.out) hk HG0.out)
  have HXX := Lib.hid (fun W hs hg => X1.out A g h W hs hg)
  refine Code.wp_mono (Q := fun e a W => e = .normal ∧ ∃ B8 : Nat, (∃ u : Nat → Value, a = { tmps := #[.int .u32 (x : Int), .int .u32 (y : Int), u 2, u 3, .bool false, .pointer (some ⟨A, 0, none⟩), u 6, .pointer (some ⟨B7, 0, none⟩), u 8, u 9, .int .i64 0, u 11, u 12, u 13, u 14, u 15, u 16, u 17, u 18, u 19, u 20, u 21, u 22, u 23, u 24, u 25, u 26, u 27, u 28, u 29, u 30, u 31, u 32, u 33, u 34, u 35, u 36, u 37, u 38, u 39, u 40, u 41, u 42, u 43, u 44, u 45, u 46, u 47, u 48, u 49, u 50, u 51, u 52, u 53, u 54, u 55, u 56, u 57, u 58, u 59, u 60, u 61, u 62, u 63, u 64, u 65, u 66, u 67, u 68, u 69, u 70, u 71, u 72, u 73, u 74, u 75, u 76, u 77, u 78, u 79, u 80, u 81, u 82, u 83, u 84, u 85, u 86, u 87, u 88, u 89, u 90, u 91, u 92, u 93, u 94, u 95, u 96, u 97, u 98, u 99, u 100, u 101, u 102, u 103, u 104, u 105, u 106, u 107, u 108, u 109, u 110, u 111, u 112, u 113, u 114, u 115, u 116, u 117, u 118, u 119, u 120, u 121, u 122, u 123, u 124, u 125, u 126, u 127, u 128, u 129, u 130, u 131, u 132, u 133, u 134, u 135, u 136, u 137], defers := [] }) ∧ Kp y1 W [g] ∧ Sto W A g h 2048 1 l1 (List.replicate 1 0) ∧ Bx W B8 28 #[.int .u32 0, .int .u32 0, .int .u32 (x : Int), .int .u32 (y : Int), .int .u32 0, .int .u32 0, .int .u32 0, .int .u32 0, .int .u32 0, .int .u32 0, .int .u32 0, .int .u32 0, .int .u32 0, .int .u32 0, .int .u32 0, .int .u32 0] ∧ y1.heap.size ≤ B8) ?_ ?_
  rotate_left
  · have HNE7 : Hid (B7 ≠ g) := Lib.hid (Row.ne H7.out.row HT1.out.2.1 (by decide))
    have HSR := Lib.hid (fun (W : World) B xs (h : Bx W B 28 xs) (hx : xs.size = 16) => (show (storeVar 28 ⟨B, 0, none⟩ (.agg #[.int .u32 0, .int .u32 0, .int .u32 (x : Int), .int .u32 (y : Int), .int .u32 0, .int .u32 0, .int .u32 0, .int .u32 0, .int .u32 0, .int .u32 0, .int .u32 0, .int .u32 0, .int .u32 0, .int .u32 0, .int .u32 0, .int .u32 0])).run Tryz.prog W = .ok () (W.setRow B (regA (R23 x y))) from store_regs h hx (R23 x y)))
    have t0 := HT1.out.below (bel_drew y1)
    refine wp_region_held_drew (S := fun W => Kp y1 W [g]) (by kernel_rfl) (kp_drew y1 _) (fun k0 => ?_)
    obtain ⟨Y0, hY0⟩ : ∃ zz, zz = y1.drew := ⟨_, rfl⟩
    rw [← hY0] at t0 k0 ⊢
    have T00 := Lib.hid t0
    clear t0 hY0
    show wpAnyH _ _ _ _ _ 12 #[false, false, false, false, false, false, false, false, false, false, false, false] _ _
    refine wpAnyH_take (i := 1) (oi := { dst := some 37, op := Go.Op.load 28 (Go.Operand.tmp 7), type := 28, pos := "outright.go:78", after := #[], guard := none }) (v := .agg #[.int .u32 0, .int .u32 0, .int .u32 (x : Int), .int .u32 (y : Int), .int .u32 0, .int .u32 0, .int .u32 0, .int .u32 0, .int .u32 0, .int .u32 0, .int .u32 0, .int .u32 0, .int .u32 0, .int .u32 0, .int .u32 0, .int .u32 0]) rfl (by kernel_rfl) (by kernel_rfl) (by kernel_rfl) (fun _ _ _ h => by cases h.1) (Or.inl ⟨by rfl, fun W hSw => exec_load _ _ rfl _ rfl (run_loadVar_row (P := Tryz.prog) W B7 _ 28 _ _ _ (H7.out.kp hSw (by simpa using HNE7.out)) Tryz.underlying28 rfl (by kernel_rfl))⟩) k0 ?_
    try simp only [Act.put, List.setIfInBounds_toArray, List.set_cons_zero, List.set_cons_succ]
    refine wpAnyH_take (i := 2) (oi := { dst := some 38, op := Go.Op.move (Go.Operand.tmp 5), type := 37, pos := "outright.go:78", after := #[], guard := none }) (v := .pointer (some ⟨A, 0, none⟩)) rfl (by kernel_rfl) (by kernel_rfl) (by kernel_rfl) (fun _ _ _ h => by cases h.1) (Or.inl ⟨by rfl, fun W hSw => by (try dsimp only at hSw); go_simp⟩) k0 ?_
    try simp only [Act.put, List.setIfInBounds_toArray, List.set_cons_zero, List.set_cons_succ]
    refine wpAnyH_ready (rs := [0, 8]) (by kernel_rfl) (by simp) ?_
    refine AllReadyH.cons (o := { dst := some 36, op := Go.Op.call { callee := Go.Callee.value (Go.Operand.func 25), args := #[Go.Operand.const (Go.Value.int Go.IntKind.i64 2), Go.Operand.const (Go.Value.int Go.IntKind.i64 64)], argTypes := #[3, 3] }, type := 25, pos := "outright.go:78", after := #[], guard := none }) rfl (fun K hK => ?_) (AllReadyH.cons (o := { dst := some 8, op := Go.Op.alloc 28, type := 0, pos := "outright.go:78", after := #[], guard := none }) rfl (fun K hK => ?_) AllReadyH.nil)
    · go_simp
      go_at_call 25
      refine (cvd_any 2 64 Y0).mono ?_
      rintro e Y1 ⟨rfl, hb⟩
      have T1 := Lib.hid (T00.out.below hb)
      have KK1 : Hid (Kp y1 Y1 [g]) := Lib.hid (k0.trans (Kp.bel hb))
      clear hb
      go_wp2_with fail
      refine hK.out _ _ KK1.out (fun k1 => ?_)
      clear hK K
      try simp only [List.setIfInBounds_toArray, List.set_cons_zero]
      refine wpAnyH_ready (rs := [3, 8]) (by kernel_rfl) (by simp) ?_
      refine AllReadyH.cons (o := { dst := some 39, op := Go.Op.call { callee := Go.Callee.value (Go.Operand.func 24), args := #[Go.Operand.tmp 36, Go.Operand.tmp 37, Go.Operand.tmp 38], argTypes := #[25, 28, 37] }, type := 57, pos := "outright.go:78", after := #[{ on := 0, ground := Go.Ground.data }, { on := 1, ground := Go.Ground.data }, { on := 2, ground := Go.Ground.data }, { on := 0, ground := Go.Ground.chain }], guard := none }) rfl (fun K hK => ?_) (AllReadyH.cons (o := { dst := some 8, op := Go.Op.alloc 28, type := 0, pos := "outright.go:78", after := #[], guard := none }) rfl (fun K hK => ?_) AllReadyH.nil)
      · go_simp
        go_at_call 24
        refine (HXX.out Y1 T1.out (HSGY.out Y1 k1)).mono ?_
        rintro e Y2 ⟨rfl, hs, hk⟩
        have T2 := Lib.hid hs
        have KK2 : Hid (Kp y1 Y2 [g]) := Lib.hid (k1.trans hk)
        clear hs hk
        go_wp2_with fail
        refine hK.out _ _ KK2.out (fun k2 => ?_)
        clear hK K
        try simp only [List.setIfInBounds_toArray, List.set_cons_zero, List.set_cons_succ]
        refine wpAnyH_take (i := 4) (oi := { dst := some 35, op := Go.Op.move (Go.Operand.tmp 39), type := 57, pos := "outright.go:78", after := #[{ on := 3, ground := Go.Ground.data }], guard := none }) (v := .tuple #[.agg #[.int .u32 0, .int .u32 0, .int .u32 (x : Int), .int .u32 (y : Int), .int .u32 0, .int .u32 0, .int .u32 0, .int .u32 0, .int .u32 0, .int .u32 0, .int .u32 0, .int .u32 0, .int .u32 0, .int .u32 0, .int .u32 0, .int .u32 0], .int .i64 0, .int .i64 0]) rfl (by kernel_rfl) (by kernel_rfl) (by kernel_rfl) (fun _ _ _ h => by cases h.1) (Or.inl ⟨by rfl, fun W hSw => by (try dsimp only at hSw); go_simp⟩) k2 ?_
        try simp only [Act.put, List.setIfInBounds_toArray, List.set_cons_zero, List.set_cons_succ]
        refine wpAnyH_take (i := 5) (oi := { dst := some 40, op := Go.Op.extract (Go.Operand.tmp 35) 0, type := 28, pos := "outright.go:78", after := #[{ on := 4, ground := Go.Ground.data }], guard := none }) (v := .agg #[.int .u32 0, .int .u32 0, .int .u32 (x : Int), .int .u32 (y : Int), .int .u32 0, .int .u32 0, .int .u32 0, .int .u32 0, .int .u32 0, .int .u32 0, .int .u32 0, .int .u32 0, .int .u32 0, .int .u32 0, .int .u32 0, .int .u32 0]) rfl (by kernel_rfl) (by kernel_rfl) (by kernel_rfl) (fun _ _ _ h => by cases h.1) (Or.inl ⟨by rfl, fun W hSw => by (try dsimp only at hSw); go_simp⟩) k2 ?_
        try simp only [Act.put, List.setIfInBounds_toArray, List.set_cons_zero, List.set_cons_succ]
        refine wpAnyH_take (i := 6) (oi := { dst := some 41, op := Go.Op.extract (Go.Operand.tmp 35) 1, type := 3, pos := "outright.go:78", after := #[{ on := 4, ground := Go.Ground.data }, { on := 9, ground := Go.Ground.gcOnly Go.Departure.lateStores }], guard := none }) (v := .int .i64 0) rfl (by kernel_rfl) (by kernel_rfl) (by kernel_rfl) (fun _ _ _ h => by cases h.1) (Or.inl ⟨by rfl, fun W hSw => by (try dsimp only at hSw); go_simp⟩) k2 ?_
        try simp only [Act.put, List.setIfInBounds_toArray, List.set_cons_zero, List.set_cons_succ]
        refine wpAnyH_take (i := 7) (oi := { dst := some 42, op := Go.Op.extract (Go.Operand.tmp 35) 2, type := 3, pos := "outright.go:78", after := #[{ on := 4, ground := Go.Ground.data }, { on := 10, ground := Go.Ground.gcOnly Go.Departure.lateStores }], guard := none }) (v := .int .i64 0) rfl (by kernel_rfl) (by kernel_rfl) (by kernel_rfl) (fun _ _ _ h => by cases h.1) (Or.inl ⟨by rfl, fun W hSw => by (try dsimp only at hSw); go_simp⟩) k2 ?_
        try simp only [Act.put, List.setIfInBounds_toArray, List.set_cons_zero, List.set_cons_succ]
        refine wpAnyH_ready (rs := [8]) (by kernel_rfl) (by simp) ?_
        refine AllReadyH.cons (o := { dst := some 8, op := Go.Op.alloc 28, type := 0, pos := "outright.go:78", after := #[], guard := none }) rfl (fun K hK => ?_) AllReadyH.nil
        go_simp
        obtain ⟨Y3, hY3⟩ : ∃ zz, zz = Y2.alloc (.cells #[.int .u32 0, .int .u32 0, .int .u32 0, .int .u32 0, .int .u32 0, .int .u32 0, .int .u32 0, .int .u32 0, .int .u32 0, .int .u32 0, .int .u32 0, .int .u32 0, .int .u32 0, .int .u32 0, .int .u32 0, .int .u32 0] 28) := ⟨_, rfl⟩
        obtain ⟨B8, hB8⟩ : ∃ b, b = Y2.heap.size := ⟨_, rfl⟩
        have hb : Below Y2.heap.size Y2 Y3 := by rw [hY3]; exact below_new _ _
        have G3 : Hid (Bx Y3 B8 28 #[.int .u32 0, .int .u32 0, .int .u32 0, .int .u32 0, .int .u32 0, .int .u32 0, .int .u32 0, .int .u32 0, .int .u32 0, .int .u32 0, .int .u32 0, .int .u32 0, .int .u32 0, .int .u32 0, .int .u32 0, .int .u32 0]) := Lib.hid (by rw [hY3, hB8]; exact Bx.new Y2 _ _)
        have HW8 : Hid (y1.heap.size ≤ B8) := Lib.hid (by rw [hB8]; exact k2.size)
        rw [← hY3, ← hB8]
        have T3 := Lib.hid (T2.out.below hb)
        have KK3 : Hid (Kp y1 Y3 [g]) := Lib.hid (k2.trans (Kp.bel hb))
        clear hb hY3 hB8
        refine hK.out _ _ KK3.out (fun k3 => ?_)
        clear hK K
        try simp only [List.setIfInBounds_toArray, List.set_cons_zero, List.set_cons_succ]
        refine wpAnyH_ready (rs := [9]) (by kernel_rfl) (by simp) ?_
        refine AllReadyH.cons (o := { dst := none, op := Go.Op.store 28 (Go.Operand.tmp 8) (Go.Operand.tmp 40), type := 0, pos := "outright.go:78", after := #[{ on := 8, ground := Go.Ground.data }, { on := 5, ground := Go.Ground.data }, { on := 3, ground := Go.Ground.chain }, { on := 0, ground := Go.Ground.phase }, { on := 1, ground := Go.Ground.phase }, { on := 2, ground := Go.Ground.phase }, { on := 3, ground := Go.Ground.phase }, { on := 4, ground := Go.Ground.phase }, { on := 5, ground := Go.Ground.phase }, { on := 6, ground := Go.Ground.textOnly Go.Departure.lateStores }, { on := 7, ground := Go.Ground.textOnly Go.Departure.lateStores }, { on := 8, ground := Go.Ground.phase }], guard := none }) rfl (fun K hK => ?_) AllReadyH.nil
        rw [if_pos (by rfl)]
        refine op_store _ _ _ rfl _ rfl _ rfl (HSR.out _ _ _ G3.out rfl) ?_
        obtain ⟨Y4, hY4⟩ : ∃ zz, zz = Y3.setRow B8 (regA (R23 x y)) := ⟨_, rfl⟩
        rw [← hY4]
        have T4 := Lib.hid (show Sto Y4 _ _ _ _ _ _ _ by rw [hY4]; exact sto_row T3.out B8 _ ⟨Row.ne G3.out.row (Bx.row T3.out.1) (by decide), Row.ne G3.out.row T3.out.2.1 (by decide), Row.ne G3.out.row T3.out.2.2.1 (by decide)⟩)
        have G4 : Hid (Bx Y4 B8 28 #[.int .u32 0, .int .u32 0, .int .u32 (x : Int), .int .u32 (y : Int), .int .u32 0, .int .u32 0, .int .u32 0, .int .u32 0, .int .u32 0, .int .u32 0, .int .u32 0, .int .u32 0, .int .u32 0, .int .u32 0, .int .u32 0, .int .u32 0]) := Lib.hid (by rw [hY4]; exact bx_row3 G3.out _)
        have KK4 : Hid (Kp y1 Y4 [g]) := Lib.hid (by rw [hY4]; exact kp_row k3 HW8.out _)
        clear hY4
        refine hK.out _ _ KK4.out (fun k4 => ?_)
        clear hK K
        try simp only [List.setIfInBounds_toArray, List.set_cons_zero, List.set_cons_succ]
        refine wpAnyH_take (i := 10) (oi := { dst := some 9, op := Go.Op.assign (Go.Operand.tmp 41), type := 3, pos := "outright.go:78", after := #[{ on := 6, ground := Go.Ground.data }, { on := 9, ground := Go.Ground.chain }, { on := 0, ground := Go.Ground.phase }, { on := 1, ground := Go.Ground.phase }, { on := 2, ground := Go.Ground.phase }, { on := 3, ground := Go.Ground.phase }, { on := 4, ground := Go.Ground.phase }, { on := 5, ground := Go.Ground.phase }, { on := 6, ground := Go.Ground.phase }, { on := 7, ground := Go.Ground.textOnly Go.Departure.lateStores }, { on := 8, ground := Go.Ground.phase }, { on := 9, ground := Go.Ground.phase }], guard := none }) (v := .int .i64 0) rfl (by kernel_rfl) (by kernel_rfl) (by kernel_rfl) (fun _ _ _ h => by cases h.1) (Or.inl ⟨by rfl, fun W hSw => by (try dsimp only at hSw); go_simp⟩) k4 ?_
        try simp only [Act.put, List.setIfInBounds_toArray, List.set_cons_zero, List.set_cons_succ]
        refine wpAnyH_take (i := 11) (oi := { dst := some 10, op := Go.Op.assign (Go.Operand.tmp 42), type := 3, pos := "outright.go:78", after := #[{ on := 7, ground := Go.Ground.data }, { on := 10, ground := Go.Ground.chain }, { on := 0, ground := Go.Ground.phase }, { on := 1, ground := Go.Ground.phase }, { on := 2, ground := Go.Ground.phase }, { on := 3, ground := Go.Ground.phase }, { on := 4, ground := Go.Ground.phase }, { on := 5, ground := Go.Ground.phase }, { on := 6, ground := Go.Ground.phase }, { on := 7, ground := Go.Ground.phase }, { on := 8, ground := Go.Ground.phase }, { on := 9, ground := Go.Ground.phase }, { on := 10, ground := Go.Ground.phase }], guard := none }) (v := .int .i64 0) rfl (by kernel_rfl) (by kernel_rfl) (by kernel_rfl) (fun _ _ _ h => by cases h.1) (Or.inl ⟨by rfl, fun W hSw => by (try dsimp only at hSw); go_simp⟩) k4 ?_
        try simp only [Act.put, List.setIfInBounds_toArray, List.set_cons_zero, List.set_cons_succ]
        refine wpAnyH_done (by kernel_rfl) ?_ _
        refine id ?_
        exact ⟨rfl, B8, ckb_mk rfl, k4, T4.out, G4.out, HW8.out⟩
      · go_simp
        obtain ⟨Y2, hY2⟩ : ∃ zz, zz = Y1.alloc (.cells #[.int .u32 0, .int .u32 0, .int .u32 0, .int .u32 0, .int .u32 0, .int .u32 0, .int .u32 0, .int .u32 0, .int .u32 0, .int .u32 0, .int .u32 0, .int .u32 0, .int .u32 0, .int .u32 0, .int .u32 0, .int .u32 0] 28) := ⟨_, rfl⟩
        obtain ⟨B8, hB8⟩ : ∃ b, b = Y1.heap.size := ⟨_, rfl⟩
        have hb : Below Y1.heap.size Y1 Y2 := by rw [hY2]; exact below_new _ _
        have G2 : Hid (Bx Y2 B8 28 #[.int .u32 0, .int .u32 0, .int .u32 0, .int .u32 0, .int .u32 0, .int .u32 0, .int .u32 0, .int .u32 0, .int .u32 0, .int .u32 0, .int .u32 0, .int .u32 0, .int .u32 0, .int .u32 0, .int .u32 0, .int .u32 0]) := Lib.hid (by rw [hY2, hB8]; exact Bx.new Y1 _ _)
        have HW8 : Hid (y1.heap.size ≤ B8) := Lib.hid (by rw [hB8]; exact k1.size)
        rw [← hY2, ← hB8]
        have T2 := Lib.hid (T1.out.below hb)
        have KK2 : Hid (Kp y1 Y2 [g]) := Lib.hid (k1.trans (Kp.bel hb))
        clear hb hY2 hB8
        refine hK.out _ _ KK2.out (fun k2 => ?_)
        clear hK K
        try simp only [List.setIfInBounds_toArray, List.set_cons_zero, List.set_cons_succ]
        refine wpAnyH_ready (rs := [3]) (by kernel_rfl) (by simp) ?_
        refine AllReadyH.cons (o := { dst := some 39, op := Go.Op.call { callee := Go.Callee.value (Go.Operand.func 24), args := #[Go.Operand.tmp 36, Go.Operand.tmp 37, Go.Operand.tmp 38], argTypes := #[25, 28, 37] }, type := 57, pos := "outright.go:78", after := #[{ on := 0, ground := Go.Ground.data }, { on := 1, ground := Go.Ground.data }, { on := 2, ground := Go.Ground.data }, { on := 0, ground := Go.Ground.chain }], guard := none }) rfl (fun K hK => ?_) AllReadyH.nil
        go_simp
        go_at_call 24
        refine (HXX.out Y2 T2.out (HSGY.out Y2 k2)).mono ?_
        rintro e Y3 ⟨rfl, hs, hk⟩
        have G3 := Lib.hid (G2.out.kp hk (by simpa using Row.ne G2.out.row T2.out.2.1 (by decide)))
        have T3 := Lib.hid hs
        have KK3 : Hid (Kp y1 Y3 [g]) := Lib.hid (k2.trans hk)
        clear hs hk
        go_wp2_with fail
        refine hK.out _ _ KK3.out (fun k3 => ?_)
        clear hK K
        try simp only [List.setIfInBounds_toArray, List.set_cons_zero, List.set_cons_succ]
        refine wpAnyH_take (i := 4) (oi := { dst := some 35, op := Go.Op.move (Go.Operand.tmp 39), type := 57, pos := "outright.go:78", after := #[{ on := 3, ground := Go.Ground.data }], guard := none }) (v := .tuple #[.agg #[.int .u32 0, .int .u32 0, .int .u32 (x : Int), .int .u32 (y : Int), .int .u32 0, .int .u32 0, .int .u32 0, .int .u32 0, .int .u32 0, .int .u32 0, .int .u32 0, .int .u32 0, .int .u32 0, .int .u32 0, .int .u32 0, .int .u32 0], .int .i64 0, .int .i64 0]) rfl (by kernel_rfl) (by kernel_rfl) (by kernel_rfl) (fun _ _ _ h => by cases h.1) (Or.inl ⟨by rfl, fun W hSw => by (try dsimp only at hSw); go_simp⟩) k3 ?_
        try simp only [Act.put, List.setIfInBounds_toArray, List.set_cons_zero, List.set_cons_succ]
        refine wpAnyH_take (i := 5) (oi := { dst := some 40, op := Go.Op.extract (Go.Operand.tmp 35) 0, type := 28, pos := "outright.go:78", after := #[{ on := 4, ground := Go.Ground.data }], guard := none }) (v := .agg #[.int .u32 0, .int .u32 0, .int .u32 (x : Int), .int .u32 (y : Int), .int .u32 0, .int .u32 0, .int .u32 0, .int .u32 0, .int .u32 0, .int .u32 0, .int .u32 0, .int .u32 0, .int .u32 0, .int .u32 0, .int .u32 0, .int .u32 0]) rfl (by kernel_rfl) (by kernel_rfl) (by kernel_rfl) (fun _ _ _ h => by cases h.1) (Or.inl ⟨by rfl, fun W hSw => by (try dsimp only at hSw); go_simp⟩) k3 ?_
        try simp only [Act.put, List.setIfInBounds_toArray, List.set_cons_zero, List.set_cons_succ]
        refine wpAnyH_take (i := 6) (oi := { dst := some 41, op := Go.Op.extract (Go.Operand.tmp 35) 1, type := 3, pos := "outright.go:78", after := #[{ on := 4, ground := Go.Ground.data }, { on := 9, ground := Go.Ground.gcOnly Go.Departure.lateStores }], guard := none }) (v := .int .i64 0) rfl (by kernel_rfl) (by kernel_rfl) (by kernel_rfl) (fun _ _ _ h => by cases h.1) (Or.inl ⟨by rfl, fun W hSw => by (try dsimp only at hSw); go_simp⟩) k3 ?_
        try simp only [Act.put, List.setIfInBounds_toArray, List.set_cons_zero, List.set_cons_succ]
        refine wpAnyH_take (i := 7) (oi := { dst := some 42, op := Go.Op.extract (Go.Operand.tmp 35) 2, type := 3, pos := "outright.go:78", after := #[{ on := 4, ground := Go.Ground.data }, { on := 10, ground := Go.Ground.gcOnly Go.Departure.lateStores }], guard := none }) (v := .int .i64 0) rfl (by kernel_rfl) (by kernel_rfl) (by kernel_rfl) (fun _ _ _ h => by cases h.1) (Or.inl ⟨by rfl, fun W hSw => by (try dsimp only at hSw); go_simp⟩) k3 ?_
        try simp only [Act.put, List.setIfInBounds_toArray, List.set_cons_zero, List.set_cons_succ]
        refine wpAnyH_ready (rs := [9]) (by kernel_rfl) (by simp) ?_
        refine AllReadyH.cons (o := { dst := none, op := Go.Op.store 28 (Go.Operand.tmp 8) (Go.Operand.tmp 40), type := 0, pos := "outright.go:78", after := #[{ on := 8, ground := Go.Ground.data }, { on := 5, ground := Go.Ground.data }, { on := 3, ground := Go.Ground.chain }, { on := 0, ground := Go.Ground.phase }, { on := 1, ground := Go.Ground.phase }, { on := 2, ground := Go.Ground.phase }, { on := 3, ground := Go.Ground.phase }, { on := 4, ground := Go.Ground.phase }, { on := 5, ground := Go.Ground.phase }, { on := 6, ground := Go.Ground.textOnly Go.Departure.lateStores }, { on := 7, ground := Go.Ground.textOnly Go.Departure.lateStores }, { on := 8, ground := Go.Ground.phase }], guard := none }) rfl (fun K hK => ?_) AllReadyH.nil
        rw [if_pos (by rfl)]
        refine op_store _ _ _ rfl _ rfl _ rfl (HSR.out _ _ _ G3.out rfl) ?_
        obtain ⟨Y4, hY4⟩ : ∃ zz, zz = Y3.setRow B8 (regA (R23 x y)) := ⟨_, rfl⟩
        rw [← hY4]
        have T4 := Lib.hid (show Sto Y4 _ _ _ _ _ _ _ by rw [hY4]; exact sto_row T3.out B8 _ ⟨Row.ne G3.out.row (Bx.row T3.out.1) (by decide), Row.ne G3.out.row T3.out.2.1 (by decide), Row.ne G3.out.row T3.out.2.2.1 (by decide)⟩)
        have G4 : Hid (Bx Y4 B8 28 #[.int .u32 0, .int .u32 0, .int .u32 (x : Int), .int .u32 (y : Int), .int .u32 0, .int .u32 0, .int .u32 0, .int .u32 0, .int .u32 0, .int .u32 0, .int .u32 0, .int .u32 0, .int .u32 0, .int .u32 0, .int .u32 0, .int .u32 0]) := Lib.hid (by rw [hY4]; exact bx_row3 G3.out _)
        have KK4 : Hid (Kp y1 Y4 [g]) := Lib.hid (by rw [hY4]; exact kp_row k3 HW8.out _)
        clear hY4
        refine hK.out _ _ KK4.out (fun k4 => ?_)
        clear hK K
        try simp only [List.setIfInBounds_toArray, List.set_cons_zero, List.set_cons_succ]
        refine wpAnyH_take (i := 10) (oi := { dst := some 9, op := Go.Op.assign (Go.Operand.tmp 41), type := 3, pos := "outright.go:78", after := #[{ on := 6, ground := Go.Ground.data }, { on := 9, ground := Go.Ground.chain }, { on := 0, ground := Go.Ground.phase }, { on := 1, ground := Go.Ground.phase }, { on := 2, ground := Go.Ground.phase }, { on := 3, ground := Go.Ground.phase }, { on := 4, ground := Go.Ground.phase }, { on := 5, ground := Go.Ground.phase }, { on := 6, ground := Go.Ground.phase }, { on := 7, ground := Go.Ground.textOnly Go.Departure.lateStores }, { on := 8, ground := Go.Ground.phase }, { on := 9, ground := Go.Ground.phase }], guard := none }) (v := .int .i64 0) rfl (by kernel_rfl) (by kernel_rfl) (by kernel_rfl) (fun _ _ _ h => by cases h.1) (Or.inl ⟨by rfl, fun W hSw => by (try dsimp only at hSw); go_simp⟩) k4 ?_
        try simp only [Act.put, List.setIfInBounds_toArray, List.set_cons_zero, List.set_cons_succ]
        refine wpAnyH_take (i := 11) (oi := { dst := some 10, op := Go.Op.assign (Go.Operand.tmp 42), type := 3, pos := "outright.go:78", after := #[{ on := 7, ground := Go.Ground.data }, { on := 10, ground := Go.Ground.chain }, { on := 0, ground := Go.Ground.phase }, { on := 1, ground := Go.Ground.phase }, { on := 2, ground := Go.Ground.phase }, { on := 3, ground := Go.Ground.phase }, { on := 4, ground := Go.Ground.phase }, { on := 5, ground := Go.Ground.phase }, { on := 6, ground := Go.Ground.phase }, { on := 7, ground := Go.Ground.phase }, { on := 8, ground := Go.Ground.phase }, { on := 9, ground := Go.Ground.phase }, { on := 10, ground := Go.Ground.phase }], guard := none }) (v := .int .i64 0) rfl (by kernel_rfl) (by kernel_rfl) (by kernel_rfl) (fun _ _ _ h => by cases h.1) (Or.inl ⟨by rfl, fun W hSw => by (try dsimp only at hSw); go_simp⟩) k4 ?_
        try simp only [Act.put, List.setIfInBounds_toArray, List.set_cons_zero, List.set_cons_succ]
        refine wpAnyH_done (by kernel_rfl) ?_ _
        refine id ?_
        exact ⟨rfl, B8, ckb_mk rfl, k4, T4.out, G4.out, HW8.out⟩
    · go_simp
      obtain ⟨Y1, hY1⟩ : ∃ zz, zz = Y0.alloc (.cells #[.int .u32 0, .int .u32 0, .int .u32 0, .int .u32 0, .int .u32 0, .int .u32 0, .int .u32 0, .int .u32 0, .int .u32 0, .int .u32 0, .int .u32 0, .int .u32 0, .int .u32 0, .int .u32 0, .int .u32 0, .int .u32 0] 28) := ⟨_, rfl⟩
      obtain ⟨B8, hB8⟩ : ∃ b, b = Y0.heap.size := ⟨_, rfl⟩
      have hb : Below Y0.heap.size Y0 Y1 := by rw [hY1]; exact below_new _ _
      have G1 : Hid (Bx Y1 B8 28 #[.int .u32 0, .int .u32 0, .int .u32 0, .int .u32 0, .int .u32 0, .int .u32 0, .int .u32 0, .int .u32 0, .int .u32 0, .int .u32 0, .int .u32 0, .int .u32 0, .int .u32 0, .int .u32 0, .int .u32 0, .int .u32 0]) := Lib.hid (by rw [hY1, hB8]; exact Bx.new Y0 _ _)
      have HW8 : Hid (y1.heap.size ≤ B8) := Lib.hid (by rw [hB8]; exact k0.size)
      rw [← hY1, ← hB8]
      have T1 := Lib.hid (T00.out.below hb)
      have KK1 : Hid (Kp y1 Y1 [g]) := Lib.hid (k0.trans (Kp.bel hb))
      clear hb hY1 hB8
      refine hK.out _ _ KK1.out (fun k1 => ?_)
      clear hK K
      try simp only [List.setIfInBounds_toArray, List.set_cons_zero, List.set_cons_succ]
      refine wpAnyH_ready (rs := [0]) (by kernel_rfl) (by simp) ?_
      refine AllReadyH.cons (o := { dst := some 36, op := Go.Op.call { callee := Go.Callee.value (Go.Operand.func 25), args := #[Go.Operand.const (Go.Value.int Go.IntKind.i64 2), Go.Operand.const (Go.Value.int Go.IntKind.i64 64)], argTypes := #[3, 3] }, type := 25, pos := "outright.go:78", after := #[], guard := none }) rfl (fun K hK => ?_) AllReadyH.nil
      go_simp
      go_at_call 25
      refine (cvd_any 2 64 Y1).mono ?_
      rintro e Y2 ⟨rfl, hb⟩
      have T2 := Lib.hid (T1.out.below hb)
      have G2 := Lib.hid (G1.out.below hb)
      have KK2 : Hid (Kp y1 Y2 [g]) := Lib.hid (k1.trans (Kp.bel hb))
      clear hb
      go_wp2_with fail
      refine hK.out _ _ KK2.out (fun k2 => ?_)
      clear hK K
      try simp only [List.setIfInBounds_toArray, List.set_cons_zero]
      refine wpAnyH_ready (rs := [3]) (by kernel_rfl) (by simp) ?_
      refine AllReadyH.cons (o := { dst := some 39, op := Go.Op.call { callee := Go.Callee.value (Go.Operand.func 24), args := #[Go.Operand.tmp 36, Go.Operand.tmp 37, Go.Operand.tmp 38], argTypes := #[25, 28, 37] }, type := 57, pos := "outright.go:78", after := #[{ on := 0, ground := Go.Ground.data }, { on := 1, ground := Go.Ground.data }, { on := 2, ground := Go.Ground.data }, { on := 0, ground := Go.Ground.chain }], guard := none }) rfl (fun K hK => ?_) AllReadyH.nil
      go_simp
      go_at_call 24
      refine (HXX.out Y2 T2.out (HSGY.out Y2 k2)).mono ?_
      rintro e Y3 ⟨rfl, hs, hk⟩
      have G3 := Lib.hid (G2.out.kp hk (by simpa using Row.ne G2.out.row T2.out.2.1 (by decide)))
      have T3 := Lib.hid hs
      have KK3 : Hid (Kp y1 Y3 [g]) := Lib.hid (k2.trans hk)
      clear hs hk
      go_wp2_with fail
      refine hK.out _ _ KK3.out (fun k3 => ?_)
      clear hK K
      try simp only [List.setIfInBounds_toArray, List.set_cons_zero, List.set_cons_succ]
      refine wpAnyH_take (i := 4) (oi := { dst := some 35, op := Go.Op.move (Go.Operand.tmp 39), type := 57, pos := "outright.go:78", after := #[{ on := 3, ground := Go.Ground.data }], guard := none }) (v := .tuple #[.agg #[.int .u32 0, .int .u32 0, .int .u32 (x : Int), .int .u32 (y : Int), .int .u32 0, .int .u32 0, .int .u32 0, .int .u32 0, .int .u32 0, .int .u32 0, .int .u32 0, .int .u32 0, .int .u32 0, .int .u32 0, .int .u32 0, .int .u32 0], .int .i64 0, .int .i64 0]) rfl (by kernel_rfl) (by kernel_rfl) (by kernel_rfl) (fun _ _ _ h => by cases h.1) (Or.inl ⟨by rfl, fun W hSw => by (try dsimp only at hSw); go_simp⟩) k3 ?_
      try simp only [Act.put, List.setIfInBounds_toArray, List.set_cons_zero, List.set_cons_succ]
      refine wpAnyH_take (i := 5) (oi := { dst := some 40, op := Go.Op.extract (Go.Operand.tmp 35) 0, type := 28, pos := "outright.go:78", after := #[{ on := 4, ground := Go.Ground.data }], guard := none }) (v := .agg #[.int .u32 0, .int .u32 0, .int .u32 (x : Int), .int .u32 (y : Int), .int .u32 0, .int .u32 0, .int .u32 0, .int .u32 0, .int .u32 0, .int .u32 0, .int .u32 0, .int .u32 0, .int .u32 0, .int .u32 0, .int .u32 0, .int .u32 0]) rfl (by kernel_rfl) (by kernel_rfl) (by kernel_rfl) (fun _ _ _ h => by cases h.1) (Or.inl ⟨by rfl, fun W hSw => by (try dsimp only at hSw); go_simp⟩) k3 ?_
      try simp only [Act.put, List.setIfInBounds_toArray, List.set_cons_zero, List.set_cons_succ]
      refine wpAnyH_take (i := 6) (oi := { dst := some 41, op := Go.Op.extract (Go.Operand.tmp 35) 1, type := 3, pos := "outright.go:78", after := #[{ on := 4, ground := Go.Ground.data }, { on := 9, ground := Go.Ground.gcOnly Go.Departure.lateStores }], guard := none }) (v := .int .i64 0) rfl (by kernel_rfl) (by kernel_rfl) (by kernel_rfl) (fun _ _ _ h => by cases h.1) (Or.inl ⟨by rfl, fun W hSw => by (try dsimp only at hSw); go_simp⟩) k3 ?_
      try simp only [Act.put, List.setIfInBounds_toArray, List.set_cons_zero, List.set_cons_succ]
      refine wpAnyH_take (i := 7) (oi := { dst := some 42, op := Go.Op.extract (Go.Operand.tmp 35) 2, type := 3, pos := "outright.go:78", after := #[{ on := 4, ground := Go.Ground.data }, { on := 10, ground := Go.Ground.gcOnly Go.Departure.lateStores }], guard := none }) (v := .int .i64 0) rfl (by kernel_rfl) (by kernel_rfl) (by kernel_rfl) (fun _ _ _ h => by cases h.1) (Or.inl ⟨by rfl, fun W hSw => by (try dsimp only at hSw); go_simp⟩) k3 ?_
      try simp only [Act.put, List.setIfInBounds_toArray, List.set_cons_zero, List.set_cons_succ]
      refine wpAnyH_ready (rs := [9]) (by kernel_rfl) (by simp) ?_
      refine AllReadyH.cons (o := { dst := none, op := Go.Op.store 28 (Go.Operand.tmp 8) (Go.Operand.tmp 40), type := 0, pos := "outright.go:78", after := #[{ on := 8, ground := Go.Ground.data }, { on := 5, ground := Go.Ground.data }, { on := 3, ground := Go.Ground.chain }, { on := 0, ground := Go.Ground.phase }, { on := 1, ground := Go.Ground.phase }, { on := 2, ground := Go.Ground.phase }, { on := 3, ground := Go.Ground.phase }, { on := 4, ground := Go.Ground.phase }, { on := 5, ground := Go.Ground.phase }, { on := 6, ground := Go.Ground.textOnly Go.Departure.lateStores }, { on := 7, ground := Go.Ground.textOnly Go.Departure.lateStores }, { on := 8, ground := Go.Ground.phase }], guard := none }) rfl (fun K hK => ?_) AllReadyH.nil
      rw [if_pos (by rfl)]
      refine op_store _ _ _ rfl _ rfl _ rfl (HSR.out _ _ _ G3.out rfl) ?_
      obtain ⟨Y4, hY4⟩ : ∃ zz, zz = Y3.setRow B8 (regA (R23 x y)) := ⟨_, rfl⟩
      rw [← hY4]
      have T4 := Lib.hid (show Sto Y4 _ _ _ _ _ _ _ by rw [hY4]; exact sto_row T3.out B8 _ ⟨Row.ne G3.out.row (Bx.row T3.out.1) (by decide), Row.ne G3.out.row T3.out.2.1 (by decide), Row.ne G3.out.row T3.out.2.2.1 (by decide)⟩)
      have G4 : Hid (Bx Y4 B8 28 #[.int .u32 0, .int .u32 0, .int .u32 (x : Int), .int .u32 (y : Int), .int .u32 0, .int .u32 0, .int .u32 0, .int .u32 0, .int .u32 0, .int .u32 0, .int .u32 0, .int .u32 0, .int .u32 0, .int .u32 0, .int .u32 0, .int .u32 0]) := Lib.hid (by rw [hY4]; exact bx_row3 G3.out _)
      have KK4 : Hid (Kp y1 Y4 [g]) := Lib.hid (by rw [hY4]; exact kp_row k3 HW8.out _)
      clear hY4
      refine hK.out _ _ KK4.out (fun k4 => ?_)
      clear hK K
      try simp only [List.setIfInBounds_toArray, List.set_cons_zero, List.set_cons_succ]
      refine wpAnyH_take (i := 10) (oi := { dst := some 9, op := Go.Op.assign (Go.Operand.tmp 41), type := 3, pos := "outright.go:78", after := #[{ on := 6, ground := Go.Ground.data }, { on := 9, ground := Go.Ground.chain }, { on := 0, ground := Go.Ground.phase }, { on := 1, ground := Go.Ground.phase }, { on := 2, ground := Go.Ground.phase }, { on := 3, ground := Go.Ground.phase }, { on := 4, ground := Go.Ground.phase }, { on := 5, ground := Go.Ground.phase }, { on := 6, ground := Go.Ground.phase }, { on := 7, ground := Go.Ground.textOnly Go.Departure.lateStores }, { on := 8, ground := Go.Ground.phase }, { on := 9, ground := Go.Ground.phase }], guard := none }) (v := .int .i64 0) rfl (by kernel_rfl) (by kernel_rfl) (by kernel_rfl) (fun _ _ _ h => by cases h.1) (Or.inl ⟨by rfl, fun W hSw => by (try dsimp only at hSw); go_simp⟩) k4 ?_
      try simp only [Act.put, List.setIfInBounds_toArray, List.set_cons_zero, List.set_cons_succ]
      refine wpAnyH_take (i := 11) (oi := { dst := some 10, op := Go.Op.assign (Go.Operand.tmp 42), type := 3, pos := "outright.go:78", after := #[{ on := 7, ground := Go.Ground.data }, { on := 10, ground := Go.Ground.chain }, { on := 0, ground := Go.Ground.phase }, { on := 1, ground := Go.Ground.phase }, { on := 2, ground := Go.Ground.phase }, { on := 3, ground := Go.Ground.phase }, { on := 4, ground := Go.Ground.phase }, { on := 5, ground := Go.Ground.phase }, { on := 6, ground := Go.Ground.phase }, { on := 7, ground := Go.Ground.phase }, { on := 8, ground := Go.Ground.phase }, { on := 9, ground := Go.Ground.phase }, { on := 10, ground := Go.Ground.phase }], guard := none }) (v := .int .i64 0) rfl (by kernel_rfl) (by kernel_rfl) (by kernel_rfl) (fun _ _ _ h => by cases h.1) (Or.inl ⟨by rfl, fun W hSw => by (try dsimp only at hSw); go_simp⟩) k4 ?_
      try simp only [Act.put, List.setIfInBounds_toArray, List.set_cons_zero, List.set_cons_succ]
      refine wpAnyH_done (by kernel_rfl) ?_ _
      refine id ?_
      exact ⟨rfl, B8, ckb_mk rfl, k4, T4.out, G4.out, HW8.out⟩
  rintro e a y2 ⟨rfl, B8a, ⟨u, rfl⟩, hkp, hst, hr8, hw8⟩
  have HTy2 := Lib.hid hst
  have H7y2 := Lib.hid (H7.out.kp hkp (by simpa using Row.ne H7.out.row HT1.out.2.1 (by decide)))
  have HBy2 := Lib.hid (Kp.below HB1.out hkp (by simpa using HG.out))
  clear hkp hst hr8 hw8 HSGY HXX HT1 H7
  go_wp2_with fail
  have HSGY : Hid (∀ W, Kp y2 W [g] → Sg W) := Lib.hid (fun W hk => sg_kpg (HSG.out.below HBy2.out) hk HG0.out)
  have HXX := Lib.hid (fun W hs hg => X2.out A g h W hs hg)
  refine Code.wp_mono (Q := fun e a W => e = .normal ∧ ∃ B8 : Nat, (∃ u : Nat → Value, a = { tmps := #[.int .u32 (x : Int), .int .u32 (y : Int), u 2, u 3, .bool false, .pointer (some ⟨A, 0, none⟩), u 6, .pointer (some ⟨B7, 0, none⟩), u 8, u 9, .int .i64 0, u 11, u 12, .int .i64 0, u 14, u 15, u 16, u 17, u 18, u 19, u 20, u 21, u 22, u 23, u 24, u 25, u 26, u 27, u 28, u 29, u 30, u 31, u 32, u 33, u 34, u 35, u 36, u 37, u 38, u 39, u 40, u 41, u 42, u 43, u 44, u 45, u 46, u 47, u 48, u 49, u 50, u 51, u 52, u 53, u 54, u 55, u 56, u 57, u 58, u 59, u 60, u 61, u 62, u 63, u 64, u 65, u 66, u 67, u 68, u 69, u 70, u 71, u 72, u 73, u 74, u 75, u 76, u 77, u 78, u 79, u 80, u 81, u 82, u 83, u 84, u 85, u 86, u 87, u 88, u 89, u 90, u 91, u 92, u 93, u 94, u 95, u 96, u 97, u 98, u 99, u 100, u 101, u 102, u 103, u 104, u 105, u 106, u 107, u 108, u 109, u 110, u 111, u 112, u 113, u 114, u 115, u 116, u 117, u 118, u 119, u 120, u 121, u 122, u 123, u 124, u 125, u 126, u 127, u 128, u 129, u 130, u 131, u 132, u 133, u 134, u 135, u 136, u 137], defers := [] }) ∧ Kp y2 W [g] ∧ Sto W A g h 2048 1 l2 (List.replicate 1 0) ∧ Bx W B8 28 #[.int .u32 0, .int .u32 0, .int .u32 (x : Int), .int .u32 (y : Int), .int .u32 0, .int .u32 0, .int .u32 0, .int .u32 0, .int .u32 0, .int .u32 0, .int .u32 0, .int .u32 0, .int .u32 0, .int .u32 0, .int .u32 0, .int .u32 0] ∧ y2.heap.size ≤ B8) ?_ ?_
  rotate_left
  · have HNE7 : Hid (B7 ≠ g) := Lib.hid (Row.ne H7y2.out.row HTy2.out.2.1 (by decide))
    have HSR := Lib.hid (fun (W : World) B xs (h : Bx W B 28 xs) (hx : xs.size = 16) => (show (storeVar 28 ⟨B, 0, none⟩ (.agg #[.int .u32 0, .int .u32 0, .int .u32 (x : Int), .int .u32 (y : Int), .int .u32 0, .int .u32 0, .int .u32 0, .int .u32 0, .int .u32 0, .int .u32 0, .int .u32 0, .int .u32 0, .int .u32 0, .int .u32 0, .int .u32 0, .int .u32 0])).run Tryz.prog W = .ok () (W.setRow B (regA (R23 x y))) from store_regs h hx (R23 x y)))
    have t0 := HTy2.out.below (bel_drew y2)
    refine wp_region_held_drew (S := fun W => Kp y2 W [g]) (by kernel_rfl) (kp_drew y2 _) (fun k0 => ?_)
    obtain ⟨Y0, hY0⟩ : ∃ zz, zz = y2.drew := ⟨_, rfl⟩
    rw [← hY0] at t0 k0 ⊢
    have T00 := Lib.hid t0
    clear t0 hY0
    show wpAnyH _ _ _ _ _ 12 #[false, false, false, false, false, false, false, false, false, false, false, false] _ _
    refine wpAnyH_take (i := 1) (oi := { dst := some 45, op := Go.Op.load 28 (Go.Operand.tmp 7), type := 28, pos := "outright.go:79", after := #[], guard := none }) (v := .agg #[.int .u32 0, .int .u32 0, .int .u32 (x : Int), .int .u32 (y : Int), .int .u32 0, .int .u32 0, .int .u32 0, .int .u32 0, .int .u32 0, .int .u32 0, .int .u32 0, .int .u32 0, .int .u32 0, .int .u32 0, .int .u32 0, .int .u32 0]) rfl (by kernel_rfl) (by kernel_rfl) (by kernel_rfl) (fun _ _ _ h => by cases h.1) (Or.inl ⟨by rfl, fun W hSw => exec_load _ _ rfl _ rfl (run_loadVar_row (P := Tryz.prog) W B7 _ 28 _ _ _ (H7y2.out.kp hSw (by simpa using HNE7.out)) Tryz.underlying28 rfl (by kernel_rfl))⟩) k0 ?_
    try simp only [Act.put, List.setIfInBounds_toArray, List.set_cons_zero, List.set_cons_succ]
    refine wpAnyH_take (i := 2) (oi := { dst := some 46, op := Go.Op.move (Go.Operand.tmp 5), type := 37, pos := "outright.go:79", after := #[], guard := none }) (v := .pointer (some ⟨A, 0, none⟩)) rfl (by kernel_rfl) (by kernel_rfl) (by kernel_rfl) (fun _ _ _ h => by cases h.1) (Or.inl ⟨by rfl, fun W hSw => by (try dsimp only at hSw); go_simp⟩) k0 ?_
    try simp only [Act.put, List.setIfInBounds_toArray, List.set_cons_zero, List.set_cons_succ]
    refine wpAnyH_ready (rs := [0, 8]) (by kernel_rfl) (by simp) ?_
    refine AllReadyH.cons (o := { dst := some 44, op := Go.Op.call { callee := Go.Callee.value (Go.Operand.func 25), args := #[Go.Operand.const (Go.Value.int Go.IntKind.i64 3), Go.Operand.const (Go.Value.int Go.IntKind.i64 72)], argTypes := #[3, 3] }, type := 25, pos := "outright.go:79", after := #[], guard := none }) rfl (fun K hK => ?_) (AllReadyH.cons (o := { dst := some 11, op := Go.Op.alloc 28, type := 0, pos := "outright.go:79", after := #[], guard := none }) rfl (fun K hK => ?_) AllReadyH.nil)
    · go_simp
      go_at_call 25
      refine (cvd_any 3 72 Y0).mono ?_
      rintro e Y1 ⟨rfl, hb⟩
      have T1 := Lib.hid (T00.out.below hb)
      have KK1 : Hid (Kp y2 Y1 [g]) := Lib.hid (k0.trans (Kp.bel hb))
      clear hb
      go_wp2_with fail
      refine hK.out _ _ KK1.out (fun k1 => ?_)
      clear hK K
      try simp only [List.setIfInBounds_toArray, List.set_cons_zero]
      refine wpAnyH_ready (rs := [3, 8]) (by kernel_rfl) (by simp) ?_
      refine AllReadyH.cons (o := { dst := some 47, op := Go.Op.call { callee := Go.Callee.value (Go.Operand.func 24), args := #[Go.Operand.tmp 44, Go.Operand.tmp 45, Go.Operand.tmp 46], argTypes := #[25, 28, 37] }, type := 57, pos := "outright.go:79", after := #[{ on := 0, ground := Go.Ground.data }, { on := 1, ground := Go.Ground.data }, { on := 2, ground := Go.Ground.data }, { on := 0, ground := Go.Ground.chain }], guard := none }) rfl (fun K hK => ?_) (AllReadyH.cons (o := { dst := some 11, op := Go.Op.alloc 28, type := 0, pos := "outright.go:79", after := #[], guard := none }) rfl (fun K hK => ?_) AllReadyH.nil)
      · go_simp
        go_at_call 24
        refine (HXX.out Y1 T1.out (HSGY.out Y1 k1)).mono ?_
        rintro e Y2 ⟨rfl, hs, hk⟩
        have T2 := Lib.hid hs
        have KK2 : Hid (Kp y2 Y2 [g]) := Lib.hid (k1.trans hk)
        clear hs hk
        go_wp2_with fail
        refine hK.out _ _ KK2.out (fun k2 => ?_)
        clear hK K
        try simp only [List.setIfInBounds_toArray, List.set_cons_zero, List.set_cons_succ]
        refine wpAnyH_take (i := 4) (oi := { dst := some 43, op := Go.Op.move (Go.Operand.tmp 47), type := 57, pos := "outright.go:79", after := #[{ on := 3, ground := Go.Ground.data }], guard := none }) (v := .tuple #[.agg #[.int .u32 0, .int .u32 0, .int .u32 (x : Int), .int .u32 (y : Int), .int .u32 0, .int .u32 0, .int .u32 0, .int .u32 0, .int .u32 0, .int .u32 0, .int .u32 0, .int .u32 0, .int .u32 0, .int .u32 0, .int .u32 0, .int .u32 0], .int .i64 0, .int .i64 0]) rfl (by kernel_rfl) (by kernel_rfl) (by kernel_rfl) (fun _ _ _ h => by cases h.1) (Or.inl ⟨by rfl, fun W hSw => by (try dsimp only at hSw); go_simp⟩) k2 ?_
        try simp only [Act.put, List.setIfInBounds_toArray, List.set_cons_zero, List.set_cons_succ]
        refine wpAnyH_take (i := 5) (oi := { dst := some 48, op := Go.Op.extract (Go.Operand.tmp 43) 0, type := 28, pos := "outright.go:79", after := #[{ on := 4, ground := Go.Ground.data }], guard := none }) (v := .agg #[.int .u32 0, .int .u32 0, .int .u32 (x : Int), .int .u32 (y : Int), .int .u32 0, .int .u32 0, .int .u32 0, .int .u32 0, .int .u32 0, .int .u32 0, .int .u32 0, .int .u32 0, .int .u32 0, .int .u32 0, .int .u32 0, .int .u32 0]) rfl (by kernel_rfl) (by kernel_rfl) (by kernel_rfl) (fun _ _ _ h => by cases h.1) (Or.inl ⟨by rfl, fun W hSw => by (try dsimp only at hSw); go_simp⟩) k2 ?_
        try simp only [Act.put, List.setIfInBounds_toArray, List.set_cons_zero, List.set_cons_succ]
        refine wpAnyH_take (i := 6) (oi := { dst := some 49, op := Go.Op.extract (Go.Operand.tmp 43) 1, type := 3, pos := "outright.go:79", after := #[{ on := 4, ground := Go.Ground.data }, { on := 9, ground := Go.Ground.gcOnly Go.Departure.lateStores }], guard := none }) (v := .int .i64 0) rfl (by kernel_rfl) (by kernel_rfl) (by kernel_rfl) (fun _ _ _ h => by cases h.1) (Or.inl ⟨by rfl, fun W hSw => by (try dsimp only at hSw); go_simp⟩) k2 ?_
        try simp only [Act.put, List.setIfInBounds_toArray, List.set_cons_zero, List.set_cons_succ]
        refine wpAnyH_take (i := 7) (oi := { dst := some 50, op := Go.Op.extract (Go.Operand.tmp 43) 2, type := 3, pos := "outright.go:79", after := #[{ on := 4, ground := Go.Ground.data }, { on := 10, ground := Go.Ground.gcOnly Go.Departure.lateStores }], guard := none }) (v := .int .i64 0) rfl (by kernel_rfl) (by kernel_rfl) (by kernel_rfl) (fun _ _ _ h => by cases h.1) (Or.inl ⟨by rfl, fun W hSw => by (try dsimp only at hSw); go_simp⟩) k2 ?_
        try simp only [Act.put, List.setIfInBounds_toArray, List.set_cons_zero, List.set_cons_succ]
        refine wpAnyH_ready (rs := [8]) (by kernel_rfl) (by simp) ?_
        refine AllReadyH.cons (o := { dst := some 11, op := Go.Op.alloc 28, type := 0, pos := "outright.go:79", after := #[], guard := none }) rfl (fun K hK => ?_) AllReadyH.nil
        go_simp
        obtain ⟨Y3, hY3⟩ : ∃ zz, zz = Y2.alloc (.cells #[.int .u32 0, .int .u32 0, .int .u32 0, .int .u32 0, .int .u32 0, .int .u32 0, .int .u32 0, .int .u32 0, .int .u32 0, .int .u32 0, .int .u32 0, .int .u32 0, .int .u32 0, .int .u32 0, .int .u32 0, .int .u32 0] 28) := ⟨_, rfl⟩
        obtain ⟨B8, hB8⟩ : ∃ b, b = Y2.heap.size := ⟨_, rfl⟩
        have hb : Below Y2.heap.size Y2 Y3 := by rw [hY3]; exact below_new _ _
        have G3 : Hid (Bx Y3 B8 28 #[.int .u32 0, .int .u32 0, .int .u32 0, .int .u32 0, .int .u32 0, .int .u32 0, .int .u32 0, .int .u32 0, .int .u32 0, .int .u32 0, .int .u32 0, .int .u32 0, .int .u32 0, .int .u32 0, .int .u32 0, .int .u32 0]) := Lib.hid (by rw [hY3, hB8]; exact Bx.new Y2 _ _)
        have HW8 : Hid (y2.heap.size ≤ B8) := Lib.hid (by rw [hB8]; exact k2.size)
        rw [← hY3, ← hB8]
        have T3 := Lib.hid (T2.out.below hb)
        have KK3 : Hid (Kp y2 Y3 [g]) := Lib.hid (k2.trans (Kp.bel hb))
        clear hb hY3 hB8
        refine hK.out _ _ KK3.out (fun k3 => ?_)
        clear hK K
        try simp only [List.setIfInBounds_toArray, List.set_cons_zero, List.set_cons_succ]
        refine wpAnyH_ready (rs := [9]) (by kernel_rfl) (by simp) ?_
        refine AllReadyH.cons (o := { dst := none, op := Go.Op.store 28 (Go.Operand.tmp 11) (Go.Operand.tmp 48), type := 0, pos := "outright.go:79", after := #[{ on := 8, ground := Go.Ground.data }, { on := 5, ground := Go.Ground.data }, { on := 3, ground := Go.Ground.chain }, { on := 0, ground := Go.Ground.phase }, { on := 1, ground := Go.Ground.phase }, { on := 2, ground := Go.Ground.phase }, { on := 3, ground := Go.Ground.phase }, { on := 4, ground := Go.Ground.phase }, { on := 5, ground := Go.Ground.phase }, { on := 6, ground := Go.Ground.textOnly Go.Departure.lateStores }, { on := 7, ground := Go.Ground.textOnly Go.Departure.lateStores }, { on := 8, ground := Go.Ground.phase }], guard := none }) rfl (fun K hK => ?_) AllReadyH.nil
        rw [if_pos (by rfl)]
        refine op_store _ _ _ rfl _ rfl _ rfl (HSR.out _ _ _ G3.out rfl) ?_
        obtain ⟨Y4, hY4⟩ : ∃ zz, zz = Y3.setRow B8 (regA (R23 x y)) := ⟨_, rfl⟩
        rw [← hY4]
        have T4 := Lib.hid (show Sto Y4 _ _ _ _ _ _ _ by rw [hY4]; exact sto_row T3.out B8 _ ⟨Row.ne G3.out.row (Bx.row T3.out.1) (by decide), Row.ne G3.out.row T3.out.2.1 (by decide), Row.ne G3.out.row T3.out.2.2.1 (by decide)⟩)
        have G4 : Hid (Bx Y4 B8 28 #[.int .u32 0, .int .u32 0, .int .u32 (x : Int), .int .u32 (y : Int), .int .u32 0, .int .u32 0, .int .u32 0, .int .u32 0, .int .u32 0, .int .u32 0, .int .u32 0, .int .u32 0, .int .u32 0, .int .u32 0, .int .u32 0, .int .u32 0]) := Lib.hid (by rw [hY4]; exact bx_row3 G3.out _)
        have KK4 : Hid (Kp y2 Y4 [g]) := Lib.hid (by rw [hY4]; exact kp_row k3 HW8.out _)
        clear hY4
        refine hK.out _ _ KK4.out (fun k4 => ?_)
        clear hK K
        try simp only [List.setIfInBounds_toArray, List.set_cons_zero, List.set_cons_succ]
        refine wpAnyH_take (i := 10) (oi := { dst := some 12, op := Go.Op.assign (Go.Operand.tmp 49), type := 3, pos := "outright.go:79", after := #[{ on := 6, ground := Go.Ground.data }, { on := 9, ground := Go.Ground.chain }, { on := 0, ground := Go.Ground.phase }, { on := 1, ground := Go.Ground.phase }, { on := 2, ground := Go.Ground.phase }, { on := 3, ground := Go.Ground.phase }, { on := 4, ground := Go.Ground.phase }, { on := 5, ground := Go.Ground.phase }, { on := 6, ground := Go.Ground.phase }, { on := 7, ground := Go.Ground.textOnly Go.Departure.lateStores }, { on := 8, ground := Go.Ground.phase }, { on := 9, ground := Go.Ground.phase }], guard := none }) (v := .int .i64 0) rfl (by kernel_rfl) (by kernel_rfl) (by kernel_rfl) (fun _ _ _ h => by cases h.1) (Or.inl ⟨by rfl, fun W hSw => by (try dsimp only at hSw); go_simp⟩) k4 ?_
        try simp only [Act.put, List.setIfInBounds_toArray, List.set_cons_zero, List.set_cons_succ]
        refine wpAnyH_take (i := 11) (oi := { dst := some 13, op := Go.Op.assign (Go.Operand.tmp 50), type := 3, pos := "outright.go:79", after := #[{ on := 7, ground := Go.Ground.data }, { on := 10, ground := Go.Ground.chain }, { on := 0, ground := Go.Ground.phase }, { on := 1, ground := Go.Ground.phase }, { on := 2, ground := Go.Ground.phase }, { on := 3, ground := Go.Ground.phase }, { on := 4, ground := Go.Ground.phase }, { on := 5, ground := Go.Ground.phase }, { on := 6, ground := Go.Ground.phase }, { on := 7, ground := Go.Ground.phase }, { on := 8, ground := Go.Ground.phase }, { on := 9, ground := Go.Ground.phase }, { on := 10, ground := Go.Ground.phase }], guard := none }) (v := .int .i64 0) rfl (by kernel_rfl) (by kernel_rfl) (by kernel_rfl) (fun _ _ _ h => by cases h.1) (Or.inl ⟨by rfl, fun W hSw => by (try dsimp only at hSw); go_simp⟩) k4 ?_
        try simp only [Act.put, List.setIfInBounds_toArray, List.set_cons_zero, List.set_cons_succ]
        refine wpAnyH_done (by kernel_rfl) ?_ _
        refine id ?_
        exact ⟨rfl, B8, ckb_mk rfl, k4, T4.out, G4.out, HW8.out⟩
      · go_simp
        obtain ⟨Y2, hY2⟩ : ∃ zz, zz = Y1.alloc (.cells #[.int .u32 0, .int .u32 0, .int .u32 0, .int .u32 0, .int .u32 0, .int .u32 0, .int .u32 0, .int .u32 0, .int .u32 0, .int .u32 0, .int .u32 0, .int .u32 0, .int .u32 0, .int .u32 0, .int .u32 0, .int .u32 0] 28) := ⟨_, rfl⟩
        obtain ⟨B8, hB8⟩ : ∃ b, b = Y1.heap.size := ⟨_, rfl⟩
        have hb : Below Y1.heap.size Y1 Y2 := by rw [hY2]; exact below_new _ _
        have G2 : Hid (Bx Y2 B8 28 #[.int .u32 0, .int .u32 0, .int .u32 0, .int .u32 0, .int .u32 0, .int .u32 0, .int .u32 0, .int .u32 0, .int .u32 0, .int .u32 0, .int .u32 0, .int .u32 0, .int .u32 0, .int .u32 0, .int .u32 0, .int .u32 0]) := Lib.hid (by rw [hY2, hB8]; exact Bx.new Y1 _ _)
        have HW8 : Hid (y2.heap.size ≤ B8) := Lib.hid (by rw [hB8]; exact k1.size)
        rw [← hY2, ← hB8]
        have T2 := Lib.hid (T1.out.below hb)
        have KK2 : Hid (Kp y2 Y2 [g]) := Lib.hid (k1.trans (Kp.bel hb))
        clear hb hY2 hB8
        refine hK.out _ _ KK2.out (fun k2 => ?_)
        clear hK K
        try simp only [List.setIfInBounds_toArray, List.set_cons_zero, List.set_cons_succ]
        refine wpAnyH_ready (rs := [3]) (by kernel_rfl) (by simp) ?_
        refine AllReadyH.cons (o := { dst := some 47, op := Go.Op.call { callee := Go.Callee.value (Go.Operand.func 24), args := #[Go.Operand.tmp 44, Go.Operand.tmp 45, Go.Operand.tmp 46], argTypes := #[25, 28, 37] }, type := 57, pos := "outright.go:79", after := #[{ on := 0, ground := Go.Ground.data }, { on := 1, ground := Go.Ground.data }, { on := 2, ground := Go.Ground.data }, { on := 0, ground := Go.Ground.chain }], guard := none }) rfl (fun K hK => ?_) AllReadyH.nil
        go_simp
        go_at_call 24
        refine (HXX.out Y2 T2.out (HSGY.out Y2 k2)).mono ?_
        rintro e Y3 ⟨rfl, hs, hk⟩
        have G3 := Lib.hid (G2.out.kp hk (by simpa using Row.ne G2.out.row T2.out.2.1 (by decide)))
        have T3 := Lib.hid hs
        have KK3 : Hid (Kp y2 Y3 [g]) := Lib.hid (k2.trans hk)
        clear hs hk
        go_wp2_with fail
        refine hK.out _ _ KK3.out (fun k3 => ?_)
        clear hK K
        try simp only [List.setIfInBounds_toArray, List.set_cons_zero, List.set_cons_succ]
        refine wpAnyH_take (i := 4) (oi := { dst := some 43, op := Go.Op.move (Go.Operand.tmp 47), type := 57, pos := "outright.go:79", after := #[{ on := 3, ground := Go.Ground.data }], guard := none }) (v := .tuple #[.agg #[.int .u32 0, .int .u32 0, .int .u32 (x : Int), .int .u32 (y : Int), .int .u32 0, .int .u32 0, .int .u32 0, .int .u32 0, .int .u32 0, .int .u32 0, .int .u32 0, .int .u32 0, .int .u32 0, .int .u32 0, .int .u32 0, .int .u32 0], .int .i64 0, .int .i64 0]) rfl (by kernel_rfl) (by kernel_rfl) (by kernel_rfl) (fun _ _ _ h => by cases h.1) (Or.inl ⟨by rfl, fun W hSw => by (try dsimp only at hSw); go_simp⟩) k3 ?_
        try simp only [Act.put, List.setIfInBounds_toArray, List.set_cons_zero, List.set_cons_succ]
        refine wpAnyH_take (i := 5) (oi := { dst := some 48, op := Go.Op.extract (Go.Operand.tmp 43) 0, type := 28, pos := "outright.go:79", after := #[{ on := 4, ground := Go.Ground.data }], guard := none }) (v := .agg #[.int .u32 0, .int .u32 0, .int .u32 (x : Int), .int .u32 (y : Int), .int .u32 0, .int .u32 0, .int .u32 0, .int .u32 0, .int .u32 0, .int .u32 0, .int .u32 0, .int .u32 0, .int .u32 0, .int .u32 0, .int .u32 0, .int .u32 0]) rfl (by kernel_rfl) (by kernel_rfl) (by kernel_rfl) (fun _ _ _ h => by cases h.1) (Or.inl ⟨by rfl, fun W hSw => by (try dsimp only at hSw); go_simp⟩) k3 ?_
        try simp only [Act.put, List.setIfInBounds_toArray, List.set_cons_zero, List.set_cons_succ]
        refine wpAnyH_take (i := 6) (oi := { dst := some 49, op := Go.Op.extract (Go.Operand.tmp 43) 1, type := 3, pos := "outright.go:79", after := #[{ on := 4, ground := Go.Ground.data }, { on := 9, ground := Go.Ground.gcOnly Go.Departure.lateStores }], guard := none }) (v := .int .i64 0) rfl (by kernel_rfl) (by kernel_rfl) (by kernel_rfl) (fun _ _ _ h => by cases h.1) (Or.inl ⟨by rfl, fun W hSw => by (try dsimp only at hSw); go_simp⟩) k3 ?_
        try simp only [Act.put, List.setIfInBounds_toArray, List.set_cons_zero, List.set_cons_succ]
        refine wpAnyH_take (i := 7) (oi := { dst := some 50, op := Go.Op.extract (Go.Operand.tmp 43) 2, type := 3, pos := "outright.go:79", after := #[{ on := 4, ground := Go.Ground.data }, { on := 10, ground := Go.Ground.gcOnly Go.Departure.lateStores }], guard := none }) (v := .int .i64 0) rfl (by kernel_rfl) (by kernel_rfl) (by kernel_rfl) (fun _ _ _ h => by cases h.1) (Or.inl ⟨by rfl, fun W hSw => by (try dsimp only at hSw); go_simp⟩) k3 ?_
        try simp only [Act.put, List.setIfInBounds_toArray, List.set_cons_zero, List.set_cons_succ]
        refine wpAnyH_ready (rs := [9]) (by kernel_rfl) (by simp) ?_
        refine AllReadyH.cons (o := { dst := none, op := Go.Op.store 28 (Go.Operand.tmp 11) (Go.Operand.tmp 48), type := 0, pos := "outright.go:79", after := #[{ on := 8, ground := Go.Ground.data }, { on := 5, ground := Go.Ground.data }, { on := 3, ground := Go.Ground.chain }, { on := 0, ground := Go.Ground.phase }, { on := 1, ground := Go.Ground.phase }, { on := 2, ground := Go.Ground.phase }, { on := 3, ground := Go.Ground.phase }, { on := 4, ground := Go.Ground.phase }, { on := 5, ground := Go.Ground.phase }, { on := 6, ground := Go.Ground.textOnly Go.Departure.lateStores }, { on := 7, ground := Go.Ground.textOnly Go.Departure.lateStores }, { on := 8, ground := Go.Ground.phase }], guard := none }) rfl (fun K hK => ?_) AllReadyH.nil
        rw [if_pos (by rfl)]
        refine op_store _ _ _ rfl _ rfl _ rfl (HSR.out _ _ _ G3.out rfl) ?_
        obtain ⟨Y4, hY4⟩ : ∃ zz, zz = Y3.setRow B8 (regA (R23 x y)) := ⟨_, rfl⟩
        rw [← hY4]
        have T4 := Lib.hid (show Sto Y4 _ _ _ _ _ _ _ by rw [hY4]; exact sto_row T3.out B8 _ ⟨Row.ne G3.out.row (Bx.row T3.out.1) (by decide), Row.ne G3.out.row T3.out.2.1 (by decide), Row.ne G3.out.row T3.out.2.2.1 (by decide)⟩)
        have G4 : Hid (Bx Y4 B8 28 #[.int .u32 0, .int .u32 0, .int .u32 (x : Int), .int .u32 (y : Int), .int .u32 0, .int .u32 0, .int .u32 0, .int .u32 0, .int .u32 0, .int .u32 0, .int .u32 0, .int .u32 0, .int .u32 0, .int .u32 0, .int .u32 0, .int .u32 0]) := Lib.hid (by rw [hY4]; exact bx_row3 G3.out _)
        have KK4 : Hid (Kp y2 Y4 [g]) := Lib.hid (by rw [hY4]; exact kp_row k3 HW8.out _)
        clear hY4
        refine hK.out _ _ KK4.out (fun k4 => ?_)
        clear hK K
        try simp only [List.setIfInBounds_toArray, List.set_cons_zero, List.set_cons_succ]
        refine wpAnyH_take (i := 10) (oi := { dst := some 12, op := Go.Op.assign (Go.Operand.tmp 49), type := 3, pos := "outright.go:79", after := #[{ on := 6, ground := Go.Ground.data }, { on := 9, ground := Go.Ground.chain }, { on := 0, ground := Go.Ground.phase }, { on := 1, ground := Go.Ground.phase }, { on := 2, ground := Go.Ground.phase }, { on := 3, ground := Go.Ground.phase }, { on := 4, ground := Go.Ground.phase }, { on := 5, ground := Go.Ground.phase }, { on := 6, ground := Go.Ground.phase }, { on := 7, ground := Go.Ground.textOnly Go.Departure.lateStores }, { on := 8, ground := Go.Ground.phase }, { on := 9, ground := Go.Ground.phase }], guard := none }) (v := .int .i64 0) rfl (by kernel_rfl) (by kernel_rfl) (by kernel_rfl) (fun _ _ _ h => by cases h.1) (Or.inl ⟨by rfl, fun W hSw => by (try dsimp only at hSw); go_simp⟩) k4 ?_
        try simp only [Act.put, List.setIfInBounds_toArray, List.set_cons_zero, List.set_cons_succ]
        refine wpAnyH_take (i := 11) (oi := { dst := some 13, op := Go.Op.assign (Go.Operand.tmp 50), type := 3, pos := "outright.go:79", after := #[{ on := 7, ground := Go.Ground.data }, { on := 10, ground := Go.Ground.chain }, { on := 0, ground := Go.Ground.phase }, { on := 1, ground := Go.Ground.phase }, { on := 2, ground := Go.Ground.phase }, { on := 3, ground := Go.Ground.phase }, { on := 4, ground := Go.Ground.phase }, { on := 5, ground := Go.Ground.phase }, { on := 6, ground := Go.Ground.phase }, { on := 7, ground := Go.Ground.phase }, { on := 8, ground := Go.Ground.phase }, { on := 9, ground := Go.Ground.phase }, { on := 10, ground := Go.Ground.phase }], guard := none }) (v := .int .i64 0) rfl (by kernel_rfl) (by kernel_rfl) (by kernel_rfl) (fun _ _ _ h => by cases h.1) (Or.inl ⟨by rfl, fun W hSw => by (try dsimp only at hSw); go_simp⟩) k4 ?_
        try simp only [Act.put, List.setIfInBounds_toArray, List.set_cons_zero, List.set_cons_succ]
        refine wpAnyH_done (by kernel_rfl) ?_ _
        refine id ?_
        exact ⟨rfl, B8, ckb_mk rfl, k4, T4.out, G4.out, HW8.out⟩
    · go_simp
      obtain ⟨Y1, hY1⟩ : ∃ zz, zz = Y0.alloc (.cells #[.int .u32 0, .int .u32 0, .int .u32 0, .int .u32 0, .int .u32 0, .int .u32 0, .int .u32 0, .int .u32 0, .int .u32 0, .int .u32 0, .int .u32 0, .int .u32 0, .int .u32 0, .int .u32 0, .int .u32 0, .int .u32 0] 28) := ⟨_, rfl⟩
      obtain ⟨B8, hB8⟩ : ∃ b, b = Y0.heap.size := ⟨_, rfl⟩
      have hb : Below Y0.heap.size Y0 Y1 := by rw [hY1]; exact below_new _ _
      have G1 : Hid (Bx Y1 B8 28 #[.int .u32 0, .int .u32 0, .int .u32 0, .int .u32 0, .int .u32 0, .int .u32 0, .int .u32 0, .int .u32 0, .int .u32 0, .int .u32 0, .int .u32 0, .int .u32 0, .int .u32 0, .int .u32 0, .int .u32 0, .int .u32 0]) := Lib.hid (by rw [hY1, hB8]; exact Bx.new Y0 _ _)
      have HW8 : Hid (y2.heap.size ≤ B8) := Lib.hid (by rw [hB8]; exact k0.size)
      rw [← hY1, ← hB8]
      have T1 := Lib.hid (T00.out.below hb)
      have KK1 : Hid (Kp y2 Y1 [g]) := Lib.hid (k0.trans (Kp.bel hb))
      clear hb hY1 hB8
      refine hK.out _ _ KK1.out (fun k1 => ?_)
      clear hK K
      try simp only [List.setIfInBounds_toArray, List.set_cons_zero, List.set_cons_succ]
      refine wpAnyH_ready (rs := [0]) (by kernel_rfl) (by simp) ?_
      refine AllReadyH.cons (o := { dst := some 44, op := Go.Op.call { callee := Go.Callee.value (Go.Operand.func 25), args := #[Go.Operand.const (Go.Value.int Go.IntKind.i64 3), Go.Operand.const (Go.Value.int Go.IntKind.i64 72)], argTypes := #[3, 3] }, type := 25, pos := "outright.go:79", after := #[], guard := none }) rfl (fun K hK => ?_) AllReadyH.nil
      go_simp
      go_at_call 25
      refine (cvd_any 3 72 Y1).mono ?_
      rintro e Y2 ⟨rfl, hb⟩
      have T2 := Lib.hid (T1.out.below hb)
      have G2 := Lib.hid (G1.out.below hb)
      have KK2 : Hid (Kp y2 Y2 [g]) := Lib.hid (k1.trans (Kp.bel hb))
      clear hb
      go_wp2_with fail
      refine hK.out _ _ KK2.out (fun k2 => ?_)
      clear hK K
      try simp only [List.setIfInBounds_toArray, List.set_cons_zero]
      refine wpAnyH_ready (rs := [3]) (by kernel_rfl) (by simp) ?_
      refine AllReadyH.cons (o := { dst := some 47, op := Go.Op.call { callee := Go.Callee.value (Go.Operand.func 24), args := #[Go.Operand.tmp 44, Go.Operand.tmp 45, Go.Operand.tmp 46], argTypes := #[25, 28, 37] }, type := 57, pos := "outright.go:79", after := #[{ on := 0, ground := Go.Ground.data }, { on := 1, ground := Go.Ground.data }, { on := 2, ground := Go.Ground.data }, { on := 0, ground := Go.Ground.chain }], guard := none }) rfl (fun K hK => ?_) AllReadyH.nil
      go_simp
      go_at_call 24
      refine (HXX.out Y2 T2.out (HSGY.out Y2 k2)).mono ?_
      rintro e Y3 ⟨rfl, hs, hk⟩
      have G3 := Lib.hid (G2.out.kp hk (by simpa using Row.ne G2.out.row T2.out.2.1 (by decide)))
      have T3 := Lib.hid hs
      have KK3 : Hid (Kp y2 Y3 [g]) := Lib.hid (k2.trans hk)
      clear hs hk
      go_wp2_with fail
      refine hK.out _ _ KK3.out (fun k3 => ?_)
      clear hK K
      try simp only [List.setIfInBounds_toArray, List.set_cons_zero, List.set_cons_succ]
      refine wpAnyH_take (i := 4) (oi := { dst := some 43, op := Go.Op.move (Go.Operand.tmp 47), type := 57, pos := "outright.go:79", after := #[{ on := 3, ground := Go.Ground.data }], guard := none }) (v := .tuple #[.agg #[.int .u32 0, .int .u32 0, .int .u32 (x : Int), .int .u32 (y : Int), .int .u32 0, .int .u32 0, .int .u32 0, .int .u32 0, .int .u32 0, .int .u32 0, .int .u32 0, .int .u32 0, .int .u32 0, .int .u32 0, .int .u32 0, .int .u32 0], .int .i64 0, .int .i64 0]) rfl (by kernel_rfl) (by kernel_rfl) (by kernel_rfl) (fun _ _ _ h => by cases h.1) (Or.inl ⟨by rfl, fun W hSw => by (try dsimp only at hSw); go_simp⟩) k3 ?_
      try simp only [Act.put, List.setIfInBounds_toArray, List.set_cons_zero, List.set_cons_succ]
      refine wpAnyH_take (i := 5) (oi := { dst := some 48, op := Go.Op.extract (Go.Operand.tmp 43) 0, type := 28, pos := "outright.go:79", after := #[{ on := 4, ground := Go.Ground.data }], guard := none }) (v := .agg #[.int .u32 0, .int .u32 0, .int .u32 (x : Int), .int .u32 (y : Int), .int .u32 0, .int .u32 0, .int .u32 0, .int .u32 0, .int .u32 0, .int .u32 0, .int .u32 0, .int .u32 0, .int .u32 0, .int .u32 0, .int .u32 0, .int .u32 0]) rfl (by kernel_rfl) (by kernel_rfl) (by kernel_rfl) (fun _ _ _ h => by cases h.1) (Or.inl ⟨by rfl, fun W hSw => by (try dsimp only at hSw); go_simp⟩) k3 ?_
      try simp only [Act.put, List.setIfInBounds_toArray, List.set_cons_zero, List.set_cons_succ]
      refine wpAnyH_take (i := 6) (oi := { dst := some 49, op := Go.Op.extract (Go.Operand.tmp 43) 1, type := 3, pos := "outright.go:79", after := #[{ on := 4, ground := Go.Ground.data }, { on := 9, ground := Go.Ground.gcOnly Go.Departure.lateStores }], guard := none }) (v := .int .i64 0) rfl (by kernel_rfl) (by kernel_rfl) (by kernel_rfl) (fun _ _ _ h => by cases h.1) (Or.inl ⟨by rfl, fun W hSw => by (try dsimp only at hSw); go_simp⟩) k3 ?_
      try simp only [Act.put, List.setIfInBounds_toArray, List.set_cons_zero, List.set_cons_succ]
      refine wpAnyH_take (i := 7) (oi := { dst := some 50, op := Go.Op.extract (Go.Operand.tmp 43) 2, type := 3, pos := "outright.go:79", after := #[{ on := 4, ground := Go.Ground.data }, { on := 10, ground := Go.Ground.gcOnly Go.Departure.lateStores }], guard := none }) (v := .int .i64 0) rfl (by kernel_rfl) (by kernel_rfl) (by kernel_rfl) (fun _ _ _ h => by cases h.1) (Or.inl ⟨by rfl, fun W hSw => by (try dsimp only at hSw); go_simp⟩) k3 ?_
      try simp only [Act.put, List.setIfInBounds_toArray, List.set_cons_zero, List.set_cons_succ]
      refine wpAnyH_ready (rs := [9]) (by kernel_rfl) (by simp) ?_
      refine AllReadyH.cons (o := { dst := none, op := Go.Op.store 28 (Go.Operand.tmp 11) (Go.Operand.tmp 48), type := 0, pos := "outright.go:79", after := #[{ on := 8, ground := Go.Ground.data }, { on := 5, ground := Go.Ground.data }, { on := 3, ground := Go.Ground.chain }, { on := 0, ground := Go.Ground.phase }, { on := 1, ground := Go.Ground.phase }, { on := 2, ground := Go.Ground.phase }, { on := 3, ground := Go.Ground.phase }, { on := 4, ground := Go.Ground.phase }, { on := 5, ground := Go.Ground.phase }, { on := 6, ground := Go.Ground.textOnly Go.Departure.lateStores }, { on := 7, ground := Go.Ground.textOnly Go.Departure.lateStores }, { on := 8, ground := Go.Ground.phase }], guard := none }) rfl (fun K hK => ?_) AllReadyH.nil
      rw [if_pos (by rfl)]
      refine op_store _ _ _ rfl _ rfl _ rfl (HSR.out _ _ _ G3.out rfl) ?_
      obtain ⟨Y4, hY4⟩ : ∃ zz, zz = Y3.setRow B8 (regA (R23 x y)) := ⟨_, rfl⟩
      rw [← hY4]
      have T4 := Lib.hid (show Sto Y4 _ _ _ _ _ _ _ by rw [hY4]; exact sto_row T3.out B8 _ ⟨Row.ne G3.out.row (Bx.row T3.out.1) (by decide), Row.ne G3.out.row T3.out.2.1 (by decide), Row.ne G3.out.row T3.out.2.2.1 (by decide)⟩)
      have G4 : Hid (Bx Y4 B8 28 #[.int .u32 0, .int .u32 0, .int .u32 (x : Int), .int .u32 (y : Int), .int .u32 0, .int .u32 0, .int .u32 0, .int .u32 0, .int .u32 0, .int .u32 0, .int .u32 0, .int .u32 0, .int .u32 0, .int .u32 0, .int .u32 0, .int .u32 0]) := Lib.hid (by rw [hY4]; exact bx_row3 G3.out _)
      have KK4 : Hid (Kp y2 Y4 [g]) := Lib.hid (by rw [hY4]; exact kp_row k3 HW8.out _)
      clear hY4
      refine hK.out _ _ KK4.out (fun k4 => ?_)
      clear hK K
      try simp only [List.setIfInBounds_toArray, List.set_cons_zero, List.set_cons_succ]
      refine wpAnyH_take (i := 10) (oi := { dst := some 12, op := Go.Op.assign (Go.Operand.tmp 49), type := 3, pos := "outright.go:79", after := #[{ on := 6, ground := Go.Ground.data }, { on := 9, ground := Go.Ground.chain }, { on := 0, ground := Go.Ground.phase }, { on := 1, ground := Go.Ground.phase }, { on := 2, ground := Go.Ground.phase }, { on := 3, ground := Go.Ground.phase }, { on := 4, ground := Go.Ground.phase }, { on := 5, ground := Go.Ground.phase }, { on := 6, ground := Go.Ground.phase }, { on := 7, ground := Go.Ground.textOnly Go.Departure.lateStores }, { on := 8, ground := Go.Ground.phase }, { on := 9, ground := Go.Ground.phase }], guard := none }) (v := .int .i64 0) rfl (by kernel_rfl) (by kernel_rfl) (by kernel_rfl) (fun _ _ _ h => by cases h.1) (Or.inl ⟨by rfl, fun W hSw => by (try dsimp only at hSw); go_simp⟩) k4 ?_
      try simp only [Act.put, List.setIfInBounds_toArray, List.set_cons_zero, List.set_cons_succ]
      refine wpAnyH_take (i := 11) (oi := { dst := some 13, op := Go.Op.assign (Go.Operand.tmp 50), type := 3, pos := "outright.go:79", after := #[{ on := 7, ground := Go.Ground.data }, { on := 10, ground := Go.Ground.chain }, { on := 0, ground := Go.Ground.phase }, { on := 1, ground := Go.Ground.phase }, { on := 2, ground := Go.Ground.phase }, { on := 3, ground := Go.Ground.phase }, { on := 4, ground := Go.Ground.phase }, { on := 5, ground := Go.Ground.phase }, { on := 6, ground := Go.Ground.phase }, { on := 7, ground := Go.Ground.phase }, { on := 8, ground := Go.Ground.phase }, { on := 9, ground := Go.Ground.phase }, { on := 10, ground := Go.Ground.phase }], guard := none }) (v := .int .i64 0) rfl (by kernel_rfl) (by kernel_rfl) (by kernel_rfl) (fun _ _ _ h => by cases h.1) (Or.inl ⟨by rfl, fun W hSw => by (try dsimp only at hSw); go_simp⟩) k4 ?_
      try simp only [Act.put, List.setIfInBounds_toArray, List.set_cons_zero, List.set_cons_succ]
      refine wpAnyH_done (by kernel_rfl) ?_ _
      refine id ?_
      exact ⟨rfl, B8, ckb_mk rfl, k4, T4.out, G4.out, HW8.out⟩
  rintro e a y3 ⟨rfl, B8b, ⟨u, rfl⟩, hkp, hst, hr8, hw8⟩
  have HTy3 := Lib.hid hst
  have H7y3 := Lib.hid (H7y2.out.kp hkp (by simpa using Row.ne H7y2.out.row HTy2.out.2.1 (by decide)))
  have HBy3 := Lib.hid (Kp.below HBy2.out hkp (by simpa using HG.out))
  clear hkp hst hr8 hw8 HSGY HXX HTy2 H7y2
  go_wp2_with fail
  have HSGY : Hid (∀ W, Kp y3 W [g] → Sg W) := Lib.hid (fun W hk => sg_kpg (HSG.out.below HBy3.out) hk HG0.out)
  have HXX := Lib.hid (fun W hs hg => X3.out A g h W hs hg)
  refine Code.wp_mono (Q := fun e a W => e = .normal ∧ ∃ B8 : Nat, (∃ u : Nat → Value, a = { tmps := #[.int .u32 (x : Int), .int .u32 (y : Int), u 2, u 3, .bool false, .pointer (some ⟨A, 0, none⟩), u 6, .pointer (some ⟨B7, 0, none⟩), u 8, u 9, .int .i64 0, u 11, u 12, .int .i64 0, .pointer (some ⟨B8, 0, none⟩), u 15, .int .i64 0, u 17, u 18, u 19, u 20, u 21, u 22, u 23, u 24, u 25, u 26, u 27, u 28, u 29, u 30, u 31, u 32, u 33, u 34, u 35, u 36, u 37, u 38, u 39, u 40, u 41, u 42, u 43, u 44, u 45, u 46, u 47, u 48, u 49, u 50, u 51, u 52, u 53, u 54, u 55, u 56, u 57, u 58, u 59, u 60, u 61, u 62, u 63, u 64, u 65, u 66, u 67, u 68, u 69, u 70, u 71, u 72, u 73, u 74, u 75, u 76, u 77, u 78, u 79, u 80, u 81, u 82, u 83, u 84, u 85, u 86, u 87, u 88, u 89, u 90, u 91, u 92, u 93, u 94, u 95, u 96, u 97, u 98, u 99, u 100, u 101, u 102, u 103, u 104, u 105, u 106, u 107, u 108, u 109, u 110, u 111, u 112, u 113, u 114, u 115, u 116, u 117, u 118, u 119, u 120, u 121, u 122, u 123, u 124, u 125, u 126, u 127, u 128, u 129, u 130, u 131, u 132, u 133, u 134, u 135, u 136, u 137], defers := [] }) ∧ Kp y3 W [g] ∧ Sto W A g h 2048 1 l2 (List.replicate 1 0) ∧ Bx W B8 28 #[.int .u32 0, .int .u32 0, .int .u32 (x : Int), .int .u32 (y : Int), .int .u32 0, .int .u32 0, .int .u32 0, .int .u32 (x : Int), .int .u32 0, .int .u32 0, .int .u32 0, .int .u32 0, .int .u32 0, .int .u32 0, .int .u32 0, .int .u32 0] ∧ y3.heap.size ≤ B8) ?_ ?_
  rotate_left
  · have HNE7 : Hid (B7 ≠ g) := Lib.hid (Row.ne H7y3.out.row HTy3.out.2.1 (by decide))
    have HSR := Lib.hid (fun (W : World) B xs (h : Bx W B 28 xs) (hx : xs.size = 16) => (show (storeVar 28 ⟨B, 0, none⟩ (.agg #[.int .u32 0, .int .u32 0, .int .u32 (x : Int), .int .u32 (y : Int), .int .u32 0, .int .u32 0, .int .u32 0, .int .u32 (x : Int), .int .u32 0, .int .u32 0, .int .u32 0, .int .u32 0, .int .u32 0, .int .u32 0, .int .u32 0, .int .u32 0])).run Tryz.prog W = .ok () (W.setRow B (regA (upd (R23 x y) 7 (x : Int)))) from store_regs h hx (upd (R23 x y) 7 (x : Int))))
    have t0 := HTy3.out.below (bel_drew y3)
    refine wp_region_held_drew (S := fun W => Kp y3 W [g]) (by kernel_rfl) (kp_drew y3 _) (fun k0 => ?_)
    obtain ⟨Y0, hY0⟩ : ∃ zz, zz = y3.drew := ⟨_, rfl⟩
    rw [← hY0] at t0 k0 ⊢
    have T00 := Lib.hid t0
    clear t0 hY0
    show wpAnyH _ _ _ _ _ 12 #[false, false, false, false, false, false, false, false, false, false, false, false] _ _
    refine wpAnyH_take (i := 1) (oi := { dst := some 53, op := Go.Op.load 28 (Go.Operand.tmp 7), type := 28, pos := "outright.go:80", after := #[], guard := none }) (v := .agg #[.int .u32 0, .int .u32 0, .int .u32 (x : Int), .int .u32 (y : Int), .int .u32 0, .int .u32 0, .int .u32 0, .int .u32 0, .int .u32 0, .int .u32 0, .int .u32 0, .int .u32 0, .int .u32 0, .int .u32 0, .int .u32 0, .int .u32 0]) rfl (by kernel_rfl) (by kernel_rfl) (by kernel_rfl) (fun _ _ _ h => by cases h.1) (Or.inl ⟨by rfl, fun W hSw => exec_load _ _ rfl _ rfl (run_loadVar_row (P := Tryz.prog) W B7 _ 28 _ _ _ (H7y3.out.kp hSw (by simpa using HNE7.out)) Tryz.underlying28 rfl (by kernel_rfl))⟩) k0 ?_
    try simp only [Act.put, List.setIfInBounds_toArray, List.set_cons_zero, List.set_cons_succ]
    refine wpAnyH_take (i := 2) (oi := { dst := some 54, op := Go.Op.move (Go.Operand.tmp 5), type := 37, pos := "outright.go:80", after := #[], guard := none }) (v := .pointer (some ⟨A, 0, none⟩)) rfl (by kernel_rfl) (by kernel_rfl) (by kernel_rfl) (fun _ _ _ h => by cases h.1) (Or.inl ⟨by rfl, fun W hSw => by (try dsimp only at hSw); go_simp⟩) k0 ?_
    try simp only [Act.put, List.setIfInBounds_toArray, List.set_cons_zero, List.set_cons_succ]
    refine wpAnyH_ready (rs := [0, 8]) (by kernel_rfl) (by simp) ?_
    refine AllReadyH.cons (o := { dst := some 52, op := Go.Op.call { callee := Go.Callee.value (Go.Operand.func 26), args := #[Go.Operand.const (Go.Value.int Go.IntKind.i64 7), Go.Operand.const (Go.Value.int Go.IntKind.i64 64)], argTypes := #[3, 3] }, type := 25, pos := "outright.go:80", after := #[], guard := none }) rfl (fun K hK => ?_) (AllReadyH.cons (o := { dst := some 14, op := Go.Op.alloc 28, type := 0, pos := "outright.go:80", after := #[], guard := none }) rfl (fun K hK => ?_) AllReadyH.nil)
    · go_simp
      go_at_call 26
      refine (cvb_any 7 64 Y0).mono ?_
      rintro e Y1 ⟨rfl, hb⟩
      have T1 := Lib.hid (T00.out.below hb)
      have KK1 : Hid (Kp y3 Y1 [g]) := Lib.hid (k0.trans (Kp.bel hb))
      clear hb
      go_wp2_with fail
      refine hK.out _ _ KK1.out (fun k1 => ?_)
      clear hK K
      try simp only [List.setIfInBounds_toArray, List.set_cons_zero]
      refine wpAnyH_ready (rs := [3, 8]) (by kernel_rfl) (by simp) ?_
      refine AllReadyH.cons (o := { dst := some 55, op := Go.Op.call { callee := Go.Callee.value (Go.Operand.func 24), args := #[Go.Operand.tmp 52, Go.Operand.tmp 53, Go.Operand.tmp 54], argTypes := #[25, 28, 37] }, type := 57, pos := "outright.go:80", after := #[{ on := 0, ground := Go.Ground.data }, { on := 1, ground := Go.Ground.data }, { on := 2, ground := Go.Ground.data }, { on := 0, ground := Go.Ground.chain }], guard := none }) rfl (fun K hK => ?_) (AllReadyH.cons (o := { dst := some 14, op := Go.Op.alloc 28, type := 0, pos := "outright.go:80", after := #[], guard := none }) rfl (fun K hK => ?_) AllReadyH.nil)
      · go_simp
        go_at_call 24
        refine (HXX.out Y1 T1.out (HSGY.out Y1 k1)).mono ?_
        rintro e Y2 ⟨rfl, hs, hk⟩
        have T2 := Lib.hid hs
        have KK2 : Hid (Kp y3 Y2 [g]) := Lib.hid (k1.trans hk)
        clear hs hk
        go_wp2_with fail
        refine hK.out _ _ KK2.out (fun k2 => ?_)
        clear hK K
        try simp only [List.setIfInBounds_toArray, List.set_cons_zero, List.set_cons_succ]
        refine wpAnyH_take (i := 4) (oi := { dst := some 51, op := Go.Op.move (Go.Operand.tmp 55), type := 57, pos := "outright.go:80", after := #[{ on := 3, ground := Go.Ground.data }], guard := none }) (v := .tuple #[.agg #[.int .u32 0, .int .u32 0, .int .u32 (x : Int), .int .u32 (y : Int), .int .u32 0, .int .u32 0, .int .u32 0, .int .u32 (x : Int), .int .u32 0, .int .u32 0, .int .u32 0, .int .u32 0, .int .u32 0, .int .u32 0, .int .u32 0, .int .u32 0], .int .i64 0, .int .i64 0]) rfl (by kernel_rfl) (by kernel_rfl) (by kernel_rfl) (fun _ _ _ h => by cases h.1) (Or.inl ⟨by rfl, fun W hSw => by (try dsimp only at hSw); go_simp⟩) k2 ?_
        try simp only [Act.put, List.setIfInBounds_toArray, List.set_cons_zero, List.set_cons_succ]
        refine wpAnyH_take (i := 5) (oi := { dst := some 56, op := Go.Op.extract (Go.Operand.tmp 51) 0, type := 28, pos := "outright.go:80", after := #[{ on := 4, ground := Go.Ground.data }], guard := none }) (v := .agg #[.int .u32 0, .int .u32 0, .int .u32 (x : Int), .int .u32 (y : Int), .int .u32 0, .int .u32 0, .int .u32 0, .int .u32 (x : Int), .int .u32 0, .int .u32 0, .int .u32 0, .int .u32 0, .int .u32 0, .int .u32 0, .int .u32 0, .int .u32 0]) rfl (by kernel_rfl) (by kernel_rfl) (by kernel_rfl) (fun _ _ _ h => by cases h.1) (Or.inl ⟨by rfl, fun W hSw => by (try dsimp only at hSw); go_simp⟩) k2 ?_
        try simp only [Act.put, List.setIfInBounds_toArray, List.set_cons_zero, List.set_cons_succ]
        refine wpAnyH_take (i := 6) (oi := { dst := some 57, op := Go.Op.extract (Go.Operand.tmp 51) 1, type := 3, pos := "outright.go:80", after := #[{ on := 4, ground := Go.Ground.data }, { on := 9, ground := Go.Ground.gcOnly Go.Departure.lateStores }], guard := none }) (v := .int .i64 0) rfl (by kernel_rfl) (by kernel_rfl) (by kernel_rfl) (fun _ _ _ h => by cases h.1) (Or.inl ⟨by rfl, fun W hSw => by (try dsimp only at hSw); go_simp⟩) k2 ?_
        try simp only [Act.put, List.setIfInBounds_toArray, List.set_cons_zero, List.set_cons_succ]
        refine wpAnyH_take (i := 7) (oi := { dst := some 58, op := Go.Op.extract (Go.Operand.tmp 51) 2, type := 3, pos := "outright.go:80", after := #[{ on := 4, ground := Go.Ground.data }, { on := 10, ground := Go.Ground.gcOnly Go.Departure.lateStores }], guard := none }) (v := .int .i64 0) rfl (by kernel_rfl) (by kernel_rfl) (by kernel_rfl) (fun _ _ _ h => by cases h.1) (Or.inl ⟨by rfl, fun W hSw => by (try dsimp only at hSw); go_simp⟩) k2 ?_
        try simp only [Act.put, List.setIfInBounds_toArray, List.set_cons_zero, List.set_cons_succ]
        refine wpAnyH_ready (rs := [8]) (by kernel_rfl) (by simp) ?_
        refine AllReadyH.cons (o := { dst := some 14, op := Go.Op.alloc 28, type := 0, pos := "outright.go:80", after := #[], guard := none }) rfl (fun K hK => ?_) AllReadyH.nil
        go_simp
        obtain ⟨Y3, hY3⟩ : ∃ zz, zz = Y2.alloc (.cells #[.int .u32 0, .int .u32 0, .int .u32 0, .int .u32 0, .int .u32 0, .int .u32 0, .int .u32 0, .int .u32 0, .int .u32 0, .int .u32 0, .int .u32 0, .int .u32 0, .int .u32 0, .int .u32 0, .int .u32 0, .int .u32 0] 28) := ⟨_, rfl⟩
        obtain ⟨B8, hB8⟩ : ∃ b, b = Y2.heap.size := ⟨_, rfl⟩
        have hb : Below Y2.heap.size Y2 Y3 := by rw [hY3]; exact below_new _ _
        have G3 : Hid (Bx Y3 B8 28 #[.int .u32 0, .int .u32 0, .int .u32 0, .int .u32 0, .int .u32 0, .int .u32 0, .int .u32 0, .int .u32 0, .int .u32 0, .int .u32 0, .int .u32 0, .int .u32 0, .int .u32 0, .int .u32 0, .int .u32 0, .int .u32 0]) := Lib.hid (by rw [hY3, hB8]; exact Bx.new Y2 _ _)
        have HW8 : Hid (y3.heap.size ≤ B8) := Lib.hid (by rw [hB8]; exact k2.size)
        rw [← hY3, ← hB8]
        have T3 := Lib.hid (T2.out.below hb)
        have KK3 : Hid (Kp y3 Y3 [g]) := Lib.hid (k2.trans (Kp.bel hb))
        clear hb hY3 hB8
        refine hK.out _ _ KK3.out (fun k3 => ?_)
        clear hK K
        try simp only [List.setIfInBounds_toArray, List.set_cons_zero, List.set_cons_succ]
        refine wpAnyH_ready (rs := [9]) (by kernel_rfl) (by simp) ?_
        refine AllReadyH.cons (o := { dst := none, op := Go.Op.store 28 (Go.Operand.tmp 14) (Go.Operand.tmp 56), type := 0, pos := "outright.go:80", after := #[{ on := 8, ground := Go.Ground.data }, { on := 5, ground := Go.Ground.data }, { on := 3, ground := Go.Ground.chain }, { on := 0, ground := Go.Ground.phase }, { on := 1, ground := Go.Ground.phase }, { on := 2, ground := Go.Ground.phase }, { on := 3, ground := Go.Ground.phase }, { on := 4, ground := Go.Ground.phase }, { on := 5, ground := Go.Ground.phase }, { on := 6, ground := Go.Ground.textOnly Go.Departure.lateStores }, { on := 7, ground := Go.Ground.textOnly Go.Departure.lateStores }, { on := 8, ground := Go.Ground.phase }], guard := none }) rfl (fun K hK => ?_) AllReadyH.nil
        rw [if_pos (by rfl)]
        refine op_store _ _ _ rfl _ rfl _ rfl (HSR.out _ _ _ G3.out rfl) ?_
        obtain ⟨Y4, hY4⟩ : ∃ zz, zz = Y3.setRow B8 (regA (upd (R23 x y) 7 (x : Int))) := ⟨_, rfl⟩
        rw [← hY4]
        have T4 := Lib.hid (show Sto Y4 _ _ _ _ _ _ _ by rw [hY4]; exact sto_row T3.out B8 _ ⟨Row.ne G3.out.row (Bx.row T3.out.1) (by decide), Row.ne G3.out.row T3.out.2.1 (by decide), Row.ne G3.out.row T3.out.2.2.1 (by decide)⟩)
        have G4 : Hid (Bx Y4 B8 28 #[.int .u32 0, .int .u32 0, .int .u32 (x : Int), .int .u32 (y : Int), .int .u32 0, .int .u32 0, .int .u32 0, .int .u32 (x : Int), .int .u32 0, .int .u32 0, .int .u32 0, .int .u32 0, .int .u32 0, .int .u32 0, .int .u32 0, .int .u32 0]) := Lib.hid (by rw [hY4]; exact bx_row3 G3.out _)
        have KK4 : Hid (Kp y3 Y4 [g]) := Lib.hid (by rw [hY4]; exact kp_row k3 HW8.out _)
        clear hY4
        refine hK.out _ _ KK4.out (fun k4 => ?_)
        clear hK K
        try simp only [List.setIfInBounds_toArray, List.set_cons_zero, List.set_cons_succ]
        refine wpAnyH_take (i := 10) (oi := { dst := some 15, op := Go.Op.assign (Go.Operand.tmp 57), type := 3, pos := "outright.go:80", after := #[{ on := 6, ground := Go.Ground.data }, { on := 9, ground := Go.Ground.chain }, { on := 0, ground := Go.Ground.phase }, { on := 1, ground := Go.Ground.phase }, { on := 2, ground := Go.Ground.phase }, { on := 3, ground := Go.Ground.phase }, { on := 4, ground := Go.Ground.phase }, { on := 5, ground := Go.Ground.phase }, { on := 6, ground := Go.Ground.phase }, { on := 7, ground := Go.Ground.textOnly Go.Departure.lateStores }, { on := 8, ground := Go.Ground.phase }, { on := 9, ground := Go.Ground.phase }], guard := none }) (v := .int .i64 0) rfl (by kernel_rfl) (by kernel_rfl) (by kernel_rfl) (fun _ _ _ h => by cases h.1) (Or.inl ⟨by rfl, fun W hSw => by (try dsimp only at hSw); go_simp⟩) k4 ?_
        try simp only [Act.put, List.setIfInBounds_toArray, List.set_cons_zero, List.set_cons_succ]
        refine wpAnyH_take (i := 11) (oi := { dst := some 16, op := Go.Op.assign (Go.Operand.tmp 58), type := 3, pos := "outright.go:80", after := #[{ on := 7, ground := Go.Ground.data }, { on := 10, ground := Go.Ground.chain }, { on := 0, ground := Go.Ground.phase }, { on := 1, ground := Go.Ground.phase }, { on := 2, ground := Go.Ground.phase }, { on := 3, ground := Go.Ground.phase }, { on := 4, ground := Go.Ground.phase }, { on := 5, ground := Go.Ground.phase }, { on := 6, ground := Go.Ground.phase }, { on := 7, ground := Go.Ground.phase }, { on := 8, ground := Go.Ground.phase }, { on := 9, ground := Go.Ground.phase }, { on := 10, ground := Go.Ground.phase }], guard := none }) (v := .int .i64 0) rfl (by kernel_rfl) (by kernel_rfl) (by kernel_rfl) (fun _ _ _ h => by cases h.1) (Or.inl ⟨by rfl, fun W hSw => by (try dsimp only at hSw); go_simp⟩) k4 ?_
        try simp only [Act.put, List.setIfInBounds_toArray, List.set_cons_zero, List.set_cons_succ]
        refine wpAnyH_done (by kernel_rfl) ?_ _
        refine id ?_
        exact ⟨rfl, B8, ckb_mk rfl, k4, T4.out, G4.out, HW8.out⟩
      · go_simp
        obtain ⟨Y2, hY2⟩ : ∃ zz, zz = Y1.alloc (.cells #[.int .u32 0, .int .u32 0, .int .u32 0, .int .u32 0, .int .u32 0, .int .u32 0, .int .u32 0, .int .u32 0, .int .u32 0, .int .u32 0, .int .u32 0, .int .u32 0, .int .u32 0, .int .u32 0, .int .u32 0, .int .u32 0] 28) := ⟨_, rfl⟩
        obtain ⟨B8, hB8⟩ : ∃ b, b = Y1.heap.size := ⟨_, rfl⟩
        have hb : Below Y1.heap.size Y1 Y2 := by rw [hY2]; exact below_new _ _
        have G2 : Hid (Bx Y2 B8 28 #[.int .u32 0, .int .u32 0, .int .u32 0, .int .u32 0, .int .u32 0, .int .u32 0, .int .u32 0, .int .u32 0, .int .u32 0, .int .u32 0, .int .u32 0, .int .u32 0, .int .u32 0, .int .u32 0, .int .u32 0, .int .u32 0]) := Lib.hid (by rw [hY2, hB8]; exact Bx.new Y1 _ _)
        have HW8 : Hid (y3.heap.size ≤ B8) := Lib.hid (by rw [hB8]; exact k1.size)
        rw [← hY2, ← hB8]
        have T2 := Lib.hid (T1.out.below hb)
        have KK2 : Hid (Kp y3 Y2 [g]) := Lib.hid (k1.trans (Kp.bel hb))
        clear hb hY2 hB8
        refine hK.out _ _ KK2.out (fun k2 => ?_)
        clear hK K
        try simp only [List.setIfInBounds_toArray, List.set_cons_zero, List.set_cons_succ]
        refine wpAnyH_ready (rs := [3]) (by kernel_rfl) (by simp) ?_
        refine AllReadyH.cons (o := { dst := some 55, op := Go.Op.call { callee := Go.Callee.value (Go.Operand.func 24), args := #[Go.Operand.tmp 52, Go.Operand.tmp 53, Go.Operand.tmp 54], argTypes := #[25, 28, 37] }, type := 57, pos := "outright.go:80", after := #[{ on := 0, ground := Go.Ground.data }, { on := 1, ground := Go.Ground.data }, { on := 2, ground := Go.Ground.data }, { on := 0, ground := Go.Ground.chain }], guard := none }) rfl (fun K hK => ?_) AllReadyH.nil
        go_simp
        go_at_call 24
        refine (HXX.out Y2 T2.out (HSGY.out Y2 k2)).mono ?_
        rintro e Y3 ⟨rfl, hs, hk⟩
        have G3 := Lib.hid (G2.out.kp hk (by simpa using Row.ne G2.out.row T2.out.2.1 (by decide)))
        have T3 := Lib.hid hs
        have KK3 : Hid (Kp y3 Y3 [g]) := Lib.hid (k2.trans hk)
        clear hs hk
        go_wp2_with fail
        refine hK.out _ _ KK3.out (fun k3 => ?_)
        clear hK K
        try simp only [List.setIfInBounds_toArray, List.set_cons_zero, List.set_cons_succ]
        refine wpAnyH_take (i := 4) (oi := { dst := some 51, op := Go.Op.move (Go.Operand.tmp 55), type := 57, pos := "outright.go:80", after := #[{ on := 3, ground := Go.Ground.data }], guard := none }) (v := .tuple #[.agg #[.int .u32 0, .int .u32 0, .int .u32 (x : Int), .int .u32 (y : Int), .int .u32 0, .int .u32 0, .int .u32 0, .int .u32 (x : Int), .int .u32 0, .int .u32 0, .int .u32 0, .int .u32 0, .int .u32 0, .int .u32 0, .int .u32 0, .int .u32 0], .int .i64 0, .int .i64 0]) rfl (by kernel_rfl) (by kernel_rfl) (by kernel_rfl) (fun _ _ _ h => by cases h.1) (Or.inl ⟨by rfl, fun W hSw => by (try dsimp only at hSw); go_simp⟩) k3 ?_
        try simp only [Act.put, List.setIfInBounds_toArray, List.set_cons_zero, List.set_cons_succ]
        refine wpAnyH_take (i := 5) (oi := { dst := some 56, op := Go.Op.extract (Go.Operand.tmp 51) 0, type := 28, pos := "outright.go:80", after := #[{ on := 4, ground := Go.Ground.data }], guard := none }) (v := .agg #[.int .u32 0, .int .u32 0, .int .u32 (x : Int), .int .u32 (y : Int), .int .u32 0, .int .u32 0, .int .u32 0, .int .u32 (x : Int), .int .u32 0, .int .u32 0, .int .u32 0, .int .u32 0, .int .u32 0, .int .u32 0, .int .u32 0, .int .u32 0]) rfl (by kernel_rfl) (by kernel_rfl) (by kernel_rfl) (fun _ _ _ h => by cases h.1) (Or.inl ⟨by rfl, fun W hSw => by (try dsimp only at hSw); go_simp⟩) k3 ?_
        try simp only [Act.put, List.setIfInBounds_toArray, List.set_cons_zero, List.set_cons_succ]
        refine wpAnyH_take (i := 6) (oi := { dst := some 57, op := Go.Op.extract (Go.Operand.tmp 51) 1, type := 3, pos := "outright.go:80", after := #[{ on := 4, ground := Go.Ground.data }, { on := 9, ground := Go.Ground.gcOnly Go.Departure.lateStores }], guard := none }) (v := .int .i64 0) rfl (by kernel_rfl) (by kernel_rfl) (by kernel_rfl) (fun _ _ _ h => by cases h.1) (Or.inl ⟨by rfl, fun W hSw => by (try dsimp only at hSw); go_simp⟩) k3 ?_
        try simp only [Act.put, List.setIfInBounds_toArray, List.set_cons_zero, List.set_cons_succ]
        refine wpAnyH_take (i := 7) (oi := { dst := some 58, op := Go.Op.extract (Go.Operand.tmp 51) 2, type := 3, pos := "outright.go:80", after := #[{ on := 4, ground := Go.Ground.data }, { on := 10, ground := Go.Ground.gcOnly Go.Departure.lateStores }], guard := none }) (v := .int .i64 0) rfl (by kernel_rfl) (by kernel_rfl) (by kernel_rfl) (fun _ _ _ h => by cases h.1) (Or.inl ⟨by rfl, fun W hSw => by (try dsimp only at hSw); go_simp⟩) k3 ?_
        try simp only [Act.put, List.setIfInBounds_toArray, List.set_cons_zero, List.set_cons_succ]
        refine wpAnyH_ready (rs := [9]) (by kernel_rfl) (by simp) ?_
        refine AllReadyH.cons (o := { dst := none, op := Go.Op.store 28 (Go.Operand.tmp 14) (Go.Operand.tmp 56), type := 0, pos := "outright.go:80", after := #[{ on := 8, ground := Go.Ground.data }, { on := 5, ground := Go.Ground.data }, { on := 3, ground := Go.Ground.chain }, { on := 0, ground := Go.Ground.phase }, { on := 1, ground := Go.Ground.phase }, { on := 2, ground := Go.Ground.phase }, { on := 3, ground := Go.Ground.phase }, { on := 4, ground := Go.Ground.phase }, { on := 5, ground := Go.Ground.phase }, { on := 6, ground := Go.Ground.textOnly Go.Departure.lateStores }, { on := 7, ground := Go.Ground.textOnly Go.Departure.lateStores }, { on := 8, ground := Go.Ground.phase }], guard := none }) rfl (fun K hK => ?_) AllReadyH.nil
        rw [if_pos (by rfl)]
        refine op_store _ _ _ rfl _ rfl _ rfl (HSR.out _ _ _ G3.out rfl) ?_
        obtain ⟨Y4, hY4⟩ : ∃ zz, zz = Y3.setRow B8 (regA (upd (R23 x y) 7 (x : Int))) := ⟨_, rfl⟩
        rw [← hY4]
        have T4 := Lib.hid (show Sto Y4 _ _ _ _ _ _ _ by rw [hY4]; exact sto_row T3.out B8 _ ⟨Row.ne G3.out.row (Bx.row T3.out.1) (by decide), Row.ne G3.out.row T3.out.2.1 (by decide), Row.ne G3.out.row T3.out.2.2.1 (by decide)⟩)
        have G4 : Hid (Bx Y4 B8 28 #[.int .u32 0, .int .u32 0, .int .u32 (x : Int), .int .u32 (y : Int), .int .u32 0, .int .u32 0, .int .u32 0, .int .u32 (x : Int), .int .u32 0, .int .u32 0, .int .u32 0, .int .u32 0, .int .u32 0, .int .u32 0, .int .u32 0, .int .u32 0]) := Lib.hid (by rw [hY4]; exact bx_row3 G3.out _)
        have KK4 : Hid (Kp y3 Y4 [g]) := Lib.hid (by rw [hY4]; exact kp_row k3 HW8.out _)
        clear hY4
        refine hK.out _ _ KK4.out (fun k4 => ?_)
        clear hK K
        try simp only [List.setIfInBounds_toArray, List.set_cons_zero, List.set_cons_succ]
        refine wpAnyH_take (i := 10) (oi := { dst := some 15, op := Go.Op.assign (Go.Operand.tmp 57), type := 3, pos := "outright.go:80", after := #[{ on := 6, ground := Go.Ground.data }, { on := 9, ground := Go.Ground.chain }, { on := 0, ground := Go.Ground.phase }, { on := 1, ground := Go.Ground.phase }, { on := 2, ground := Go.Ground.phase }, { on := 3, ground := Go.Ground.phase }, { on := 4, ground := Go.Ground.phase }, { on := 5, ground := Go.Ground.phase }, { on := 6, ground := Go.Ground.phase }, { on := 7, ground := Go.Ground.textOnly Go.Departure.lateStores }, { on := 8, ground := Go.Ground.phase }, { on := 9, ground := Go.Ground.phase }], guard := none }) (v := .int .i64 0) rfl (by kernel_rfl) (by kernel_rfl) (by kernel_rfl) (fun _ _ _ h => by cases h.1) (Or.inl ⟨by rfl, fun W hSw => by (try dsimp only at hSw); go_simp⟩) k4 ?_
        try simp only [Act.put, List.setIfInBounds_toArray, List.set_cons_zero, List.set_cons_succ]
        refine wpAnyH_take (i := 11) (oi := { dst := some 16, op := Go.Op.assign (Go.Operand.tmp 58), type := 3, pos := "outright.go:80", after := #[{ on := 7, ground := Go.Ground.data }, { on := 10, ground := Go.Ground.chain }, { on := 0, ground := Go.Ground.phase }, { on := 1, ground := Go.Ground.phase }, { on := 2, ground := Go.Ground.phase }, { on := 3, ground := Go.Ground.phase }, { on := 4, ground := Go.Ground.phase }, { on := 5, ground := Go.Ground.phase }, { on := 6, ground := Go.Ground.phase }, { on := 7, ground := Go.Ground.phase }, { on := 8, ground := Go.Ground.phase }, { on := 9, ground := Go.Ground.phase }, { on := 10, ground := Go.Ground.phase }], guard := none }) (v := .int .i64 0) rfl (by kernel_rfl) (by kernel_rfl) (by kernel_rfl) (fun _ _ _ h => by cases h.1) (Or.inl ⟨by rfl, fun W hSw => by (try dsimp only at hSw); go_simp⟩) k4 ?_
        try simp only [Act.put, List.setIfInBounds_toArray, List.set_cons_zero, List.set_cons_succ]
        refine wpAnyH_done (by kernel_rfl) ?_ _
        refine id ?_
        exact ⟨rfl, B8, ckb_mk rfl, k4, T4.out, G4.out, HW8.out⟩
    · go_simp
      obtain ⟨Y1, hY1⟩ : ∃ zz, zz = Y0.alloc (.cells #[.int .u32 0, .int .u32 0, .int .u32 0, .int .u32 0, .int .u32 0, .int .u32 0, .int .u32 0, .int .u32 0, .int .u32 0, .int .u32 0, .int .u32 0, .int .u32 0, .int .u32 0, .int .u32 0, .int .u32 0, .int .u32 0] 28) := ⟨_, rfl⟩
      obtain ⟨B8, hB8⟩ : ∃ b, b = Y0.heap.size := ⟨_, rfl⟩
      have hb : Below Y0.heap.size Y0 Y1 := by rw [hY1]; exact below_new _ _
      have G1 : Hid (Bx Y1 B8 28 #[.int .u32 0, .int .u32 0, .int .u32 0, .int .u32 0, .int .u32 0, .int .u32 0, .int .u32 0, .int .u32 0, .int .u32 0, .int .u32 0, .int .u32 0, .int .u32 0, .int .u32 0, .int .u32 0, .int .u32 0, .int .u32 0]) := Lib.hid (by rw [hY1, hB8]; exact Bx.new Y0 _ _)
      have HW8 : Hid (y3.heap.size ≤ B8) := Lib.hid (by rw [hB8]; exact k0.size)
      rw [← hY1, ← hB8]
      have T1 := Lib.hid (T00.out.below hb)
      have KK1 : Hid (Kp y3 Y1 [g]) := Lib.hid (k0.trans (Kp.bel hb))
      clear hb hY1 hB8
      refine hK.out _ _ KK1.out (fun k1 => ?_)
      clear hK K
      try simp only [List.setIfInBounds_toArray, List.set_cons_zero, List.set_cons_succ]
      refine wpAnyH_ready (rs := [0]) (by kernel_rfl) (by simp) ?_
      refine AllReadyH.cons (o := { dst := some 52, op := Go.Op.call { callee := Go.Callee.value (Go.Operand.func 26), args := #[Go.Operand.const (Go.Value.int Go.IntKind.i64 7), Go.Operand.const (Go.Value.int Go.IntKind.i64 64)], argTypes := #[3, 3] }, type := 25, pos := "outright.go:80", after := #[], guard := none }) rfl (fun K hK => ?_) AllReadyH.nil
      go_simp
      go_at_call 26
      refine (cvb_any 7 64 Y1).mono ?_
      rintro e Y2 ⟨rfl, hb⟩
      have T2 := Lib.hid (T1.out.below hb)
      have G2 := Lib.hid (G1.out.below hb)
      have KK2 : Hid (Kp y3 Y2 [g]) := Lib.hid (k1.trans (Kp.bel hb))
      clear hb
      go_wp2_with fail
      refine hK.out _ _ KK2.out (fun k2 => ?_)
      clear hK K
      try simp only [List.setIfInBounds_toArray, List.set_cons_zero]
      refine wpAnyH_ready (rs := [3]) (by kernel_rfl) (by simp) ?_
      refine AllReadyH.cons (o := { dst := some 55, op := Go.Op.call { callee := Go.Callee.value (Go.Operand.func 24), args := #[Go.Operand.tmp 52, Go.Operand.tmp 53, Go.Operand.tmp 54], argTypes := #[25, 28, 37] }, type := 57, pos := "outright.go:80", after := #[{ on := 0, ground := Go.Ground.data }, { on := 1, ground := Go.Ground.data }, { on := 2, ground := Go.Ground.data }, { on := 0, ground := Go.Ground.chain }], guard := none }) rfl (fun K hK => ?_) AllReadyH.nil
      go_simp
      go_at_call 24
      refine (HXX.out Y2 T2.out (HSGY.out Y2 k2)).mono ?_
      rintro e Y3 ⟨rfl, hs, hk⟩
      have G3 := Lib.hid (G2.out.kp hk (by simpa using Row.ne G2.out.row T2.out.2.1 (by decide)))
      have T3 := Lib.hid hs
      have KK3 : Hid (Kp y3 Y3 [g]) := Lib.hid (k2.trans hk)
      clear hs hk
      go_wp2_with fail
      refine hK.out _ _ KK3.out (fun k3 => ?_)
      clear hK K
      try simp only [List.setIfInBounds_toArray, List.set_cons_zero, List.set_cons_succ]
      refine wpAnyH_take (i := 4) (oi := { dst := some 51, op := Go.Op.move (Go.Operand.tmp 55), type := 57, pos := "outright.go:80", after := #[{ on := 3, ground := Go.Ground.data }], guard := none }) (v := .tuple #[.agg #[.int .u32 0, .int .u32 0, .int .u32 (x : Int), .int .u32 (y : Int), .int .u32 0, .int .u32 0, .int .u32 0, .int .u32 (x : Int), .int .u32 0, .int .u32 0, .int .u32 0, .int .u32 0, .int .u32 0, .int .u32 0, .int .u32 0, .int .u32 0], .int .i64 0, .int .i64 0]) rfl (by kernel_rfl) (by kernel_rfl) (by kernel_rfl) (fun _ _ _ h => by cases h.1) (Or.inl ⟨by rfl, fun W hSw => by (try dsimp only at hSw); go_simp⟩) k3 ?_
      try simp only [Act.put, List.setIfInBounds_toArray, List.set_cons_zero, List.set_cons_succ]
      refine wpAnyH_take (i := 5) (oi := { dst := some 56, op := Go.Op.extract (Go.Operand.tmp 51) 0, type := 28, pos := "outright.go:80", after := #[{ on := 4, ground := Go.Ground.data }], guard := none }) (v := .agg #[.int .u32 0, .int .u32 0, .int .u32 (x : Int), .int .u32 (y : Int), .int .u32 0, .int .u32 0, .int .u32 0, .int .u32 (x : Int), .int .u32 0, .int .u32 0, .int .u32 0, .int .u32 0, .int .u32 0, .int .u32 0, .int .u32 0, .int .u32 0]) rfl (by kernel_rfl) (by kernel_rfl) (by kernel_rfl) (fun _ _ _ h => by cases h.1) (Or.inl ⟨by rfl, fun W hSw => by (try dsimp only at hSw); go_simp⟩) k3 ?_
      try simp only [Act.put, List.setIfInBounds_toArray, List.set_cons_zero, List.set_cons_succ]
      refine wpAnyH_take (i := 6) (oi := { dst := some 57, op := Go.Op.extract (Go.Operand.tmp 51) 1, type := 3, pos := "outright.go:80", after := #[{ on := 4, ground := Go.Ground.data }, { on := 9, ground := Go.Ground.gcOnly Go.Departure.lateStores }], guard := none }) (v := .int .i64 0) rfl (by kernel_rfl) (by kernel_rfl) (by kernel_rfl) (fun _ _ _ h => by cases h.1) (Or.inl ⟨by rfl, fun W hSw => by (try dsimp only at hSw); go_simp⟩) k3 ?_
      try simp only [Act.put, List.setIfInBounds_toArray, List.set_cons_zero, List.set_cons_succ]
      refine wpAnyH_take (i := 7) (oi := { dst := some 58, op := Go.Op.extract (Go.Operand.tmp 51) 2, type := 3, pos := "outright.go:80", after := #[{ on := 4, ground := Go.Ground.data }, { on := 10, ground := Go.Ground.gcOnly Go.Departure.lateStores }], guard := none }) (v := .int .i64 0) rfl (by kernel_rfl) (by kernel_rfl) (by kernel_rfl) (fun _ _ _ h => by cases h.1) (Or.inl ⟨by rfl, fun W hSw => by (try dsimp only at hSw); go_simp⟩) k3 ?_
      try simp only [Act.put, List.setIfInBounds_toArray, List.set_cons_zero, List.set_cons_succ]
      refine wpAnyH_ready (rs := [9]) (by kernel_rfl) (by simp) ?_
      refine AllReadyH.cons (o := { dst := none, op := Go.Op.store 28 (Go.Operand.tmp 14) (Go.Operand.tmp 56), type := 0, pos := "outright.go:80", after := #[{ on := 8, ground := Go.Ground.data }, { on := 5, ground := Go.Ground.data }, { on := 3, ground := Go.Ground.chain }, { on := 0, ground := Go.Ground.phase }, { on := 1, ground := Go.Ground.phase }, { on := 2, ground := Go.Ground.phase }, { on := 3, ground := Go.Ground.phase }, { on := 4, ground := Go.Ground.phase }, { on := 5, ground := Go.Ground.phase }, { on := 6, ground := Go.Ground.textOnly Go.Departure.lateStores }, { on := 7, ground := Go.Ground.textOnly Go.Departure.lateStores }, { on := 8, ground := Go.Ground.phase }], guard := none }) rfl (fun K hK => ?_) AllReadyH.nil
      rw [if_pos (by rfl)]
      refine op_store _ _ _ rfl _ rfl _ rfl (HSR.out _ _ _ G3.out rfl) ?_
      obtain ⟨Y4, hY4⟩ : ∃ zz, zz = Y3.setRow B8 (regA (upd (R23 x y) 7 (x : Int))) := ⟨_, rfl⟩
      rw [← hY4]
      have T4 := Lib.hid (show Sto Y4 _ _ _ _ _ _ _ by rw [hY4]; exact sto_row T3.out B8 _ ⟨Row.ne G3.out.row (Bx.row T3.out.1) (by decide), Row.ne G3.out.row T3.out.2.1 (by decide), Row.ne G3.out.row T3.out.2.2.1 (by decide)⟩)
      have G4 : Hid (Bx Y4 B8 28 #[.int .u32 0, .int .u32 0, .int .u32 (x : Int), .int .u32 (y : Int), .int .u32 0, .int .u32 0, .int .u32 0, .int .u32 (x : Int), .int .u32 0, .int .u32 0, .int .u32 0, .int .u32 0, .int .u32 0, .int .u32 0, .int .u32 0, .int .u32 0]) := Lib.hid (by rw [hY4]; exact bx_row3 G3.out _)
      have KK4 : Hid (Kp y3 Y4 [g]) := Lib.hid (by rw [hY4]; exact kp_row k3 HW8.out _)
      clear hY4
      refine hK.out _ _ KK4.out (fun k4 => ?_)
      clear hK K
      try simp only [List.setIfInBounds_toArray, List.set_cons_zero, List.set_cons_succ]
      refine wpAnyH_take (i := 10) (oi := { dst := some 15, op := Go.Op.assign (Go.Operand.tmp 57), type := 3, pos := "outright.go:80", after := #[{ on := 6, ground := Go.Ground.data }, { on := 9, ground := Go.Ground.chain }, { on := 0, ground := Go.Ground.phase }, { on := 1, ground := Go.Ground.phase }, { on := 2, ground := Go.Ground.phase }, { on := 3, ground := Go.Ground.phase }, { on := 4, ground := Go.Ground.phase }, { on := 5, ground := Go.Ground.phase }, { on := 6, ground := Go.Ground.phase }, { on := 7, ground := Go.Ground.textOnly Go.Departure.lateStores }, { on := 8, ground := Go.Ground.phase }, { on := 9, ground := Go.Ground.phase }], guard := none }) (v := .int .i64 0) rfl (by kernel_rfl) (by kernel_rfl) (by kernel_rfl) (fun _ _ _ h => by cases h.1) (Or.inl ⟨by rfl, fun W hSw => by (try dsimp only at hSw); go_simp⟩) k4 ?_
      try simp only [Act.put, List.setIfInBounds_toArray, List.set_cons_zero, List.set_cons_succ]
      refine wpAnyH_take (i := 11) (oi := { dst := some 16, op := Go.Op.assign (Go.Operand.tmp 58), type := 3, pos := "outright.go:80", after := #[{ on := 7, ground := Go.Ground.data }, { on := 10, ground := Go.Ground.chain }, { on := 0, ground := Go.Ground.phase }, { on := 1, ground := Go.Ground.phase }, { on := 2, ground := Go.Ground.phase }, { on := 3, ground := Go.Ground.phase }, { on := 4, ground := Go.Ground.phase }, { on := 5, ground := Go.Ground.phase }, { on := 6, ground := Go.Ground.phase }, { on := 7, ground := Go.Ground.phase }, { on := 8, ground := Go.Ground.phase }, { on := 9, ground := Go.Ground.phase }, { on := 10, ground := Go.Ground.phase }], guard := none }) (v := .int .i64 0) rfl (by kernel_rfl) (by kernel_rfl) (by kernel_rfl) (fun _ _ _ h => by cases h.1) (Or.inl ⟨by rfl, fun W hSw => by (try dsimp only at hSw); go_simp⟩) k4 ?_
      try simp only [Act.put, List.setIfInBounds_toArray, List.set_cons_zero, List.set_cons_succ]
      refine wpAnyH_done (by kernel_rfl) ?_ _
      refine id ?_
      exact ⟨rfl, B8, ckb_mk rfl, k4, T4.out, G4.out, HW8.out⟩
  rintro e a y4 ⟨rfl, B14, ⟨u, rfl⟩, hkp, hst, hr8, hw8⟩
  have HTy4 := Lib.hid hst
  have H7y4 := Lib.hid (H7y3.out.kp hkp (by simpa using Row.ne H7y3.out.row HTy3.out.2.1 (by decide)))
  have HBy4 := Lib.hid (Kp.below HBy3.out hkp (by simpa using HG.out))
  have HR14 := Lib.hid hr8
  have HLT14 : Hid (B7 < B14) := Lib.hid (by have := H7y3.out.lt; omega)
  have HW14 : Hid (w.heap.size ≤ B14) := Lib.hid (by have := HB1.out.size; have := HBy3.out.size; omega)
  clear hkp hst hr8 hw8 HSGY HXX HTy3 H7y3
  have c14 : y4.cell? ⟨B14, 7, none⟩ = some (.int .u32 (x : Int)) := HR14.out.cell 7
  have t14 := HR14.out.lt
  have L7 := Lib.hid (run_loadVar_row (P := Tryz.prog) y4 B7 _ 28 _ _ _ H7y4.out Tryz.underlying28 rfl (by kernel_rfl))
  go_wp2_with (refine wpList_valW (by rfl) (exec_load 28 _ rfl ⟨B7, 0, none⟩ rfl L7.out) ?_)
  refine (X4.out A g h y4 HTy4.out (HSG.out.below HBy4.out)).mono ?_
  rintro e x5 ⟨rfl, hst, hk⟩
  have HN714 : Hid (B7 ≠ B14) := Lib.hid (by have := H7y4.out.lt; have := HLT14.out; omega)
  have HB5 := Lib.hid (Kp.below HBy4.out hk (by simpa using HG.out))
  have H75 := Lib.hid (H7y4.out.kp hk (by simpa using Row.ne H7y4.out.row HTy4.out.2.1 (by decide)))
  have HR145 := Lib.hid (HR14.out.kp hk (by simpa using Row.ne HR14.out.row HTy4.out.2.1 (by decide)))
  have HT5 := Lib.hid hst
  clear c14 t14 L7 hst hk HTy4 H7y4 HR14 HBy4
  go_wp2_with fail
  obtain ⟨B17, hB17⟩ : ∃ b, b = x5.heap.size := ⟨_, rfl⟩
  obtain ⟨y5, hy5⟩ : ∃ zz, zz = x5.alloc (.cells #[.int .u32 0, .int .u32 0, .int .u32 (x : Int), .int .u32 (y : Int), .int .u32 0, .int .u32 0, .int .u32 0, .int .u32 0, .int .u32 0, .int .u32 0, .int .u32 0, .int .u32 0, .int .u32 0, .int .u32 0, .int .u32 0, .int .u32 0] 28) := ⟨_, rfl⟩
  have b5 : Below x5.heap.size x5 y5 := by rw [hy5]; exact below_new _ _
  have HT6 := Lib.hid (HT5.out.below b5)
  have H76 := Lib.hid (H75.out.below b5)
  have HR146 := Lib.hid (HR145.out.below b5)
  have HB6 := Lib.hid (bel0 HB5.out b5)
  rw [← hy5, ← hB17]
  clear hy5 hB17 b5 HT5 H75 HR145 HB5
  have HSGY : Hid (∀ W, Below y5.heap.size y5 W → Sg W) := Lib.hid (fun W hb => HSG.out.below (bel0 HB6.out hb))
  by_cases hr : -2147483648 ≤ s ∧ s ≤ 2147483647
  · have HXX := Lib.hid (fun W hs hg => X5.out hr A g h W hs hg)
    refine Code.wp_mono (Q := fun e a W => e = .normal ∧ (∃ u : Nat → Value, a = { tmps := #[.int .u32 (x : Int), .int .u32 (y : Int), u 2, u 3, .bool false, .pointer (some ⟨A, 0, none⟩), u 6, .pointer (some ⟨B7, 0, none⟩), u 8, u 9, u 10, u 11, u 12, u 13, .pointer (some ⟨B14, 0, none⟩), u 15, .int .i64 0, u 17, .int .i64 (ccS s : Int), .int .i64 0, u 20, u 21, u 22, u 23, u 24, u 25, u 26, u 27, u 28, u 29, u 30, u 31, u 32, u 33, u 34, u 35, u 36, u 37, u 38, u 39, u 40, u 41, u 42, u 43, u 44, u 45, u 46, u 47, u 48, u 49, u 50, u 51, u 52, u 53, u 54, u 55, u 56, u 57, u 58, u 59, u 60, u 61, u 62, u 63, u 64, u 65, u 66, u 67, u 68, u 69, u 70, u 71, u 72, u 73, u 74, u 75, u 76, u 77, u 78, u 79, u 80, u 81, u 82, u 83, u 84, u 85, u 86, u 87, u 88, u 89, u 90, u 91, u 92, u 93, u 94, u 95, u 96, u 97, u 98, u 99, u 100, u 101, u 102, u 103, u 104, u 105, u 106, u 107, u 108, u 109, u 110, u 111, u 112, u 113, u 114, u 115, u 116, u 117, u 118, u 119, u 120, u 121, u 122, u 123, u 124, u 125, u 126, u 127, u 128, u 129, u 130, u 131, u 132, u 133, u 134, u 135, u 136, u 137], defers := [] }) ∧ Kp y5 W [g, B14] ∧ Sto W A g h 2048 1 l3 (List.replicate 1 0) ∧ Bx W B14 28 #[.int .u32 0, .int .u32 0, .int .u32 (x : Int), .int .u32 (y : Int), .int .u32 0, .int .u32 0, .int .u32 0, .int .u32 (s % 4294967296), .int .u32 0, .int .u32 0, .int .u32 0, .int .u32 0, .int .u32 0, .int .u32 0, .int .u32 0, .int .u32 0]) ?_ ?_
    rotate_left
    · have HNE7 : Hid (B7 ≠ g ∧ B7 ≠ B14) := Lib.hid ⟨Row.ne H76.out.row HT6.out.2.1 (by decide), HN714.out⟩
      have HSR := Lib.hid (fun (W : World) B xs (h : Bx W B 28 xs) (hx : xs.size = 16) => (show (storeVar 28 ⟨B, 0, none⟩ (.agg #[.int .u32 0, .int .u32 0, .int .u32 (x : Int), .int .u32 (y : Int), .int .u32 0, .int .u32 0, .int .u32 0, .int .u32 (s % 4294967296), .int .u32 0, .int .u32 0, .int .u32 0, .int .u32 0, .int .u32 0, .int .u32 0, .int .u32 0, .int .u32 0])).run Tryz.prog W = .ok () (W.setRow B (regA (upd (R23 x y) 7 (s % 4294967296)))) from store_regs h hx (upd (R23 x y) 7 (s % 4294967296))))
      have t0 := HT6.out.below (bel_drew y5)
      have g0 := HR146.out.below (bel_drew y5)
      refine wp_region_held_drew (S := fun W => Kp y5 W [g, B14]) (by kernel_rfl) (kp_drew y5 _) (fun k0 => ?_)
      obtain ⟨Y0, hY0⟩ : ∃ zz, zz = y5.drew := ⟨_, rfl⟩
      rw [← hY0] at t0 g0 k0 ⊢
      have T00 := Lib.hid t0
      have G00 := Lib.hid g0
      have BY0 : Hid (Below y5.heap.size y5 Y0) := Lib.hid (by rw [hY0]; exact bel_drew y5)
      clear t0 g0 hY0
      show wpAnyH _ _ _ _ _ 10 #[false, false, false, false, false, false, false, false, false, false] _ _
      refine wpAnyH_take (i := 1) (oi := { dst := some 85, op := Go.Op.load 28 (Go.Operand.tmp 7), type := 28, pos := "outright.go:85", after := #[], guard := none }) (v := .agg #[.int .u32 0, .int .u32 0, .int .u32 (x : Int), .int .u32 (y : Int), .int .u32 0, .int .u32 0, .int .u32 0, .int .u32 0, .int .u32 0, .int .u32 0, .int .u32 0, .int .u32 0, .int .u32 0, .int .u32 0, .int .u32 0, .int .u32 0]) rfl (by kernel_rfl) (by kernel_rfl) (by kernel_rfl) (fun _ _ _ h => by cases h.1) (Or.inl ⟨by rfl, fun W hSw => exec_load _ _ rfl _ rfl (run_loadVar_row (P := Tryz.prog) W B7 _ 28 _ _ _ (H76.out.kp hSw (by simpa using HNE7.out)) Tryz.underlying28 rfl (by kernel_rfl))⟩) k0 ?_
      try simp only [Act.put, List.setIfInBounds_toArray, List.set_cons_zero, List.set_cons_succ]
      refine wpAnyH_take (i := 2) (oi := { dst := some 86, op := Go.Op.move (Go.Operand.tmp 5), type := 37, pos := "outright.go:85", after := #[], guard := none }) (v := .pointer (some ⟨A, 0, none⟩)) rfl (by kernel_rfl) (by kernel_rfl) (by kernel_rfl) (fun _ _ _ h => by cases h.1) (Or.inl ⟨by rfl, fun W hSw => by (try dsimp only at hSw); go_simp⟩) k0 ?_
      try simp only [Act.put, List.setIfInBounds_toArray, List.set_cons_zero, List.set_cons_succ]
      refine wpAnyH_ready (rs := [0]) (by kernel_rfl) (by simp) ?_
      refine AllReadyH.cons (o := { dst := some 84, op := Go.Op.call { callee := Go.Callee.value (Go.Operand.func 26), args := #[Go.Operand.const (Go.Value.int Go.IntKind.i64 7), Go.Operand.const (Go.Value.int Go.IntKind.i64 64)], argTypes := #[3, 3] }, type := 25, pos := "outright.go:85", after := #[], guard := none }) rfl (fun K hK => ?_) AllReadyH.nil
      go_simp
      go_at_call 26
      refine (cvb_any 7 64 Y0).mono ?_
      rintro e Y1 ⟨rfl, hb1⟩
      have T1 := Lib.hid (T00.out.below hb1)
      have G1 := Lib.hid (G00.out.below hb1)
      have KK1 : Hid (Kp y5 Y1 [g, B14]) := Lib.hid (k0.trans (Kp.bel hb1))
      have SG1 : Hid (Sg Y1) := Lib.hid (HSGY.out Y1 (bel0 BY0.out hb1))
      clear hb1
      go_wp2_with fail
      refine hK.out _ _ KK1.out (fun k1 => ?_)
      clear hK K
      try simp only [List.setIfInBounds_toArray, List.set_cons_zero]
      refine wpAnyH_ready (rs := [3]) (by kernel_rfl) (by simp) ?_
      refine AllReadyH.cons (o := { dst := some 87, op := Go.Op.call { callee := Go.Callee.value (Go.Operand.func 24), args := #[Go.Operand.tmp 84, Go.Operand.tmp 85, Go.Operand.tmp 86], argTypes := #[25, 28, 37] }, type := 57, pos := "outright.go:85", after := #[{ on := 0, ground := Go.Ground.data }, { on := 1, ground := Go.Ground.data }, { on := 2, ground := Go.Ground.data }, { on := 0, ground := Go.Ground.chain }], guard := none }) rfl (fun K hK => ?_) AllReadyH.nil
      go_simp
      go_at_call 24
      refine (HXX.out Y1 T1.out SG1.out).mono ?_
      rintro e Y2 ⟨rfl, hs, hk⟩
      have G2 := Lib.hid (G1.out.kp hk (by simpa using Row.ne G1.out.row T1.out.2.1 (by decide)))
      have T2 := Lib.hid hs
      have KK2 : Hid (Kp y5 Y2 [g, B14]) := Lib.hid (k1.trans (kp_more hk))
      clear hs hk
      go_wp2_with fail
      refine hK.out _ _ KK2.out (fun k2 => ?_)
      clear hK K
      try simp only [List.setIfInBounds_toArray, List.set_cons_zero, List.set_cons_succ]
      refine wpAnyH_take (i := 4) (oi := { dst := some 83, op := Go.Op.move (Go.Operand.tmp 87), type := 57, pos := "outright.go:85", after := #[{ on := 3, ground := Go.Ground.data }], guard := none }) (v := .tuple #[.agg #[.int .u32 0, .int .u32 0, .int .u32 (x : Int), .int .u32 (y : Int), .int .u32 0, .int .u32 0, .int .u32 0, .int .u32 (s % 4294967296), .int .u32 0, .int .u32 0, .int .u32 0, .int .u32 0, .int .u32 0, .int .u32 0, .int .u32 0, .int .u32 0], .int .i64 0, .int .i64 0]) rfl (by kernel_rfl) (by kernel_rfl) (by kernel_rfl) (fun _ _ _ h => by cases h.1) (Or.inl ⟨by rfl, fun W hSw => by (try dsimp only at hSw); go_simp⟩) k2 ?_
      try simp only [Act.put, List.setIfInBounds_toArray, List.set_cons_zero, List.set_cons_succ]
      refine wpAnyH_take (i := 5) (oi := { dst := some 88, op := Go.Op.extract (Go.Operand.tmp 83) 0, type := 28, pos := "outright.go:85", after := #[{ on := 4, ground := Go.Ground.data }], guard := none }) (v := .agg #[.int .u32 0, .int .u32 0, .int .u32 (x : Int), .int .u32 (y : Int), .int .u32 0, .int .u32 0, .int .u32 0, .int .u32 (s % 4294967296), .int .u32 0, .int .u32 0, .int .u32 0, .int .u32 0, .int .u32 0, .int .u32 0, .int .u32 0, .int .u32 0]) rfl (by kernel_rfl) (by kernel_rfl) (by kernel_rfl) (fun _ _ _ h => by cases h.1) (Or.inl ⟨by rfl, fun W hSw => by (try dsimp only at hSw); go_simp⟩) k2 ?_
      try simp only [Act.put, List.setIfInBounds_toArray, List.set_cons_zero, List.set_cons_succ]
      refine wpAnyH_take (i := 6) (oi := { dst := some 89, op := Go.Op.extract (Go.Operand.tmp 83) 1, type := 3, pos := "outright.go:85", after := #[{ on := 4, ground := Go.Ground.data }, { on := 8, ground := Go.Ground.gcOnly Go.Departure.lateStores }], guard := none }) (v := .int .i64 0) rfl (by kernel_rfl) (by kernel_rfl) (by kernel_rfl) (fun _ _ _ h => by cases h.1) (Or.inl ⟨by rfl, fun W hSw => by (try dsimp only at hSw); go_simp⟩) k2 ?_
      try simp only [Act.put, List.setIfInBounds_toArray, List.set_cons_zero, List.set_cons_succ]
      refine wpAnyH_take (i := 7) (oi := { dst := some 90, op := Go.Op.extract (Go.Operand.tmp 83) 2, type := 3, pos := "outright.go:85", after := #[{ on := 4, ground := Go.Ground.data }, { on := 8, ground := Go.Ground.gcOnly Go.Departure.lateStores }], guard := none }) (v := .int .i64 0) rfl (by kernel_rfl) (by kernel_rfl) (by kernel_rfl) (fun _ _ _ h => by cases h.1) (Or.inl ⟨by rfl, fun W hSw => by (try dsimp only at hSw); go_simp⟩) k2 ?_
      try simp only [Act.put, List.setIfInBounds_toArray, List.set_cons_zero, List.set_cons_succ]
      refine wpAnyH_ready (rs := [8]) (by kernel_rfl) (by simp) ?_
      refine AllReadyH.cons (o := { dst := none, op := Go.Op.store 28 (Go.Operand.tmp 14) (Go.Operand.tmp 88), type := 0, pos := "outright.go:85", after := #[{ on := 5, ground := Go.Ground.data }, { on := 3, ground := Go.Ground.chain }, { on := 0, ground := Go.Ground.phase }, { on := 1, ground := Go.Ground.phase }, { on := 2, ground := Go.Ground.phase }, { on := 3, ground := Go.Ground.phase }, { on := 4, ground := Go.Ground.phase }, { on := 5, ground := Go.Ground.phase }, { on := 6, ground := Go.Ground.textOnly Go.Departure.lateStores }, { on := 7, ground := Go.Ground.textOnly Go.Departure.lateStores }], guard := none }) rfl (fun K hK => ?_) AllReadyH.nil
      rw [if_pos (by rfl)]
      refine op_store _ _ _ rfl _ rfl _ rfl (HSR.out _ _ _ G2.out rfl) ?_
      obtain ⟨Y3, hY3⟩ : ∃ zz, zz = Y2.setRow B14 (regA (upd (R23 x y) 7 (s % 4294967296))) := ⟨_, rfl⟩
      rw [← hY3]
      have T3 := Lib.hid (show Sto Y3 _ _ _ _ _ _ _ by rw [hY3]; exact sto_row T2.out B14 _ ⟨Row.ne G2.out.row (Bx.row T2.out.1) (by decide), Row.ne G2.out.row T2.out.2.1 (by decide), Row.ne G2.out.row T2.out.2.2.1 (by decide)⟩)
      have G3 : Hid (Bx Y3 B14 28 #[.int .u32 0, .int .u32 0, .int .u32 (x : Int), .int .u32 (y : Int), .int .u32 0, .int .u32 0, .int .u32 0, .int .u32 (s % 4294967296), .int .u32 0, .int .u32 0, .int .u32 0, .int .u32 0, .int .u32 0, .int .u32 0, .int .u32 0, .int .u32 0]) := Lib.hid (by rw [hY3]; exact bx_row3 G2.out _)
      have KK3 : Hid (Kp y5 Y3 [g, B14]) := Lib.hid (by rw [hY3]; exact kp_rowIn k2 (by simp) _)
      clear hY3
      refine hK.out _ _ KK3.out (fun k3 => ?_)
      clear hK K
      try simp only [List.setIfInBounds_toArray, List.set_cons_zero, List.set_cons_succ]
      refine wpAnyH_take (i := 9) (oi := { dst := some 16, op := Go.Op.assign (Go.Operand.tmp 90), type := 3, pos := "outright.go:85", after := #[{ on := 7, ground := Go.Ground.data }, { on := 8, ground := Go.Ground.chain }, { on := 0, ground := Go.Ground.phase }, { on := 1, ground := Go.Ground.phase }, { on := 2, ground := Go.Ground.phase }, { on := 3, ground := Go.Ground.phase }, { on := 4, ground := Go.Ground.phase }, { on := 5, ground := Go.Ground.phase }, { on := 6, ground := Go.Ground.phase }, { on := 7, ground := Go.Ground.phase }, { on := 8, ground := Go.Ground.phase }], guard := none }) (v := .int .i64 0) rfl (by kernel_rfl) (by kernel_rfl) (by kernel_rfl) (fun _ _ _ h => by cases h.1) (Or.inl ⟨by rfl, fun W hSw => by (try dsimp only at hSw); go_simp⟩) k3 ?_
      try simp only [Act.put, List.setIfInBounds_toArray, List.set_cons_zero, List.set_cons_succ]
      refine wpAnyH_done (by kernel_rfl) ?_ _
      refine id ?_
      exact ⟨rfl, ckb_mk rfl, k3, T3.out, G3.out⟩
    rintro e a z9 ⟨rfl, ⟨u, rfl⟩, hkp, hst, hr14⟩
    have HT9 := Lib.hid hst
    have HG9 := Lib.hid hr14
    have H79 := Lib.hid (H76.out.kp hkp (by simpa using ⟨Row.ne H76.out.row HT6.out.2.1 (by decide), HN714.out⟩))
    have HB9 : Hid (Below w.heap.size w z9) := Lib.hid (Kp.below HB6.out hkp (by have h1 := HG.out; have h2 := HW14.out; intro b hb; simp at hb; omega))
    clear hkp hst hr14 HSGY HXX HT6 H76 HR146 HB6 X1 X2 X3 X4 X5 X6
    rcases (by omega : s < 0 ∨ s = 0 ∨ 0 < s) with hsg | hsg | hsg
    · have w1 := HS5.out.2.2.2.1
      have w2 := HS5.out.2.2.2.2
      have sx := HS5.out.2.1
      have sy := HS5.out.2.2.1
      have hs := HS5.out.1
      have hcc : (ccS s : Int) = 1 := by
        unfold ccS
        rw [if_neg (by omega), if_pos hsg]
        rfl
      rw [hcc]
      clear hcc HS5
      generalize sV x = u1 at *
      generalize sV y = u2 at *
      have c14 : z9.cell? ⟨B14, 7, none⟩ = some (.int .u32 (s % 4294967296)) := HG9.out.cell 7
      have t14 := HG9.out.lt
      have w3 : wrap32 (s % 4294967296) = s := by unfold wrap32; omega
      subst hs
      have n1 : ¬ (u1 + u2 < -2147483648) := by omega
      have n2 : ¬ (2147483647 < u1 + u2) := by omega
      have m1 : u1 + u2 < 0 := hsg
      have m2 : ¬ (0 < u1 + u2) := by omega
      clear hr hsg HT9
      go_wp2_with fail
      refine (works_any z9 (HSG.out.below HB9.out)).mono ?_
      rintro e z10 ⟨rfl, hb⟩
      have HB10 := Lib.hid (bel0 HB9.out hb)
      clear hb
      go_wp2
      go_ret
      exact ⟨rfl, HB10.out⟩
    · have w1 := HS5.out.2.2.2.1
      have w2 := HS5.out.2.2.2.2
      have sx := HS5.out.2.1
      have sy := HS5.out.2.2.1
      have hs := HS5.out.1
      have hcc : (ccS s : Int) = 0 := by
        unfold ccS
        rw [if_pos hsg]
        rfl
      rw [hcc]
      clear hcc HS5
      generalize sV x = u1 at *
      generalize sV y = u2 at *
      have c14 : z9.cell? ⟨B14, 7, none⟩ = some (.int .u32 (s % 4294967296)) := HG9.out.cell 7
      have t14 := HG9.out.lt
      have w3 : wrap32 (s % 4294967296) = s := by unfold wrap32; omega
      subst hs
      have n1 : ¬ (u1 + u2 < -2147483648) := by omega
      have n2 : ¬ (2147483647 < u1 + u2) := by omega
      have m1 : ¬ (u1 + u2 < 0) := by omega
      have m2 : ¬ (0 < u1 + u2) := by omega
      clear hr hsg HT9
      go_wp2_with fail
      refine (works_any z9 (HSG.out.below HB9.out)).mono ?_
      rintro e z10 ⟨rfl, hb⟩
      have HB10 := Lib.hid (bel0 HB9.out hb)
      clear hb
      go_wp2
      go_ret
      exact ⟨rfl, HB10.out⟩
    · have w1 := HS5.out.2.2.2.1
      have w2 := HS5.out.2.2.2.2
      have sx := HS5.out.2.1
      have sy := HS5.out.2.2.1
      have hs := HS5.out.1
      have hcc : (ccS s : Int) = 2 := by
        unfold ccS
        rw [if_neg (by omega), if_neg (by omega)]
        rfl
      rw [hcc]
      clear hcc HS5
      generalize sV x = u1 at *
      generalize sV y = u2 at *
      have c14 : z9.cell? ⟨B14, 7, none⟩ = some (.int .u32 (s % 4294967296)) := HG9.out.cell 7
      have t14 := HG9.out.lt
      have w3 : wrap32 (s % 4294967296) = s := by unfold wrap32; omega
      subst hs
      have n1 : ¬ (u1 + u2 < -2147483648) := by omega
      have n2 : ¬ (2147483647 < u1 + u2) := by omega
      have m1 : ¬ (u1 + u2 < 0) := by omega
      have m2 : 0 < u1 + u2 := hsg
      clear hr hsg HT9
      go_wp2_with fail
      refine (works_any z9 (HSG.out.below HB9.out)).mono ?_
      rintro e z10 ⟨rfl, hb⟩
      have HB10 := Lib.hid (bel0 HB9.out hb)
      clear hb
      go_wp2
      go_ret
      exact ⟨rfl, HB10.out⟩
  · have HXX := Lib.hid (fun W hs hg => X6.out hr A g h W hs hg)
    refine Code.wp_mono (Q := fun e a W => e = .normal ∧ (∃ u : Nat → Value, a = { tmps := #[.int .u32 (x : Int), .int .u32 (y : Int), u 2, u 3, .bool false, .pointer (some ⟨A, 0, none⟩), u 6, .pointer (some ⟨B7, 0, none⟩), u 8, u 9, u 10, u 11, u 12, u 13, .pointer (some ⟨B14, 0, none⟩), u 15, .int .i64 9, u 17, .int .i64 (ccS s : Int), .int .i64 0, u 20, u 21, u 22, u 23, u 24, u 25, u 26, u 27, u 28, u 29, u 30, u 31, u 32, u 33, u 34, u 35, u 36, u 37, u 38, u 39, u 40, u 41, u 42, u 43, u 44, u 45, u 46, u 47, u 48, u 49, u 50, u 51, u 52, u 53, u 54, u 55, u 56, u 57, u 58, u 59, u 60, u 61, u 62, u 63, u 64, u 65, u 66, u 67, u 68, u 69, u 70, u 71, u 72, u 73, u 74, u 75, u 76, u 77, u 78, u 79, u 80, u 81, u 82, u 83, u 84, u 85, u 86, u 87, u 88, u 89, u 90, u 91, u 92, u 93, u 94, u 95, u 96, u 97, u 98, u 99, u 100, u 101, u 102, u 103, u 104, u 105, u 106, u 107, u 108, u 109, u 110, u 111, u 112, u 113, u 114, u 115, u 116, u 117, u 118, u 119, u 120, u 121, u 122, u 123, u 124, u 125, u 126, u 127, u 128, u 129, u 130, u 131, u 132, u 133, u 134, u 135, u 136, u 137], defers := [] }) ∧ Kp y5 W [g, B14] ∧ Sto W A g h 2048 1 l3 (List.replicate 1 0) ∧ Bx W B14 28 #[.int .u32 0, .int .u32 0, .int .u32 (x : Int), .int .u32 (y : Int), .int .u32 0, .int .u32 0, .int .u32 0, .int .u32 0, .int .u32 0, .int .u32 0, .int .u32 0, .int .u32 0, .int .u32 0, .int .u32 0, .int .u32 0, .int .u32 0]) ?_ ?_
    rotate_left
    · have HNE7 : Hid (B7 ≠ g ∧ B7 ≠ B14) := Lib.hid ⟨Row.ne H76.out.row HT6.out.2.1 (by decide), HN714.out⟩
      have HSR := Lib.hid (fun (W : World) B xs (h : Bx W B 28 xs) (hx : xs.size = 16) => (show (storeVar 28 ⟨B, 0, none⟩ (.agg #[.int .u32 0, .int .u32 0, .int .u32 (x : Int), .int .u32 (y : Int), .int .u32 0, .int .u32 0, .int .u32 0, .int .u32 0, .int .u32 0, .int .u32 0, .int .u32 0, .int .u32 0, .int .u32 0, .int .u32 0, .int .u32 0, .int .u32 0])).run Tryz.prog W = .ok () (W.setRow B (regA (R23 x y))) from store_regs h hx (R23 x y)))
      have t0 := HT6.out.below (bel_drew y5)
      have g0 := HR146.out.below (bel_drew y5)
      refine wp_region_held_drew (S := fun W => Kp y5 W [g, B14]) (by kernel_rfl) (kp_drew y5 _) (fun k0 => ?_)
      obtain ⟨Y0, hY0⟩ : ∃ zz, zz = y5.drew := ⟨_, rfl⟩
      rw [← hY0] at t0 g0 k0 ⊢
      have T00 := Lib.hid t0
      have G00 := Lib.hid g0
      have BY0 : Hid (Below y5.heap.size y5 Y0) := Lib.hid (by rw [hY0]; exact bel_drew y5)
      clear t0 g0 hY0
      show wpAnyH _ _ _ _ _ 10 #[false, false, false, false, false, false, false, false, false, false] _ _
      refine wpAnyH_take (i := 1) (oi := { dst := some 85, op := Go.Op.load 28 (Go.Operand.tmp 7), type := 28, pos := "outright.go:85", after := #[], guard := none }) (v := .agg #[.int .u32 0, .int .u32 0, .int .u32 (x : Int), .int .u32 (y : Int), .int .u32 0, .int .u32 0, .int .u32 0, .int .u32 0, .int .u32 0, .int .u32 0, .int .u32 0, .int .u32 0, .int .u32 0, .int .u32 0, .int .u32 0, .int .u32 0]) rfl (by kernel_rfl) (by kernel_rfl) (by kernel_rfl) (fun _ _ _ h => by cases h.1) (Or.inl ⟨by rfl, fun W hSw => exec_load _ _ rfl _ rfl (run_loadVar_row (P := Tryz.prog) W B7 _ 28 _ _ _ (H76.out.kp hSw (by simpa using HNE7.out)) Tryz.underlying28 rfl (by kernel_rfl))⟩) k0 ?_
      try simp only [Act.put, List.setIfInBounds_toArray, List.set_cons_zero, List.set_cons_succ]
      refine wpAnyH_take (i := 2) (oi := { dst := some 86, op := Go.Op.move (Go.Operand.tmp 5), type := 37, pos := "outright.go:85", after := #[], guard := none }) (v := .pointer (some ⟨A, 0, none⟩)) rfl (by kernel_rfl) (by kernel_rfl) (by kernel_rfl) (fun _ _ _ h => by cases h.1) (Or.inl ⟨by rfl, fun W hSw => by (try dsimp only at hSw); go_simp⟩) k0 ?_
      try simp only [Act.put, List.setIfInBounds_toArray, List.set_cons_zero, List.set_cons_succ]
      refine wpAnyH_ready (rs := [0]) (by kernel_rfl) (by simp) ?_
      refine AllReadyH.cons (o := { dst := some 84, op := Go.Op.call { callee := Go.Callee.value (Go.Operand.func 26), args := #[Go.Operand.const (Go.Value.int Go.IntKind.i64 7), Go.Operand.const (Go.Value.int Go.IntKind.i64 64)], argTypes := #[3, 3] }, type := 25, pos := "outright.go:85", after := #[], guard := none }) rfl (fun K hK => ?_) AllReadyH.nil
      go_simp
      go_at_call 26
      refine (cvb_any 7 64 Y0).mono ?_
      rintro e Y1 ⟨rfl, hb1⟩
      have T1 := Lib.hid (T00.out.below hb1)
      have G1 := Lib.hid (G00.out.below hb1)
      have KK1 : Hid (Kp y5 Y1 [g, B14]) := Lib.hid (k0.trans (Kp.bel hb1))
      have SG1 : Hid (Sg Y1) := Lib.hid (HSGY.out Y1 (bel0 BY0.out hb1))
      clear hb1
      go_wp2_with fail
      refine hK.out _ _ KK1.out (fun k1 => ?_)
      clear hK K
      try simp only [List.setIfInBounds_toArray, List.set_cons_zero]
      refine wpAnyH_ready (rs := [3]) (by kernel_rfl) (by simp) ?_
      refine AllReadyH.cons (o := { dst := some 87, op := Go.Op.call { callee := Go.Callee.value (Go.Operand.func 24), args := #[Go.Operand.tmp 84, Go.Operand.tmp 85, Go.Operand.tmp 86], argTypes := #[25, 28, 37] }, type := 57, pos := "outright.go:85", after := #[{ on := 0, ground := Go.Ground.data }, { on := 1, ground := Go.Ground.data }, { on := 2, ground := Go.Ground.data }, { on := 0, ground := Go.Ground.chain }], guard := none }) rfl (fun K hK => ?_) AllReadyH.nil
      go_simp
      go_at_call 24
      refine (HXX.out Y1 T1.out SG1.out).mono ?_
      rintro e Y2 ⟨rfl, hs, hk⟩
      have G2 := Lib.hid (G1.out.kp hk (by simpa using Row.ne G1.out.row T1.out.2.1 (by decide)))
      have T2 := Lib.hid hs
      have KK2 : Hid (Kp y5 Y2 [g, B14]) := Lib.hid (k1.trans (kp_more hk))
      clear hs hk
      go_wp2_with fail
      refine hK.out _ _ KK2.out (fun k2 => ?_)
      clear hK K
      try simp only [List.setIfInBounds_toArray, List.set_cons_zero, List.set_cons_succ]
      refine wpAnyH_take (i := 4) (oi := { dst := some 83, op := Go.Op.move (Go.Operand.tmp 87), type := 57, pos := "outright.go:85", after := #[{ on := 3, ground := Go.Ground.data }], guard := none }) (v := .tuple #[.agg #[.int .u32 0, .int .u32 0, .int .u32 (x : Int), .int .u32 (y : Int), .int .u32 0, .int .u32 0, .int .u32 0, .int .u32 0, .int .u32 0, .int .u32 0, .int .u32 0, .int .u32 0, .int .u32 0, .int .u32 0, .int .u32 0, .int .u32 0], .int .i64 0, .int .i64 9]) rfl (by kernel_rfl) (by kernel_rfl) (by kernel_rfl) (fun _ _ _ h => by cases h.1) (Or.inl ⟨by rfl, fun W hSw => by (try dsimp only at hSw); go_simp⟩) k2 ?_
      try simp only [Act.put, List.setIfInBounds_toArray, List.set_cons_zero, List.set_cons_succ]
      refine wpAnyH_take (i := 5) (oi := { dst := some 88, op := Go.Op.extract (Go.Operand.tmp 83) 0, type := 28, pos := "outright.go:85", after := #[{ on := 4, ground := Go.Ground.data }], guard := none }) (v := .agg #[.int .u32 0, .int .u32 0, .int .u32 (x : Int), .int .u32 (y : Int), .int .u32 0, .int .u32 0, .int .u32 0, .int .u32 0, .int .u32 0, .int .u32 0, .int .u32 0, .int .u32 0, .int .u32 0, .int .u32 0, .int .u32 0, .int .u32 0]) rfl (by kernel_rfl) (by kernel_rfl) (by kernel_rfl) (fun _ _ _ h => by cases h.1) (Or.inl ⟨by rfl, fun W hSw => by (try dsimp only at hSw); go_simp⟩) k2 ?_
      try simp only [Act.put, List.setIfInBounds_toArray, List.set_cons_zero, List.set_cons_succ]
      refine wpAnyH_take (i := 6) (oi := { dst := some 89, op := Go.Op.extract (Go.Operand.tmp 83) 1, type := 3, pos := "outright.go:85", after := #[{ on := 4, ground := Go.Ground.data }, { on := 8, ground := Go.Ground.gcOnly Go.Departure.lateStores }], guard := none }) (v := .int .i64 0) rfl (by kernel_rfl) (by kernel_rfl) (by kernel_rfl) (fun _ _ _ h => by cases h.1) (Or.inl ⟨by rfl, fun W hSw => by (try dsimp only at hSw); go_simp⟩) k2 ?_
      try simp only [Act.put, List.setIfInBounds_toArray, List.set_cons_zero, List.set_cons_succ]
      refine wpAnyH_take (i := 7) (oi := { dst := some 90, op := Go.Op.extract (Go.Operand.tmp 83) 2, type := 3, pos := "outright.go:85", after := #[{ on := 4, ground := Go.Ground.data }, { on := 8, ground := Go.Ground.gcOnly Go.Departure.lateStores }], guard := none }) (v := .int .i64 9) rfl (by kernel_rfl) (by kernel_rfl) (by kernel_rfl) (fun _ _ _ h => by cases h.1) (Or.inl ⟨by rfl, fun W hSw => by (try dsimp only at hSw); go_simp⟩) k2 ?_
      try simp only [Act.put, List.setIfInBounds_toArray, List.set_cons_zero, List.set_cons_succ]
      refine wpAnyH_ready (rs := [8]) (by kernel_rfl) (by simp) ?_
      refine AllReadyH.cons (o := { dst := none, op := Go.Op.store 28 (Go.Operand.tmp 14) (Go.Operand.tmp 88), type := 0, pos := "outright.go:85", after := #[{ on := 5, ground := Go.Ground.data }, { on := 3, ground := Go.Ground.chain }, { on := 0, ground := Go.Ground.phase }, { on := 1, ground := Go.Ground.phase }, { on := 2, ground := Go.Ground.phase }, { on := 3, ground := Go.Ground.phase }, { on := 4, ground := Go.Ground.phase }, { on := 5, ground := Go.Ground.phase }, { on := 6, ground := Go.Ground.textOnly Go.Departure.lateStores }, { on := 7, ground := Go.Ground.textOnly Go.Departure.lateStores }], guard := none }) rfl (fun K hK => ?_) AllReadyH.nil
      rw [if_pos (by rfl)]
      refine op_store _ _ _ rfl _ rfl _ rfl (HSR.out _ _ _ G2.out rfl) ?_
      obtain ⟨Y3, hY3⟩ : ∃ zz, zz = Y2.setRow B14 (regA (R23 x y)) := ⟨_, rfl⟩
      rw [← hY3]
      have T3 := Lib.hid (show Sto Y3 _ _ _ _ _ _ _ by rw [hY3]; exact sto_row T2.out B14 _ ⟨Row.ne G2.out.row (Bx.row T2.out.1) (by decide), Row.ne G2.out.row T2.out.2.1 (by decide), Row.ne G2.out.row T2.out.2.2.1 (by decide)⟩)
      have G3 : Hid (Bx Y3 B14 28 #[.int .u32 0, .int .u32 0, .int .u32 (x : Int), .int .u32 (y : Int), .int .u32 0, .int .u32 0, .int .u32 0, .int .u32 0, .int .u32 0, .int .u32 0, .int .u32 0, .int .u32 0, .int .u32 0, .int .u32 0, .int .u32 0, .int .u32 0]) := Lib.hid (by rw [hY3]; exact bx_row3 G2.out _)
      have KK3 : Hid (Kp y5 Y3 [g, B14]) := Lib.hid (by rw [hY3]; exact kp_rowIn k2 (by simp) _)
      clear hY3
      refine hK.out _ _ KK3.out (fun k3 => ?_)
      clear hK K
      try simp only [List.setIfInBounds_toArray, List.set_cons_zero, List.set_cons_succ]
      refine wpAnyH_take (i := 9) (oi := { dst := some 16, op := Go.Op.assign (Go.Operand.tmp 90), type := 3, pos := "outright.go:85", after := #[{ on := 7, ground := Go.Ground.data }, { on := 8, ground := Go.Ground.chain }, { on := 0, ground := Go.Ground.phase }, { on := 1, ground := Go.Ground.phase }, { on := 2, ground := Go.Ground.phase }, { on := 3, ground := Go.Ground.phase }, { on := 4, ground := Go.Ground.phase }, { on := 5, ground := Go.Ground.phase }, { on := 6, ground := Go.Ground.phase }, { on := 7, ground := Go.Ground.phase }, { on := 8, ground := Go.Ground.phase }], guard := none }) (v := .int .i64 9) rfl (by kernel_rfl) (by kernel_rfl) (by kernel_rfl) (fun _ _ _ h => by cases h.1) (Or.inl ⟨by rfl, fun W hSw => by (try dsimp only at hSw); go_simp⟩) k3 ?_
      try simp only [Act.put, List.setIfInBounds_toArray, List.set_cons_zero, List.set_cons_succ]
      refine wpAnyH_done (by kernel_rfl) ?_ _
      refine id ?_
      exact ⟨rfl, ckb_mk rfl, k3, T3.out, G3.out⟩
    rintro e a z9 ⟨rfl, ⟨u, rfl⟩, hkp, hst, hr14⟩
    have HT9 := Lib.hid hst
    have HG9 := Lib.hid hr14
    have H79 := Lib.hid (H76.out.kp hkp (by simpa using ⟨Row.ne H76.out.row HT6.out.2.1 (by decide), HN714.out⟩))
    have HB9 : Hid (Below w.heap.size w z9) := Lib.hid (Kp.below HB6.out hkp (by have h1 := HG.out; have h2 := HW14.out; intro b hb; simp at hb; omega))
    clear hkp hst hr14 HSGY HXX HT6 H76 HR146 HB6 X1 X2 X3 X4 X5 X6
    rcases (by omega : s < 0 ∨ 0 < s) with hsg | hsg
    · have w1 := HS5.out.2.2.2.1
      have w2 := HS5.out.2.2.2.2
      have sx := HS5.out.2.1
      have sy := HS5.out.2.2.1
      have hs := HS5.out.1
      have hcc : (ccS s : Int) = 1 := by
        unfold ccS
        rw [if_neg (by omega), if_pos hsg]
        rfl
      rw [hcc]
      clear hcc HS5
      generalize sV x = u1 at *
      generalize sV y = u2 at *
      have L7 := Lib.hid (run_loadVar_row (P := Tryz.prog) z9 B7 _ 28 _ _ _ H79.out Tryz.underlying28 rfl (by kernel_rfl))
      have L14 := Lib.hid (run_loadVar_row (P := Tryz.prog) z9 B14 _ 28 _ _ _ HG9.out Tryz.underlying28 rfl (by kernel_rfl))
      subst hs
      have m1 : u1 + u2 < 0 := hsg
      have m2 : ¬ (0 < u1 + u2) := by omega
      have n1 : u1 + u2 < -2147483648 := by omega
      clear hr hsg HT9
      go_wp2_with (first | (refine wpList_valW (by rfl) (exec_load 28 _ rfl ⟨B14, 0, none⟩ rfl L14.out) ?_) | (refine wpList_valW (by rfl) (exec_load 28 _ rfl ⟨B7, 0, none⟩ rfl L7.out) ?_))
      refine (works_any z9 (HSG.out.below HB9.out)).mono ?_
      rintro e z10 ⟨rfl, hb⟩
      have HB10 := Lib.hid (bel0 HB9.out hb)
      clear hb
      go_wp2
      go_ret
      exact ⟨rfl, HB10.out⟩
    · have w1 := HS5.out.2.2.2.1
      have w2 := HS5.out.2.2.2.2
      have sx := HS5.out.2.1
      have sy := HS5.out.2.2.1
      have hs := HS5.out.1
      have hcc : (ccS s : Int) = 2 := by
        unfold ccS
        rw [if_neg (by omega), if_neg (by omega)]
        rfl
      rw [hcc]
      clear hcc HS5
      generalize sV x = u1 at *
      generalize sV y = u2 at *
      have L7 := Lib.hid (run_loadVar_row (P := Tryz.prog) z9 B7 _ 28 _ _ _ H79.out Tryz.underlying28 rfl (by kernel_rfl))
      have L14 := Lib.hid (run_loadVar_row (P := Tryz.prog) z9 B14 _ 28 _ _ _ HG9.out Tryz.underlying28 rfl (by kernel_rfl))
      subst hs
      have m1 : ¬ (u1 + u2 < 0) := by omega
      have m2 : 0 < u1 + u2 := hsg
      have n1 : ¬ (u1 + u2 < -2147483648) := by omega
      have n2 : 2147483647 < u1 + u2 := by omega
      clear hr hsg HT9
      go_wp2_with (first | (refine wpList_valW (by rfl) (exec_load 28 _ rfl ⟨B14, 0, none⟩ rfl L14.out) ?_) | (refine wpList_valW (by rfl) (exec_load 28 _ rfl ⟨B7, 0, none⟩ rfl L7.out) ?_))
      refine (works_any z9 (HSG.out.below HB9.out)).mono ?_
      rintro e z10 ⟨rfl, hb⟩
      have HB10 := Lib.hid (bel0 HB9.out hb)
      clear hb
      go_wp2
      go_ret
      exact ⟨rfl, HB10.out⟩
theorem wk_sums (a b : Int) (w : World) (ha : 0 ≤ a ∧ a < 4294967296) (hb : 0 ≤ b ∧ b < 4294967296) (hsg : Sg w) : Calls Tryz.prog 8 #[.int .u32 a, .int .u32 b] w (New w (.bool true)) := by
  obtain ⟨x, rfl⟩ : ∃ x : Nat, a = x := ⟨a.toNat, by omega⟩
  obtain ⟨y, rfl⟩ : ∃ y : Nat, b = y := ⟨b.toNat, by omega⟩
  exact sums_core x y (by omega) (by omega) w hsg

end M
end Go.Proofs.YtbcncohjjnmdcaaGreatDoor

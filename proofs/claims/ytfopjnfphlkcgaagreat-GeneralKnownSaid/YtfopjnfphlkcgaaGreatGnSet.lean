/- Small contracts of the program: what sets registers, the condition code and the code. -/
import Derived.Test.YtfopjnfphlkcgaaGreatRows
import Derived.Test.YtfopjnfphlkcgaaGreatGnMem
namespace Go.Proofs.YtfopjnfphlkcgaaGreat
namespace E
end E
open Go.RowKit Go.Shelf E
set_option linter.unusedVariables false
namespace M

/-- The ending of a call that stops with a code. -/
def Stop (c : Int) : Ending := .panicked [{ v := .iface 3 (.int .i64 c), recovered := false }]
theorem require_yes (c : Int) (w : World) : Calls Tryz.prog 142 #[.bool true, .int .i64 c] w fun e w' => e = .returned (.tuple #[]) ∧ w = w' := by
  go_enter Tryz.func142, Tryz.ntmps142
  go_wp2
  go_end0
  exact ⟨rfl, rfl⟩
theorem require_no (c : Int) (w : World) : Calls Tryz.prog 142 #[.bool false, .int .i64 c] w fun e w' => e = Stop c ∧ w = w' := by
  go_enter Tryz.func142, Tryz.ntmps142
  go_wp2
  exact ⟨rfl, rfl, rfl⟩
theorem bel_drew (w : World) : Below w.heap.size w w.drew := (Below.refl _ _).drew
theorem Ex.drew {w : World} {E A : Nat} {q : Qn} {R : Nat → Int} {p : Psw} {c : Int} (h : Ex w E A q R p c) : Ex w.drew E A q R p c := h.below (bel_drew w)
theorem kp_drew (w : World) (l : List Nat) : Kp w w.drew l := Kp.bel (bel_drew w)
/-- What a call leaves that turns the execution alone. -/
def Did (w : World) (E A : Nat) (q : Qn) (R : Nat → Int) (p : Psw) (c : Int) (e : Ending) (w' : World) : Prop := e = .returned (.tuple #[]) ∧ Ex w' E A q R p c ∧ Kp w w' [E]
set_option maxRecDepth 100000 in
theorem set_raw (E A : Nat) (q : Qn) (R : Nat → Int) (p : Psw) (c : Int) (v : Int) (w : World) (h : Ex w E A q R p c) (hr : q.r1 < 16) : Calls Tryz.prog 123 #[.pointer (some ⟨E, 0, none⟩), .int .u32 v] w fun e w' => e = .returned (.tuple #[]) ∧ w' = w.drew.setCell ⟨E, 12 + q.r1, none⟩ (.int .u32 v) := by
  have c2 := h.r1
  have fz := h.fz (12 + q.r1)
  have cr := h.reg hr
  generalize R q.r1 = x at cr
  generalize q.r1 = n at c2 fz hr cr ⊢
  have hn : (n : Int) < 16 := by omega
  clear h hr
  go_enter Tryz.func123, Tryz.ntmps123
  go_wp2_with fail
  go_still_tail 10, (by kernel_rfl)
  change wpList _ _ _ _ _ w.drew
  go_wp2
  go_end0
  exact ⟨rfl, rfl⟩
theorem set_any (E A : Nat) (q : Qn) (R : Nat → Int) (p : Psw) (c : Int) (v : Int) (w : World) (h : Ex w E A q R p c) (hr : q.r1 < 16) : Calls Tryz.prog 123 #[.pointer (some ⟨E, 0, none⟩), .int .u32 v] w (Did w E A q (upd R q.r1 v) p c) := by
  refine (set_raw E A q R p c v w h hr).mono ?_
  rintro e w' ⟨rfl, rfl⟩
  exact ⟨rfl, h.drew.setReg hr v, (kp_drew w _).trans (kp_set _ _ _ _ _ (by simp))⟩
set_option maxRecDepth 100000 in
theorem setPair_raw (E A : Nat) (q : Qn) (R : Nat → Int) (p : Psw) (c : Int) (u v : Int) (w : World) (h : Ex w E A q R p c) (hr : q.r1 < 15) : Calls Tryz.prog 139 #[.pointer (some ⟨E, 0, none⟩), .int .u32 u, .int .u32 v] w fun e w' => e = .returned (.tuple #[]) ∧ w' = (w.drew.setCell ⟨E, 12 + q.r1, none⟩ (.int .u32 u)).setCell ⟨E, 12 + (q.r1 + 1), none⟩ (.int .u32 v) := by
  have c2 := h.r1
  have fz := h.fz (12 + q.r1)
  have fy := h.fz (12 + (q.r1 + 1))
  have cr := h.reg (show q.r1 < 16 by omega)
  have cs := h.reg (show q.r1 + 1 < 16 by omega)
  generalize R q.r1 = x at cr
  generalize R (q.r1 + 1) = y at cs
  generalize q.r1 = n at c2 fz fy hr cr cs ⊢
  have hn : (n : Int) < 15 := by omega
  have hw : wrap64 ((n : Int) + 1) = ((n + 1 : Nat) : Int) := by unfold wrap64; omega
  clear h hr
  go_enter Tryz.func139, Tryz.ntmps139
  go_wp2_with fail
  go_region
  go_end0
  exact ⟨rfl, rfl⟩
set_option maxRecDepth 100000 in
theorem setCode_any (E A : Nat) (q : Qn) (R : Nat → Int) (p : Psw) (c : Int) (v : Int) (o : Bool) (w : World) (h : Ex w E A q R p c) : Calls Tryz.prog 148 #[.pointer (some ⟨E, 0, none⟩), .int .i64 v, .bool o] w (Did w E A q R { p with cc := v } (if (o && adB { p with cc := v } 3 8 0) = true then 8 else c)) := by
  have cc := h.pcc
  have c0 := h.pm
  have c1 := h.pk
  have c2 := h.pma
  have c3 := h.pwa
  have c4 := h.ppr
  have c5 := h.pco
  have c6 := h.pil
  have c8 := h.ppg
  have c9 := h.pad
  have fz := h.fz 35
  have h1 := h.setCc v
  obtain ⟨P, hP⟩ : ∃ P, P = { p with cc := v } := ⟨_, rfl⟩
  rw [← hP] at h1 ⊢
  obtain ⟨w1, hw1⟩ : ∃ w1, w1 = w.setCell ⟨E, 35, none⟩ (.int .i64 v) := ⟨_, rfl⟩
  have k1 : Kp w w1 [E] := by rw [hw1]; exact kp_set _ _ _ _ _ (by simp)
  rw [← hw1] at h1
  have H1 := Lib.hid h1
  have K1 := Lib.hid k1
  have W1 := Lib.hid hw1
  have PP := Lib.hid hP
  clear h k1 hw1 hP h1
  cases o with
  | false =>
    go_enter Tryz.func148, Tryz.ntmps148
    go_wp2
    go_end0
    rw [← W1.out]
    exact ⟨rfl, H1.out, K1.out⟩
  | true =>
    have HA : Hid (∀ W, Calls Tryz.prog 211 #[.agg #[.int .i64 p.m, .int .i64 p.k, .bool p.ma, .bool p.wa, .bool p.pr, .int .i64 p.co, .int .i64 p.il, .int .i64 v, .int .i64 p.pg, .int .i64 p.ad], .int .i64 3, .int .i64 8, .int .i64 0] W (New W (.bool (adB P 3 8 0)))) := Lib.hid (fun W => by rw [PP.out]; exact adm_any _ 3 8 0 W)
    have HB : Hid (∀ w2, Below w1.heap.size w1 w2 → Did w E A q R P (if (true && adB P 3 8 0) = true then 8 else c) (.returned (.tuple #[])) (if adB P 3 8 0 = true then w2.setCell ⟨E, 39, none⟩ (.int .i64 8) else w2)) := Lib.hid (fun w2 hb => by
      cases adB P 3 8 0 with
      | false => exact ⟨rfl, H1.out.below hb, K1.out.trans (Kp.bel hb)⟩
      | true => exact ⟨rfl, (H1.out.below hb).setCd 8, (K1.out.trans (Kp.bel hb)).trans (kp_set _ _ _ _ _ (by simp))⟩)
    have HD : Hid (∀ w2, Below w1.heap.size w1 w2 → w2.cell? ⟨E, 39, none⟩ = some (.int .i64 c) ∧ w2.frozen? ⟨E, 39, none⟩ = false) := Lib.hid (fun w2 hb => ⟨(H1.out.below hb).cd, (H1.out.below hb).fz 39⟩)
    generalize hB : (if (true && adB P 3 8 0) = true then (8 : Int) else c) = C at HB ⊢
    generalize adB P 3 8 0 = B at HA HB
    clear hB H1 K1 PP
    go_enter Tryz.func148, Tryz.ntmps148
    go_wp2_with fail
    rw [← W1.out]
    refine (HA.out w1).mono ?_
    rintro e w2 ⟨rfl, hb⟩
    have hB := HB.out w2 hb
    obtain ⟨d1, d2⟩ := HD.out w2 hb
    clear hb HB HD HA W1 c0 c1 c2 c3 c4 c5 c6 cc c8 c9 fz
    cases B with
    | false =>
      rw [if_neg (by simp)] at hB
      go_wp2
      go_end0
      exact hB
    | true =>
      rw [if_pos rfl] at hB
      go_wp2
      go_end0
      exact hB
theorem setPair_any (E A : Nat) (q : Qn) (R : Nat → Int) (p : Psw) (c : Int) (u v : Int) (w : World) (h : Ex w E A q R p c) (hr : q.r1 < 15) : Calls Tryz.prog 139 #[.pointer (some ⟨E, 0, none⟩), .int .u32 u, .int .u32 v] w (Did w E A q (upd (upd R q.r1 u) (q.r1 + 1) v) p c) := by
  refine (setPair_raw E A q R p c u v w h hr).mono ?_
  rintro e w' ⟨rfl, rfl⟩
  exact ⟨rfl, (h.drew.setReg (by omega) u).setReg (by omega) v, ((kp_drew w _).trans (kp_set _ _ _ _ _ (by simp))).trans (kp_set _ _ _ _ _ (by simp))⟩
set_option maxRecDepth 100000 in
theorem become_any (E A : Nat) (q : Qn) (R : Nat → Int) (p : Psw) (c : Int) (v cc : Int) (w : World) (h : Ex w E A q R p c) (hr : q.r1 < 16) : Calls Tryz.prog 129 #[.pointer (some ⟨E, 0, none⟩), .int .u32 v, .int .i64 cc] w (Did w E A q (upd R q.r1 v) { p with cc := cc } c) := by
  have HS := Lib.hid (set_any E A q R p c v w h hr)
  have HN := Lib.hid (fun (w1 : World) (h1 : Ex w1 E A q (upd R q.r1 v) p c) => And.intro h1.pcc (And.intro (h1.fz 35) (h1.setCc cc)))
  clear h hr
  go_enter Tryz.func129, Tryz.ntmps129
  go_wp2_with fail
  refine HS.out.mono ?_
  rintro e w1 ⟨rfl, h1, k1⟩
  obtain ⟨n1, n2, n3⟩ := HN.out w1 h1
  have H3 := Lib.hid n3
  have K1 := Lib.hid k1
  clear h1 k1 n3 HS HN
  go_wp2
  go_end0
  exact ⟨rfl, H3.out, K1.out.trans (kp_set _ _ _ _ _ (by simp))⟩
set_option maxRecDepth 100000 in
theorem becomeSigned_any (E A : Nat) (q : Qn) (R : Nat → Int) (p : Psw) (c : Int) (v cc : Int) (o : Bool) (w : World) (h : Ex w E A q R p c) (hr : q.r1 < 16) : Calls Tryz.prog 127 #[.pointer (some ⟨E, 0, none⟩), .int .u32 v, .int .i64 cc, .bool o] w (Did w E A q (upd R q.r1 v) { p with cc := cc } (if (o && adB { p with cc := cc } 3 8 0) = true then 8 else c)) := by
  have HS := Lib.hid (set_any E A q R p c v w h hr)
  have HN := Lib.hid (fun (w1 : World) (h1 : Ex w1 E A q (upd R q.r1 v) p c) => setCode_any E A q (upd R q.r1 v) p c cc o w1 h1)
  generalize (if (o && adB { p with cc := cc } 3 8 0) = true then (8 : Int) else c) = C at HN ⊢
  generalize { p with cc := cc } = P at HN ⊢
  generalize upd R q.r1 v = R' at HS HN ⊢
  clear h hr
  go_enter Tryz.func127, Tryz.ntmps127
  go_wp2_with fail
  refine HS.out.mono ?_
  rintro e w1 ⟨rfl, h1, k1⟩
  have H1 := Lib.hid (HN.out w1 h1)
  have K1 := Lib.hid k1
  clear h1 k1 HS HN
  go_wp2_with fail
  refine H1.out.mono ?_
  rintro e w2 ⟨rfl, h2, k2⟩
  have H2 := Lib.hid h2
  have K2 := Lib.hid (K1.out.trans k2)
  clear h2 k2 H1 K1
  go_wp2
  go_end0
  exact ⟨rfl, H2.out, K2.out⟩

end M
end Go.Proofs.YtfopjnfphlkcgaaGreat

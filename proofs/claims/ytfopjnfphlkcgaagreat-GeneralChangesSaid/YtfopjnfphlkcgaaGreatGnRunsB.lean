/- Instructions of the link: what they come to. -/
import Derived.Test.YtfopjnfphlkcgaaGreatRows
import Derived.Test.YtfopjnfphlkcgaaGreatGnBr
import Derived.Test.YtfopjnfphlkcgaaGreatGnRuns
namespace Go.Proofs.YtfopjnfphlkcgaaGreat
open Go.RowKit Go.Shelf E
set_option linter.unusedVariables false
namespace M

theorem runs_5 (q : Qn) (R : Nat → Int) (p : Psw) (n : Nat) (bs ks : List UInt8) (hR : RegOk R) (hq : QOk q) (ho : okB p = true) (hop : q.op = 5) : Runs q R p n bs ks (regO 0 (upd R q.r1 (lnkV p)) (if (true && tgB q) = true then { p with ad := (tgA q R : Int) } else p) 0 bs) :=
  ⟨regO_stop, 75, enters_of Tryz.func75 (by kernel_rfl) rfl, fun X => by rw [hop]; exact action_5 X, fun E A g h m X hX hsX => by
    exact (branch_of E A q R p 0 (upd R q.r1 (lnkV p)) true X hX hR hq (fun Y hY => turns_5 E A q R p 0 Y hY hR hq ho hop)).mono fun e X' hp => act_of_reg hX hsX hp⟩
theorem runs_69 (q : Qn) (R : Nat → Int) (p : Psw) (n : Nat) (bs ks : List UInt8) (hR : RegOk R) (hq : QOk q) (ho : okB p = true) (hop : q.op = 69) : Runs q R p n bs ks (regO 0 (upd R q.r1 (lnkV p)) (if (true && tgB q) = true then { p with ad := (tgA q R : Int) } else p) 0 bs) :=
  ⟨regO_stop, 75, enters_of Tryz.func75 (by kernel_rfl) rfl, fun X => by rw [hop]; exact action_69 X, fun E A g h m X hX hsX => by
    exact (branch_of E A q R p 0 (upd R q.r1 (lnkV p)) true X hX hR hq (fun Y hY => turns_69 E A q R p 0 Y hY hR hq ho hop)).mono fun e X' hp => act_of_reg hX hsX hp⟩
theorem runs_6 (q : Qn) (R : Nat → Int) (p : Psw) (n : Nat) (bs ks : List UInt8) (hR : RegOk R) (hq : QOk q) (ho : okB p = true) (hop : q.op = 6) : Runs q R p n bs ks (regO 0 (upd R q.r1 ((R q.r1 - 1) % 4294967296)) (if ((decide (R q.r1 ≠ 1)) && tgB q) = true then { p with ad := (tgA q R : Int) } else p) 0 bs) :=
  ⟨regO_stop, 75, enters_of Tryz.func75 (by kernel_rfl) rfl, fun X => by rw [hop]; exact action_6 X, fun E A g h m X hX hsX => by
    exact (branch_of E A q R p 0 (upd R q.r1 ((R q.r1 - 1) % 4294967296)) (decide (R q.r1 ≠ 1)) X hX hR hq (fun Y hY => turns_6 E A q R p 0 Y hY hR hq ho hop)).mono fun e X' hp => act_of_reg hX hsX hp⟩
theorem runs_70 (q : Qn) (R : Nat → Int) (p : Psw) (n : Nat) (bs ks : List UInt8) (hR : RegOk R) (hq : QOk q) (ho : okB p = true) (hop : q.op = 70) : Runs q R p n bs ks (regO 0 (upd R q.r1 ((R q.r1 - 1) % 4294967296)) (if ((decide (R q.r1 ≠ 1)) && tgB q) = true then { p with ad := (tgA q R : Int) } else p) 0 bs) :=
  ⟨regO_stop, 75, enters_of Tryz.func75 (by kernel_rfl) rfl, fun X => by rw [hop]; exact action_70 X, fun E A g h m X hX hsX => by
    exact (branch_of E A q R p 0 (upd R q.r1 ((R q.r1 - 1) % 4294967296)) (decide (R q.r1 ≠ 1)) X hX hR hq (fun Y hY => turns_70 E A q R p 0 Y hY hR hq ho hop)).mono fun e X' hp => act_of_reg hX hsX hp⟩
theorem runs_7 (q : Qn) (R : Nat → Int) (p : Psw) (n : Nat) (bs ks : List UInt8) (hR : RegOk R) (hq : QOk q) (ho : okB p = true) (hop : q.op = 7) : Runs q R p n bs ks (regO 0 R (if ((brB (q.r1 : Int) p.cc) && tgB q) = true then { p with ad := (tgA q R : Int) } else p) 0 bs) :=
  ⟨regO_stop, 75, enters_of Tryz.func75 (by kernel_rfl) rfl, fun X => by rw [hop]; exact action_7 X, fun E A g h m X hX hsX => by
    exact (branch_of E A q R p 0 R (brB (q.r1 : Int) p.cc) X hX hR hq (fun Y hY => turns_7 E A q R p 0 Y hY hR hq ho hop)).mono fun e X' hp => act_of_reg hX hsX hp⟩
theorem runs_71 (q : Qn) (R : Nat → Int) (p : Psw) (n : Nat) (bs ks : List UInt8) (hR : RegOk R) (hq : QOk q) (ho : okB p = true) (hop : q.op = 71) : Runs q R p n bs ks (regO 0 R (if ((brB (q.r1 : Int) p.cc) && tgB q) = true then { p with ad := (tgA q R : Int) } else p) 0 bs) :=
  ⟨regO_stop, 75, enters_of Tryz.func75 (by kernel_rfl) rfl, fun X => by rw [hop]; exact action_71 X, fun E A g h m X hX hsX => by
    exact (branch_of E A q R p 0 R (brB (q.r1 : Int) p.cc) X hX hR hq (fun Y hY => turns_71 E A q R p 0 Y hY hR hq ho hop)).mono fun e X' hp => act_of_reg hX hsX hp⟩
theorem runs_134 (q : Qn) (R : Nat → Int) (p : Psw) (n : Nat) (bs ks : List UInt8) (hR : RegOk R) (hq : QOk q) (ho : okB p = true) (hop : q.op = 134) : Runs q R p n bs ks (regO 0 (upd R q.r1 ((R q.r1 + R q.r2) % 4294967296)) (if ((W.ord (W.sg ((R q.r1 + R q.r2) % 4294967296)) (W.sg (R (q.r2 / 2 * 2 + 1))) == 2) && tgB q) = true then { p with ad := (tgA q R : Int) } else p) 0 bs) :=
  ⟨regO_stop, 75, enters_of Tryz.func75 (by kernel_rfl) rfl, fun X => by rw [hop]; exact action_134 X, fun E A g h m X hX hsX => by
    exact (branch_of E A q R p 0 (upd R q.r1 ((R q.r1 + R q.r2) % 4294967296)) (W.ord (W.sg ((R q.r1 + R q.r2) % 4294967296)) (W.sg (R (q.r2 / 2 * 2 + 1))) == 2) X hX hR hq (fun Y hY => turns_134 E A q R p 0 Y hY hR hq ho hop)).mono fun e X' hp => act_of_reg hX hsX hp⟩
theorem runs_135 (q : Qn) (R : Nat → Int) (p : Psw) (n : Nat) (bs ks : List UInt8) (hR : RegOk R) (hq : QOk q) (ho : okB p = true) (hop : q.op = 135) : Runs q R p n bs ks (regO 0 (upd R q.r1 ((R q.r1 + R q.r2) % 4294967296)) (if ((!(W.ord (W.sg ((R q.r1 + R q.r2) % 4294967296)) (W.sg (R (q.r2 / 2 * 2 + 1))) == 2)) && tgB q) = true then { p with ad := (tgA q R : Int) } else p) 0 bs) :=
  ⟨regO_stop, 75, enters_of Tryz.func75 (by kernel_rfl) rfl, fun X => by rw [hop]; exact action_135 X, fun E A g h m X hX hsX => by
    exact (branch_of E A q R p 0 (upd R q.r1 ((R q.r1 + R q.r2) % 4294967296)) (!(W.ord (W.sg ((R q.r1 + R q.r2) % 4294967296)) (W.sg (R (q.r2 / 2 * 2 + 1))) == 2)) X hX hR hq (fun Y hY => turns_135 E A q R p 0 Y hY hR hq ho hop)).mono fun e X' hp => act_of_reg hX hsX hp⟩
theorem runs_4 (q : Qn) (R : Nat → Int) (p : Psw) (n : Nat) (bs ks : List UInt8) (hR : RegOk R) (hq : QOk q) (hop : q.op = 4) : Runs q R p n bs ks (regO 0 R { p with cc := R q.r1 / 268435456 % 4, pg := R q.r1 / 16777216 % 16 } 0 bs) :=
  ⟨regO_stop, 62, enters_of Tryz.func62 (by kernel_rfl) rfl, fun X => by rw [hop]; exact action_4 X, fun E A g h m X hX hsX => by
    exact (spm_any E A q R p 0 X hX hR hq.r1).mono fun e X' hp => act_of_reg hX hsX hp⟩

end M
end Go.Proofs.YtfopjnfphlkcgaaGreat

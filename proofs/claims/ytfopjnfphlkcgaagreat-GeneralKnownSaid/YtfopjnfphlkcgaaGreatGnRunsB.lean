/- Instructions of the link: what they come to. -/
import Derived.Test.YtfopjnfphlkcgaaGreatRows
import Derived.Test.YtfopjnfphlkcgaaGreatGnBr
import Derived.Test.YtfopjnfphlkcgaaGreatGnRuns
namespace Go.Proofs.YtfopjnfphlkcgaaGreat
namespace E
end E
open Go.RowKit Go.Shelf E
set_option linter.unusedVariables false
namespace M

theorem runs_6 (q : Qn) (R : Nat → Int) (p : Psw) (n : Nat) (bs ks : List UInt8) (hR : RegOk R) (hq : QOk q) (ho : okB p = true) (hop : q.op = 6) : Runs q R p n bs ks (regO 0 (upd R q.r1 ((R q.r1 - 1) % 4294967296)) (if ((decide (R q.r1 ≠ 1)) && tgB q) = true then { p with ad := (tgA q R : Int) } else p) 0 bs) :=
  ⟨regO_stop, 75, enters_of Tryz.func75 (by kernel_rfl) rfl, fun X => by rw [hop]; exact action_6 X, fun E A g h m X hX hsX => by
    exact (branch_of E A q R p 0 (upd R q.r1 ((R q.r1 - 1) % 4294967296)) (decide (R q.r1 ≠ 1)) X hX hR hq (fun Y hY => turns_6 E A q R p 0 Y hY hR hq ho hop)).mono fun e X' hp => act_of_reg hX hsX hp⟩
theorem runs_135 (q : Qn) (R : Nat → Int) (p : Psw) (n : Nat) (bs ks : List UInt8) (hR : RegOk R) (hq : QOk q) (ho : okB p = true) (hop : q.op = 135) : Runs q R p n bs ks (regO 0 (upd R q.r1 ((R q.r1 + R q.r2) % 4294967296)) (if ((!(W.ord (W.sg ((R q.r1 + R q.r2) % 4294967296)) (W.sg (R (q.r2 / 2 * 2 + 1))) == 2)) && tgB q) = true then { p with ad := (tgA q R : Int) } else p) 0 bs) :=
  ⟨regO_stop, 75, enters_of Tryz.func75 (by kernel_rfl) rfl, fun X => by rw [hop]; exact action_135 X, fun E A g h m X hX hsX => by
    exact (branch_of E A q R p 0 (upd R q.r1 ((R q.r1 + R q.r2) % 4294967296)) (!(W.ord (W.sg ((R q.r1 + R q.r2) % 4294967296)) (W.sg (R (q.r2 / 2 * 2 + 1))) == 2)) X hX hR hq (fun Y hY => turns_135 E A q R p 0 Y hY hR hq ho hop)).mono fun e X' hp => act_of_reg hX hsX hp⟩
end M
end Go.Proofs.YtfopjnfphlkcgaaGreat

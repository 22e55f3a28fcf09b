/- The two instructions of the laws of moves. -/
import Derived.Test.YtfopjnfphlkcgaaGreatRows
import Derived.Test.YtfopjnfphlkcgaaGreatGnRepl
import Derived.Test.YtfopjnfphlkcgaaGreatGnRuns
namespace Go.Proofs.YtfopjnfphlkcgaaGreat
open Go.RowKit Go.Shelf E
set_option linter.unusedVariables false
namespace M

theorem mv_210 (q : Qn) (R : Nat → Int) (p : Psw) (n : Nat) (bs ks : List UInt8) (hR : RegOk R) (hq : QOk q) (hop : q.op = 210) : Runs q R p n bs ks (regO (rpC q R p n ks) R (rpP q R p bs) 0 (putB (stP p.k) n bs ks (adF q R : Int) (rpF q R bs))) :=
  ⟨regO_stop, 71, enters_of Tryz.func71 (by kernel_rfl) rfl, fun X => by rw [hop]; exact action_210 X, fun E A g h m X hX hsX => by
    exact (replace_any E A q R p 0 g h n m bs ks X hX hsX hR hq (by omega) (fun x y W => by rw [hop]; exact replacement_210 x y W)).mono fun e X' hp => act_of_sto hp⟩
theorem mv_215 (q : Qn) (R : Nat → Int) (p : Psw) (n : Nat) (bs ks : List UInt8) (hR : RegOk R) (hq : QOk q) (hop : q.op = 215) : Runs q R p n bs ks (regO (rpC q R p n ks) R (rpP q R p bs) 0 (putB (stP p.k) n bs ks (adF q R : Int) (rpF q R bs))) :=
  ⟨regO_stop, 71, enters_of Tryz.func71 (by kernel_rfl) rfl, fun X => by rw [hop]; exact action_215 X, fun E A g h m X hX hsX => by
    exact (replace_any E A q R p 0 g h n m bs ks X hX hsX hR hq (by omega) (fun x y W => by rw [hop]; exact replacement_215 x y W)).mono fun e X' hp => act_of_sto hp⟩

end M
end Go.Proofs.YtfopjnfphlkcgaaGreat

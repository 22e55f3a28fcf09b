/- What each instruction comes to. -/
import Derived.Test.YtfopjnfphlkcgaaGreatRows
import Derived.Test.YtfopjnfphlkcgaaGreatGnMul
import Derived.Test.YtfopjnfphlkcgaaGreatGnRepl
import Derived.Test.YtfopjnfphlkcgaaGreatGnRuns
import Derived.Test.YtfopjnfphlkcgaaGreatGnTr
namespace Go.Proofs.YtfopjnfphlkcgaaGreat
namespace E
end E
open Go.RowKit Go.Shelf E
set_option linter.unusedVariables false
namespace M

theorem runs_93 (q : Qn) (R : Nat → Int) (p : Psw) (n : Nat) (bs ks : List UInt8) (hR : RegOk R) (hq : QOk q) (hop : q.op = 93) : Runs q R p n bs ks (regO (if q.r1 % 2 = 0 then (if opC q R p n ks = 0 then (if W.dOk (W.sgd (R q.r1) (R (q.r1 + 1))) (W.sg (opV q R bs)) = true then 0 else 9) else opC q R p n ks) else 6) (upd (upd R q.r1 (W.dR (W.sgd (R q.r1) (R (q.r1 + 1))) (W.sg (opV q R bs)))) (q.r1 + 1) (W.dQ (W.sgd (R q.r1) (R (q.r1 + 1))) (W.sg (opV q R bs)))) p 0 bs) :=
  ⟨regO_stop, 58, enters_of Tryz.func58 (by kernel_rfl) rfl, fun X => by rw [hop]; exact action_93 X, fun E A g h m X hX hsX => by
    exact (divide_any E A q R p 0 g h n m bs ks X hX hsX hR hq).mono fun e X' hp => act_of_reg hX hsX hp⟩
theorem runs_145 (q : Qn) (R : Nat → Int) (p : Psw) (n : Nat) (bs ks : List UInt8) (hR : RegOk R) (hq : QOk q) (hop : q.op = 145) : Runs q R p n bs ks (regO (codeV (ftP p.k) n ks (adF q R : Int) ((1 : Nat) : Int)) R { p with cc := (ccM (((gt bs (adF q R)).toNat &&& q.i2 : Nat) : Int) (q.i2 : Int)) } 0 bs) :=
  ⟨regO_stop, 69, enters_of Tryz.func69 (by kernel_rfl) rfl, fun X => by rw [hop]; exact action_145 X, fun E A g h m X hX hsX => by
    exact (examine_145 E A q R p 0 g h n m bs ks X hX hsX hR hq hop).mono fun e X' hp => act_of_reg hX hsX hp⟩
theorem runs_88 (q : Qn) (R : Nat → Int) (p : Psw) (n : Nat) (bs ks : List UInt8) (hR : RegOk R) (hq : QOk q) (hop : q.op = 88) : Runs q R p n bs ks (regO (opC q R p n ks) (upd R q.r1 (opV q R bs)) p 0 bs) :=
  ⟨regO_stop, 51, enters_of Tryz.func51 (by kernel_rfl) rfl, fun X => by rw [hop]; exact action_88 X, fun E A g h m X hX hsX => by
    exact (load_any E A q R p 0 g h n m bs ks X hX hsX hR hq).mono fun e X' hp => act_of_reg hX hsX hp⟩
theorem runs_92 (q : Qn) (R : Nat → Int) (p : Psw) (n : Nat) (bs ks : List UInt8) (hR : RegOk R) (hq : QOk q) (hop : q.op = 92) : Runs q R p n bs ks (regO (if q.r1 % 2 = 0 then opC q R p n ks else 6) (upd (upd R q.r1 (W.sg (R (q.r1 + 1)) * W.sg (opV q R bs) % 18446744073709551616 / 4294967296)) (q.r1 + 1) (W.sg (R (q.r1 + 1)) * W.sg (opV q R bs) % 4294967296)) p 0 bs) :=
  ⟨regO_stop, 56, enters_of Tryz.func56 (by kernel_rfl) rfl, fun X => by rw [hop]; exact action_92 X, fun E A g h m X hX hsX => by
    exact (multiply_any E A q R p 0 g h n m bs ks X hX hsX hR hq).mono fun e X' hp => act_of_reg hX hsX hp⟩
theorem runs_221 (q : Qn) (R : Nat → Int) (p : Psw) (n : Nat) (bs ks : List UInt8) (hR : RegOk R) (hq : QOk q) (hop : q.op = 221) : Runs q R p n bs ks (regO (scR q R p n ks bs).1 (scG R (scR q R p n ks bs).2) (scP p (scR q R p n ks bs).2) 0 bs) :=
  ⟨regO_stop, 74, enters_of Tryz.func74 (by kernel_rfl) rfl, fun X => by rw [hop]; exact action_221 X, fun E A g h m X hX hsX => by
    exact (scan_any E A q R p 0 g h n m bs ks X hX hsX hR hq).mono fun e X' hp => act_of_reg hX hsX hp⟩
theorem runs_16 (q : Qn) (R : Nat → Int) (p : Psw) (n : Nat) (bs ks : List UInt8) (hR : RegOk R) (hq : QOk q) (hop : q.op = 16) : Runs q R p n bs ks (regO (opC q R p n ks) (if cplB 16 (W.ord (W.sg (opV q R bs)) 0) = true then sgR q R (W.sg 0 - W.sg (opV q R bs)) else upd R q.r1 (opV q R bs)) (if cplB 16 (W.ord (W.sg (opV q R bs)) 0) = true then sgP p (W.sg 0 - W.sg (opV q R bs)) else { p with cc := (W.ord (W.sg (opV q R bs)) 0) }) (if cplB 16 (W.ord (W.sg (opV q R bs)) 0) = true then sgC p (W.sg 0 - W.sg (opV q R bs)) 0 else 0) bs) :=
  ⟨regO_stop, 52, enters_of Tryz.func52 (by kernel_rfl) rfl, fun X => by rw [hop]; exact action_16 X, fun E A g h m X hX hsX => by
    exact (tested_16 E A q R p 0 g h n m bs ks X hX hsX hR hq hop).mono fun e X' hp => act_of_reg hX hsX hp⟩
theorem runs_210 (q : Qn) (R : Nat → Int) (p : Psw) (n : Nat) (bs ks : List UInt8) (hR : RegOk R) (hq : QOk q) (hop : q.op = 210) : Runs q R p n bs ks (regO (rpC q R p n ks) R (rpP q R p bs) 0 (putB (stP p.k) n bs ks (adF q R : Int) (rpF q R bs))) :=
  ⟨regO_stop, 71, enters_of Tryz.func71 (by kernel_rfl) rfl, fun X => by rw [hop]; exact action_210 X, fun E A g h m X hX hsX => by
    exact (replace_any E A q R p 0 g h n m bs ks X hX hsX hR hq (by omega) (fun x y W => by rw [hop]; exact replacement_210 x y W)).mono fun e X' hp => act_of_sto hp⟩
end M
end Go.Proofs.YtfopjnfphlkcgaaGreat

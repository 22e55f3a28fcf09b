/- What each instruction comes to. -/
import Derived.Test.YtfopjnfphlkcgaaGreatRows
import Derived.Test.YtfopjnfphlkcgaaGreatGnComb
import Derived.Test.YtfopjnfphlkcgaaGreatGnMul
import Derived.Test.YtfopjnfphlkcgaaGreatGnRuns
import Derived.Test.YtfopjnfphlkcgaaGreatGnShift
import Derived.Test.YtfopjnfphlkcgaaGreatGnStr
import Derived.Test.YtfopjnfphlkcgaaGreatGnTr
namespace Go.Proofs.YtfopjnfphlkcgaaGreat
open Go.RowKit Go.Shelf E
set_option linter.unusedVariables false
namespace M

theorem runs_26 (q : Qn) (R : Nat → Int) (p : Psw) (n : Nat) (bs ks : List UInt8) (hR : RegOk R) (hq : QOk q) (hop : q.op = 26) : Runs q R p n bs ks (regO (opC q R p n ks) (sgR q R (W.sg (R q.r1) + W.sg (opV q R bs))) (sgP p (W.sg (R q.r1) + W.sg (opV q R bs))) (sgC p (W.sg (R q.r1) + W.sg (opV q R bs)) 0) bs) :=
  ⟨regO_stop, 53, enters_of Tryz.func53 (by kernel_rfl) rfl, fun X => by rw [hop]; exact action_26 X, fun E A g h m X hX hsX => by
    exact (add_26 E A q R p 0 g h n m bs ks X hX hsX hR hq hop).mono fun e X' hp => act_of_reg hX hsX hp⟩
theorem runs_27 (q : Qn) (R : Nat → Int) (p : Psw) (n : Nat) (bs ks : List UInt8) (hR : RegOk R) (hq : QOk q) (hop : q.op = 27) : Runs q R p n bs ks (regO (opC q R p n ks) (sgR q R (W.sg (R q.r1) - W.sg (opV q R bs))) (sgP p (W.sg (R q.r1) - W.sg (opV q R bs))) (sgC p (W.sg (R q.r1) - W.sg (opV q R bs)) 0) bs) :=
  ⟨regO_stop, 53, enters_of Tryz.func53 (by kernel_rfl) rfl, fun X => by rw [hop]; exact action_27 X, fun E A g h m X hX hsX => by
    exact (add_27 E A q R p 0 g h n m bs ks X hX hsX hR hq hop).mono fun e X' hp => act_of_reg hX hsX hp⟩
theorem runs_30 (q : Qn) (R : Nat → Int) (p : Psw) (n : Nat) (bs ks : List UInt8) (hR : RegOk R) (hq : QOk q) (hop : q.op = 30) : Runs q R p n bs ks (regO (opC q R p n ks) (upd R q.r1 (((R q.r1) + (opV q R bs)) % 4294967296)) { p with cc := (W.lcc (((R q.r1) + (opV q R bs)) % 4294967296) (decide (4294967296 ≤ (R q.r1) + (opV q R bs)))) } 0 bs) :=
  ⟨regO_stop, 53, enters_of Tryz.func53 (by kernel_rfl) rfl, fun X => by rw [hop]; exact action_30 X, fun E A g h m X hX hsX => by
    exact (add_30 E A q R p 0 g h n m bs ks X hX hsX hR hq hop).mono fun e X' hp => act_of_reg hX hsX hp⟩
theorem runs_31 (q : Qn) (R : Nat → Int) (p : Psw) (n : Nat) (bs ks : List UInt8) (hR : RegOk R) (hq : QOk q) (hop : q.op = 31) : Runs q R p n bs ks (regO (opC q R p n ks) (upd R q.r1 (((R q.r1) - (opV q R bs)) % 4294967296)) { p with cc := (W.lcc (((R q.r1) - (opV q R bs)) % 4294967296) (decide ((opV q R bs) ≤ (R q.r1)))) } 0 bs) :=
  ⟨regO_stop, 53, enters_of Tryz.func53 (by kernel_rfl) rfl, fun X => by rw [hop]; exact action_31 X, fun E A g h m X hX hsX => by
    exact (add_31 E A q R p 0 g h n m bs ks X hX hsX hR hq hop).mono fun e X' hp => act_of_reg hX hsX hp⟩
theorem runs_74 (q : Qn) (R : Nat → Int) (p : Psw) (n : Nat) (bs ks : List UInt8) (hR : RegOk R) (hq : QOk q) (hop : q.op = 74) : Runs q R p n bs ks (regO (opC q R p n ks) (sgR q R (W.sg (R q.r1) + W.sg (opV q R bs))) (sgP p (W.sg (R q.r1) + W.sg (opV q R bs))) (sgC p (W.sg (R q.r1) + W.sg (opV q R bs)) 0) bs) :=
  ⟨regO_stop, 53, enters_of Tryz.func53 (by kernel_rfl) rfl, fun X => by rw [hop]; exact action_74 X, fun E A g h m X hX hsX => by
    exact (add_74 E A q R p 0 g h n m bs ks X hX hsX hR hq hop).mono fun e X' hp => act_of_reg hX hsX hp⟩
theorem runs_75 (q : Qn) (R : Nat → Int) (p : Psw) (n : Nat) (bs ks : List UInt8) (hR : RegOk R) (hq : QOk q) (hop : q.op = 75) : Runs q R p n bs ks (regO (opC q R p n ks) (sgR q R (W.sg (R q.r1) - W.sg (opV q R bs))) (sgP p (W.sg (R q.r1) - W.sg (opV q R bs))) (sgC p (W.sg (R q.r1) - W.sg (opV q R bs)) 0) bs) :=
  ⟨regO_stop, 53, enters_of Tryz.func53 (by kernel_rfl) rfl, fun X => by rw [hop]; exact action_75 X, fun E A g h m X hX hsX => by
    exact (add_75 E A q R p 0 g h n m bs ks X hX hsX hR hq hop).mono fun e X' hp => act_of_reg hX hsX hp⟩
theorem runs_90 (q : Qn) (R : Nat → Int) (p : Psw) (n : Nat) (bs ks : List UInt8) (hR : RegOk R) (hq : QOk q) (hop : q.op = 90) : Runs q R p n bs ks (regO (opC q R p n ks) (sgR q R (W.sg (R q.r1) + W.sg (opV q R bs))) (sgP p (W.sg (R q.r1) + W.sg (opV q R bs))) (sgC p (W.sg (R q.r1) + W.sg (opV q R bs)) 0) bs) :=
  ⟨regO_stop, 53, enters_of Tryz.func53 (by kernel_rfl) rfl, fun X => by rw [hop]; exact action_90 X, fun E A g h m X hX hsX => by
    exact (add_90 E A q R p 0 g h n m bs ks X hX hsX hR hq hop).mono fun e X' hp => act_of_reg hX hsX hp⟩
theorem runs_91 (q : Qn) (R : Nat → Int) (p : Psw) (n : Nat) (bs ks : List UInt8) (hR : RegOk R) (hq : QOk q) (hop : q.op = 91) : Runs q R p n bs ks (regO (opC q R p n ks) (sgR q R (W.sg (R q.r1) - W.sg (opV q R bs))) (sgP p (W.sg (R q.r1) - W.sg (opV q R bs))) (sgC p (W.sg (R q.r1) - W.sg (opV q R bs)) 0) bs) :=
  ⟨regO_stop, 53, enters_of Tryz.func53 (by kernel_rfl) rfl, fun X => by rw [hop]; exact action_91 X, fun E A g h m X hX hsX => by
    exact (add_91 E A q R p 0 g h n m bs ks X hX hsX hR hq hop).mono fun e X' hp => act_of_reg hX hsX hp⟩
theorem runs_94 (q : Qn) (R : Nat → Int) (p : Psw) (n : Nat) (bs ks : List UInt8) (hR : RegOk R) (hq : QOk q) (hop : q.op = 94) : Runs q R p n bs ks (regO (opC q R p n ks) (upd R q.r1 (((R q.r1) + (opV q R bs)) % 4294967296)) { p with cc := (W.lcc (((R q.r1) + (opV q R bs)) % 4294967296) (decide (4294967296 ≤ (R q.r1) + (opV q R bs)))) } 0 bs) :=
  ⟨regO_stop, 53, enters_of Tryz.func53 (by kernel_rfl) rfl, fun X => by rw [hop]; exact action_94 X, fun E A g h m X hX hsX => by
    exact (add_94 E A q R p 0 g h n m bs ks X hX hsX hR hq hop).mono fun e X' hp => act_of_reg hX hsX hp⟩
theorem runs_95 (q : Qn) (R : Nat → Int) (p : Psw) (n : Nat) (bs ks : List UInt8) (hR : RegOk R) (hq : QOk q) (hop : q.op = 95) : Runs q R p n bs ks (regO (opC q R p n ks) (upd R q.r1 (((R q.r1) - (opV q R bs)) % 4294967296)) { p with cc := (W.lcc (((R q.r1) - (opV q R bs)) % 4294967296) (decide ((opV q R bs) ≤ (R q.r1)))) } 0 bs) :=
  ⟨regO_stop, 53, enters_of Tryz.func53 (by kernel_rfl) rfl, fun X => by rw [hop]; exact action_95 X, fun E A g h m X hX hsX => by
    exact (add_95 E A q R p 0 g h n m bs ks X hX hsX hR hq hop).mono fun e X' hp => act_of_reg hX hsX hp⟩
theorem runs_148 (q : Qn) (R : Nat → Int) (p : Psw) (n : Nat) (bs ks : List UInt8) (hR : RegOk R) (hq : QOk q) (hop : q.op = 148) : Runs q R p n bs ks (regO (imC q R p n ks) R { p with cc := ccB [(imB 148 (gt bs (adF q R)) (i2B q))] } 0 (putB (stP p.k) n bs ks (adF q R : Int) [(imB 148 (gt bs (adF q R)) (i2B q))])) :=
  ⟨regO_stop, 68, enters_of Tryz.func68 (by kernel_rfl) rfl, fun X => by rw [hop]; exact action_148 X, fun E A g h m X hX hsX => by
    exact (combImm_148 E A q R p 0 g h n m bs ks X hX hsX hR hq hop).mono fun e X' hp => act_of_sto hp⟩
theorem runs_150 (q : Qn) (R : Nat → Int) (p : Psw) (n : Nat) (bs ks : List UInt8) (hR : RegOk R) (hq : QOk q) (hop : q.op = 150) : Runs q R p n bs ks (regO (imC q R p n ks) R { p with cc := ccB [(imB 150 (gt bs (adF q R)) (i2B q))] } 0 (putB (stP p.k) n bs ks (adF q R : Int) [(imB 150 (gt bs (adF q R)) (i2B q))])) :=
  ⟨regO_stop, 68, enters_of Tryz.func68 (by kernel_rfl) rfl, fun X => by rw [hop]; exact action_150 X, fun E A g h m X hX hsX => by
    exact (combImm_150 E A q R p 0 g h n m bs ks X hX hsX hR hq hop).mono fun e X' hp => act_of_sto hp⟩
theorem runs_151 (q : Qn) (R : Nat → Int) (p : Psw) (n : Nat) (bs ks : List UInt8) (hR : RegOk R) (hq : QOk q) (hop : q.op = 151) : Runs q R p n bs ks (regO (imC q R p n ks) R { p with cc := ccB [(imB 151 (gt bs (adF q R)) (i2B q))] } 0 (putB (stP p.k) n bs ks (adF q R : Int) [(imB 151 (gt bs (adF q R)) (i2B q))])) :=
  ⟨regO_stop, 68, enters_of Tryz.func68 (by kernel_rfl) rfl, fun X => by rw [hop]; exact action_151 X, fun E A g h m X hX hsX => by
    exact (combImm_151 E A q R p 0 g h n m bs ks X hX hsX hR hq hop).mono fun e X' hp => act_of_sto hp⟩
theorem runs_20 (q : Qn) (R : Nat → Int) (p : Psw) (n : Nat) (bs ks : List UInt8) (hR : RegOk R) (hq : QOk q) (hop : q.op = 20) : Runs q R p n bs ks (regO (opC q R p n ks) (upd R q.r1 (bits .and .u32 (R q.r1) (opV q R bs))) { p with cc := nzI (bits .and .u32 (R q.r1) (opV q R bs)) } 0 bs) :=
  ⟨regO_stop, 55, enters_of Tryz.func55 (by kernel_rfl) rfl, fun X => by rw [hop]; exact action_20 X, fun E A g h m X hX hsX => by
    exact (combine_20 E A q R p 0 g h n m bs ks X hX hsX hR hq hop).mono fun e X' hp => act_of_reg hX hsX hp⟩
theorem runs_22 (q : Qn) (R : Nat → Int) (p : Psw) (n : Nat) (bs ks : List UInt8) (hR : RegOk R) (hq : QOk q) (hop : q.op = 22) : Runs q R p n bs ks (regO (opC q R p n ks) (upd R q.r1 (bits .or .u32 (R q.r1) (opV q R bs))) { p with cc := nzI (bits .or .u32 (R q.r1) (opV q R bs)) } 0 bs) :=
  ⟨regO_stop, 55, enters_of Tryz.func55 (by kernel_rfl) rfl, fun X => by rw [hop]; exact action_22 X, fun E A g h m X hX hsX => by
    exact (combine_22 E A q R p 0 g h n m bs ks X hX hsX hR hq hop).mono fun e X' hp => act_of_reg hX hsX hp⟩
theorem runs_23 (q : Qn) (R : Nat → Int) (p : Psw) (n : Nat) (bs ks : List UInt8) (hR : RegOk R) (hq : QOk q) (hop : q.op = 23) : Runs q R p n bs ks (regO (opC q R p n ks) (upd R q.r1 (bits .xor .u32 (R q.r1) (opV q R bs))) { p with cc := nzI (bits .xor .u32 (R q.r1) (opV q R bs)) } 0 bs) :=
  ⟨regO_stop, 55, enters_of Tryz.func55 (by kernel_rfl) rfl, fun X => by rw [hop]; exact action_23 X, fun E A g h m X hX hsX => by
    exact (combine_23 E A q R p 0 g h n m bs ks X hX hsX hR hq hop).mono fun e X' hp => act_of_reg hX hsX hp⟩
theorem runs_84 (q : Qn) (R : Nat → Int) (p : Psw) (n : Nat) (bs ks : List UInt8) (hR : RegOk R) (hq : QOk q) (hop : q.op = 84) : Runs q R p n bs ks (regO (opC q R p n ks) (upd R q.r1 (bits .and .u32 (R q.r1) (opV q R bs))) { p with cc := nzI (bits .and .u32 (R q.r1) (opV q R bs)) } 0 bs) :=
  ⟨regO_stop, 55, enters_of Tryz.func55 (by kernel_rfl) rfl, fun X => by rw [hop]; exact action_84 X, fun E A g h m X hX hsX => by
    exact (combine_84 E A q R p 0 g h n m bs ks X hX hsX hR hq hop).mono fun e X' hp => act_of_reg hX hsX hp⟩
theorem runs_86 (q : Qn) (R : Nat → Int) (p : Psw) (n : Nat) (bs ks : List UInt8) (hR : RegOk R) (hq : QOk q) (hop : q.op = 86) : Runs q R p n bs ks (regO (opC q R p n ks) (upd R q.r1 (bits .or .u32 (R q.r1) (opV q R bs))) { p with cc := nzI (bits .or .u32 (R q.r1) (opV q R bs)) } 0 bs) :=
  ⟨regO_stop, 55, enters_of Tryz.func55 (by kernel_rfl) rfl, fun X => by rw [hop]; exact action_86 X, fun E A g h m X hX hsX => by
    exact (combine_86 E A q R p 0 g h n m bs ks X hX hsX hR hq hop).mono fun e X' hp => act_of_reg hX hsX hp⟩
theorem runs_87 (q : Qn) (R : Nat → Int) (p : Psw) (n : Nat) (bs ks : List UInt8) (hR : RegOk R) (hq : QOk q) (hop : q.op = 87) : Runs q R p n bs ks (regO (opC q R p n ks) (upd R q.r1 (bits .xor .u32 (R q.r1) (opV q R bs))) { p with cc := nzI (bits .xor .u32 (R q.r1) (opV q R bs)) } 0 bs) :=
  ⟨regO_stop, 55, enters_of Tryz.func55 (by kernel_rfl) rfl, fun X => by rw [hop]; exact action_87 X, fun E A g h m X hX hsX => by
    exact (combine_87 E A q R p 0 g h n m bs ks X hX hsX hR hq hop).mono fun e X' hp => act_of_reg hX hsX hp⟩
theorem runs_213 (q : Qn) (R : Nat → Int) (p : Psw) (n : Nat) (bs ks : List UInt8) (hR : RegOk R) (hq : QOk q) (hop : q.op = 213) : Runs q R p n bs ks (regO (cpC q R p n ks) R { p with cc := cpV q R bs } 0 bs) :=
  ⟨regO_stop, 72, enters_of Tryz.func72 (by kernel_rfl) rfl, fun X => by rw [hop]; exact action_213 X, fun E A g h m X hX hsX => by
    exact (compareFields_any E A q R p 0 g h n m bs ks X hX hsX hR hq).mono fun e X' hp => act_of_reg hX hsX hp⟩
theorem runs_21 (q : Qn) (R : Nat → Int) (p : Psw) (n : Nat) (bs ks : List UInt8) (hR : RegOk R) (hq : QOk q) (hop : q.op = 21) : Runs q R p n bs ks (regO (opC q R p n ks) R { p with cc := (W.ord (R q.r1) (opV q R bs)) } 0 bs) :=
  ⟨regO_stop, 54, enters_of Tryz.func54 (by kernel_rfl) rfl, fun X => by rw [hop]; exact action_21 X, fun E A g h m X hX hsX => by
    exact (compare_21 E A q R p 0 g h n m bs ks X hX hsX hR hq hop).mono fun e X' hp => act_of_reg hX hsX hp⟩
theorem runs_25 (q : Qn) (R : Nat → Int) (p : Psw) (n : Nat) (bs ks : List UInt8) (hR : RegOk R) (hq : QOk q) (hop : q.op = 25) : Runs q R p n bs ks (regO (opC q R p n ks) R { p with cc := (W.ord (W.sg (R q.r1)) (W.sg (opV q R bs))) } 0 bs) :=
  ⟨regO_stop, 54, enters_of Tryz.func54 (by kernel_rfl) rfl, fun X => by rw [hop]; exact action_25 X, fun E A g h m X hX hsX => by
    exact (compare_25 E A q R p 0 g h n m bs ks X hX hsX hR hq hop).mono fun e X' hp => act_of_reg hX hsX hp⟩
theorem runs_73 (q : Qn) (R : Nat → Int) (p : Psw) (n : Nat) (bs ks : List UInt8) (hR : RegOk R) (hq : QOk q) (hop : q.op = 73) : Runs q R p n bs ks (regO (opC q R p n ks) R { p with cc := (W.ord (W.sg (R q.r1)) (W.sg (opV q R bs))) } 0 bs) :=
  ⟨regO_stop, 54, enters_of Tryz.func54 (by kernel_rfl) rfl, fun X => by rw [hop]; exact action_73 X, fun E A g h m X hX hsX => by
    exact (compare_73 E A q R p 0 g h n m bs ks X hX hsX hR hq hop).mono fun e X' hp => act_of_reg hX hsX hp⟩
theorem runs_85 (q : Qn) (R : Nat → Int) (p : Psw) (n : Nat) (bs ks : List UInt8) (hR : RegOk R) (hq : QOk q) (hop : q.op = 85) : Runs q R p n bs ks (regO (opC q R p n ks) R { p with cc := (W.ord (R q.r1) (opV q R bs)) } 0 bs) :=
  ⟨regO_stop, 54, enters_of Tryz.func54 (by kernel_rfl) rfl, fun X => by rw [hop]; exact action_85 X, fun E A g h m X hX hsX => by
    exact (compare_85 E A q R p 0 g h n m bs ks X hX hsX hR hq hop).mono fun e X' hp => act_of_reg hX hsX hp⟩
theorem runs_89 (q : Qn) (R : Nat → Int) (p : Psw) (n : Nat) (bs ks : List UInt8) (hR : RegOk R) (hq : QOk q) (hop : q.op = 89) : Runs q R p n bs ks (regO (opC q R p n ks) R { p with cc := (W.ord (W.sg (R q.r1)) (W.sg (opV q R bs))) } 0 bs) :=
  ⟨regO_stop, 54, enters_of Tryz.func54 (by kernel_rfl) rfl, fun X => by rw [hop]; exact action_89 X, fun E A g h m X hX hsX => by
    exact (compare_89 E A q R p 0 g h n m bs ks X hX hsX hR hq hop).mono fun e X' hp => act_of_reg hX hsX hp⟩
theorem runs_29 (q : Qn) (R : Nat → Int) (p : Psw) (n : Nat) (bs ks : List UInt8) (hR : RegOk R) (hq : QOk q) (hop : q.op = 29) : Runs q R p n bs ks (regO (if q.r1 % 2 = 0 then (if opC q R p n ks = 0 then (if W.dOk (W.sgd (R q.r1) (R (q.r1 + 1))) (W.sg (opV q R bs)) = true then 0 else 9) else opC q R p n ks) else 6) (upd (upd R q.r1 (W.dR (W.sgd (R q.r1) (R (q.r1 + 1))) (W.sg (opV q R bs)))) (q.r1 + 1) (W.dQ (W.sgd (R q.r1) (R (q.r1 + 1))) (W.sg (opV q R bs)))) p 0 bs) :=
  ⟨regO_stop, 58, enters_of Tryz.func58 (by kernel_rfl) rfl, fun X => by rw [hop]; exact action_29 X, fun E A g h m X hX hsX => by
    exact (divide_any E A q R p 0 g h n m bs ks X hX hsX hR hq).mono fun e X' hp => act_of_reg hX hsX hp⟩
theorem runs_93 (q : Qn) (R : Nat → Int) (p : Psw) (n : Nat) (bs ks : List UInt8) (hR : RegOk R) (hq : QOk q) (hop : q.op = 93) : Runs q R p n bs ks (regO (if q.r1 % 2 = 0 then (if opC q R p n ks = 0 then (if W.dOk (W.sgd (R q.r1) (R (q.r1 + 1))) (W.sg (opV q R bs)) = true then 0 else 9) else opC q R p n ks) else 6) (upd (upd R q.r1 (W.dR (W.sgd (R q.r1) (R (q.r1 + 1))) (W.sg (opV q R bs)))) (q.r1 + 1) (W.dQ (W.sgd (R q.r1) (R (q.r1 + 1))) (W.sg (opV q R bs)))) p 0 bs) :=
  ⟨regO_stop, 58, enters_of Tryz.func58 (by kernel_rfl) rfl, fun X => by rw [hop]; exact action_93 X, fun E A g h m X hX hsX => by
    exact (divide_any E A q R p 0 g h n m bs ks X hX hsX hR hq).mono fun e X' hp => act_of_reg hX hsX hp⟩
theorem runs_145 (q : Qn) (R : Nat → Int) (p : Psw) (n : Nat) (bs ks : List UInt8) (hR : RegOk R) (hq : QOk q) (hop : q.op = 145) : Runs q R p n bs ks (regO (codeV (ftP p.k) n ks (adF q R : Int) ((1 : Nat) : Int)) R { p with cc := (ccM (((gt bs (adF q R)).toNat &&& q.i2 : Nat) : Int) (q.i2 : Int)) } 0 bs) :=
  ⟨regO_stop, 69, enters_of Tryz.func69 (by kernel_rfl) rfl, fun X => by rw [hop]; exact action_145 X, fun E A g h m X hX hsX => by
    exact (examine_145 E A q R p 0 g h n m bs ks X hX hsX hR hq hop).mono fun e X' hp => act_of_reg hX hsX hp⟩
theorem runs_149 (q : Qn) (R : Nat → Int) (p : Psw) (n : Nat) (bs ks : List UInt8) (hR : RegOk R) (hq : QOk q) (hop : q.op = 149) : Runs q R p n bs ks (regO (codeV (ftP p.k) n ks (adF q R : Int) ((1 : Nat) : Int)) R { p with cc := (W.ord ((gt bs (adF q R)).toNat : Int) (q.i2 : Int)) } 0 bs) :=
  ⟨regO_stop, 69, enters_of Tryz.func69 (by kernel_rfl) rfl, fun X => by rw [hop]; exact action_149 X, fun E A g h m X hX hsX => by
    exact (examine_149 E A q R p 0 g h n m bs ks X hX hsX hR hq hop).mono fun e X' hp => act_of_reg hX hsX hp⟩
theorem runs_67 (q : Qn) (R : Nat → Int) (p : Psw) (n : Nat) (bs ks : List UInt8) (hR : RegOk R) (hq : QOk q) (hop : q.op = 67) : Runs q R p n bs ks (regO (codeV (ftP p.k) n ks (adT q R : Int) ((1 : Nat) : Int)) (upd R q.r1 (lowW (R q.r1) (gt bs (adT q R)))) p 0 bs) :=
  ⟨regO_stop, 64, enters_of Tryz.func64 (by kernel_rfl) rfl, fun X => by rw [hop]; exact action_67 X, fun E A g h m X hX hsX => by
    exact (insertByte_any E A q R p 0 g h n m bs ks X hX hsX hR hq).mono fun e X' hp => act_of_reg hX hsX hp⟩
theorem runs_65 (q : Qn) (R : Nat → Int) (p : Psw) (n : Nat) (bs ks : List UInt8) (hR : RegOk R) (hq : QOk q) (hop : q.op = 65) : Runs q R p n bs ks (regO 0 (upd R q.r1 (adT q R : Int)) p 0 bs) :=
  ⟨regO_stop, 61, enters_of Tryz.func61 (by kernel_rfl) rfl, fun X => by rw [hop]; exact action_65 X, fun E A g h m X hX hsX => by
    exact (la_any E A q R p 0 X hX hR hq).mono fun e X' hp => act_of_reg hX hsX hp⟩
theorem runs_24 (q : Qn) (R : Nat → Int) (p : Psw) (n : Nat) (bs ks : List UInt8) (hR : RegOk R) (hq : QOk q) (hop : q.op = 24) : Runs q R p n bs ks (regO (opC q R p n ks) (upd R q.r1 (opV q R bs)) p 0 bs) :=
  ⟨regO_stop, 51, enters_of Tryz.func51 (by kernel_rfl) rfl, fun X => by rw [hop]; exact action_24 X, fun E A g h m X hX hsX => by
    exact (load_any E A q R p 0 g h n m bs ks X hX hsX hR hq).mono fun e X' hp => act_of_reg hX hsX hp⟩
theorem runs_88 (q : Qn) (R : Nat → Int) (p : Psw) (n : Nat) (bs ks : List UInt8) (hR : RegOk R) (hq : QOk q) (hop : q.op = 88) : Runs q R p n bs ks (regO (opC q R p n ks) (upd R q.r1 (opV q R bs)) p 0 bs) :=
  ⟨regO_stop, 51, enters_of Tryz.func51 (by kernel_rfl) rfl, fun X => by rw [hop]; exact action_88 X, fun E A g h m X hX hsX => by
    exact (load_any E A q R p 0 g h n m bs ks X hX hsX hR hq).mono fun e X' hp => act_of_reg hX hsX hp⟩
theorem runs_72 (q : Qn) (R : Nat → Int) (p : Psw) (n : Nat) (bs ks : List UInt8) (hR : RegOk R) (hq : QOk q) (hop : q.op = 72) : Runs q R p n bs ks (regO (opC q R p n ks) (upd R q.r1 (opV q R bs)) p 0 bs) :=
  ⟨regO_stop, 51, enters_of Tryz.func51 (by kernel_rfl) rfl, fun X => by rw [hop]; exact action_72 X, fun E A g h m X hX hsX => by
    exact (load_any E A q R p 0 g h n m bs ks X hX hsX hR hq).mono fun e X' hp => act_of_reg hX hsX hp⟩
theorem runs_146 (q : Qn) (R : Nat → Int) (p : Psw) (n : Nat) (bs ks : List UInt8) (hR : RegOk R) (hq : QOk q) (hop : q.op = 146) : Runs q R p n bs ks (regO (codeV (stP p.k) n ks (adF q R : Int) ((1 : Nat) : Int)) R p 0 (putB (stP p.k) n bs ks (adF q R : Int) [i2B q])) :=
  ⟨regO_stop, 67, enters_of Tryz.func67 (by kernel_rfl) rfl, fun X => by rw [hop]; exact action_146 X, fun E A g h m X hX hsX => by
    exact (moveImm_any E A q R p 0 g h n m bs ks X hX hsX hR hq).mono fun e X' hp => act_of_sto hp⟩
theorem runs_76 (q : Qn) (R : Nat → Int) (p : Psw) (n : Nat) (bs ks : List UInt8) (hR : RegOk R) (hq : QOk q) (hop : q.op = 76) : Runs q R p n bs ks (regO (opC q R p n ks) (upd R q.r1 (W.sg (R q.r1) * W.sg (opV q R bs) % 4294967296)) p 0 bs) :=
  ⟨regO_stop, 57, enters_of Tryz.func57 (by kernel_rfl) rfl, fun X => by rw [hop]; exact action_76 X, fun E A g h m X hX hsX => by
    exact (multiplyHalf_any E A q R p 0 g h n m bs ks X hX hsX hR hq).mono fun e X' hp => act_of_reg hX hsX hp⟩
theorem runs_28 (q : Qn) (R : Nat → Int) (p : Psw) (n : Nat) (bs ks : List UInt8) (hR : RegOk R) (hq : QOk q) (hop : q.op = 28) : Runs q R p n bs ks (regO (if q.r1 % 2 = 0 then opC q R p n ks else 6) (upd (upd R q.r1 (W.sg (R (q.r1 + 1)) * W.sg (opV q R bs) % 18446744073709551616 / 4294967296)) (q.r1 + 1) (W.sg (R (q.r1 + 1)) * W.sg (opV q R bs) % 4294967296)) p 0 bs) :=
  ⟨regO_stop, 56, enters_of Tryz.func56 (by kernel_rfl) rfl, fun X => by rw [hop]; exact action_28 X, fun E A g h m X hX hsX => by
    exact (multiply_any E A q R p 0 g h n m bs ks X hX hsX hR hq).mono fun e X' hp => act_of_reg hX hsX hp⟩
theorem runs_92 (q : Qn) (R : Nat → Int) (p : Psw) (n : Nat) (bs ks : List UInt8) (hR : RegOk R) (hq : QOk q) (hop : q.op = 92) : Runs q R p n bs ks (regO (if q.r1 % 2 = 0 then opC q R p n ks else 6) (upd (upd R q.r1 (W.sg (R (q.r1 + 1)) * W.sg (opV q R bs) % 18446744073709551616 / 4294967296)) (q.r1 + 1) (W.sg (R (q.r1 + 1)) * W.sg (opV q R bs) % 4294967296)) p 0 bs) :=
  ⟨regO_stop, 56, enters_of Tryz.func56 (by kernel_rfl) rfl, fun X => by rw [hop]; exact action_92 X, fun E A g h m X hX hsX => by
    exact (multiply_any E A q R p 0 g h n m bs ks X hX hsX hR hq).mono fun e X' hp => act_of_reg hX hsX hp⟩
theorem runs_221 (q : Qn) (R : Nat → Int) (p : Psw) (n : Nat) (bs ks : List UInt8) (hR : RegOk R) (hq : QOk q) (hop : q.op = 221) : Runs q R p n bs ks (regO (scR q R p n ks bs).1 (scG R (scR q R p n ks bs).2) (scP p (scR q R p n ks bs).2) 0 bs) :=
  ⟨regO_stop, 74, enters_of Tryz.func74 (by kernel_rfl) rfl, fun X => by rw [hop]; exact action_221 X, fun E A g h m X hX hsX => by
    exact (scan_any E A q R p 0 g h n m bs ks X hX hsX hR hq).mono fun e X' hp => act_of_reg hX hsX hp⟩
theorem runs_140 (q : Qn) (R : Nat → Int) (p : Psw) (n : Nat) (bs ks : List UInt8) (hR : RegOk R) (hq : QOk q) (hop : q.op = 140) : Runs q R p n bs ks (regO (if q.r1 % 2 = 0 then 0 else 6) (upd (upd R q.r1 ((W.slg 18446744073709551616 false (W.pl (adT q R : Int)) ((R q.r1) * 4294967296 + R (q.r1 + 1))) / 4294967296)) (q.r1 + 1) ((W.slg 18446744073709551616 false (W.pl (adT q R : Int)) ((R q.r1) * 4294967296 + R (q.r1 + 1))) % 4294967296)) p 0 bs) :=
  ⟨regO_stop, 60, enters_of Tryz.func60 (by kernel_rfl) rfl, fun X => by rw [hop]; exact action_140 X, fun E A g h m X hX hsX => by
    exact (shiftPair_140 E A q R p 0 X hX hR hq hop).mono fun e X' hp => act_of_reg hX hsX hp⟩
theorem runs_141 (q : Qn) (R : Nat → Int) (p : Psw) (n : Nat) (bs ks : List UInt8) (hR : RegOk R) (hq : QOk q) (hop : q.op = 141) : Runs q R p n bs ks (regO (if q.r1 % 2 = 0 then 0 else 6) (upd (upd R q.r1 ((W.slg 18446744073709551616 true (W.pl (adT q R : Int)) ((R q.r1) * 4294967296 + R (q.r1 + 1))) / 4294967296)) (q.r1 + 1) ((W.slg 18446744073709551616 true (W.pl (adT q R : Int)) ((R q.r1) * 4294967296 + R (q.r1 + 1))) % 4294967296)) p 0 bs) :=
  ⟨regO_stop, 60, enters_of Tryz.func60 (by kernel_rfl) rfl, fun X => by rw [hop]; exact action_141 X, fun E A g h m X hX hsX => by
    exact (shiftPair_141 E A q R p 0 X hX hR hq hop).mono fun e X' hp => act_of_reg hX hsX hp⟩
theorem runs_142 (q : Qn) (R : Nat → Int) (p : Psw) (n : Nat) (bs ks : List UInt8) (hR : RegOk R) (hq : QOk q) (hop : q.op = 142) : Runs q R p n bs ks (regO (if q.r1 % 2 = 0 then 0 else 6) (upd (upd R q.r1 ((W.shr 9223372036854775808 (W.pl (adT q R : Int)) ((R q.r1) * 4294967296 + R (q.r1 + 1))) / 4294967296)) (q.r1 + 1) ((W.shr 9223372036854775808 (W.pl (adT q R : Int)) ((R q.r1) * 4294967296 + R (q.r1 + 1))) % 4294967296)) { p with cc := (W.ord (wrap64 (W.shr 9223372036854775808 (W.pl (adT q R : Int)) ((R q.r1) * 4294967296 + R (q.r1 + 1)))) 0) } 0 bs) :=
  ⟨regO_stop, 60, enters_of Tryz.func60 (by kernel_rfl) rfl, fun X => by rw [hop]; exact action_142 X, fun E A g h m X hX hsX => by
    exact (shiftPair_142 E A q R p 0 X hX hR hq hop).mono fun e X' hp => act_of_reg hX hsX hp⟩
theorem runs_143 (q : Qn) (R : Nat → Int) (p : Psw) (n : Nat) (bs ks : List UInt8) (hR : RegOk R) (hq : QOk q) (hop : q.op = 143) : Runs q R p n bs ks (regO (if q.r1 % 2 = 0 then 0 else 6) (upd (upd R q.r1 ((W.shv 9223372036854775808 (W.pl (adT q R : Int)) ((R q.r1) * 4294967296 + R (q.r1 + 1))) / 4294967296)) (q.r1 + 1) ((W.shv 9223372036854775808 (W.pl (adT q R : Int)) ((R q.r1) * 4294967296 + R (q.r1 + 1))) % 4294967296)) { p with cc := (W.sl64cc (W.pl (adT q R : Int)) ((R q.r1) * 4294967296 + R (q.r1 + 1))) } (if ((W.sho 9223372036854775808 (W.pl (adT q R : Int)) ((R q.r1) * 4294967296 + R (q.r1 + 1))) && adB { p with cc := (W.sl64cc (W.pl (adT q R : Int)) ((R q.r1) * 4294967296 + R (q.r1 + 1))) } 3 8 0) = true then 8 else 0) bs) :=
  ⟨regO_stop, 60, enters_of Tryz.func60 (by kernel_rfl) rfl, fun X => by rw [hop]; exact action_143 X, fun E A g h m X hX hsX => by
    exact (shiftPair_143 E A q R p 0 X hX hR hq hop).mono fun e X' hp => act_of_reg hX hsX hp⟩
theorem runs_136 (q : Qn) (R : Nat → Int) (p : Psw) (n : Nat) (bs ks : List UInt8) (hR : RegOk R) (hq : QOk q) (hop : q.op = 136) : Runs q R p n bs ks (regO 0 (upd R q.r1 (W.slg 4294967296 false (W.pl (adT q R : Int)) (R q.r1))) p 0 bs) :=
  ⟨regO_stop, 59, enters_of Tryz.func59 (by kernel_rfl) rfl, fun X => by rw [hop]; exact action_136 X, fun E A g h m X hX hsX => by
    exact (shift_136 E A q R p 0 X hX hR hq hop).mono fun e X' hp => act_of_reg hX hsX hp⟩
theorem runs_137 (q : Qn) (R : Nat → Int) (p : Psw) (n : Nat) (bs ks : List UInt8) (hR : RegOk R) (hq : QOk q) (hop : q.op = 137) : Runs q R p n bs ks (regO 0 (upd R q.r1 (W.slg 4294967296 true (W.pl (adT q R : Int)) (R q.r1))) p 0 bs) :=
  ⟨regO_stop, 59, enters_of Tryz.func59 (by kernel_rfl) rfl, fun X => by rw [hop]; exact action_137 X, fun E A g h m X hX hsX => by
    exact (shift_137 E A q R p 0 X hX hR hq hop).mono fun e X' hp => act_of_reg hX hsX hp⟩
theorem runs_138 (q : Qn) (R : Nat → Int) (p : Psw) (n : Nat) (bs ks : List UInt8) (hR : RegOk R) (hq : QOk q) (hop : q.op = 138) : Runs q R p n bs ks (regO 0 (upd R q.r1 (W.shr 2147483648 (W.pl (adT q R : Int)) (R q.r1))) { p with cc := (W.ord (W.sg (W.shr 2147483648 (W.pl (adT q R : Int)) (R q.r1))) 0) } 0 bs) :=
  ⟨regO_stop, 59, enters_of Tryz.func59 (by kernel_rfl) rfl, fun X => by rw [hop]; exact action_138 X, fun E A g h m X hX hsX => by
    exact (shift_138 E A q R p 0 X hX hR hq hop).mono fun e X' hp => act_of_reg hX hsX hp⟩
theorem runs_139 (q : Qn) (R : Nat → Int) (p : Psw) (n : Nat) (bs ks : List UInt8) (hR : RegOk R) (hq : QOk q) (hop : q.op = 139) : Runs q R p n bs ks (regO 0 (upd R q.r1 (W.shv 2147483648 (W.pl (adT q R : Int)) (R q.r1))) { p with cc := (W.sl32cc (W.pl (adT q R : Int)) (R q.r1)) } (if ((W.sho 2147483648 (W.pl (adT q R : Int)) (R q.r1)) && adB { p with cc := (W.sl32cc (W.pl (adT q R : Int)) (R q.r1)) } 3 8 0) = true then 8 else 0) bs) :=
  ⟨regO_stop, 59, enters_of Tryz.func59 (by kernel_rfl) rfl, fun X => by rw [hop]; exact action_139 X, fun E A g h m X hX hsX => by
    exact (shift_139 E A q R p 0 X hX hR hq hop).mono fun e X' hp => act_of_reg hX hsX hp⟩
theorem runs_64 (q : Qn) (R : Nat → Int) (p : Psw) (n : Nat) (bs ks : List UInt8) (hR : RegOk R) (hq : QOk q) (hop : q.op = 64) : Runs q R p n bs ks (regO (if adT q R % 2 = 0 then codeV (stP p.k) n ks (adT q R : Int) ((2 : Nat) : Int) else 6) R p 0 (if adT q R % 2 = 0 then putB (stP p.k) n bs ks (adT q R : Int) ((rb (R q.r1)).drop 2) else bs)) :=
  ⟨regO_stop, 63, enters_of Tryz.func63 (by kernel_rfl) rfl, fun X => by rw [hop]; exact action_64 X, fun E A g h m X hX hsX => by
    exact (storeReg_64 E A q R p 0 g h n m bs ks X hX hsX hR hq hop).mono fun e X' hp => act_of_sto hp⟩
theorem runs_66 (q : Qn) (R : Nat → Int) (p : Psw) (n : Nat) (bs ks : List UInt8) (hR : RegOk R) (hq : QOk q) (hop : q.op = 66) : Runs q R p n bs ks (regO (if adT q R % 1 = 0 then codeV (stP p.k) n ks (adT q R : Int) ((1 : Nat) : Int) else 6) R p 0 (if adT q R % 1 = 0 then putB (stP p.k) n bs ks (adT q R : Int) ((rb (R q.r1)).drop 3) else bs)) :=
  ⟨regO_stop, 63, enters_of Tryz.func63 (by kernel_rfl) rfl, fun X => by rw [hop]; exact action_66 X, fun E A g h m X hX hsX => by
    exact (storeReg_66 E A q R p 0 g h n m bs ks X hX hsX hR hq hop).mono fun e X' hp => act_of_sto hp⟩
theorem runs_80 (q : Qn) (R : Nat → Int) (p : Psw) (n : Nat) (bs ks : List UInt8) (hR : RegOk R) (hq : QOk q) (hop : q.op = 80) : Runs q R p n bs ks (regO (if adT q R % 4 = 0 then codeV (stP p.k) n ks (adT q R : Int) ((4 : Nat) : Int) else 6) R p 0 (if adT q R % 4 = 0 then putB (stP p.k) n bs ks (adT q R : Int) ((rb (R q.r1)).drop 0) else bs)) :=
  ⟨regO_stop, 63, enters_of Tryz.func63 (by kernel_rfl) rfl, fun X => by rw [hop]; exact action_80 X, fun E A g h m X hX hsX => by
    exact (storeReg_80 E A q R p 0 g h n m bs ks X hX hsX hR hq hop).mono fun e X' hp => act_of_sto hp⟩
theorem runs_147 (q : Qn) (R : Nat → Int) (p : Psw) (n : Nat) (bs ks : List UInt8) (hR : RegOk R) (hq : QOk q) (hop : q.op = 147) : Runs q R p n bs ks (regO (if codeV (ftP p.k) n ks (adF q R : Int) ((1 : Nat) : Int) = 0 then codeV (stP p.k) n ks (adF q R : Int) ((1 : Nat) : Int) else codeV (ftP p.k) n ks (adF q R : Int) ((1 : Nat) : Int)) R { p with cc := ((gt bs (adF q R)).toNat / 128 : Nat) } 0 (putB (stP p.k) n bs ks (adF q R : Int) [255])) :=
  ⟨regO_stop, 70, enters_of Tryz.func70 (by kernel_rfl) rfl, fun X => by rw [hop]; exact action_147 X, fun E A g h m X hX hsX => by
    exact (testSet_any E A q R p 0 g h n m bs ks X hX hsX hR hq).mono fun e X' hp => act_of_sto hp⟩
theorem runs_16 (q : Qn) (R : Nat → Int) (p : Psw) (n : Nat) (bs ks : List UInt8) (hR : RegOk R) (hq : QOk q) (hop : q.op = 16) : Runs q R p n bs ks (regO (opC q R p n ks) (if cplB 16 (W.ord (W.sg (opV q R bs)) 0) = true then sgR q R (W.sg 0 - W.sg (opV q R bs)) else upd R q.r1 (opV q R bs)) (if cplB 16 (W.ord (W.sg (opV q R bs)) 0) = true then sgP p (W.sg 0 - W.sg (opV q R bs)) else { p with cc := (W.ord (W.sg (opV q R bs)) 0) }) (if cplB 16 (W.ord (W.sg (opV q R bs)) 0) = true then sgC p (W.sg 0 - W.sg (opV q R bs)) 0 else 0) bs) :=
  ⟨regO_stop, 52, enters_of Tryz.func52 (by kernel_rfl) rfl, fun X => by rw [hop]; exact action_16 X, fun E A g h m X hX hsX => by
    exact (tested_16 E A q R p 0 g h n m bs ks X hX hsX hR hq hop).mono fun e X' hp => act_of_reg hX hsX hp⟩
theorem runs_17 (q : Qn) (R : Nat → Int) (p : Psw) (n : Nat) (bs ks : List UInt8) (hR : RegOk R) (hq : QOk q) (hop : q.op = 17) : Runs q R p n bs ks (regO (opC q R p n ks) (if cplB 17 (W.ord (W.sg (opV q R bs)) 0) = true then sgR q R (W.sg 0 - W.sg (opV q R bs)) else upd R q.r1 (opV q R bs)) (if cplB 17 (W.ord (W.sg (opV q R bs)) 0) = true then sgP p (W.sg 0 - W.sg (opV q R bs)) else { p with cc := (W.ord (W.sg (opV q R bs)) 0) }) (if cplB 17 (W.ord (W.sg (opV q R bs)) 0) = true then sgC p (W.sg 0 - W.sg (opV q R bs)) 0 else 0) bs) :=
  ⟨regO_stop, 52, enters_of Tryz.func52 (by kernel_rfl) rfl, fun X => by rw [hop]; exact action_17 X, fun E A g h m X hX hsX => by
    exact (tested_17 E A q R p 0 g h n m bs ks X hX hsX hR hq hop).mono fun e X' hp => act_of_reg hX hsX hp⟩
theorem runs_18 (q : Qn) (R : Nat → Int) (p : Psw) (n : Nat) (bs ks : List UInt8) (hR : RegOk R) (hq : QOk q) (hop : q.op = 18) : Runs q R p n bs ks (regO (opC q R p n ks) (if cplB 18 (W.ord (W.sg (opV q R bs)) 0) = true then sgR q R (W.sg 0 - W.sg (opV q R bs)) else upd R q.r1 (opV q R bs)) (if cplB 18 (W.ord (W.sg (opV q R bs)) 0) = true then sgP p (W.sg 0 - W.sg (opV q R bs)) else { p with cc := (W.ord (W.sg (opV q R bs)) 0) }) (if cplB 18 (W.ord (W.sg (opV q R bs)) 0) = true then sgC p (W.sg 0 - W.sg (opV q R bs)) 0 else 0) bs) :=
  ⟨regO_stop, 52, enters_of Tryz.func52 (by kernel_rfl) rfl, fun X => by rw [hop]; exact action_18 X, fun E A g h m X hX hsX => by
    exact (tested_18 E A q R p 0 g h n m bs ks X hX hsX hR hq hop).mono fun e X' hp => act_of_reg hX hsX hp⟩
theorem runs_19 (q : Qn) (R : Nat → Int) (p : Psw) (n : Nat) (bs ks : List UInt8) (hR : RegOk R) (hq : QOk q) (hop : q.op = 19) : Runs q R p n bs ks (regO (opC q R p n ks) (if cplB 19 (W.ord (W.sg (opV q R bs)) 0) = true then sgR q R (W.sg 0 - W.sg (opV q R bs)) else upd R q.r1 (opV q R bs)) (if cplB 19 (W.ord (W.sg (opV q R bs)) 0) = true then sgP p (W.sg 0 - W.sg (opV q R bs)) else { p with cc := (W.ord (W.sg (opV q R bs)) 0) }) (if cplB 19 (W.ord (W.sg (opV q R bs)) 0) = true then sgC p (W.sg 0 - W.sg (opV q R bs)) 0 else 0) bs) :=
  ⟨regO_stop, 52, enters_of Tryz.func52 (by kernel_rfl) rfl, fun X => by rw [hop]; exact action_19 X, fun E A g h m X hX hsX => by
    exact (tested_19 E A q R p 0 g h n m bs ks X hX hsX hR hq hop).mono fun e X' hp => act_of_reg hX hsX hp⟩
theorem runs_220 (q : Qn) (R : Nat → Int) (p : Psw) (n : Nat) (bs ks : List UInt8) (hR : RegOk R) (hq : QOk q) (hop : q.op = 220) : Runs q R p n bs ks (regO (trC q R p n ks bs) R p 0 (putB (stP p.k) n bs ks (adF q R : Int) (trR q R p n ks bs).2)) :=
  ⟨regO_stop, 73, enters_of Tryz.func73 (by kernel_rfl) rfl, fun X => by rw [hop]; exact action_220 X, fun E A g h m X hX hsX => by
    exact (translate_any E A q R p 0 g h n m bs ks X hX hsX hR hq).mono fun e X' hp => act_of_sto hp⟩
theorem runs_209 (q : Qn) (R : Nat → Int) (p : Psw) (n : Nat) (bs ks : List UInt8) (hR : RegOk R) (hq : QOk q) (hop : q.op = 209) : Runs q R p n bs ks (regO (rpC q R p n ks) R (rpP q R p bs) 0 (putB (stP p.k) n bs ks (adF q R : Int) (rpF q R bs))) :=
  ⟨regO_stop, 71, enters_of Tryz.func71 (by kernel_rfl) rfl, fun X => by rw [hop]; exact action_209 X, fun E A g h m X hX hsX => by
    exact (replace_any E A q R p 0 g h n m bs ks X hX hsX hR hq (by omega) (fun x y W => by rw [hop]; exact replacement_209 x y W)).mono fun e X' hp => act_of_sto hp⟩
theorem runs_210 (q : Qn) (R : Nat → Int) (p : Psw) (n : Nat) (bs ks : List UInt8) (hR : RegOk R) (hq : QOk q) (hop : q.op = 210) : Runs q R p n bs ks (regO (rpC q R p n ks) R (rpP q R p bs) 0 (putB (stP p.k) n bs ks (adF q R : Int) (rpF q R bs))) :=
  ⟨regO_stop, 71, enters_of Tryz.func71 (by kernel_rfl) rfl, fun X => by rw [hop]; exact action_210 X, fun E A g h m X hX hsX => by
    exact (replace_any E A q R p 0 g h n m bs ks X hX hsX hR hq (by omega) (fun x y W => by rw [hop]; exact replacement_210 x y W)).mono fun e X' hp => act_of_sto hp⟩
theorem runs_211 (q : Qn) (R : Nat → Int) (p : Psw) (n : Nat) (bs ks : List UInt8) (hR : RegOk R) (hq : QOk q) (hop : q.op = 211) : Runs q R p n bs ks (regO (rpC q R p n ks) R (rpP q R p bs) 0 (putB (stP p.k) n bs ks (adF q R : Int) (rpF q R bs))) :=
  ⟨regO_stop, 71, enters_of Tryz.func71 (by kernel_rfl) rfl, fun X => by rw [hop]; exact action_211 X, fun E A g h m X hX hsX => by
    exact (replace_any E A q R p 0 g h n m bs ks X hX hsX hR hq (by omega) (fun x y W => by rw [hop]; exact replacement_211 x y W)).mono fun e X' hp => act_of_sto hp⟩
theorem runs_212 (q : Qn) (R : Nat → Int) (p : Psw) (n : Nat) (bs ks : List UInt8) (hR : RegOk R) (hq : QOk q) (hop : q.op = 212) : Runs q R p n bs ks (regO (rpC q R p n ks) R (rpP q R p bs) 0 (putB (stP p.k) n bs ks (adF q R : Int) (rpF q R bs))) :=
  ⟨regO_stop, 71, enters_of Tryz.func71 (by kernel_rfl) rfl, fun X => by rw [hop]; exact action_212 X, fun E A g h m X hX hsX => by
    exact (replace_any E A q R p 0 g h n m bs ks X hX hsX hR hq (by omega) (fun x y W => by rw [hop]; exact replacement_212 x y W)).mono fun e X' hp => act_of_sto hp⟩
theorem runs_214 (q : Qn) (R : Nat → Int) (p : Psw) (n : Nat) (bs ks : List UInt8) (hR : RegOk R) (hq : QOk q) (hop : q.op = 214) : Runs q R p n bs ks (regO (rpC q R p n ks) R (rpP q R p bs) 0 (putB (stP p.k) n bs ks (adF q R : Int) (rpF q R bs))) :=
  ⟨regO_stop, 71, enters_of Tryz.func71 (by kernel_rfl) rfl, fun X => by rw [hop]; exact action_214 X, fun E A g h m X hX hsX => by
    exact (replace_any E A q R p 0 g h n m bs ks X hX hsX hR hq (by omega) (fun x y W => by rw [hop]; exact replacement_214 x y W)).mono fun e X' hp => act_of_sto hp⟩
theorem runs_215 (q : Qn) (R : Nat → Int) (p : Psw) (n : Nat) (bs ks : List UInt8) (hR : RegOk R) (hq : QOk q) (hop : q.op = 215) : Runs q R p n bs ks (regO (rpC q R p n ks) R (rpP q R p bs) 0 (putB (stP p.k) n bs ks (adF q R : Int) (rpF q R bs))) :=
  ⟨regO_stop, 71, enters_of Tryz.func71 (by kernel_rfl) rfl, fun X => by rw [hop]; exact action_215 X, fun E A g h m X hX hsX => by
    exact (replace_any E A q R p 0 g h n m bs ks X hX hsX hR hq (by omega) (fun x y W => by rw [hop]; exact replacement_215 x y W)).mono fun e X' hp => act_of_sto hp⟩

end M
end Go.Proofs.YtfopjnfphlkcgaaGreat

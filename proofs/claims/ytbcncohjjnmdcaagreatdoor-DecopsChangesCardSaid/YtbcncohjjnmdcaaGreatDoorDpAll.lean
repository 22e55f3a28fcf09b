/- What any decimal instruction comes to. -/
import Derived.Test.YtbcncohjjnmdcaaGreatDoorRows
import Derived.Test.YtbcncohjjnmdcaaGreatDoorDpRs
import Derived.Test.YtbcncohjjnmdcaaGreatDoorDpUm
import Derived.Test.YtbcncohjjnmdcaaGreatDoorDpWorks
namespace Go.Proofs.YtbcncohjjnmdcaaGreatDoor
namespace E
end E
open Go.RowKit Go.Shelf E
set_option linter.unusedVariables false
namespace M

theorem nz_mvo (q : Qn) (R : Nat → Int) (p : Psw) (n : Nat) (bs ks : List UInt8) : Nz (mvoO q R p n bs ks) := nz_then (nz_put _ _ _ _ _ _ _ _ _)
theorem runs_241 (q : Qn) (R : Nat → Int) (p : Psw) (n : Nat) (bs ks : List UInt8) (hR : RegOk R) (hq : QOk q) (hop : q.op = 241) : Runs q R p n bs ks (mvoO q R p n bs ks) :=
  ⟨nz_mvo _ _ _ _ _ _, 48, enters_of Tryz.func48 (by kernel_rfl) rfl, fun X => by rw [hop]; exact action_241 X, fun E A g h m X hgX hX hsX => moveOffset_act E A q R p g h n m bs ks X hX hsX hR hq⟩
theorem nz_zap (q : Qn) (R : Nat → Int) (p : Psw) (n : Nat) (bs ks : List UInt8) : Nz (zapO q R p n bs ks) := nz_then (nz_bec _ _ _ _ _ _ _ _ _)
theorem runs_248 (q : Qn) (R : Nat → Int) (p : Psw) (n : Nat) (bs ks : List UInt8) (hR : RegOk R) (hq : QOk q) (hop : q.op = 248) : Runs q R p n bs ks (zapO q R p n bs ks) :=
  ⟨nz_zap _ _ _ _ _ _, 49, enters_of Tryz.func49 (by kernel_rfl) rfl, fun X => by rw [hop]; exact action_248 X, fun E A g h m X hgX hX hsX => zeroAndAdd_act E A q R p g h n m bs ks X hX hsX hgX hR hq⟩
theorem nz_sp (q : Qn) (R : Nat → Int) (p : Psw) (n : Nat) (bs ks : List UInt8) : Nz (spO q R p n bs ks) := nz_then (nz_bec _ _ _ _ _ _ _ _ _)
theorem runs_251 (q : Qn) (R : Nat → Int) (p : Psw) (n : Nat) (bs ks : List UInt8) (hR : RegOk R) (hq : QOk q) (hop : q.op = 251) : Runs q R p n bs ks (spO q R p n bs ks) :=
  ⟨nz_sp _ _ _ _ _ _, 51, enters_of Tryz.func51 (by kernel_rfl) rfl, fun X => by rw [hop]; exact action_251 X, fun E A g h m X hgX hX hsX => subtract_act E A q R p g h n m bs ks X hX hsX hgX hR hq⟩
theorem nz_cmp (q : Qn) (R : Nat → Int) (p : Psw) (n : Nat) (bs ks : List UInt8) : Nz (cmpO q R p n bs ks) := nz_then (nz_then (nz_go _ _ _ _))
theorem runs_249 (q : Qn) (R : Nat → Int) (p : Psw) (n : Nat) (bs ks : List UInt8) (hR : RegOk R) (hq : QOk q) (hop : q.op = 249) : Runs q R p n bs ks (cmpO q R p n bs ks) :=
  ⟨nz_cmp _ _ _ _ _ _, 52, enters_of Tryz.func52 (by kernel_rfl) rfl, fun X => by rw [hop]; exact action_249 X, fun E A g h m X hgX hX hsX => compare_act E A q R p g h n m bs ks X hX hsX hgX hR hq⟩
theorem nz_mp (q : Qn) (R : Nat → Int) (p : Psw) (n : Nat) (bs ks : List UInt8) : Nz (mpO q R p n bs ks) := nz_then (nz_then (nz_put _ _ _ _ _ _ _ _ _))
theorem runs_252 (q : Qn) (R : Nat → Int) (p : Psw) (n : Nat) (bs ks : List UInt8) (hR : RegOk R) (hq : QOk q) (hop : q.op = 252) : Runs q R p n bs ks (mpO q R p n bs ks) :=
  ⟨nz_mp _ _ _ _ _ _, 53, enters_of Tryz.func53 (by kernel_rfl) rfl, fun X => by rw [hop]; exact action_252 X, fun E A g h m X hgX hX hsX => multiply_act E A q R p g h n m bs ks X hX hsX hgX hR hq⟩
theorem nz_dp (q : Qn) (R : Nat → Int) (p : Psw) (n : Nat) (bs ks : List UInt8) : Nz (dpO q R p n bs ks) := nz_then (nz_then (nz_put _ _ _ _ _ _ _ _ _))
theorem runs_253 (q : Qn) (R : Nat → Int) (p : Psw) (n : Nat) (bs ks : List UInt8) (hR : RegOk R) (hq : QOk q) (hop : q.op = 253) : Runs q R p n bs ks (dpO q R p n bs ks) :=
  ⟨nz_dp _ _ _ _ _ _, 54, enters_of Tryz.func54 (by kernel_rfl) rfl, fun X => by rw [hop]; exact action_253 X, fun E A g h m X hgX hX hsX => divide_act E A q R p g h n m bs ks X hX hsX hgX hR hq⟩
theorem nz_srp (q : Qn) (R : Nat → Int) (p : Psw) (n : Nat) (bs ks : List UInt8) : Nz (srpO q R p n bs ks) := nz_then (nz_bec _ _ _ _ _ _ _ _ _)
theorem runs_240 (q : Qn) (R : Nat → Int) (p : Psw) (n : Nat) (bs ks : List UInt8) (hR : RegOk R) (hq : QOk q) (hop : q.op = 240) : Runs q R p n bs ks (srpO q R p n bs ks) :=
  ⟨nz_srp _ _ _ _ _ _, 55, enters_of Tryz.func55 (by kernel_rfl) rfl, fun X => by rw [hop]; exact action_240 X, fun E A g h m X hgX hX hsX => shift_act E A q R p g h n m bs ks X hX hsX hgX hR hq⟩
theorem nz_map {f : Nat → Int} {o : Out} (h : Nz o) : Nz (mapO f o) := by
  intro C e
  cases o with
  | stop C' => exact h C (by unfold mapO at e; exact e)
  | go R p c b => cases e
theorem nz_edm (q : Qn) (R : Nat → Int) (p : Psw) (n : Nat) (bs ks : List UInt8) : Nz (edmO q R p n bs ks) := nz_map (nz_edt _ _ _ _ _ _)
theorem runs_223 (q : Qn) (R : Nat → Int) (p : Psw) (n : Nat) (bs ks : List UInt8) (hR : RegOk R) (hq : QOk q) (hop : q.op = 223) : Runs q R p n bs ks (edmO q R p n bs ks) :=
  ⟨nz_edm _ _ _ _ _ _, 57, enters_of Tryz.func57 (by kernel_rfl) rfl, fun X => by rw [hop]; exact action_223 X, fun E A g h m X hgX hX hsX => editAndMark_act E A q R p g h n m bs ks X hX hsX hR hq⟩
/-- What an instruction comes to. -/
def dcO (q : Qn) (R : Nat → Int) (p : Psw) (n : Nat) (bs ks : List UInt8) : Out := if q.op = 78 then cvdO q R p n bs ks else if q.op = 79 then cvbO q R p n bs ks else if q.op = 222 then edtO q R p n bs ks else if q.op = 223 then edmO q R p n bs ks else if q.op = 240 then srpO q R p n bs ks else if q.op = 241 then mvoO q R p n bs ks else if q.op = 242 then pkO q R p n bs ks else if q.op = 243 then unO q R p n bs ks else if q.op = 248 then zapO q R p n bs ks else if q.op = 249 then cmpO q R p n bs ks else if q.op = 250 then apO q R p n bs ks else if q.op = 251 then spO q R p n bs ks else if q.op = 252 then mpO q R p n bs ks else if q.op = 253 then dpO q R p n bs ks else .stop 1
theorem runs_any (q : Qn) (R : Nat → Int) (p : Psw) (n : Nat) (bs ks : List UInt8) (hR : RegOk R) (hq : QOk q) (hop : q.op = 78 ∨ q.op = 79 ∨ q.op = 222 ∨ q.op = 223 ∨ q.op = 240 ∨ q.op = 241 ∨ q.op = 242 ∨ q.op = 243 ∨ q.op = 248 ∨ q.op = 249 ∨ q.op = 250 ∨ q.op = 251 ∨ q.op = 252 ∨ q.op = 253) : Runs q R p n bs ks (dcO q R p n bs ks) := by
  unfold dcO
  rcases hop with h | h | h | h | h | h | h | h | h | h | h | h | h | h
  · rw [if_pos h]
    exact runs_78 q R p n bs ks hR hq h
  · rw [if_neg (by omega), if_pos h]
    exact runs_79 q R p n bs ks hR hq h
  · rw [if_neg (by omega), if_neg (by omega), if_pos h]
    exact runs_222 q R p n bs ks hR hq h
  · rw [if_neg (by omega), if_neg (by omega), if_neg (by omega), if_pos h]
    exact runs_223 q R p n bs ks hR hq h
  · rw [if_neg (by omega), if_neg (by omega), if_neg (by omega), if_neg (by omega), if_pos h]
    exact runs_240 q R p n bs ks hR hq h
  · rw [if_neg (by omega), if_neg (by omega), if_neg (by omega), if_neg (by omega), if_neg (by omega), if_pos h]
    exact runs_241 q R p n bs ks hR hq h
  · rw [if_neg (by omega), if_neg (by omega), if_neg (by omega), if_neg (by omega), if_neg (by omega), if_neg (by omega), if_pos h]
    exact runs_242 q R p n bs ks hR hq h
  · rw [if_neg (by omega), if_neg (by omega), if_neg (by omega), if_neg (by omega), if_neg (by omega), if_neg (by omega), if_neg (by omega), if_pos h]
    exact runs_243 q R p n bs ks hR hq h
  · rw [if_neg (by omega), if_neg (by omega), if_neg (by omega), if_neg (by omega), if_neg (by omega), if_neg (by omega), if_neg (by omega), if_neg (by omega), if_pos h]
    exact runs_248 q R p n bs ks hR hq h
  · rw [if_neg (by omega), if_neg (by omega), if_neg (by omega), if_neg (by omega), if_neg (by omega), if_neg (by omega), if_neg (by omega), if_neg (by omega), if_neg (by omega), if_pos h]
    exact runs_249 q R p n bs ks hR hq h
  · rw [if_neg (by omega), if_neg (by omega), if_neg (by omega), if_neg (by omega), if_neg (by omega), if_neg (by omega), if_neg (by omega), if_neg (by omega), if_neg (by omega), if_neg (by omega), if_pos h]
    exact runs_250 q R p n bs ks hR hq h
  · rw [if_neg (by omega), if_neg (by omega), if_neg (by omega), if_neg (by omega), if_neg (by omega), if_neg (by omega), if_neg (by omega), if_neg (by omega), if_neg (by omega), if_neg (by omega), if_neg (by omega), if_pos h]
    exact runs_251 q R p n bs ks hR hq h
  · rw [if_neg (by omega), if_neg (by omega), if_neg (by omega), if_neg (by omega), if_neg (by omega), if_neg (by omega), if_neg (by omega), if_neg (by omega), if_neg (by omega), if_neg (by omega), if_neg (by omega), if_neg (by omega), if_pos h]
    exact runs_252 q R p n bs ks hR hq h
  · rw [if_neg (by omega), if_neg (by omega), if_neg (by omega), if_neg (by omega), if_neg (by omega), if_neg (by omega), if_neg (by omega), if_neg (by omega), if_neg (by omega), if_neg (by omega), if_neg (by omega), if_neg (by omega), if_neg (by omega), if_pos h]
    exact runs_253 q R p n bs ks hR hq h

end M
end Go.Proofs.YtbcncohjjnmdcaaGreatDoor

/- An instruction that runs; Exec of it; the example of the chapter. -/
import Derived.Test.YtfopjnfphlkcgaaGreatRows
import Derived.Test.YtfopjnfphlkcgaaGreatGnExecA
namespace Go.Proofs.YtfopjnfphlkcgaaGreat
namespace E
end E
open Go.RowKit Go.Shelf E
set_option linter.unusedVariables false
namespace M

/-- What an instruction comes to on a storage of given bytes and keys. -/
def Runs (q : Qn) (R : Nat → Int) (p : Psw) (n : Nat) (bs ks : List UInt8) (o : Out) : Prop :=
  (∀ C, o = .stop C → C ≠ 0) ∧ ∃ f, Go.Proofs.Enters Tryz.prog f ∧ (∀ X, Calls Tryz.prog 29 #[.int .i64 (q.op : Int)] X fun e X' => e = .returned (fnV f) ∧ X = X') ∧
    ∀ E A g h m X, Ex X E A q R p 0 → Sto X A g h n m bs ks → Calls Tryz.prog f #[.pointer (some ⟨E, 0, none⟩)] X (ActPost X E A g h n m q bs ks o)
theorem exec_of {q : Qn} {R : Nat → Int} {p : Psw} {A g h n m : Nat} {bs ks : List UInt8} {o : Out} {w : World} (hs : Sto w A g h n m bs ks) (hc : chkV q.ins = 0) (ho : okB p = true) (hr : Runs q R p n bs ks o) : Calls Tryz.prog 17 #[q.ins.val, .agg (regA R), .agg (pswA p), .pointer (some ⟨A, 0, none⟩)] w (ExPost w A g h n m R p bs ks o) := by
  obtain ⟨hz, f, hf, hact, hA⟩ := hr
  exact exec_main q R p A g h n m bs ks f o w hs hz hf hc ho hact (fun E X hX hsX => hA E A g h m X hX hsX)
theorem regO_stop {C : Int} {R : Nat → Int} {p : Psw} {c : Int} {bs : List UInt8} : ∀ C', regO C R p c bs = .stop C' → C' ≠ 0 := by
  intro C' h
  unfold regO at h
  split at h
  · cases h
  · rename_i hC
    injection h with h
    rw [← h]
    exact hC
/-- The example's registers. -/
def wkR : Nat → Int := fun j => if j = 1 then 2147483647 else if j = 2 then 1 else 0
theorem wkR_ok : RegOk wkR := fun n => by
  unfold wkR
  split
  · omega
  · split <;> omega
theorem work_exec {A g h m : Nat} {ks : List UInt8} {bs : List UInt8} {n : Nat} {w : World} (hs : Sto w A g h n m bs ks) : Calls Tryz.prog 17 #[.agg #[.int .i64 26, .int .i64 1, .int .i64 1, .int .i64 2, .int .i64 0, .int .i64 0, .int .i64 0, .int .i64 0, .int .i64 0, .int .i64 0, .int .i64 0, .int .i64 0], .agg #[.int .u32 0, .int .u32 2147483647, .int .u32 1, .int .u32 0, .int .u32 0, .int .u32 0, .int .u32 0, .int .u32 0, .int .u32 0, .int .u32 0, .int .u32 0, .int .u32 0, .int .u32 0, .int .u32 0, .int .u32 0, .int .u32 0], .agg #[.int .i64 0, .int .i64 0, .bool false, .bool false, .bool false, .int .i64 0, .int .i64 0, .int .i64 0, .int .i64 8, .int .i64 0], .pointer (some ⟨A, 0, none⟩)] w fun e w' => e = .returned (.tuple #[.agg #[.int .u32 0, .int .u32 2147483648, .int .u32 1, .int .u32 0, .int .u32 0, .int .u32 0, .int .u32 0, .int .u32 0, .int .u32 0, .int .u32 0, .int .u32 0, .int .u32 0, .int .u32 0, .int .u32 0, .int .u32 0, .int .u32 0], .agg #[.int .i64 0, .int .i64 0, .bool false, .bool false, .bool false, .int .i64 0, .int .i64 0, .int .i64 3, .int .i64 8, .int .i64 0], .int .i64 8]) ∧ Sto w' A g h n m bs ks ∧ Kp w w' [g] := by
  have hq : QOk (⟨26, 1, 1, 2, 0, 0, 0, 0, 0, 0, 0, 0⟩ : Qn) := ⟨by decide, by decide, by decide, by decide, by decide, by decide, by decide, by decide, by decide, by decide, by decide⟩
  have hr : Runs (⟨26, 1, 1, 2, 0, 0, 0, 0, 0, 0, 0, 0⟩ : Qn) wkR (⟨0, 0, false, false, false, 0, 0, 0, 8, 0⟩ : Psw) n bs ks (regO 0 (sgR (⟨26, 1, 1, 2, 0, 0, 0, 0, 0, 0, 0, 0⟩ : Qn) wkR 2147483648) (sgP (⟨0, 0, false, false, false, 0, 0, 0, 8, 0⟩ : Psw) 2147483648) (sgC (⟨0, 0, false, false, false, 0, 0, 0, 8, 0⟩ : Psw) 2147483648 0) bs) :=
    ⟨regO_stop, 53, enters_of Tryz.func53 (by kernel_rfl) rfl, fun X => action_26 X, fun E A g h m X hX hsX => by
      have h1 := add_26 E A _ _ _ 0 g h n m bs ks X hX hsX wkR_ok hq rfl
      exact h1.mono fun e X' hp => act_of_reg hX hsX hp⟩
  refine (exec_of hs (by kernel_rfl) (by kernel_rfl) hr).mono ?_
  rintro e w' ⟨rfl, h1, h2⟩
  exact ⟨by kernel_rfl, h1, h2⟩

end M
end Go.Proofs.YtfopjnfphlkcgaaGreat

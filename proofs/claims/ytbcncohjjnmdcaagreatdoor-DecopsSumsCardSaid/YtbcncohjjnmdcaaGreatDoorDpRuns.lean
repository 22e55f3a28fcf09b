/- An instruction that runs; Exec of it. -/
import Derived.Test.YtbcncohjjnmdcaaGreatDoorRows
import Derived.Test.YtbcncohjjnmdcaaGreatDoorDpOps
import Derived.Test.YtbcncohjjnmdcaaGreatDoorGnExecA
namespace Go.Proofs.YtbcncohjjnmdcaaGreatDoor
namespace E
end E
open Go.RowKit Go.Shelf E
set_option linter.unusedVariables false
namespace M

/-- What an instruction comes to on a storage of given bytes and keys. -/
def Runs (q : Qn) (R : Nat → Int) (p : Psw) (n : Nat) (bs ks : List UInt8) (o : Out) : Prop :=
  Nz o ∧ ∃ f, Go.Proofs.Enters Tryz.prog f ∧ (∀ X, Calls Tryz.prog 28 #[.int .i64 (q.op : Int)] X fun e X' => e = .returned (fnV f) ∧ X = X') ∧
    ∀ E A g h m X, Sg X → Ex X E A q R p 0 → Sto X A g h n m bs ks → Calls Tryz.prog f #[.pointer (some ⟨E, 0, none⟩)] X (ActPost X E A g h n m q bs ks o)
theorem exec_of {q : Qn} {R : Nat → Int} {p : Psw} {A g h n m : Nat} {bs ks : List UInt8} {o : Out} {w : World} (hs : Sto w A g h n m bs ks) (hg : Sg w) (hc : chkV q.ins = 0) (ho : okB p = true) (hr : Runs q R p n bs ks o) : Calls Tryz.prog 15 #[q.ins.val, .agg (regA R), .agg (pswA p), .pointer (some ⟨A, 0, none⟩)] w (ExPost w A g h n m R p bs ks o) := by
  obtain ⟨hz, f, hf, hact, hA⟩ := hr
  exact exec_main q R p A g h n m bs ks f o w hs hg hz hf hc ho hact (fun E X hgX hX hsX => hA E A g h m X hgX hX hsX)
theorem act_cases {w : World} {E A g h n m : Nat} {q : Qn} {bs ks : List UInt8} {o : Out} {e : Ending} {w' : World} (hp : ActPost w E A g h n m q bs ks o e w') : e = .returned (.tuple #[]) ∨ ∃ C, e = Stop C := by
  cases o with
  | stop C => exact .inr ⟨C, hp.1⟩
  | go R p c b => exact .inl hp.1
theorem act_below {w W : World} {E A g h n m : Nat} {q : Qn} {bs ks : List UInt8} {o : Out} {e : Ending} {w' : World} (hb : Below w.heap.size w W) (hp : ActPost W E A g h n m q bs ks o e w') : ActPost w E A g h n m q bs ks o e w' := by
  cases o with
  | stop C => exact ⟨hp.1, hp.2.1, (Kp.bel hb).trans hp.2.2⟩
  | go R p c b => exact ⟨hp.1, hp.2.1, hp.2.2.1, (Kp.bel hb).trans hp.2.2.2⟩
theorem act_stop {w W : World} {E A g h n m : Nat} (q : Qn) {bs ks : List UInt8} {C : Int} (o : Out) (hs : Sto w A g h n m bs ks) (hb : Below w.heap.size w W) (hC : C ≠ 0) : ActPost w E A g h n m q bs ks (thenO C o) (Stop C) W := by
  rw [thenO_stop _ hC]
  exact ⟨rfl, hs.below hb, Kp.bel hb⟩
theorem act_put {w W : World} {E A g h n m : Nat} {q : Qn} {R : Nat → Int} {p : Psw} {bs ks : List UInt8} {a : Nat} {b : List UInt8} {C : Int} {e : Ending} {w' : World} (hb : Below w.heap.size w W) (hC : stC p n ks a b.length = C) (hp : PutPost2 W E A q R p g h n m bs ks 0 a b C e w') : ActPost w E A g h n m q bs ks (putO p n bs ks a R p 0 b) e w' := by
  obtain ⟨h1, h2, h3, h4⟩ := hp
  unfold putO
  rw [hC]
  rcases h1 with ⟨h0, rfl⟩ | ⟨h0, rfl⟩
  · rw [thenO_go _ h0]
    rw [if_pos h0] at h3
    exact ⟨rfl, h2, h3, (Kp.bel hb).trans (Kp.more2 h4)⟩
  · rw [thenO_stop _ h0]
    rw [if_neg h0] at h3
    exact ⟨rfl, h3, (Kp.bel hb).trans (Kp.more2 h4)⟩

end M
end Go.Proofs.YtbcncohjjnmdcaaGreatDoor

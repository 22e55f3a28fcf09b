/- What the decimal instructions come to, as functions of bytes. -/
import Derived.Test.YtbcncohjjnmdcaaGreatDoorRows
import Derived.ArgAppend
import Derived.ChangeMaps5
import Derived.Deep.CutBlock
import Derived.Deep.DeepCutAuto
import Derived.LaidMore
import Derived.Laws.Bits64b
import Derived.Laws.Externs
import Derived.Lay
import Derived.Lib.BitFns
import Derived.Lib.ItoaNum
import Derived.Lib.Mul64
import Derived.Lib.Slices
import Derived.Lib.Small
import Derived.Lib.SmallJoins
import Derived.Lib.Walk
import Derived.OpenShut
import Derived.SevenTiedAt
import Derived.Stop.Joined
import Derived.WalkSpells
import Derived.Test.YtbcncohjjnmdcaaGreatDoorGnPerf
namespace Go.Proofs.YtbcncohjjnmdcaaGreatDoor
namespace E
end E
open Go.RowKit Go.Shelf E
set_option linter.unusedVariables false
namespace M

/-- A step with a code, and what comes behind it. -/
def thenO (C : Int) (o : Out) : Out := if C = 0 then o else .stop C
theorem thenO_go {C : Int} (o : Out) (h : C = 0) : thenO C o = o := if_pos h
theorem thenO_stop {C : Int} (o : Out) (h : C ≠ 0) : thenO C o = .stop C := if_neg h
/-- It stops with a code alone. -/
def Nz (o : Out) : Prop := ∀ C, o = .stop C → C ≠ 0
theorem nz_then {C : Int} {o : Out} (h : Nz o) : Nz (thenO C o) := by
  intro C' e
  by_cases hC : C = 0
  · rw [thenO_go _ hC] at e
    exact h C' e
  · rw [thenO_stop _ hC] at e
    injection e with e
    rw [← e]
    exact hC
theorem nz_go (R : Nat → Int) (p : Psw) (c : Int) (bs : List UInt8) : Nz (.go R p c bs) := fun C e => by cases e
/-- The codes of fetching and of storing. -/
def ftC (p : Psw) (n : Nat) (ks : List UInt8) (a k : Nat) : Int := codeV (ftP p.k) n ks (a : Int) (k : Int)
def stC (p : Psw) (n : Nat) (ks : List UInt8) (a k : Nat) : Int := codeV (stP p.k) n ks (a : Int) (k : Int)
/-- Bytes are stored. -/
def putO (p : Psw) (n : Nat) (bs ks : List UInt8) (a : Nat) (R : Nat → Int) (p' : Psw) (c : Int) (l : List UInt8) : Out := thenO (stC p n ks a l.length) (.go R p' c (putL bs a l))
theorem nz_put (p : Psw) (n : Nat) (bs ks : List UInt8) (a : Nat) (R : Nat → Int) (p' : Psw) (c : Int) (l : List UInt8) : Nz (putO p n bs ks a R p' c l) := nz_then (nz_go _ _ _ _)
/-- The code with which a result stands. -/
def ovC (p : Psw) (c : Int) : Int := if c = 10 ∧ adB p 3 10 0 = true then 10 else 0
/-- The code that ends an operation. -/
def enC (c : Int) : Int := if c = 10 then 0 else c
/-- The result of an operation, its condition code and its code. -/
def becO (q : Qn) (R : Nat → Int) (p : Psw) (n : Nat) (bs ks : List UInt8) (l : List UInt8) (cc c : Int) : Out := thenO (enC c) (putO p n bs ks (adF q R) R { p with cc := cc } (ovC p c) l)
theorem nz_bec (q : Qn) (R : Nat → Int) (p : Psw) (n : Nat) (bs ks : List UInt8) (l : List UInt8) (cc c : Int) : Nz (becO q R p n bs ks l cc c) := nz_then (nz_put _ _ _ _ _ _ _ _ _)
/-- The operands and the code of fetching them. -/
def opX (q : Qn) (R : Nat → Int) (bs : List UInt8) : List UInt8 := subL bs (adF q R) (q.l1 + 1)
def opY (q : Qn) (R : Nat → Int) (bs : List UInt8) : List UInt8 := subL bs (adT q R) (q.l2 + 1)
def cX (q : Qn) (R : Nat → Int) (p : Psw) (n : Nat) (ks : List UInt8) : Int := ftC p n ks (adF q R) (q.l1 + 1)
def cY (q : Qn) (R : Nat → Int) (p : Psw) (n : Nat) (ks : List UInt8) : Int := ftC p n ks (adT q R) (q.l2 + 1)
def cXY (q : Qn) (R : Nat → Int) (p : Psw) (n : Nat) (ks : List UInt8) : Int := if cX q R p n ks = 0 then cY q R p n ks else cX q R p n ks

end M
end Go.Proofs.YtbcncohjjnmdcaaGreatDoor

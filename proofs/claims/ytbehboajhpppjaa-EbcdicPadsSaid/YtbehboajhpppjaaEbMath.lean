/- The codes of the characters, as plain functions; that they are inverse to each other. -/
import Derived.Test.YtbehboajhpppjaaRows
import Derived.WalkKit
import Derived.ProofKit
import Derived.Lib.Hide
import Derived.Lib.Bytealg
namespace Go.Proofs.Ytbehboajhpppjaa
open Go.RowKit
set_option linter.unusedVariables false
namespace E

/-- The codes of the characters from 32 on. -/
def tabB : List UInt8 := [64, 90, 127, 123, 91, 108, 80, 125, 77, 93, 92, 78, 107, 96, 75, 97, 240, 241, 242, 243, 244, 245, 246, 247, 248, 249, 122, 94, 76, 126, 110, 111, 124, 193, 194, 195, 196, 197, 198, 199, 200, 201, 209, 210, 211, 212, 213, 214, 215, 216, 217, 226, 227, 228, 229, 230, 231, 232, 233, 186, 224, 187, 176, 109, 121, 129, 130, 131, 132, 133, 134, 135, 136, 137, 145, 146, 147, 148, 149, 150, 151, 152, 153, 162, 163, 164, 165, 166, 167, 168, 169, 192, 79, 208, 161]
/-- The byte at a place of a list. -/
def gt (l : List UInt8) (j : Nat) : UInt8 := l.getD j 0
theorem gt_lt {l : List UInt8} {j : Nat} (h : j < l.length) : gt l j = l[j] := by simp [gt, List.getD_eq_getElem?_getD, List.getElem?_eq_getElem h]
theorem tabB_len : tabB.length = 95 := rfl
/-- Is it a character? -/
def isC (x : UInt8) : Bool := decide (32 ≤ x.toNat ∧ x.toNat ≤ 126)
/-- The code of a character; 0 of what is none. -/
def codeV (x : UInt8) : UInt8 := if isC x then gt tabB (x.toNat - 32) else 0
/-- The place of a code among the codes; -1 of what is none. -/
def atV (x : UInt8) : Int := Lib.indexByte tabB x
/-- Is it a code? -/
def isX (x : UInt8) : Bool := decide (0 ≤ atV x)
/-- The character of a code; 0 of what is none. -/
def charV (x : UInt8) : UInt8 := if isX x then UInt8.ofNat ((atV x).toNat + 32) else 0
/-- What stands for a byte in a text. -/
def decV (x : UInt8) : UInt8 := if isX x then charV x else 46
theorem isC_iff (x : UInt8) : isC x = true ↔ 32 ≤ x.toNat ∧ x.toNat ≤ 126 := by simp [isC]
theorem all256 {p : UInt8 → Prop} (h : ∀ n : Nat, n < 256 → p (UInt8.ofNat n)) (x : UInt8) : p x := by
  have := h x.toNat x.toNat_lt
  rwa [UInt8.ofNat_toNat] at this
theorem back_c (x : UInt8) : isC x = true → isX (codeV x) = true ∧ charV (codeV x) = x := all256 (p := fun x => isC x = true → isX (codeV x) = true ∧ charV (codeV x) = x) (by decide +kernel) x
theorem back_x (x : UInt8) : isX x = true → isC (charV x) = true ∧ codeV (charV x) = x := all256 (p := fun x => isX x = true → isC (charV x) = true ∧ codeV (charV x) = x) (by decide +kernel) x
theorem atV_lt (x : UInt8) : -1 ≤ atV x ∧ atV x < 95 := all256 (p := fun x => -1 ≤ atV x ∧ atV x < 95) (by decide +kernel) x
theorem blank_x (x : UInt8) : codeV x = 64 ↔ x = 32 := all256 (p := fun x => codeV x = 64 ↔ x = 32) (by decide +kernel) x
theorem isX_iff (x : UInt8) : isX x = true ↔ 0 ≤ atV x := by simp [isX]
theorem charV_nat (x : UInt8) : isX x = true → ((charV x).toNat : Int) = atV x + 32 := all256 (p := fun x => isX x = true → ((charV x).toNat : Int) = atV x + 32) (by decide +kernel) x
/-- The place of a code in the list: the first. -/
theorem atV_at (x : UInt8) : ∀ j : Nat, j < 95 → (gt tabB j = x ↔ atV x = j) := all256 (p := fun x => ∀ j : Nat, j < 95 → (gt tabB j = x ↔ atV x = j)) (by decide +kernel) x
theorem u8_wf {v : Int} (h : (Lit.int .u8 v).wf = true) : 0 ≤ v ∧ v < 256 := by
  simp [Lit.wf, IntKind.min, IntKind.max, IntKind.bits, IntKind.signed] at h; omega
theorem i64_wf {v : Int} (h : (Lit.int .i64 v).wf = true) : -9223372036854775808 ≤ v ∧ v < 9223372036854775808 := by
  simp [Lit.wf, IntKind.min, IntKind.max, IntKind.bits, IntKind.signed] at h; omega
theorem u8_of {a : Int} (h : (Lit.int .u8 a).wf = true) : ∃ x : UInt8, a = (x.toNat : Int) := by
  obtain ⟨h0, h1⟩ := u8_wf h
  refine ⟨UInt8.ofNat a.toNat, ?_⟩
  have h2 : (UInt8.ofNat a.toNat).toNat = a.toNat := by
    rw [UInt8.toNat_ofNat']
    exact Nat.mod_eq_of_lt (by show a.toNat < 256; omega)
  omega

end E
end Go.Proofs.Ytbehboajhpppjaa

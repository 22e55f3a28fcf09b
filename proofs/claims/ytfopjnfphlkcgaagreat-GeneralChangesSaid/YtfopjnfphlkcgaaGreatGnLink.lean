/- The program: branches and the program mask. -/
import Derived.Test.YtfopjnfphlkcgaaGreatRows
import Derived.Deep.RegionHeld
import Derived.IntWalk
import Derived.Lib.Strings
import Derived.OrdersHeld
import Derived.OrdersIn
import Derived.Recover
import Derived.RegionTactic
import Derived.Scope
import Derived.StillTailTactics
import Derived.TacticsIn
import Derived.WalkLawsBesides
import Derived.WalkMore
import Derived.Test.YtfopjnfphlkcgaaGreatPsA
import Derived.Test.YtfopjnfphlkcgaaGreatStC
import Derived.Test.YtfopjnfphlkcgaaGreatWordB
namespace Go.Proofs.YtfopjnfphlkcgaaGreat
open Go.RowKit Go.Shelf E
set_option linter.unusedVariables false
namespace M

theorem bits_or (y k : Nat) (hy : y < 4294967296) (hk : k < 4294967296) : bits .or .u32 (y : Int) (k : Int) = ((y ||| k : Nat) : Int) := by
  simp [bits, IntKind.bits, IntKind.signed, IntKind.wrap]
  have h3 : (BitVec.ofNat 32 y ||| BitVec.ofNat 32 k).toNat = y ||| k := by rw [BitVec.toNat_or, BitVec.toNat_ofNat, BitVec.toNat_ofNat, Nat.mod_eq_of_lt (by omega), Nat.mod_eq_of_lt (by omega)]
  have h4 : y ||| k < 2 ^ 32 := Nat.or_lt_two_pow (by omega) (by omega)
  change ((BitVec.ofNat 32 y ||| BitVec.ofNat 32 k).toNat : Int) % 4294967296 = ((y ||| k : Nat) : Int)
  rw [h3]
  omega
theorem or_sum {x y : Int} (i : Nat) (hi : i < 32) (h0 : 0 ≤ x) (h1 : 0 ≤ y) (h2 : y < 2 ^ i) (h3 : 2 ^ i * x + y < 4294967296) : bits .or .u32 (2 ^ i * x) y = 2 ^ i * x + y := by
  obtain ⟨X, rfl⟩ := Int.eq_ofNat_of_zero_le h0
  obtain ⟨Y, rfl⟩ := Int.eq_ofNat_of_zero_le h1
  have e : ((2 : Int) ^ i * (X : Int)) = ((2 ^ i * X : Nat) : Int) := by push_cast; rfl
  rw [e] at h3 ⊢
  have h2' : Y < 2 ^ i := by exact_mod_cast h2
  rw [bits_or _ _ (by omega) (by omega), W.orNat i X Y h2']
  push_cast
  rfl
/-- The link word. -/
def lnkV (p : Psw) : Int := p.il * 1073741824 + p.cc * 268435456 + p.pg * 16777216 + p.ad
theorem lnk_eq {p : Psw} (h : okB p = true) : bits .or .u32 (bits .or .u32 (bits .or .u32 (p.il % 4294967296 * 1073741824 % 4294967296) (p.cc % 4294967296 * 268435456 % 4294967296)) (p.pg % 4294967296 * 16777216 % 4294967296)) (p.ad % 4294967296) = lnkV p := by
  have hk := (okB_iff p).1 h
  simp only [fldsP, List.mem_cons, List.not_mem_nil, or_false, pinB, Bool.and_eq_true, decide_eq_true_eq, forall_eq_or_imp, forall_eq] at hk
  obtain ⟨-, -, -, h3, h4, h5, h6⟩ := hk
  have e1 : p.il % 4294967296 * 1073741824 % 4294967296 = 2 ^ 30 * p.il := by omega
  have e2 : p.cc % 4294967296 * 268435456 % 4294967296 = 268435456 * p.cc := by omega
  have e3 : p.pg % 4294967296 * 16777216 % 4294967296 = 16777216 * p.pg := by omega
  have e4 : p.ad % 4294967296 = p.ad := by omega
  rw [e1, e2, e3, e4, or_sum 30 (by omega) h3.1 (by omega) (by omega) (by omega)]
  rw [show (2 : Int) ^ 30 * p.il + 268435456 * p.cc = 2 ^ 28 * (4 * p.il + p.cc) by omega, or_sum 28 (by omega) (by omega) (by omega) (by omega) (by omega)]
  rw [show (2 : Int) ^ 28 * (4 * p.il + p.cc) + 16777216 * p.pg = 2 ^ 24 * (16 * (4 * p.il + p.cc) + p.pg) by omega, or_sum 24 (by omega) (by omega) h6.1 (by omega) (by omega)]
  unfold lnkV
  omega
set_option maxRecDepth 100000 in
theorem link_any (p : Psw) (w : World) (ho : okB p = true) : Calls Tryz.prog 217 #[.agg #[.int .i64 p.m, .int .i64 p.k, .bool p.ma, .bool p.wa, .bool p.pr, .int .i64 p.co, .int .i64 p.il, .int .i64 p.cc, .int .i64 p.pg, .int .i64 p.ad]] w (New w (.int .u32 (lnkV p))) := by
  have hb := below_new w (.cells #[.int .i64 p.m, .int .i64 p.k, .bool p.ma, .bool p.wa, .bool p.pr, .int .i64 p.co, .int .i64 p.il, .int .i64 p.cc, .int .i64 p.pg, .int .i64 p.ad] 30)
  have he := lnk_eq ho
  have HE := Lib.hid he
  clear he ho
  go_enter Tryz.func217, Tryz.ntmps217
  go_wp2
  go_ret
  exact ⟨by rw [← HE.out]; rfl, hb⟩

end M
end Go.Proofs.YtfopjnfphlkcgaaGreat

/- The code of an access, whatever the range: the contracts of refusal in one form; more on rows. -/
import Derived.Test.YtnnpnklbhghegaaStRefuse
namespace Go.Proofs.Ytnnpnklbhghegaa
open Go.RowKit Go.Shelf
set_option linter.unusedVariables false
namespace E

theorem refusalS_any (a g h nn m K : Nat) (x k : Int) (bs ks : List UInt8) (key : Int) (w : World) (hx : x ≤ 9223372036854775807) (hst : Sto w a g h nn m bs ks) (hkey : Boxed w K 3 (.int .i64 key)) :
    Calls Try.prog 37 #[.pointer (some ⟨a, 0, none⟩), .int .i64 x, .int .i64 k, storesV K] w (New w (.int .i64 (codeV (stP key) nn ks x k))) := by
  have hn := hst.nums
  unfold codeV
  by_cases hi : inB nn x k = true
  · obtain ⟨h1, h2, h3⟩ := inB_iff.1 hi
    rw [if_pos hi]
    obtain ⟨X, rfl⟩ := Int.eq_ofNat_of_zero_le h1
    obtain ⟨Z, rfl⟩ := Int.eq_ofNat_of_zero_le h2
    exact refusalS_yes a g h nn m K X Z bs ks key w (by omega) hst hkey
  · rw [if_neg hi]
    exact refusalS_no a g nn x k _ w hx (by omega) hst.c0 (by simpa using hi)
theorem refusalF_any (a g h nn m K L : Nat) (x k : Int) (bs ks : List UInt8) (key : Int) (w : World) (hx : x ≤ 9223372036854775807) (hst : Sto w a g h nn m bs ks) (hkey : Boxed w K 3 (.int .i64 key) ∧ Boxed w L 71 (storesV K)) :
    Calls Try.prog 37 #[.pointer (some ⟨a, 0, none⟩), .int .i64 x, .int .i64 k, fetchesV L] w (New w (.int .i64 (codeV (ftP key) nn ks x k))) := by
  have hn := hst.nums
  unfold codeV
  by_cases hi : inB nn x k = true
  · obtain ⟨h1, h2, h3⟩ := inB_iff.1 hi
    rw [if_pos hi]
    obtain ⟨X, rfl⟩ := Int.eq_ofNat_of_zero_le h1
    obtain ⟨Z, rfl⟩ := Int.eq_ofNat_of_zero_le h2
    exact refusalF_yes a g h nn m K L X Z bs ks key w (by omega) hst hkey
  · rw [if_neg hi]
    exact refusalF_no a g nn x k _ w hx (by omega) hst.c0 (by simpa using hi)
/-- What Bytes returns. -/
def bytL (n : Nat) (bs : List UInt8) (x k : Int) : List UInt8 := if inB n x k = true then subL bs x.toNat k.toNat else []
/-- What Fetch returns. -/
def fetL (p : UInt8 → Bool) (n : Nat) (bs ks : List UInt8) (x k : Int) : List UInt8 := if codeV p n ks x k = 0 then subL bs x.toNat k.toNat else []
/-- What Put leaves. -/
def putB (p : UInt8 → Bool) (n : Nat) (bs ks : List UInt8) (x : Int) (b : List UInt8) : List UInt8 := if codeV p n ks x (b.length : Int) = 0 then putL bs x.toNat b else bs
/-- What Clear leaves. -/
def clrB (n : Nat) (bs : List UInt8) (x k : Int) : List UInt8 := if inB n x k = true then putL bs x.toNat (List.replicate k.toNat 0) else bs
/-- Is there such an address and such a number? -/
def setOk (n : Nat) (x key : Int) : Bool := inB n x 1 && decide (0 ≤ key ∧ key ≤ 31)
def setK (n : Nat) (ks : List UInt8) (x key : Int) : List UInt8 := if setOk n x key = true then ks.set (x.toNat / 2048) (UInt8.ofNat key.toNat) else ks
def keyV (n : Nat) (ks : List UInt8) (x : Int) : Int := if inB n x 1 = true then ((gt ks (x.toNat / 2048)).toNat : Int) else 0
theorem codeV_in {p : UInt8 → Bool} {n : Nat} {ks : List UInt8} {x k : Int} (h : codeV p n ks x k = 0) : inB n x k = true := by
  unfold codeV at h
  split at h
  · assumption
  · cases h
theorem codeV_three (p : UInt8 → Bool) (n : Nat) (ks : List UInt8) (x k : Int) : codeV p n ks x k = 0 ∨ codeV p n ks x k = 4 ∨ codeV p n ks x k = 5 := by
  unfold codeV
  split
  · split
    · exact .inl rfl
    · exact .inr (.inl rfl)
  · exact .inr (.inr rfl)
theorem putB_len {p : UInt8 → Bool} {n : Nat} {bs ks : List UInt8} {x : Int} {b : List UInt8} (h : bs.length = n) : (putB p n bs ks x b).length = n := by
  unfold putB
  split
  · rename_i h0
    obtain ⟨h1, h2, h3⟩ := inB_iff.1 (codeV_in h0)
    rw [putL_len (by omega), h]
  · exact h
theorem clrB_len {n : Nat} {bs : List UInt8} {x k : Int} (h : bs.length = n) : (clrB n bs x k).length = n := by
  unfold clrB
  split
  · rename_i h0
    obtain ⟨h1, h2, h3⟩ := inB_iff.1 h0
    rw [putL_len (by simp; omega), h]
  · exact h
theorem setK_len {n m : Nat} {ks : List UInt8} {x key : Int} (h : ks.length = m) : (setK n ks x key).length = m := by
  unfold setK
  split
  · rw [List.length_set, h]
  · exact h
theorem bsU_putL (l : List UInt8) (a : Nat) (b : List UInt8) : bsU (putL l a b) = (bsU l).take a ++ (bsU b ++ (bsU l).drop (a + (bsU b).length)) := by
  simp [bsU, putL, List.map_take, List.map_drop]
theorem bsU_rep (k : Nat) : bsU (List.replicate k 0) = List.replicate k (.int .u8 0) := by simp [bsU]
theorem splice_cons {xs : List Value} {o : Nat} {v : Value} {vs : List Value} (h : o < xs.length) : (xs.set o v).take (o + 1) ++ (vs ++ (xs.set o v).drop (o + 1 + vs.length)) = xs.take o ++ ((v :: vs) ++ xs.drop (o + (v :: vs).length)) := by
  have h1 : (xs.set o v).take (o + 1) = xs.take o ++ [v] := by
    rw [List.take_succ_eq_append_getElem (by simpa using h), List.take_set_of_le (Nat.le_refl _)]
    simp
  have h2 : (xs.set o v).drop (o + 1 + vs.length) = xs.drop (o + (v :: vs).length) := by
    rw [List.drop_set_of_lt (by omega), List.length_cons]
    congr 1
    omega
  rw [h1, h2]
  simp
theorem Row.cells {g c : Nat} {t : TypeId} : ∀ (vs : List Value) (o : Nat) (w : World) (xs : List Value), Row w g t xs c → o + vs.length ≤ xs.length → Row (w.setCells g o vs) g t (xs.take o ++ (vs ++ xs.drop (o + vs.length))) c ∧ w.grownBy (w.setCells g o vs) (some g)
  | [], o, w, xs, h, hl => by
    refine ⟨?_, World.grownBy.refl _ _⟩
    have e : xs.take o ++ ([] ++ xs.drop (o + ([] : List Value).length)) = xs := by simp
    rw [e]
    exact h
  | v :: vs, o, w, xs, h, hl => by
    simp at hl
    obtain ⟨h1, h2⟩ := h.set o v
    obtain ⟨h3, h4⟩ := Row.cells vs (o + 1) _ _ h1 (by simp; omega)
    rw [splice_cons (by omega)] at h3
    exact ⟨h3, h2.trans h4⟩

end E
end Go.Proofs.Ytnnpnklbhghegaa

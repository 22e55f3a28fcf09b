/- The contracts of Code and Char, and of what they call. -/
import Derived.Test.YtbehboajhpppjaaRows
import Derived.WalkKit
import Derived.ProofKit
import Derived.Lib.Hide
import Derived.Deep.QuietTactic
import Derived.BigQuiet
import Derived.Below
import Derived.Lib.Bytealg
import Derived.Lib.Walk
import Derived.Laws.StandIn
import Derived.Test.YtbehboajhpppjaaEbMath
namespace Go.Proofs.Ytbehboajhpppjaa
open Go.RowKit
set_option linter.unusedVariables false
namespace E

/-- The cells of bytes. -/
def bsU (l : List UInt8) : List Value := l.map fun b => .int .u8 (b.toNat : Int)
theorem bsU_len (l : List UInt8) : (bsU l).length = l.length := by simp [bsU]
theorem bsU_get (l : List UInt8) (j : Nat) (hj : j < l.length) : (bsU l)[j]? = some (.int .u8 ((gt l j).toNat : Int)) := by
  rw [gt_lt hj]
  simp [bsU, List.getElem?_eq_getElem hj]
theorem bsU_at {l : List UInt8} {j : Nat} {v : Value} (h : (bsU l)[j]? = some v) : j < l.length ∧ v = .int .u8 ((gt l j).toNat : Int) := by
  have hj : j < l.length := by
    have := (List.getElem?_eq_some_iff.1 h).1
    simpa [bsU] using this
  refine ⟨hj, ?_⟩
  rw [bsU_get l j hj] at h
  exact (Option.some.inj h).symm
theorem bsU_one (l : List UInt8) : ∀ v ∈ bsU l, v.oneCell' = true := by
  intro v hv
  obtain ⟨x, _, rfl⟩ := List.mem_map.1 hv
  rfl
theorem get_tab (k : Nat) (h : k < (⟨tabB.toArray⟩ : ByteArray).size) : (⟨tabB.toArray⟩ : ByteArray)[k] = gt tabB k := by
  have hk : k < tabB.length := h
  rw [gt_lt hk]
  rfl
theorem code_yes (k : Nat) (hk : k < 95) (w : World) :
    Calls Try.prog 11 #[.int .u8 ((k : Int) + 32)] w fun e w' => e = .returned (.tuple #[.int .u8 ((gt tabB k).toNat : Int), .bool true]) ∧ w = w' := by
  go_enter Try.func11, Try.ntmps11
  go_wp2
  go_ret2
  refine ⟨?_, rfl⟩
  rw [← get_tab k hk]
  rfl
theorem code_no (c : Int) (h0 : 0 ≤ c) (h1 : c < 256) (h : ¬ (32 ≤ c ∧ c ≤ 126)) (w : World) :
    Calls Try.prog 11 #[.int .u8 c] w fun e w' => e = .returned (.tuple #[.int .u8 0, .bool false]) ∧ w = w' := by
  by_cases hc : c < 32
  · go_enter Try.func11, Try.ntmps11
    go_wp2
    go_ret2
    exact ⟨rfl, rfl⟩
  · have hc' : 127 ≤ c := by omega
    go_enter Try.func11, Try.ntmps11
    go_wp2
    go_ret2
    exact ⟨rfl, rfl⟩
/-- Code, of every byte. -/
theorem code_any (x : UInt8) (w : World) :
    Calls Try.prog 11 #[.int .u8 (x.toNat : Int)] w fun e w' => e = .returned (.tuple #[.int .u8 ((codeV x).toNat : Int), .bool (isC x)]) ∧ w = w' := by
  by_cases h : isC x = true
  · have h' := (isC_iff x).1 h
    obtain ⟨k, hk⟩ : ∃ k, x.toNat = k + 32 := ⟨x.toNat - 32, by omega⟩
    have hv : codeV x = gt tabB k := by unfold codeV; rw [if_pos h, hk]; rfl
    rw [h, hv, show ((x.toNat : Int)) = (k : Int) + 32 by omega]
    exact code_yes k (by omega) w
  · have hv : codeV x = 0 := by unfold codeV; rw [if_neg h]
    have hlt := x.toNat_lt
    have hn : ¬ (32 ≤ (x.toNat : Int) ∧ (x.toNat : Int) ≤ 126) := fun hh => h ((isC_iff x).2 (by omega))
    rw [show isC x = false by simpa using h, hv]
    exact code_no _ (by omega) (by omega) hn w
theorem idx_any (s : ByteArray) (c : Int) (w : World) :
    Calls Try.prog 29 #[.string s, .int .u8 c] w fun e w' => e = .returned (.int .i64 (Lib.indexByte s.data.toList c.toNat.toUInt8)) ∧ w = w' := by
  have hrun : (callFunc 32 #[.string s, .int .u8 c]).run Try.prog w = .ok (.value (.int .i64 (Lib.indexByte s.data.toList c.toNat.toUInt8))) w :=
    (run_callFunc_indexByte Try.func32 (by kernel_rfl) (by kernel_rfl) (by kernel_rfl) (by kernel_rfl) _ w).trans (by rw [Lib.run_indexByteString]; rfl)
  go_enter Try.func29, Try.ntmps29
  go_wp2
  go_ret
  exact ⟨rfl, rfl⟩
theorem sidx_any (s : ByteArray) (c : Int) (w : World) :
    Calls Try.prog 27 #[.string s, .int .u8 c] w fun e w' => e = .returned (.int .i64 (Lib.indexByte s.data.toList c.toNat.toUInt8)) ∧ w = w' := by
  go_enter Try.func27, Try.ntmps27
  go_wp2_with fail
  refine (idx_any _ _ _).mono ?_
  rintro e w' ⟨rfl, rfl⟩
  go_wp2
  go_ret
  exact ⟨rfl, rfl⟩
theorem tab_idx (x : UInt8) : Lib.indexByte (⟨tabB.toArray⟩ : ByteArray).data.toList ((x.toNat : Int)).toNat.toUInt8 = atV x := by
  show Lib.indexByte tabB (UInt8.ofNat ((x.toNat : Int)).toNat) = _
  rw [Int.toNat_natCast, UInt8.ofNat_toNat]
  rfl
theorem tab_any (x : UInt8) (w : World) :
    Calls Try.prog 27 #[.string ⟨tabB.toArray⟩, .int .u8 (x.toNat : Int)] w fun e w' => e = .returned (.int .i64 (atV x)) ∧ w = w' := by
  have h := sidx_any ⟨tabB.toArray⟩ (x.toNat : Int) w
  rw [tab_idx] at h
  exact h
/-- Char, of every byte. -/
theorem char_any (x : UInt8) (w : World) :
    Calls Try.prog 13 #[.int .u8 (x.toNat : Int)] w fun e w' => e = .returned (.tuple #[.int .u8 ((charV x).toNat : Int), .bool (isX x)]) ∧ w = w' := by
  have hlt := atV_lt x
  by_cases h : isX x = true
  · have hp := (isX_iff x).1 h
    have hv := charV_nat x h
    rw [h, hv]
    obtain ⟨k, hk⟩ := Int.eq_ofNat_of_zero_le hp
    have H := Lib.hid (tab_any x)
    rw [hk] at hlt ⊢
    have HK := Lib.hid hk
    clear hk hp hv h
    go_enter Try.func13, Try.ntmps13
    go_wp2_with fail
    refine (H.out _).mono ?_
    rintro e w' ⟨rfl, rfl⟩
    rw [HK.out]
    go_wp2
    go_ret2
    exact ⟨by rw [Int.add_comm]; rfl, rfl⟩
  · have hp : ¬ 0 ≤ atV x := fun hh => h ((isX_iff x).2 hh)
    have hk : atV x = -1 := by omega
    have hv : charV x = 0 := by unfold charV; rw [if_neg h]
    rw [show isX x = false by simpa using h, hv]
    have H := Lib.hid (tab_any x)
    have HK := Lib.hid hk
    clear hk hp hv h
    go_enter Try.func13, Try.ntmps13
    go_wp2_with fail
    refine (H.out _).mono ?_
    rintro e w' ⟨rfl, rfl⟩
    rw [HK.out]
    go_wp2
    go_ret2
    exact ⟨rfl, rfl⟩
theorem below_new (w : World) (o : Obj) : Below w.heap.size w (w.alloc o) := (Below.refl _ _).alloc (Nat.le_refl _) _
theorem cell_new (w : World) (l : List UInt8) (t : TypeId) (j : Nat) (hj : j < l.length) : (w.alloc (.cells (bsU l).toArray t)).cell? ⟨w.heap.size, j, none⟩ = some (.int .u8 ((gt l j).toNat : Int)) := by
  have h := bsU_get l j hj
  simp [go_sem, h]
set_option maxRecDepth 100000 in
set_option maxHeartbeats 4000000 in
theorem table_any (w : World) :
    Calls Try.prog 26 #[] w fun e w' => e = .returned (.slice (some ⟨w.heap.size, 0, none⟩) 95 95) ∧ w' = w.alloc (.cells (bsU tabB).toArray 5) := by
  go_enter Try.func26, Try.ntmps26
  go_wp2
  go_ret
  refine ⟨rfl, ?_⟩
  have hl : (bsU tabB).toArray = #[.int .u8 64, .int .u8 90, .int .u8 127, .int .u8 123, .int .u8 91, .int .u8 108, .int .u8 80, .int .u8 125, .int .u8 77, .int .u8 93, .int .u8 92, .int .u8 78, .int .u8 107, .int .u8 96, .int .u8 75, .int .u8 97, .int .u8 240, .int .u8 241, .int .u8 242, .int .u8 243, .int .u8 244, .int .u8 245, .int .u8 246, .int .u8 247, .int .u8 248, .int .u8 249, .int .u8 122, .int .u8 94, .int .u8 76, .int .u8 126, .int .u8 110, .int .u8 111, .int .u8 124, .int .u8 193, .int .u8 194, .int .u8 195, .int .u8 196, .int .u8 197, .int .u8 198, .int .u8 199, .int .u8 200, .int .u8 201, .int .u8 209, .int .u8 210, .int .u8 211, .int .u8 212, .int .u8 213, .int .u8 214, .int .u8 215, .int .u8 216, .int .u8 217, .int .u8 226, .int .u8 227, .int .u8 228, .int .u8 229, .int .u8 230, .int .u8 231, .int .u8 232, .int .u8 233, .int .u8 186, .int .u8 224, .int .u8 187, .int .u8 176, .int .u8 109, .int .u8 121, .int .u8 129, .int .u8 130, .int .u8 131, .int .u8 132, .int .u8 133, .int .u8 134, .int .u8 135, .int .u8 136, .int .u8 137, .int .u8 145, .int .u8 146, .int .u8 147, .int .u8 148, .int .u8 149, .int .u8 150, .int .u8 151, .int .u8 152, .int .u8 153, .int .u8 162, .int .u8 163, .int .u8 164, .int .u8 165, .int .u8 166, .int .u8 167, .int .u8 168, .int .u8 169, .int .u8 192, .int .u8 79, .int .u8 208, .int .u8 161] := by kernel_rfl
  rw [hl]
/-- What a call leaves that writes into no memory that was there. -/
def New (w : World) (r : Value) (e : Ending) (w' : World) : Prop := e = .returned r ∧ Below w.heap.size w w'
theorem rcode_any (x : UInt8) (w : World) :
    Calls Try.prog 12 #[.int .u8 (x.toNat : Int)] w (New w (.tuple #[.int .u8 ((codeV x).toNat : Int), .bool (isC x)])) := by
  by_cases h : isC x = true
  · have h' := (isC_iff x).1 h
    obtain ⟨k, hk⟩ : ∃ k, x.toNat = k + 32 := ⟨x.toNat - 32, by omega⟩
    have hv : codeV x = gt tabB k := by unfold codeV; rw [if_pos h, hk]; rfl
    rw [h, hv, show ((x.toNat : Int)) = (k : Int) + 32 by omega]
    have hk95 : k < 95 := by omega
    clear h h' hv hk
    go_enter Try.func12, Try.ntmps12
    go_wp2_with fail
    refine (table_any _).mono ?_
    rintro e w' ⟨rfl, rfl⟩
    have hc := cell_new w tabB 5 k hk95
    have HB := Lib.hid (below_new w (.cells (bsU tabB).toArray 5))
    generalize w.alloc (.cells (bsU tabB).toArray 5) = w1 at *
    go_wp2
    go_ret2
    exact ⟨rfl, HB.out⟩
  · have hv : codeV x = 0 := by unfold codeV; rw [if_neg h]
    have hlt := x.toNat_lt
    have hn : ¬ (32 ≤ (x.toNat : Int) ∧ (x.toNat : Int) ≤ 126) := fun hh => h ((isC_iff x).2 (by omega))
    rw [show isC x = false by simpa using h, hv]
    obtain ⟨c, hc⟩ : ∃ c : Int, c = (x.toNat : Int) := ⟨_, rfl⟩
    rw [← hc] at hn ⊢
    have h0 : 0 ≤ c := by omega
    have h1 : c < 256 := by omega
    clear hc hlt hv h
    by_cases hc : c < 32
    · go_enter Try.func12, Try.ntmps12
      go_wp2
      go_ret2
      exact ⟨rfl, Below.refl _ _⟩
    · have hc' : 127 ≤ c := by omega
      go_enter Try.func12, Try.ntmps12
      go_wp2
      go_ret2
      exact ⟨rfl, Below.refl _ _⟩
theorem rcharPost (x : UInt8) : (∀ k : Nat, k < 95 → gt tabB k = x → Ending.returned (.tuple #[.int .u8 (32 + (k : Int)), .bool true]) = .returned (.tuple #[.int .u8 ((charV x).toNat : Int), .bool (isX x)])) ∧ ((∀ j, j < 95 → gt tabB j ≠ x) → Ending.returned (.tuple #[.int .u8 0, .bool false]) = .returned (.tuple #[.int .u8 ((charV x).toNat : Int), .bool (isX x)])) := by
  constructor
  · intro k hk he
    have ha := (atV_at x k hk).1 he
    have hx : isX x = true := (isX_iff x).2 (by omega)
    rw [hx, charV_nat x hx, ha, Int.add_comm]
  · intro hno
    have hx : ¬ isX x = true := fun hx => by
      have h0 := (isX_iff x).1 hx
      have h1 := (atV_lt x).2
      obtain ⟨k, hk⟩ := Int.eq_ofNat_of_zero_le h0
      exact hno k (by omega) ((atV_at x k (by omega)).2 hk)
    have hv : charV x = 0 := by unfold charV; rw [if_neg hx]
    rw [show isX x = false by simpa using hx, hv]
    rfl
theorem rchar_any (x : UInt8) (w : World) :
    Calls Try.prog 14 #[.int .u8 (x.toNat : Int)] w (New w (.tuple #[.int .u8 ((charV x).toNat : Int), .bool (isX x)])) := by
  have hpost := rcharPost x
  have HP := Lib.hid hpost; clear hpost
  go_enter Try.func14, Try.ntmps14
  go_wp2_with fail
  refine (table_any _).mono ?_
  rintro e w' ⟨rfl, rfl⟩
  have hc : ∀ j, j < 95 → (w.alloc (.cells (bsU tabB).toArray 5)).cell? ⟨w.heap.size, j, none⟩ = some (.int .u8 ((gt tabB j).toNat : Int)) := fun j hj => cell_new w tabB 5 j hj
  have HB := Lib.hid (below_new w (.cells (bsU tabB).toArray 5))
  generalize w.alloc (.cells (bsU tabB).toArray 5) = w1 at *
  go_wp2
  go_loop [5] (fun i => ∃ k : Nat, k ≤ 95 ∧ i = .int .i64 k ∧ ∀ j, j < k → gt tabB j ≠ x) (fun i => 95 - (intOf i).toNat)
  case atStart => exact ⟨0, Nat.zero_le _, rfl, fun j hj => by omega⟩
  case round =>
    obtain ⟨k, hk, rfl, hno⟩ := hrel
    by_cases hlt : k < 95
    · have hcell := hc k hlt
      clear hc
      by_cases heq : gt tabB k = x
      · have hi : ((gt tabB k).toNat : Int) = (x.toNat : Int) := by rw [heq]
        have HE := Lib.hid heq
        have HN := Lib.hid hno
        clear heq hno
        go_wp2
        go_ret2
        exact ⟨HP.out.1 k hlt HE.out, HB.out⟩
      · have hi : ¬ ((gt tabB k).toNat : Int) = (x.toNat : Int) := fun hh => heq (UInt8.toNat_inj.1 (by omega))
        have HE := Lib.hid heq
        have HN := Lib.hid hno
        clear heq hno
        go_wp2
        go_round
        case rel => exact ⟨k + 1, by omega, by go_num, fun j hj => by
          rcases Nat.lt_succ_iff_lt_or_eq.1 hj with h | h
          · exact HN.out j h
          · subst h; exact HE.out⟩
        case measure => simp [intOf]; omega
    · obtain rfl : k = 95 := by omega
      clear hc
      have HN := Lib.hid hno
      clear hno
      go_wp2
      go_ret2
      exact ⟨HP.out.2 HN.out, HB.out⟩

end E
end Go.Proofs.Ytbehboajhpppjaa

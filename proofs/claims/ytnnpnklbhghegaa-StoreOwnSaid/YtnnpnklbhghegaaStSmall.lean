/- The contracts of the small functions: the range test, the closures of the keys, the size. -/
import Derived.Test.YtnnpnklbhghegaaStMem
import Derived.Test.YtnnpnklbhghegaaStPure
namespace Go.Proofs.Ytnnpnklbhghegaa
open Go.RowKit
set_option linter.unusedVariables false
namespace E

theorem holds_nil (x k : Int) (w : World) : Calls Try.prog 35 #[.pointer none, .int .i64 x, .int .i64 k] w fun e w' => e = .returned (.bool false) ∧ w = w' := by
  go_enter Try.func35, Try.ntmps35
  go_wp2
  go_ret
  exact ⟨rfl, rfl⟩
set_option maxRecDepth 100000 in
theorem holds_any (a g n : Nat) (x k : Int) (w : World) (hx : x ≤ 9223372036854775807) (hn : n ≤ 65536) (hc : w.cell? ⟨a, 0, none⟩ = some (.slice (some ⟨g, 0, none⟩) n n)) :
    Calls Try.prog 35 #[.pointer (some ⟨a, 0, none⟩), .int .i64 x, .int .i64 k] w fun e w' => e = .returned (.bool (inB n x k)) ∧ w = w' := by
  by_cases h0 : 0 ≤ x
  · by_cases h1 : 0 ≤ k
    · have he : wrap64 ((n : Int) - x) = (n : Int) - x := by unfold wrap64; omega
      have hr : decide (k ≤ (n : Int) - x) = inB n x k := by
        unfold inB
        exact decide_eq_decide.2 ⟨fun h => ⟨h0, h1, h⟩, fun h => h.2.2⟩
      generalize inB n x k = r at hr ⊢
      go_enter Try.func35, Try.ntmps35
      go_wp2
      go_ret
      exact ⟨by simp, rfl⟩
    · have hr : inB n x k = false := by unfold inB; exact decide_eq_false (fun h => h1 h.2.1)
      rw [hr]
      clear hr
      go_enter Try.func35, Try.ntmps35
      go_wp2
      go_ret
      exact ⟨rfl, rfl⟩
  · have hr : inB n x k = false := by unfold inB; exact decide_eq_false (fun h => h0 h.1)
    rw [hr]
    clear hr
    go_enter Try.func35, Try.ntmps35
    go_wp2
    go_ret
    exact ⟨rfl, rfl⟩
set_option maxRecDepth 100000 in
theorem rin_any (a g n c : Nat) (x k : Int) (w : World) (hn : n ≤ 65536) (hc : w.cell? ⟨a, 0, none⟩ = some (.slice (some ⟨g, 0, none⟩) n c)) :
    Calls Try.prog 41 #[.pointer (some ⟨a, 0, none⟩), .int .i64 x, .int .i64 k] w fun e w' => e = .returned (.bool (inB n x k)) ∧ w = w' := by
  by_cases h0 : 0 ≤ x
  · by_cases h1 : 0 ≤ k
    · by_cases h2 : x ≤ (n : Int)
      · have he : wrap64 ((n : Int) - x) = (n : Int) - x := by unfold wrap64; omega
        have hr : decide (k ≤ (n : Int) - x) = inB n x k := by
          unfold inB
          exact decide_eq_decide.2 ⟨fun h => ⟨h0, h1, h⟩, fun h => h.2.2⟩
        generalize inB n x k = r at hr ⊢
        go_enter Try.func41, Try.ntmps41
        go_wp2
        go_ret
        exact ⟨by simp, rfl⟩
      · have hr : inB n x k = false := by unfold inB; exact decide_eq_false (fun h => by omega)
        rw [hr]
        clear hr
        go_enter Try.func41, Try.ntmps41
        go_wp2
        go_ret
        exact ⟨rfl, rfl⟩
    · have hr : inB n x k = false := by unfold inB; exact decide_eq_false (fun h => h1 h.2.1)
      rw [hr]
      clear hr
      go_enter Try.func41, Try.ntmps41
      go_wp2
      go_ret
      exact ⟨rfl, rfl⟩
  · have hr : inB n x k = false := by unfold inB; exact decide_eq_false (fun h => h0 h.1)
    rw [hr]
    clear hr
    go_enter Try.func41, Try.ntmps41
    go_wp2
    go_ret
    exact ⟨rfl, rfl⟩
theorem blockOf_any (x : Nat) (w : World) (hx : x ≤ 131072) : Calls Try.prog 36 #[.int .i64 (x : Int)] w fun e w' => e = .returned (.int .i64 ((x / 2048 : Nat) : Int)) ∧ w = w' := by
  go_enter Try.func36, Try.ntmps36
  have e1 : wrap64 ((x : Int) / 2048) = ((x / 2048 : Nat) : Int) := by unfold wrap64; omega
  go_wp2
  go_ret
  exact ⟨by simp, rfl⟩
theorem key_of (l : UInt8) : ((l.toNat : Int)) / 2 = ((l.toNat / 2 : Nat) : Int) := by omega
theorem lockKey_any (l : UInt8) (w : World) : Calls Try.prog 44 #[.int .u8 (l.toNat : Int)] w fun e w' => e = .returned (.int .i64 ((l.toNat / 2 : Nat) : Int)) ∧ w = w' := by
  have h1 := l.toNat_lt
  go_enter Try.func44, Try.ntmps44
  go_wp2
  go_ret
  exact ⟨by simp, rfl⟩
theorem lockFetch_any (l : UInt8) (w : World) : Calls Try.prog 46 #[.int .u8 (l.toNat : Int)] w fun e w' => e = .returned (.bool (l.toNat % 2 == 1)) ∧ w = w' := by
  have h1 := l.toNat_lt
  have h2 : (((l.toNat : Int) % 2) == 1) = (l.toNat % 2 == 1) := by
    rw [Bool.eq_iff_iff]
    simp
    omega
  go_enter Try.func46, Try.ntmps46
  go_wp2
  go_ret
  exact ⟨by simp, rfl⟩
theorem size_nil (w : World) : Calls Try.prog 21 #[.pointer none] w fun e w' => e = .returned (.int .i64 0) ∧ w = w' := by
  go_enter Try.func21, Try.ntmps21
  go_wp2
  go_ret
  exact ⟨rfl, rfl⟩
theorem size_any (a g n : Nat) (w : World) (hc : w.cell? ⟨a, 0, none⟩ = some (.slice (some ⟨g, 0, none⟩) n n)) : Calls Try.prog 21 #[.pointer (some ⟨a, 0, none⟩)] w fun e w' => e = .returned (.int .i64 (n : Int)) ∧ w = w' := by
  go_enter Try.func21, Try.ntmps21
  go_wp2
  go_ret
  exact ⟨rfl, rfl⟩

end E
end Go.Proofs.Ytnnpnklbhghegaa

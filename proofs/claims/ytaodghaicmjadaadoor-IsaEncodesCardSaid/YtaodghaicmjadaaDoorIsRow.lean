/- The rows of the table: what their methods answer; the rows one after the other; the search. -/
import Derived.Test.YtaodghaicmjadaaDoorIsStr
import Derived.RangeFuncBox
import Derived.OwnWalkIn
import Derived.TacticsInMore
import Derived.LoopNIn
import Derived.LoopIn
import Derived.RegionIn
import Derived.RangeFuncNested
import Derived.RangeFuncLeaves
import Derived.Shelf.RegionOpen
import Derived.Laws.EntriesVeiled
namespace Go.Proofs.YtaodghaicmjadaaDoor
open Go.RowKit
set_option linter.unusedVariables false
namespace E
attribute [local go_sem] Oper.semAt_some

def rowS (k : Nat) : ByteArray := ⟨(rowL k).toArray⟩
theorem rowS_size (k : Nat) : (rowS k).size = 12 := by
  show (rowL k).toArray.size = 12
  simp [row_len]
theorem rowS_at (k j : Nat) (h : j < (rowS k).size) : (rowS k)[j] = gt (rowL k) j := by
  rw [str_at]
  rfl
theorem ext_str {s : ByteArray} {a b : Nat} {l : List UInt8} (h : (s.data.toList.drop a).take (b - a) = l) : s.extract a b = ⟨l.toArray⟩ := by
  have h3 : (s.extract a b).data = l.toArray := Array.toList_inj.1 (by rw [Lib.extract_data]; simpa using h)
  cases hq : s.extract a b with
  | mk d => rw [hq] at h3; exact congrArg ByteArray.mk h3
theorem code_row (k : Nat) (hk : k < 97) (w : World) : Calls Tryd.prog 41 #[.string (rowS k)] w fun e w' => e = .returned (.int .i64 (opK k : Int)) ∧ w = w' := by
  have h1 := rowS_size k
  have h2 : ∀ h : 0 < (rowS k).size, (rowS k)[0] = gt (rowL k) 0 := rowS_at k 0
  have h3 : ((gt (rowL k) 0).toNat : Int) = (opK k : Int) := by rw [row_op k hk]
  have h5 : wrap64 ((opK k : Nat) : Int) = (opK k : Int) := by have := op_lt k hk; unfold wrap64; omega
  generalize rowS k = s at *
  generalize gt (rowL k) 0 = x at *
  go_enter Tryd.func41, Tryd.ntmps41
  go_wp2
  go_ret
  exact ⟨by simp [h5], rfl⟩
theorem star_row (k : Nat) (hk : k < 97) (w : World) : Calls Tryd.prog 46 #[.string (rowS k)] w fun e w' => e = .returned (.bool (pvO (opK k))) ∧ w = w' := by
  have h1 := rowS_size k
  have h2 : ∀ h : 10 < (rowS k).size, (rowS k)[10] = gt (rowL k) 10 := rowS_at k 10
  have h3 : (((gt (rowL k) 10).toNat : Int) == 42) = pvO (opK k) := by
    rw [row_star]
    cases pvO (opK k) <;> rfl
  generalize rowS k = s at *
  generalize gt (rowL k) 10 = x at *
  generalize pvO (opK k) = b at *
  go_enter Tryd.func46, Tryd.ntmps46
  go_wp2
  go_ret
  exact ⟨by simp, rfl⟩
theorem name_row (k : Nat) (hk : k < 97) (w : World) : Calls Tryd.prog 45 #[.string (rowS k)] w fun e w' => e = .returned (.string ⟨(nmK k).toArray⟩) ∧ w = w' := by
  have h1 := rowS_size k
  have h2 : (rowS k).extract 2 6 = ⟨(padL (nmK k)).toArray⟩ := ext_str (row_name k)
  have h3 := pad_len (nm_len k hk).2
  have H := Lib.hid (trimR_any ⟨(padL (nmK k)).toArray⟩ (padL (nmK k)) w rfl (by omega) (by omega))
  rw [trim_pad k hk] at H
  generalize rowS k = s at *
  generalize padL (nmK k) = p at *
  clear h3
  go_enter Tryd.func45, Tryd.ntmps45
  go_wp2_with fail
  refine H.out.mono ?_
  rintro e w' ⟨rfl, rfl⟩
  go_wp2
  go_ret
  exact ⟨rfl, rfl⟩
theorem form_row (k : Nat) (hk : k < 97) (w : World) : Calls Tryd.prog 32 #[.string (rowS k)] w fun e w' => e = .returned (.int .i64 (foK k : Int)) ∧ w = w' := by
  have h1 := rowS_size k
  have h2 : (rowS k).extract 7 10 = ⟨(frmL (foK k)).toArray⟩ := ext_str (row_form k)
  have h3 := fo_in k hk
  generalize rowS k = s at *
  generalize foK k = f at *
  obtain rfl | rfl | rfl | rfl | rfl | rfl | rfl | rfl | rfl : f = 1 ∨ f = 2 ∨ f = 3 ∨ f = 4 ∨ f = 5 ∨ f = 6 ∨ f = 7 ∨ f = 8 ∨ f = 9 := by omega
  all_goals
    simp only [frmL] at h2
    clear h3 hk
    go_enter Tryd.func32, Tryd.ntmps32
    go_wp2
    go_ret
    exact ⟨rfl, rfl⟩
theorem length_any (op : Int) (w : World) : Calls Tryd.prog 12 #[.int .i64 op] w fun e w' => e = .returned (.int .i64 (lenO op : Int)) ∧ w = w' := by
  obtain ⟨r, hr⟩ : ∃ r, r = lenO op := ⟨_, rfl⟩
  rw [← hr]
  by_cases h1 : op < 0
  · obtain rfl : r = 0 := by rw [hr]; simp [lenO, h1]
    clear hr
    go_enter Tryd.func12, Tryd.ntmps12
    go_wp2
    go_ret
    exact ⟨rfl, rfl⟩
  by_cases h2 : 255 < op
  · obtain rfl : r = 0 := by rw [hr]; simp [lenO, h2]
    clear hr
    go_enter Tryd.func12, Tryd.ntmps12
    go_wp2
    go_ret
    exact ⟨rfl, rfl⟩
  by_cases h3 : op < 64
  · obtain rfl : r = 2 := by rw [hr]; simp [lenO, h1, h2, h3]
    clear hr
    go_enter Tryd.func12, Tryd.ntmps12
    go_wp2
    go_ret
    exact ⟨rfl, rfl⟩
  by_cases h4 : op < 192
  · obtain rfl : r = 4 := by rw [hr]; simp [lenO, h1, h2, h3, h4]
    clear hr
    go_enter Tryd.func12, Tryd.ntmps12
    go_wp2
    go_ret
    exact ⟨rfl, rfl⟩
  · obtain rfl : r = 6 := by rw [hr]; simp [lenO, h1, h2, h3, h4]
    clear hr
    go_enter Tryd.func12, Tryd.ntmps12
    go_wp2
    go_ret
    exact ⟨rfl, rfl⟩
theorem rlength_any (op : Int) (w : World) : Calls Tryd.prog 13 #[.int .i64 op] w fun e w' => e = .returned (.int .i64 (lenO op : Int)) ∧ w = w' := by
  obtain ⟨r, hr⟩ : ∃ r, r = lenO op := ⟨_, rfl⟩
  rw [← hr]
  by_cases h1 : op < 0
  · obtain rfl : r = 0 := by rw [hr]; simp [lenO, h1]
    clear hr
    go_enter Tryd.func13, Tryd.ntmps13
    go_wp2
    go_ret
    exact ⟨rfl, rfl⟩
  by_cases h2 : 255 < op
  · obtain rfl : r = 0 := by rw [hr]; simp [lenO, h2]
    clear hr
    go_enter Tryd.func13, Tryd.ntmps13
    go_wp2
    go_ret
    exact ⟨rfl, rfl⟩
  by_cases h3 : op < 64
  · obtain rfl : r = 2 := by rw [hr]; simp [lenO, h1, h2, h3]
    clear hr
    go_enter Tryd.func13, Tryd.ntmps13
    go_wp2
    go_ret
    exact ⟨rfl, rfl⟩
  by_cases h4 : op < 192
  · obtain rfl : r = 4 := by rw [hr]; simp [lenO, h1, h2, h3, h4]
    clear hr
    go_enter Tryd.func13, Tryd.ntmps13
    go_wp2
    go_ret
    exact ⟨rfl, rfl⟩
  · obtain rfl : r = 6 := by rw [hr]; simp [lenO, h1, h2, h3, h4]
    clear hr
    go_enter Tryd.func13, Tryd.ntmps13
    go_wp2
    go_ret
    exact ⟨rfl, rfl⟩

end E
end Go.Proofs.YtaodghaicmjadaaDoor

/- The rows of the table one after the other; the search. -/
import Derived.Test.YtaodghaicmjadaaDoorIsRow
namespace Go.Proofs.YtaodghaicmjadaaDoor
open Go.RowKit Go.Shelf
set_option linter.unusedVariables false
namespace E
attribute [local go_sem] Oper.semAt_some

theorem slice_tab (T : ByteArray) (hT : T.data.toList = tabL) (j q : Nat) (hq : q = j * 12) (hj : j < 97) (w : World) :
    (Instr.slice 9 (.string T) (some (.int .i64 (q : Int))) (some (.int .i64 ((q : Int) + 12))) none).run Tryd.prog w = .ok (.string (rowS j)) w := by
  have hsz : T.size = 1164 := by
    have := congrArg List.length hT
    rw [tab_len] at this
    exact this
  have h1 := run_slice_string (P := Tryd.prog) w 9 T .i64 .i64 (q : Int) ((q : Int) + 12) Tryd.underlying9 (by omega) (by omega) (by omega)
  have h2 : T.extract (q : Int).toNat ((q : Int) + 12).toNat = rowS j := ext_str (by
    rw [show ((q : Int)).toNat = q by omega, show ((q : Int) + 12).toNat = q + 12 by omega, show q + 12 - q = 12 by omega, hT, hq, tab_at j hj])
  rw [h2] at h1
  exact h1
set_option maxRecDepth 100000 in
theorem rows_in (n : Nat) (hn : 1 ≤ n) (l n₀ : Nat) (J Jx : List Nat → World → Prop)
    (hY : ∀ pre x W, J pre W → pre.length < 97 → YieldAt Fence.wide (n - 1) Tryd.prog l #[.string (rowS x)] W fun e W' =>
      (e = .returned (.bool true) ∧ J (pre ++ [x]) W' ∧ Below n₀ W W') ∨ (e = .returned (.bool false) ∧ Jx (pre ++ [x]) W'))
    (W : World) (h0 : J [] W) :
    CallsIn Fence.wide n Tryd.prog 58 #[.func (.yield l) #[] #[]] W fun e W' => (∃ v, e = .returned v) ∧
      ((∃ ys, ys = List.range 97 ∧ J ys W') ∨ (∃ pre, pre <+: List.range 97 ∧ Jx pre W')) := by
  have hro : Fence.wide.round = none := rfl
  have HY := Lib.hid hY
  have HJ0 := Lib.hid h0
  clear hY h0
  refine callsIn_of_wp Tryd.func58 rfl trivial ?_ hro
  simp only [Tryd.ntmps58, List.size_toArray, List.length_cons, List.length_nil, Nat.reduceAdd, Nat.reduceSub, Array.replicate_succ, Array.replicate_zero, List.push_toArray, List.append_toArray, List.nil_append, List.cons_append]
  gi_wp2
  gi_loopw [2] (fun i wr => ∃ j : Nat, j ≤ 97 ∧ i = .int .i64 ((j * 12 : Nat) : Int) ∧ J (List.range j) wr) (fun i _ => 1164 - (intOf i).toNat)
  case atStart =>
    exact ⟨0, Nat.zero_le _, rfl, HJ0.out⟩
  case round =>
    obtain ⟨j, hj, rfl, hJ⟩ := hrel
    have HJ := Lib.hid hJ
    clear hJ
    obtain ⟨q, hq⟩ : ∃ q, q = j * 12 := ⟨_, rfl⟩
    rw [← hq]
    have HQ := Lib.hid hq
    by_cases hlt : j < 97
    · have hq1 : (q : Int) < 1164 := by omega
      clear hq
      gi_wp2_with fail
      rw [slice_tab _ (by kernel_rfl) j q HQ.out hlt]
      obtain ⟨fn2, tmps2, assign2, body2, hy, hR⟩ := HY.out (List.range j) j wr HJ.out (by rw [List.length_range]; exact hlt)
      gi_wp2_with fail
      refine hR.mono ?_
      rintro e W3 hor
      rcases hor with ⟨rfl, hJ3, hk3⟩ | ⟨rfl, hJx3⟩
      · rw [← List.range_succ] at hJ3
        have HJ3 := Lib.hid hJ3
        clear hJ3 hk3 hR hy
        gi_wp2
        go_roundw
        case rel => exact ⟨j + 1, hlt, by rw [HQ.out]; push_cast; congr 1; omega, HJ3.out⟩
        case measure => simp [intOf]; omega
      · rw [← List.range_succ] at hJx3
        have HJ3 := Lib.hid hJx3
        clear hJx3 hR hy
        gi_wp2
        refine bodyPost_ret (results_none rfl _ _ _) rfl ?_
        exact ⟨⟨_, rfl⟩, .inr ⟨List.range (j + 1), by
          have := List.take_prefix (j + 1) (List.range 97)
          rwa [List.take_range, Nat.min_eq_left (by omega)] at this, HJ3.out⟩⟩
    · obtain rfl : j = 97 := by omega
      subst hq
      clear HQ
      gi_wp2
      go_end0
      first | exact ⟨⟨_, rfl⟩, .inl ⟨_, rfl, HJ.out⟩⟩ | exact ⟨⟨_, rfl⟩, .inl HJ.out⟩

end E
end Go.Proofs.YtaodghaicmjadaaDoor

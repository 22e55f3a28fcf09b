/- The given answers: Of, Form, Name, Find, Length, Privileged. -/
import Derived.Test.YtaodghaicmjadaaDoorIsRTab
import Derived.Test.YtaodghaicmjadaaDoorIsDecode
namespace Go.Proofs.YtaodghaicmjadaaDoor
open Go.RowKit Go.Shelf
set_option linter.unusedVariables false
namespace E

theorem flat3 (f : Nat → List Value) (h : ∀ k, (f k).length = 3) (n k j : Nat) (hk : k < n) (hj : j < 3) : ((List.range n).flatMap f)[k * 3 + j]? = (f k)[j]? := by
  induction n with
  | zero => omega
  | succ n ih =>
    have hl : ∀ m, ((List.range m).flatMap f).length = m * 3 := fun m => by
      induction m with
      | zero => rfl
      | succ m im => rw [List.range_succ, List.flatMap_append, List.length_append, im]; simp [h]; omega
    rw [List.range_succ, List.flatMap_append]
    by_cases e : k < n
    · rw [List.getElem?_append_left (by rw [hl]; omega)]
      exact ih e
    · obtain rfl : k = n := by omega
      rw [List.getElem?_append_right (by rw [hl]; omega), hl, show k * 3 + j - k * 3 = j from by omega]
      simp only [List.flatMap_cons, List.flatMap_nil, List.append_nil]
theorem refC_at {k : Nat} (hk : k < 97) : refC[k * 3]? = some (.int .i64 (opK k : Int)) ∧ refC[k * 3 + 1]? = some (.string ⟨(nmK k).toArray⟩) ∧ refC[k * 3 + 2]? = some (.int .i64 (foK k : Int)) :=
  ⟨flat3 _ (fun _ => rfl) 97 k 0 hk (by omega), flat3 _ (fun _ => rfl) 97 k 1 hk (by omega), flat3 _ (fun _ => rfl) 97 k 2 hk (by omega)⟩
theorem tab_cell {W : World} {g : Nat} (h : Bx W g 52 refC.toArray) {k : Nat} (hk : k < 97) : W.cell? ⟨g, k * 3, none⟩ = some (.int .i64 (opK k : Int)) ∧ W.cell? ⟨g, k * 3 + 1, none⟩ = some (.string ⟨(nmK k).toArray⟩) ∧ W.cell? ⟨g, k * 3 + 2, none⟩ = some (.int .i64 (foK k : Int)) := by
  obtain ⟨h1, h2, h3⟩ := refC_at hk
  rw [h.cell, h.cell, h.cell]
  simp only [List.getElem?_toArray]
  exact ⟨h1, h2, h3⟩
/-- A row of the given answers. -/
def rrV (o : Option Nat) : Value := .agg #[.int .i64 (opO o : Int), .string ⟨(nmO o).toArray⟩, .int .i64 (foO o : Int)]
theorem ixC_hit {op : Int} {k : Nat} (hk : k < 97) (h : (opK k : Int) = op) (hb : ∀ j, j < k → (opK j : Int) ≠ op) : ixC op = some k := by
  cases e : ixC op with
  | none =>
    have := List.find?_eq_none.1 e k (List.mem_range.2 hk)
    simp [h] at this
  | some j =>
    obtain ⟨hj, hjo⟩ := ixC_some e
    rcases Nat.lt_trichotomy j k with h1 | h1 | h1
    · exact absurd hjo (hb j h1)
    · rw [h1]
    · have := find_least e h1
      simp [h] at this
theorem ixC_miss {op : Int} (hb : ∀ j, j < 97 → (opK j : Int) ≠ op) : ixC op = none :=
  List.find?_eq_none.2 fun k hk => by
    have := hb k (List.mem_range.1 hk)
    simpa using this
theorem bx3 {w : World} {g : Nat} {t : TypeId} {a b c : Value} (h : Bx w g t #[a, b, c]) : w.cell? ⟨g, 0, none⟩ = some a ∧ w.cell? ⟨g, 1, none⟩ = some b ∧ w.cell? ⟨g, 2, none⟩ = some c ∧ w.frozen? ⟨g, 0, none⟩ = false ∧ w.frozen? ⟨g, 1, none⟩ = false ∧ w.frozen? ⟨g, 2, none⟩ = false :=
  ⟨h.cell 0, h.cell 1, h.cell 2, h.frozen 0, h.frozen 1, h.frozen 2⟩
theorem put3 {W : World} {g : Nat} {t : TypeId} {a b c : Value} (h : Bx W g t #[a, b, c]) (x y z : Value) : Bx (((W.setCell ⟨g, 0, none⟩ x).setCell ⟨g, 1, none⟩ y).setCell ⟨g, 2, none⟩ z) g t #[x, y, z] := by
  have h2 := ((h.set 0 x).set 1 y).set 2 z
  simp only [List.setIfInBounds_toArray, List.set_cons_zero, List.set_cons_succ] at h2
  exact h2
theorem put3_below {w W : World} {B g : Nat} (h : Below B w W) (hg : B ≤ g) (x y z : Value) : Below B w (((W.setCell ⟨g, 0, none⟩ x).setCell ⟨g, 1, none⟩ y).setCell ⟨g, 2, none⟩ z) :=
  ((h.setCell (p := ⟨g, 0, none⟩) hg _).setCell (p := ⟨g, 1, none⟩) hg _).setCell (p := ⟨g, 2, none⟩) hg _
theorem load_row3 {w : World} {g : Nat} {x y z : Value} (h : Bx w g 52 #[x, y, z]) (h1 : x.oneCell' = true) (h2 : y.oneCell' = true) (h3 : z.oneCell' = true) : (loadVar 52 ⟨g, 0, none⟩).run Tryd.prog w = .ok (.agg #[x, y, z]) w :=
  run_loadVar_row w g 52 52 #[x, y, z] (0, 0) _ h Tryd.underlying52 rfl (by kernel_rfl)
set_option maxRecDepth 100000 in
set_option maxHeartbeats 1000000 in
theorem of_ref (op : Int) (w : World) : Calls Tryd.prog 33 #[.int .i64 op] w (New w (.tuple #[rrV (ixC op), .bool (ixC op).isSome])) := by
  have HR := Lib.hid rows_ref
  have HB := Lib.hid (Bx.new (w.alloc (.cells #[.int .i64 0, .string ⟨#[]⟩, .int .i64 0] 52)) 52 refC.toArray)
  have HA := Lib.hid ((Bx.new w 52 #[.int .i64 0, .string ⟨#[]⟩, .int .i64 0]).below (below_new _ (.cells refC.toArray 52)))
  have HW := Lib.hid (below2 w (.cells #[.int .i64 0, .string ⟨#[]⟩, .int .i64 0] 52) (.cells refC.toArray 52))
  obtain ⟨w2, hw2⟩ : ∃ w2, w2 = (w.alloc (.cells #[.int .i64 0, .string ⟨#[]⟩, .int .i64 0] 52)).alloc (.cells refC.toArray 52) := ⟨_, rfl⟩
  rw [← hw2] at HB HA HW
  rw [World.size_alloc] at HB
  have HWE := Lib.hid hw2
  clear hw2
  go_enter Tryd.func33, Tryd.ntmps33
  go_wp2_with fail
  refine (HR.out _).mono ?_
  rintro e w' ⟨rfl, rfl⟩
  rw [← HWE.out]
  go_wp2_with fail
  go_loop [5] (fun i => ∃ k : Nat, k ≤ 97 ∧ i = .int .i64 k ∧ ∀ j, j < k → (opK j : Int) ≠ op) (fun i => 97 - (intOf i).toNat)
  case atStart => exact ⟨0, Nat.zero_le _, rfl, fun j hj => by omega⟩
  case round =>
    obtain ⟨k, hk, rfl, hb⟩ := hrel
    by_cases hlt : k < 97
    · obtain ⟨c0, c1, c2⟩ := tab_cell HB.out hlt
      by_cases he : (opK k : Int) = op
      · have hix := ixC_hit hlt he hb
        have HX := Lib.hid hix
        clear hix hb
        obtain ⟨a0, a1, a2, f0, f1, f2⟩ := bx3 HA.out
        go_wp2
        refine bodyPost_ret (results_ct rfl rfl rfl (load_row3 (put3 HA.out (.int .i64 op) (.string ⟨(nmK k).toArray⟩) (.int .i64 (foK k : Int))) rfl rfl rfl)) rfl ⟨?_, put3_below HW.out (Nat.le_refl _) _ _ _⟩
        rw [HX.out]
        show _ = Ending.returned (.tuple #[.agg #[.int .i64 (opK k : Int), .string ⟨(nmK k).toArray⟩, .int .i64 (foK k : Int)], .bool true])
        rw [he]
        rfl
      · clear c1 c2
        go_wp2
        go_round
        case rel => exact ⟨k + 1, by omega, by go_num, fun j hj => by
          by_cases hjk : j < k
          · exact hb j hjk
          · obtain rfl : j = k := by omega
            exact he⟩
        case measure => simp [intOf]; omega
    · obtain rfl : k = 97 := by omega
      have hix := ixC_miss hb
      have HX := Lib.hid hix
      clear hix hb
      obtain ⟨a0, a1, a2, f0, f1, f2⟩ := bx3 HA.out
      go_wp2
      refine bodyPost_ret (results_ct rfl rfl rfl (load_row3 (put3 HA.out (.int .i64 0) (.string ⟨#[]⟩) (.int .i64 0)) rfl rfl rfl)) rfl ⟨?_, put3_below HW.out (Nat.le_refl _) _ _ _⟩
      rw [HX.out]
      rfl
set_option maxRecDepth 100000 in
theorem form_ref (op : Int) (w : World) : Calls Tryd.prog 11 #[.int .i64 op] w (New w (formV (ixC op))) := by
  have HO := Lib.hid (of_ref op w)
  unfold formV
  unfold rrV at HO
  generalize ixC op = o at HO ⊢
  generalize (opO o : Int) = x at HO
  generalize (⟨(nmO o).toArray⟩ : ByteArray) = y at HO
  generalize (foO o : Int) = z at HO ⊢
  generalize o.isSome = b at HO ⊢
  go_enter Tryd.func11, Tryd.ntmps11
  go_wp2_with fail
  refine HO.out.mono ?_
  rintro e w1 ⟨rfl, hb⟩
  have HB := Lib.hid (bel0 hb (below_new w1 (.cells #[.int .i64 x, .string y, .int .i64 z] 52)))
  clear hb
  go_wp2
  exact bodyPost_ret (results_tt rfl rfl rfl) rfl ⟨rfl, HB.out⟩
set_option maxRecDepth 100000 in
theorem name_ref (op : Int) (w : World) : Calls Tryd.prog 27 #[.int .i64 op] w (New w (nameV (ixC op))) := by
  have HO := Lib.hid (of_ref op w)
  unfold nameV
  unfold rrV at HO
  generalize ixC op = o at HO ⊢
  generalize (opO o : Int) = x at HO
  generalize (⟨(nmO o).toArray⟩ : ByteArray) = y at HO ⊢
  generalize (foO o : Int) = z at HO
  generalize o.isSome = b at HO
  go_enter Tryd.func27, Tryd.ntmps27
  go_wp2_with fail
  refine HO.out.mono ?_
  rintro e w1 ⟨rfl, hb⟩
  have HB := Lib.hid (bel0 hb (below_new w1 (.cells #[.int .i64 x, .string y, .int .i64 z] 52)))
  clear hb
  go_wp2
  go_ret
  exact ⟨rfl, HB.out⟩
end E
end Go.Proofs.YtaodghaicmjadaaDoor

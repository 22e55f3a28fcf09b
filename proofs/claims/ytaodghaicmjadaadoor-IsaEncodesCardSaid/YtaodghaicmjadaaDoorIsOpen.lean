/- What a statement's premises give: an instruction; two instructions compared. -/
import Derived.Test.YtaodghaicmjadaaDoorPsLaid
import Derived.Test.YtaodghaicmjadaaDoorIsBackP
import Derived.Test.YtaodghaicmjadaaDoorIsWorks
import Derived.LaidMore
import Derived.Lay
import Derived.SevenTiedAt
import Derived.Stop.Joined
namespace Go.Proofs.YtaodghaicmjadaaDoor
open Go.ChangeShapes Go.WideShapes Go.ChangeAt Go.RowKit Go.ChangeMaps Go.Joins Go.Deep
set_option linter.unusedVariables false
namespace E

/-- The listed variables. -/
abbrev lst : List (String × DataW Unit) := [("unicode/utf8.acceptRanges", Rows.laid_unicode_utf8_acceptRanges), ("unicode/utf8.first", Rows.laid_unicode_utf8_first)]
section
variable {H : Type} {enc : TypeId × Value → H} {P : Program} {w : World} {base : Nat} {spare : Nat → Bool} {held : Bool}
theorem open_agg12 {r : Reach} {b0 : Nat} {t : TypeId} {f0 f1 f2 f3 f4 f5 f6 f7 f8 f9 f10 f11 : Field} {v : Value} {d : DataW H} {p : List MemPlace} (hs : P.underlying t = some (.struct #[f0, f1, f2, f3, f4, f5, f6, f7, f8, f9, f10, f11])) (hone : oneCellFields P #[f0, f1, f2, f3, f4, f5, f6, f7, f8, f9, f10, f11] = true) (hC : P.cellsOf t = 12)
    (hv : Value.okWide P w r b0 t v) (h : DataW.Trod enc P w base spare held t v d p) :
    ∃ (v0 v1 v2 v3 v4 v5 v6 v7 v8 v9 v10 v11 : Value) (y0 y1 y2 y3 y4 y5 y6 y7 y8 y9 y10 y11 : DataW H × List MemPlace) (n : Nat), v = .agg #[v0, v1, v2, v3, v4, v5, v6, v7, v8, v9, v10, v11] ∧ DataW.trod enc P w base spare held n f0.type [v0] = some y0 ∧ DataW.trod enc P w base spare held n f1.type [v1] = some y1 ∧ DataW.trod enc P w base spare held n f2.type [v2] = some y2 ∧ DataW.trod enc P w base spare held n f3.type [v3] = some y3 ∧ DataW.trod enc P w base spare held n f4.type [v4] = some y4 ∧ DataW.trod enc P w base spare held n f5.type [v5] = some y5 ∧ DataW.trod enc P w base spare held n f6.type [v6] = some y6 ∧ DataW.trod enc P w base spare held n f7.type [v7] = some y7 ∧ DataW.trod enc P w base spare held n f8.type [v8] = some y8 ∧ DataW.trod enc P w base spare held n f9.type [v9] = some y9 ∧ DataW.trod enc P w base spare held n f10.type [v10] = some y10 ∧ DataW.trod enc P w base spare held n f11.type [v11] = some y11 := by
  obtain ⟨cs, rfl, hsz⟩ := okWide_struct hs hv
  obtain ⟨l⟩ := cs
  match l, hsz.trans hC with
  | [c0, c1, c2, c3, c4, c5, c6, c7, c8, c9, c10, c11], _ =>
    obtain ⟨fuel, hf⟩ := h
    obtain ⟨xs, n, _, hx, _, hlen, hg⟩ := DataW.trod_struct hs hf
    obtain ⟨o0, k0⟩ := hone_of hone 0 f0 rfl
    obtain ⟨o1, k1⟩ := hone_of hone 1 f1 rfl
    obtain ⟨o2, k2⟩ := hone_of hone 2 f2 rfl
    obtain ⟨o3, k3⟩ := hone_of hone 3 f3 rfl
    obtain ⟨o4, k4⟩ := hone_of hone 4 f4 rfl
    obtain ⟨o5, k5⟩ := hone_of hone 5 f5 rfl
    obtain ⟨o6, k6⟩ := hone_of hone 6 f6 rfl
    obtain ⟨o7, k7⟩ := hone_of hone 7 f7 rfl
    obtain ⟨o8, k8⟩ := hone_of hone 8 f8 rfl
    obtain ⟨o9, k9⟩ := hone_of hone 9 f9 rfl
    obtain ⟨o10, k10⟩ := hone_of hone 10 f10 rfl
    obtain ⟨o11, k11⟩ := hone_of hone 11 f11 rfl
    match xs, hlen with
    | [y0, y1, y2, y3, y4, y5, y6, y7, y8, y9, y10, y11], _ =>
      exact ⟨c0, c1, c2, c3, c4, c5, c6, c7, c8, c9, c10, c11, y0, y1, y2, y3, y4, y5, y6, y7, y8, y9, y10, y11, n, rfl, by simpa [Value.cells, o0, k0] using hg 0 f0 rfl, by simpa [Value.cells, o1, k1] using hg 1 f1 rfl, by simpa [Value.cells, o2, k2] using hg 2 f2 rfl, by simpa [Value.cells, o3, k3] using hg 3 f3 rfl, by simpa [Value.cells, o4, k4] using hg 4 f4 rfl, by simpa [Value.cells, o5, k5] using hg 5 f5 rfl, by simpa [Value.cells, o6, k6] using hg 6 f6 rfl, by simpa [Value.cells, o7, k7] using hg 7 f7 rfl, by simpa [Value.cells, o8, k8] using hg 8 f8 rfl, by simpa [Value.cells, o9, k9] using hg 9 f9 rfl, by simpa [Value.cells, o10, k10] using hg 10 f10 rfl, by simpa [Value.cells, o11, k11] using hg 11 f11 rfl⟩
end
theorem cellsIns : Tryd.prog.cellsOf 28 = 12 := by kernel_rfl
set_option maxRecDepth 100000 in
theorem ins_of {H : Type} {enc : TypeId × Value → H} {W : World} {r : Reach} {b0 : Nat} {v : Value} {d : DataW H} {ps : List MemPlace} (hv : Value.okWide Tryd.prog W r b0 28 v) (h : DataW.Trod enc Tryd.prog W 0 (fun _ => true) true 28 v d ps) :
    ∃ Q : Ins, v = Q.val := by
  obtain ⟨c0, c1, c2, c3, c4, c5, c6, c7, c8, c9, c10, c11, y0, y1, y2, y3, y4, y5, y6, y7, y8, y9, y10, y11, n, rfl, t0, t1, t2, t3, t4, t5, t6, t7, t8, t9, t10, t11⟩ := open_agg12 Tryd.underlying28 (by kernel_rfl) cellsIns hv h
  obtain ⟨b0, e0, -, -⟩ := DataW.trod_int Tryd.underlying3 t0
  obtain ⟨b1, e1, -, -⟩ := DataW.trod_int Tryd.underlying3 t1
  obtain ⟨b2, e2, -, -⟩ := DataW.trod_int Tryd.underlying3 t2
  obtain ⟨b3, e3, -, -⟩ := DataW.trod_int Tryd.underlying3 t3
  obtain ⟨b4, e4, -, -⟩ := DataW.trod_int Tryd.underlying3 t4
  obtain ⟨b5, e5, -, -⟩ := DataW.trod_int Tryd.underlying3 t5
  obtain ⟨b6, e6, -, -⟩ := DataW.trod_int Tryd.underlying3 t6
  obtain ⟨b7, e7, -, -⟩ := DataW.trod_int Tryd.underlying3 t7
  obtain ⟨b8, e8, -, -⟩ := DataW.trod_int Tryd.underlying3 t8
  obtain ⟨b9, e9, -, -⟩ := DataW.trod_int Tryd.underlying3 t9
  obtain ⟨b10, e10, -, -⟩ := DataW.trod_int Tryd.underlying3 t10
  obtain ⟨b11, e11, -, -⟩ := DataW.trod_int Tryd.underlying3 t11
  simp at e0
  simp at e1
  simp at e2
  simp at e3
  simp at e4
  simp at e5
  simp at e6
  simp at e7
  simp at e8
  simp at e9
  simp at e10
  simp at e11
  subst e0 e1 e2 e3 e4 e5 e6 e7 e8 e9 e10 e11
  exact ⟨⟨b0, b1, b2, b3, b4, b5, b6, b7, b8, b9, b10, b11⟩, rfl⟩
theorem bytesU : Tryd.prog.bytesOf 5 = 1 := by kernel_rfl
theorem reachN : reachBytes = 140737488351232 := by kernel_rfl
set_option maxRecDepth 100000 in
/-- A slice of the premises, and its reach. -/
theorem sv_sized {H : Type} {enc : TypeId × Value → H} {W : World} {v : Value} {b0 : Nat} {r : Reach} {d : DataW H} {ps : List MemPlace} (hv : Value.okWide Tryd.prog W r b0 29 v) (h : DataW.Trod enc Tryd.prog W 0 (fun _ => true) true 29 v d ps)
    (hs : ∀ x ∈ DataW.weights Tryd.prog 29 d, x ≤ reachBytes) : ∃ l : List UInt8, SvB W v l ∧ l.length ≤ 140737488351232 := by
  obtain ⟨l, hl⟩ := sv_of hv h
  refine ⟨l, hl, ?_⟩
  obtain ⟨p, c, rfl, _⟩ := hl
  obtain ⟨fuel, hf⟩ := h
  have hf : DataW.trod enc Tryd.prog W 0 (fun _ => true) true fuel 29 [.slice p l.length c] = _ := hf
  rcases open_ints Tryd.underlying29 Tryd.underlying5 cellsU hf with ⟨hcs, hx⟩ | ⟨a, len', cap', zs, hcs, _, hle, hm, hz, hx, hcell, hwz⟩
  · have : l.length = 0 := by simpa using (by simpa using hcs : p = none ∧ l.length = 0 ∧ c = 0).2.1
    omega
  · obtain ⟨rfl, e2, rfl⟩ : p = some a ∧ l.length = len' ∧ c = cap' := by simpa using hcs
    simp only [if_true] at hz
    obtain ⟨rfl, rfl⟩ := Prod.mk.inj hx
    have h2 := hs (((lits .u8 (zs.take len') : List (DataW H)).length + (lits .u8 (zs.drop len') : List (DataW H)).length) * Tryd.prog.bytesOf 5) (by
      simp only [DataW.weights, Tryd.underlying29]
      exact List.mem_cons_self ..)
    rw [bytesU, reachN, Nat.mul_one] at h2
    unfold lits at h2
    rw [List.length_map, List.length_map, List.length_take, List.length_drop] at h2
    omega
def insEq (Q P : Ins) : Bool := decide (Q = P)
theorem insEq_self (Q : Ins) : insEq Q Q = true := decide_eq_true rfl
theorem ins_eql (a0 a1 a2 a3 a4 a5 a6 a7 a8 a9 a10 a11 b0 b1 b2 b3 b4 b5 b6 b7 b8 b9 b10 b11 : Int) (w : World) : (binOp .eql 28 (.agg #[.int .i64 a0, .int .i64 a1, .int .i64 a2, .int .i64 a3, .int .i64 a4, .int .i64 a5, .int .i64 a6, .int .i64 a7, .int .i64 a8, .int .i64 a9, .int .i64 a10, .int .i64 a11]) (.agg #[.int .i64 b0, .int .i64 b1, .int .i64 b2, .int .i64 b3, .int .i64 b4, .int .i64 b5, .int .i64 b6, .int .i64 b7, .int .i64 b8, .int .i64 b9, .int .i64 b10, .int .i64 b11])).run Tryd.prog w = .ok (.bool (insEq ⟨a0, a1, a2, a3, a4, a5, a6, a7, a8, a9, a10, a11⟩ ⟨b0, b1, b2, b3, b4, b5, b6, b7, b8, b9, b10, b11⟩)) w := by
  go_simp
  unfold insEq
  simp only [ins_iff]
  by_cases h0 : a0 = b0
  · subst h0
    rw [if_pos rfl]
    by_cases h1 : a1 = b1
    · subst h1
      rw [if_pos rfl]
      by_cases h2 : a2 = b2
      · subst h2
        rw [if_pos rfl]
        by_cases h3 : a3 = b3
        · subst h3
          rw [if_pos rfl]
          by_cases h4 : a4 = b4
          · subst h4
            rw [if_pos rfl]
            by_cases h5 : a5 = b5
            · subst h5
              rw [if_pos rfl]
              by_cases h6 : a6 = b6
              · subst h6
                rw [if_pos rfl]
                by_cases h7 : a7 = b7
                · subst h7
                  rw [if_pos rfl]
                  by_cases h8 : a8 = b8
                  · subst h8
                    rw [if_pos rfl]
                    by_cases h9 : a9 = b9
                    · subst h9
                      rw [if_pos rfl]
                      by_cases h10 : a10 = b10
                      · subst h10
                        rw [if_pos rfl]
                        by_cases h11 : a11 = b11
                        · subst h11
                          rw [if_pos rfl]
                          simp
                        · rw [if_neg h11]
                          simp [h11]
                      · rw [if_neg h10]
                        simp [h10]
                    · rw [if_neg h9]
                      simp [h9]
                  · rw [if_neg h8]
                    simp [h8]
                · rw [if_neg h7]
                  simp [h7]
              · rw [if_neg h6]
                simp [h6]
            · rw [if_neg h5]
              simp [h5]
          · rw [if_neg h4]
            simp [h4]
        · rw [if_neg h3]
          simp [h3]
      · rw [if_neg h2]
        simp [h2]
    · rw [if_neg h1]
      simp [h1]
  · rw [if_neg h0]
    simp [h0]
end E
end Go.Proofs.YtaodghaicmjadaaDoor

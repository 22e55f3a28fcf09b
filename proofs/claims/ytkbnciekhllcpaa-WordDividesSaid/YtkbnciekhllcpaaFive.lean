/- A struct of five words by value: opened and shut. -/
import Derived.Test.YtkbnciekhllcpaaRows
import Derived.WalkKit
import Derived.ProofKit
import Derived.OpenShut
import Derived.Lib.SmallJoins
import Derived.Lib.Hide
import Derived.Test.YtkbnciekhllcpaaRows
namespace Go.Proofs.Ytkbnciekhllcpaa
open Go.RowKit
set_option linter.unusedVariables false
open Go.ChangeShapes Go.WideShapes Go.ChangeAt Go.Joins
namespace W

section
variable {H : Type} {enc : TypeId × Value → H} {P : Program} {w : World} {base : Nat} {spare : Nat → Bool} {held : Bool}
/-- A struct of five words, by value: what it holds and reads as. -/
theorem five_open {r : Reach} {b0 : Nat} {t tu : TypeId} {fs : Array Field} {v : Value} {d : DataW H} {p : List MemPlace} (hs : P.underlying t = some (.struct fs)) (hC : P.cellsOf t = 5) (hu : P.underlying tu = some (.int .u32)) (hcu : P.cellsOf tu = 1)
    (hn : fs.size = 5) (hf : ∀ i, i < 5 → ∃ f, fs[i]? = some f ∧ f.offset = i ∧ f.type = tu) (hv : Value.okWide P w r b0 t v) (h : DataW.Trod enc P w base spare held t v d p) :
    ∃ a b c e f : Int, v = .agg #[.int .u32 a, .int .u32 b, .int .u32 c, .int .u32 e, .int .u32 f] ∧ d = .agg [.lit (.int .u32 a), .lit (.int .u32 b), .lit (.int .u32 c), .lit (.int .u32 e), .lit (.int .u32 f)] ∧ p = [] ∧
      (Lit.int .u32 a).wf = true ∧ (Lit.int .u32 b).wf = true ∧ (Lit.int .u32 c).wf = true ∧ (Lit.int .u32 e).wf = true ∧ (Lit.int .u32 f).wf = true := by
  obtain ⟨cs, rfl, hsz⟩ := okWide_struct hs hv
  obtain ⟨fuel, hx⟩ := h
  obtain ⟨xs, n, _, hy, hl, hlen, hg⟩ := DataW.trod_struct hs hx
  rw [hn] at hlen
  rw [hC] at hsz
  have one : ∀ i, i < 5 → ∃ a, (cs.toList.drop i).take 1 = [.int .u32 a] ∧ xs[i]? = some (.lit (.int .u32 a), []) ∧ (Lit.int .u32 a).wf = true := fun i hi => by
    obtain ⟨f, hfi, ho, ht⟩ := hf i hi
    have hgi := hg i f hfi
    rw [ho, ht, hcu, List.getElem?_eq_getElem (by omega)] at hgi
    obtain ⟨a, ha, hxa, hw⟩ := DataW.trod_int hu hgi
    exact ⟨a, by simpa [Value.cells] using ha, by rw [List.getElem?_eq_getElem (by omega), hxa], hw⟩
  obtain ⟨a, ha, xa, wa⟩ := one 0 (by omega)
  obtain ⟨b, hb, xb, wb⟩ := one 1 (by omega)
  obtain ⟨c, hc, xc, wc⟩ := one 2 (by omega)
  obtain ⟨e, he, xe, we⟩ := one 3 (by omega)
  obtain ⟨f, hf5, xf, wf⟩ := one 4 (by omega)
  obtain ⟨l⟩ := cs
  match l, hsz with
  | [l0, l1, l2, l3, l4], _ =>
    match xs, hlen with
    | [x0, x1, x2, x3, x4], _ =>
      simp at ha hb hc he hf5 xa xb xc xe xf
      subst ha hb hc he hf5 xa xb xc xe xf
      simp only [Prod.mk.injEq] at hy
      obtain ⟨rfl, rfl⟩ := hy
      exact ⟨a, b, c, e, f, rfl, rfl, rfl, wa, wb, wc, we, wf⟩
theorem five_shut {t tu : TypeId} {fs : Array Field} {a b c e f : Int} (hs : P.underlying t = some (.struct fs)) (hC : P.cellsOf t = 5) (hu : P.underlying tu = some (.int .u32)) (hcu : P.cellsOf tu = 1)
    (hf : fs.toList.map (fun f => (f.offset, f.type)) = [(0, tu), (1, tu), (2, tu), (3, tu), (4, tu)])
    (wa : (Lit.int .u32 a).wf = true) (wb : (Lit.int .u32 b).wf = true) (wc : (Lit.int .u32 c).wf = true) (we : (Lit.int .u32 e).wf = true) (wf : (Lit.int .u32 f).wf = true) :
    DataW.Trod enc P w base spare held t (.agg #[.int .u32 a, .int .u32 b, .int .u32 c, .int .u32 e, .int .u32 f]) (.agg [.lit (.int .u32 a), .lit (.int .u32 b), .lit (.int .u32 c), .lit (.int .u32 e), .lit (.int .u32 f)]) [] := by
  have one : ∀ x : Int, (Lit.int .u32 x).wf = true → DataW.trod enc P w base spare held 1 tu [.int .u32 x] = some (.lit (.int .u32 x), []) := fun x hx => by simp [DataW.trod, hu, hx]
  refine ⟨2, ?_⟩
  have h := trod_struct_mk (enc := enc) (P := P) (w := w) (base := base) (spare := spare) (held := held) (n := 1) (cs := [.int .u32 a, .int .u32 b, .int .u32 c, .int .u32 e, .int .u32 f])
    (xs := [(.lit (.int .u32 a), []), (.lit (.int .u32 b), []), (.lit (.int .u32 c), []), (.lit (.int .u32 e), []), (.lit (.int .u32 f), [])]) hs (by rw [hC]; rfl) (by
      have e1 : fs.toList.mapM (fun f' => DataW.trod enc P w base spare held 1 f'.type (([Value.int .u32 a, .int .u32 b, .int .u32 c, .int .u32 e, .int .u32 f].drop f'.offset).take (P.cellsOf f'.type)))
          = (fs.toList.map (fun f => (f.offset, f.type))).mapM (fun g => DataW.trod enc P w base spare held 1 g.2 (([Value.int .u32 a, .int .u32 b, .int .u32 c, .int .u32 e, .int .u32 f].drop g.1).take (P.cellsOf g.2))) := by
        rw [List.mapM_map]; rfl
      rw [e1, hf]
      simp [hcu, one, wa, wb, wc, we, wf])
  simpa [Value.cells] using h
end

end W
end Go.Proofs.Ytkbnciekhllcpaa

/- A range over a function, where the iterator tells each round what it knows of the yielded value. -/
import Derived.Test.YtaodghaicmjadaaDoorIsSearch
namespace Go.Proofs.YtaodghaicmjadaaDoor
open Go.RowKit Go.Shelf
set_option linter.unusedVariables false
namespace E

/-- How a round is left. -/
def toldPost {α : Type} (B : Nat) (Kp : α → World → World → Prop) (I Ix : List α → World → Prop) (pre : List α) (x : α) (W : World) : Exit → Act → World → Prop
  | .normal, _, W' => KeepsFrom B W W' ∧ Kp x W W' ∧ I (pre ++ [x]) W'
  | .ret, _, W' => KeepsFrom B W W' ∧ Kp x W W' ∧ Ix (pre ++ [x]) W'
  | _, _, _ => False
/-- The contract of an iterator that tells. -/
def Tells {α : Type} (n : Nat) (P : Program) (gf : Nat) (lb : Array Value) (encs : α → Array Value) (V : List α → α → World → Prop) (Kp : α → World → World → Prop) (S : List α → World → Prop) (w : World) : Prop :=
  ∀ (l : Nat) (J Jx : List α → World → Prop) (W : World), Below w.heap.size w W → (∀ s X Y, J s X → X.grownBy Y none → J s Y) →
    (∀ pre x W1, V pre x W1 → J pre W1 → YieldAt Fence.wide (n - 1) P l (encs x) W1 fun e W' => Kp x W1 W' ∧ ((e = .returned (.bool true) ∧ J (pre ++ [x]) W') ∨ (e = .returned (.bool false) ∧ Jx (pre ++ [x]) W'))) →
    J [] W → CallsIn Fence.wide n P gf (#[.func (.yield l) #[] #[]] ++ lb) W fun e W' => (∃ v, e = .returned v) ∧ ((∃ xs, S xs W' ∧ J xs W') ∨ (∃ pre, Jx pre W'))

theorem wpIn_told {P : Program} {α : Type} {g : Operand} {ps : Array Tmp} {assign body : Code} {Q : Exit → Act → World → Prop} {a : Act} {w : World} {n gf : Nat} {lb : Array Value}
    (hg : a.eval g = .func (.func gf) #[] lb) (eg : Enters P gf) {encs : α → Array Value} {V : List α → α → World → Prop} {Kp : α → World → World → Prop} {S : List α → World → Prop}
    (hseq : Tells (n - 1) P gf lb encs V Kp S w) (hps : ∀ x, (encs x).size = ps.size)
    (hV : ∀ pre x W l o o', W.heap[l]? = some o → o.isCells = false → V pre x W → V pre x (W.putObj l o'))
    (hKt : ∀ x A B C, Kp x A B → Kp x B C → Kp x A C) (hKb : ∀ x W l o o', W.heap[l]? = some o → o.isCells = false → Kp x W (W.putObj l o'))
    (hS : ∀ xs W l o o', W.heap[l]? = some o → o.isCells = false → S xs W → S xs (W.putObj l o'))
    (I Ix : List α → World → Prop) (hI : OwnFrom w.heap.size I) (hIx : OwnFrom w.heap.size Ix) (h0 : I [] w) (a₁ : α → Act)
    (hassign : ∀ (l : Nat) (x : α) (W : World) (K : Act → World → Prop), K (a₁ x) W →
      assign.wpIn (Fence.wide.inRound l) (n - 1 - 1) P (Exit.then K (fun _ _ _ => False)) { tmps := (ps.zip (encs x)).foldl (fun t (p, v) => t.setIfInBounds p v) a.tmps, defers := [] } W)
    (hbody : ∀ (l : Nat) (pre : List α) (x : α) (W : World), V pre x W → I pre W → body.wpIn (Fence.wide.inRound l) (n - 1 - 1) P (toldPost w.heap.size Kp I Ix pre x W) (a₁ x) W)
    (hdone : ∀ (D : Nat) (xs : List α) (W : World), w.heap.size ≤ D → S xs W → I xs W → W.heap[D]? = some (.deferred (some [])) → Q .normal { a with defers := { target := .collected D, args := #[] } :: a.defers } W)
    (hstop : ∀ (D : Nat) (pre : List α) (W : World), w.heap.size ≤ D → Ix pre W → W.heap[D]? = some (.deferred (some [])) → Q .ret { a with defers := { target := .collected D, args := #[] } :: a.defers } W) :
    (Code.rangeFunc g ps assign body).wpIn Fence.wide n P Q a w := by
  refine wpIn_rangeFunc fun fn hfn => ?_
  obtain ⟨R, hR⟩ : ∃ R : LoopState → Option Code → Loop, R = fun st j => { state := st, pending := j, fn := fn, tmps := a.tmps, params := ps, assign := assign, body := body, defers := w.heap.size } := ⟨_, rfl⟩
  obtain ⟨D, hD⟩ : ∃ D, D = w.heap.size := ⟨_, rfl⟩
  obtain ⟨w1, hw1⟩ : ∃ w1, w1 = (w.alloc (.deferred (some []))).alloc (.loop (R .ready none)) := ⟨_, rfl⟩
  have hrec : w1.heap[D + 1]? = some (.loop (R .ready none)) := by
    have h := World.alloc_heap_new (w.alloc (.deferred (some []))) (.loop (R .ready none))
    rw [World.size_alloc] at h
    rw [hw1, hD]
    exact h
  have hdef : w1.heap[D]? = some (.deferred (some [])) := by
    rw [hw1, hD]
    exact (Below.heap_alloc _ _ _ (by simp)).trans (World.alloc_heap_new w _)
  have hbel : Below w.heap.size w w1 := by
    rw [hw1]
    exact (below_new w _).alloc (by simp) _
  have hI1 : I [] w1 := by rw [hw1]; exact hI.alloc _ (hI.alloc _ h0)
  refine ⟨D + 1, [{ target := .collected D, args := #[] }], w1, { target := .fn (.func gf) lb, args := #[.func (.yield (D + 1)) #[] #[]] }, w1, gf, #[.func (.yield (D + 1)) #[] #[]] ++ lb, w1, ?_, ?_, fun _ _ => trivial, ?_, (fun e => by cases e), ?_⟩
  · rw [hw1, hR, hD]
    exact run_enterLoop_outer _ _ _ _ _
  · simp only [resolve, hg]
    simp [go_sem]
  · simp [invoke, go_sem, eg _ _]
  refine (hseq (D + 1)
    (fun pre W => I pre W ∧ W.heap[D + 1]? = some (.loop (R .ready none)) ∧ W.heap[D]? = some (.deferred (some [])))
    (fun pre W => Ix pre W ∧ W.heap[D + 1]? = some (.loop (R .done (some .ret))) ∧ W.heap[D]? = some (.deferred (some [])))
    w1 hbel ?grow ?round ⟨hI1, hrec, hdef⟩).mono ?back
  case grow =>
    rintro s X Y ⟨h1, h2, h3⟩ hXY
    exact ⟨hI s X Y none h1 hXY (fun r e => by cases e), (hXY.block _ (Array.getElem?_eq_some_iff.1 h2).1 (by simp)).trans h2, (hXY.block _ (Array.getElem?_eq_some_iff.1 h3).1 (by simp)).trans h3⟩
  case round =>
    rintro pre x W hv ⟨h1, h2, h3⟩
    have hlt := (Array.getElem?_eq_some_iff.1 h2).1
    have hy := run_yield (P := P) (args := encs x) h2 (by rw [hR]; exact hps x)
    rw [hR] at hy
    refine ⟨fn, _, assign, body, hy, roundIn_of_wpIn hfn (hassign _ x W _ ⟨_, run_beginRound h2 (by rw [hR]), ?_⟩)⟩
    obtain ⟨Wb, hWb⟩ : ∃ Wb, Wb = W.putObj (D + 1) (.loop { R .ready none with state := .busy }) := ⟨_, rfl⟩
    rw [← hWb]
    have hb2 : Wb.heap[D + 1]? = some (.loop { R .ready none with state := .busy }) := by rw [hWb]; exact World.putObj_heap_same hlt
    have hb3 : Wb.heap[D]? = some (.deferred (some [])) := by rw [hWb]; exact (World.putObj_heap_other (by omega)).trans h3
    have hIb : I pre Wb := by rw [hWb]; exact hI.putObj _ h1 (by omega) h2 rfl
    have hVb : V pre x Wb := by rw [hWb]; exact hV _ _ _ _ _ _ h2 rfl hv
    have hKs : Kp x W Wb := by rw [hWb]; exact hKb _ _ _ _ _ h2 rfl
    refine wpIn_mono (hbody _ pre x Wb hVb hIb) fun e a3 W3 hp => ?_
    have close : ∀ jump : Option Code, KeepsFrom w.heap.size Wb W3 → ∃ W4, W4 = W3.putObj (D + 1) (.loop (R (if jump.isNone then .ready else .done) jump)) ∧
        (Instr.endRound (D + 1) jump).run P W3 = .ok (.bool jump.isNone) W4 ∧ W3.heap[D + 1]? = some (.loop { R .ready none with state := .busy }) ∧ W4.heap[D + 1]? = some (.loop (R (if jump.isNone then .ready else .done) jump)) ∧ W4.heap[D]? = some (.deferred (some [])) := fun jump hk => by
      have hl3 := hk.same _ _ (by omega) hb2 rfl
      have hr := run_endRound (P := P) jump hl3
      rw [hR] at hr
      refine ⟨_, rfl, by rw [hR]; exact hr, hl3, World.putObj_heap_same (Array.getElem?_eq_some_iff.1 hl3).1, (World.putObj_heap_other (by omega)).trans (hk.same _ _ (by omega) hb3 rfl)⟩
    cases e with
    | normal =>
      obtain ⟨hk, hkp, hi⟩ := hp
      obtain ⟨W4, hW4, hr, hl3, h5, h6⟩ := close none hk
      exact ⟨_, _, hr, hKt _ _ _ _ hKs (hKt _ _ _ _ hkp (by rw [hW4]; exact hKb _ _ _ _ _ hl3 rfl)), .inl ⟨rfl, by rw [hW4]; exact hI.putObj _ hi (by omega) hl3 rfl, h5, h6⟩⟩
    | ret =>
      obtain ⟨hk, hkp, hi⟩ := hp
      obtain ⟨W4, hW4, hr, hl3, h5, h6⟩ := close (some .ret) hk
      exact ⟨_, _, hr, hKt _ _ _ _ hKs (hKt _ _ _ _ hkp (by rw [hW4]; exact hKb _ _ _ _ _ hl3 rfl)), .inr ⟨rfl, by rw [hW4]; exact hIx.putObj _ hi (by omega) hl3 rfl, h5, h6⟩⟩
    | exit id => exact hp.elim
    | goto t => exact hp.elim
    | panic ch => exact hp.elim
    | outgrown => exact hp.elim
  case back =>
    rintro e W2 ⟨⟨v, rfl⟩, (⟨xs, hs, hi, hl, hk⟩ | ⟨pre, hi, hl, hk⟩)⟩
    · have he := run_endLoop (P := P) hl (by rw [hR]; simp)
      rw [hR] at he hl
      exact ⟨none, _, he, hdone D xs _ (by omega) (hS _ _ _ _ _ hl rfl hs) (hI.putObj _ hi (by omega) hl rfl) ((World.putObj_heap_other (by omega)).trans hk)⟩
    · have he := run_endLoop (P := P) hl (by rw [hR]; simp)
      rw [hR] at he hl
      exact ⟨some .ret, _, he, wpIn_ret (hstop D pre _ (by omega) (hIx.putObj _ hi (by omega) hl rfl) ((World.putObj_heap_other (by omega)).trans hk))⟩

end E
end Go.Proofs.YtaodghaicmjadaaDoor

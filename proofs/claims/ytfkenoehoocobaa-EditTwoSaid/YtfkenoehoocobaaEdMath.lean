/- Editing by a pattern as a function of lists: the digits of a source, one step, the run over a pattern, the answer; what holds of a run's text, of prefixes of the pattern and of more bytes of the source. Pure: no function of a seat. -/
namespace Go.Proofs.Ytfkenoehoocobaa
namespace E

/-- A digit of a source, the sign that is passed with it (0 none, 1 plus, 2 minus), whether it cannot be taken. -/
structure ED where
  n : Nat
  sign : Nat
  bad : Bool
def edB (x : UInt8) : List ED :=
  if 9 < x.toNat / 16 then [⟨0, 0, true⟩] else if x.toNat % 16 ≤ 9 then [⟨x.toNat / 16, 0, false⟩, ⟨x.toNat % 16, 0, false⟩]
  else [⟨x.toNat / 16, if x.toNat % 16 = 11 ∨ x.toNat % 16 = 13 then 2 else 1, false⟩]
def edL : List UInt8 → List ED
  | [] => []
  | x :: s => if 9 < x.toNat / 16 then edB x else edB x ++ edL s
/-- Where a run stands. -/
structure ES where
  next : Nat
  on : Bool
  nz : Bool
  mark : Int
  text : List UInt8
def edOne (fill : UInt8) (i : Nat) (c : UInt8) (s : ES) (d : ED) : ES :=
  ⟨s.next + 1, (s.on || decide (0 < d.n) || c == 33) && d.sign != 1, s.nz || decide (0 < d.n), if !s.on && decide (0 < d.n) then (i : Int) else s.mark, s.text ++ [if s.on || decide (0 < d.n) then UInt8.ofNat (240 + d.n) else fill]⟩
def edStep (fill : UInt8) (l : List ED) (i : Nat) (c : UInt8) (s : ES) : Nat × ES :=
  if c = 34 then (0, ⟨s.next, false, false, s.mark, s.text ++ [fill]⟩)
  else if c ≠ 32 ∧ c ≠ 33 then (0, ⟨s.next, s.on, s.nz, s.mark, s.text ++ [if s.on then c else fill]⟩)
  else if h : s.next < l.length then (if l[s.next].bad then (7, s) else (0, edOne fill i c s l[s.next])) else (5, s)
def edRun (fill : UInt8) (l : List ED) : List UInt8 → Nat → ES → Nat × ES
  | [], _, s => (0, s)
  | c :: p, i, s => if (edStep fill l i c s).1 = 0 then edRun fill l p (i + 1) (edStep fill l i c s).2 else edStep fill l i c s
theorem run_cons (fill : UInt8) (l : List ED) (c : UInt8) (p : List UInt8) (i : Nat) (s : ES) : edRun fill l (c :: p) i s = if (edStep fill l i c s).1 = 0 then edRun fill l p (i + 1) (edStep fill l i c s).2 else edStep fill l i c s := rfl
def edInit : ES := ⟨0, false, false, -1, []⟩
def edCC (s : ES) : Nat := if s.nz then (if s.on then 1 else 2) else 0
/-- What Edit answers: the text, the condition code, the mark, the code. -/
def edRes (p src : List UInt8) : List UInt8 × Nat × Int × Nat :=
  if 1 ≤ p.length ∧ p.length ≤ 256 then
    (if (edRun (p.headD 0) (edL src) p 0 edInit).1 = 0 then ((edRun (p.headD 0) (edL src) p 0 edInit).2.text, edCC (edRun (p.headD 0) (edL src) p 0 edInit).2, (edRun (p.headD 0) (edL src) p 0 edInit).2.mark, 0)
     else ([], 0, 0, (edRun (p.headD 0) (edL src) p 0 edInit).1))
  else ([], 0, 0, 6)
theorem step_code (fill : UInt8) (l : List ED) (i : Nat) (c : UInt8) (s : ES) : (edStep fill l i c s).1 = 0 ∨ (edStep fill l i c s).1 = 5 ∨ (edStep fill l i c s).1 = 7 := by
  unfold edStep
  split
  · exact .inl rfl
  · split
    · exact .inl rfl
    · split
      · split
        · exact .inr (.inr rfl)
        · exact .inl rfl
      · exact .inr (.inl rfl)
theorem run_code (fill : UInt8) (l : List ED) (p : List UInt8) : ∀ i s, (edRun fill l p i s).1 = 0 ∨ (edRun fill l p i s).1 = 5 ∨ (edRun fill l p i s).1 = 7 := by
  induction p with
  | nil => exact fun _ _ => .inl rfl
  | cons c p ih =>
    intro i s
    unfold edRun
    split
    · exact ih _ _
    · exact step_code fill l i c s
theorem step_text (fill : UInt8) (l : List ED) (i : Nat) (c : UInt8) (s : ES) (h : (edStep fill l i c s).1 = 0) : ∃ x, (edStep fill l i c s).2.text = s.text ++ [x] := by
  unfold edStep at h ⊢
  split
  · exact ⟨_, rfl⟩
  · split
    · exact ⟨_, rfl⟩
    · split
      · split
        · rename_i h1 h2 h3 h4
          rw [if_neg h1, if_neg h2, dif_pos h3, if_pos h4] at h
          cases h
        · exact ⟨_, rfl⟩
      · rename_i h1 h2 h3
        rw [if_neg h1, if_neg h2, dif_neg h3] at h
        cases h
theorem run_app (fill : UInt8) (l : List ED) (p q : List UInt8) : ∀ i s, edRun fill l (p ++ q) i s = if (edRun fill l p i s).1 = 0 then edRun fill l q (i + p.length) (edRun fill l p i s).2 else edRun fill l p i s := by
  induction p with
  | nil =>
    intro i s
    rw [List.nil_append, show edRun fill l [] i s = (0, s) from rfl, if_pos rfl]
    rfl
  | cons c p ih =>
    intro i s
    rw [List.cons_append, run_cons fill l c (p ++ q), run_cons fill l c p]
    by_cases h : (edStep fill l i c s).1 = 0
    · rw [if_pos h, if_pos h, ih, List.length_cons, show i + 1 + p.length = i + (p.length + 1) by omega]
    · rw [if_neg h, if_neg h, if_neg h]
theorem run_text (fill : UInt8) (l : List ED) (p : List UInt8) : ∀ i s, (edRun fill l p i s).1 = 0 → ∃ t, t.length = p.length ∧ (edRun fill l p i s).2.text = s.text ++ t := by
  induction p with
  | nil => exact fun i s _ => ⟨[], rfl, (List.append_nil _).symm⟩
  | cons c p ih =>
    intro i s h
    unfold edRun at h ⊢
    by_cases h0 : (edStep fill l i c s).1 = 0
    · rw [if_pos h0] at h ⊢
      obtain ⟨x, hx⟩ := step_text fill l i c s h0
      obtain ⟨t, h1, h2⟩ := ih _ _ h
      exact ⟨x :: t, by rw [List.length_cons, h1, List.length_cons], by rw [h2, hx, List.append_assoc]; rfl⟩
    · rw [if_neg h0] at h
      exact absurd h h0
/-- More digits change nothing where the digits were enough. -/
theorem step_more (fill : UInt8) (l m : List ED) (i : Nat) (c : UInt8) (s : ES) (h : (edStep fill l i c s).1 ≠ 5) : edStep fill (l ++ m) i c s = edStep fill l i c s := by
  unfold edStep at h ⊢
  split
  · rfl
  · split
    · rfl
    · rename_i h1 h2
      rw [if_neg h1, if_neg h2] at h
      by_cases h3 : s.next < l.length
      · have h4 : s.next < (l ++ m).length := by rw [List.length_append]; omega
        rw [dif_pos h3, dif_pos h4, List.getElem_append_left h3]
      · rw [dif_neg h3] at h
        exact absurd rfl h
theorem run_more (fill : UInt8) (l m : List ED) (p : List UInt8) : ∀ i s, (edRun fill l p i s).1 ≠ 5 → edRun fill (l ++ m) p i s = edRun fill l p i s := by
  induction p with
  | nil => exact fun _ _ _ => rfl
  | cons c p ih =>
    intro i s h
    unfold edRun at h ⊢
    by_cases h0 : (edStep fill l i c s).1 = 0
    · rw [if_pos h0] at h
      rw [step_more fill l m i c s (by omega), if_pos h0, if_pos h0]
      exact ih _ _ h
    · rw [if_neg h0] at h
      rw [step_more fill l m i c s h, if_neg h0, if_neg h0]
theorem edL_app (a b : List UInt8) : ∃ m, edL (a ++ b) = edL a ++ m := by
  induction a with
  | nil => exact ⟨edL b, rfl⟩
  | cons x a ih =>
    obtain ⟨m, hm⟩ := ih
    rw [List.cons_append]
    unfold edL
    by_cases h : 9 < x.toNat / 16
    · rw [if_pos h, if_pos h]
      exact ⟨[], (List.append_nil _).symm⟩
    · rw [if_neg h, if_neg h, hm]
      exact ⟨m, by rw [List.append_assoc]⟩

/-- A byte of the text: the fill byte, a digit at a Select or a Start, or the message byte. -/
def edGood (fill c x : UInt8) : Prop := x = fill ∨ ((c = 32 ∨ c = 33) ∧ 240 ≤ x.toNat ∧ x.toNat ≤ 249) ∨ (c ≠ 32 ∧ c ≠ 33 ∧ c ≠ 34 ∧ x = c)
def edNines (l : List ED) : Prop := ∀ d ∈ l, d.n ≤ 9
theorem edB_nines (x : UInt8) : edNines (edB x) := by
  have hx : x.toNat < 256 := x.toNat_lt
  unfold edNines edB
  intro d hd
  split at hd
  · simp at hd
    rw [hd]
    exact Nat.zero_le _
  · split at hd
    · simp at hd
      rcases hd with rfl | rfl
      · show x.toNat / 16 ≤ 9
        omega
      · show x.toNat % 16 ≤ 9
        omega
    · simp at hd
      rw [hd]
      show x.toNat / 16 ≤ 9
      omega
theorem edL_nines (s : List UInt8) : edNines (edL s) := by
  induction s with
  | nil => intro d hd; cases hd
  | cons x s ih =>
    unfold edL
    split
    · exact edB_nines x
    · intro d hd
      rcases List.mem_append.1 hd with h | h
      · exact edB_nines x d h
      · exact ih d h
theorem digit_nat (n : Nat) (h : n ≤ 9) : (UInt8.ofNat (240 + n)).toNat = 240 + n := by
  rw [UInt8.toNat_ofNat']
  exact Nat.mod_eq_of_lt (by show 240 + n < 256; omega)
/-- One step: its byte and its mark. -/
theorem step_good (fill : UInt8) (l : List ED) (hl : edNines l) (i : Nat) (c : UInt8) (s : ES) (h : (edStep fill l i c s).1 = 0) :
    ∃ x, (edStep fill l i c s).2.text = s.text ++ [x] ∧ edGood fill c x ∧ ((edStep fill l i c s).2.mark = s.mark ∨ ((edStep fill l i c s).2.mark = (i : Int) ∧ (c = 32 ∨ c = 33) ∧ 241 ≤ x.toNat ∧ x.toNat ≤ 249)) := by
  unfold edStep at h ⊢
  by_cases h1 : c = 34
  · rw [if_pos h1]
    exact ⟨fill, rfl, .inl rfl, .inl rfl⟩
  · rw [if_neg h1] at h ⊢
    by_cases h2 : c ≠ 32 ∧ c ≠ 33
    · rw [if_pos h2]
      refine ⟨_, rfl, ?_, .inl rfl⟩
      cases s.on
      · exact .inl rfl
      · exact .inr (.inr ⟨h2.1, h2.2, h1, rfl⟩)
    · rw [if_neg h2] at h ⊢
      have hc : c = 32 ∨ c = 33 := by
        by_cases e : c = 32
        · exact .inl e
        · by_cases e2 : c = 33
          · exact .inr e2
          · exact absurd ⟨e, e2⟩ h2
      by_cases h3 : s.next < l.length
      · rw [dif_pos h3] at h ⊢
        cases h4 : l[s.next].bad
        · rw [if_neg (by simp)]
          have h9 := hl _ (List.getElem_mem h3)
          have hd := digit_nat l[s.next].n h9
          generalize l[s.next] = d at *
          unfold edOne
          refine ⟨_, rfl, ?_, ?_⟩
          · by_cases hs : (s.on || decide (0 < d.n)) = true
            · rw [if_pos hs]
              exact .inr (.inl ⟨hc, by omega, by omega⟩)
            · rw [if_neg hs]
              exact .inl rfl
          · by_cases hs : (!s.on && decide (0 < d.n)) = true
            · right
              have hs' : (s.on || decide (0 < d.n)) = true := by
                simp only [Bool.and_eq_true, decide_eq_true_eq] at hs
                simp [hs.2]
              have hp : 0 < d.n := by
                simp only [Bool.and_eq_true, decide_eq_true_eq] at hs
                exact hs.2
              refine ⟨if_pos hs, hc, ?_⟩
              rw [if_pos hs']
              omega
            · left
              exact if_neg hs
        · rw [h4, if_pos rfl] at h
          cases h
      · rw [dif_neg h3] at h
        cases h
/-- A run: its text byte by byte, and its mark. -/
theorem run_good (fill : UInt8) (l : List ED) (hl : edNines l) (p : List UInt8) : ∀ i s, (edRun fill l p i s).1 = 0 →
    ∃ t, t.length = p.length ∧ (edRun fill l p i s).2.text = s.text ++ t ∧ (∀ j, j < p.length → edGood fill (p.getD j 0) (t.getD j 0)) ∧
      ((edRun fill l p i s).2.mark = s.mark ∨ ∃ j, j < p.length ∧ (edRun fill l p i s).2.mark = ((i + j : Nat) : Int) ∧ (p.getD j 0 = 32 ∨ p.getD j 0 = 33) ∧ 241 ≤ (t.getD j 0).toNat ∧ (t.getD j 0).toNat ≤ 249) := by
  induction p with
  | nil => exact fun i s _ => ⟨[], rfl, (List.append_nil _).symm, fun j hj => absurd hj (Nat.not_lt_zero _), .inl rfl⟩
  | cons c p ih =>
    intro i s h
    rw [run_cons] at h ⊢
    by_cases h0 : (edStep fill l i c s).1 = 0
    · rw [if_pos h0] at h ⊢
      obtain ⟨x, hx, hg, hm⟩ := step_good fill l hl i c s h0
      obtain ⟨t, h1, h2, h3, h4⟩ := ih _ _ h
      refine ⟨x :: t, by rw [List.length_cons, h1, List.length_cons], by rw [h2, hx, List.append_assoc]; rfl, fun j hj => ?_, ?_⟩
      · cases j with
        | zero => exact hg
        | succ j => exact h3 j (by simp at hj; omega)
      · rcases h4 with h4 | ⟨j, hj, h4, h5, h6⟩
        · rcases hm with hm | ⟨hm, hc, hx2⟩
          · exact .inl (h4.trans hm)
          · exact .inr ⟨0, by simp, by rw [h4, hm]; rfl, hc, hx2⟩
        · exact .inr ⟨j + 1, by simp; omega, by rw [h4]; congr 1; omega, h5, h6⟩
    · rw [if_neg h0] at h
      exact absurd h h0

end E
end Go.Proofs.Ytfkenoehoocobaa

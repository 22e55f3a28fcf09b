/- Numbers as lists of digits, from the last digit on: what the document's own answers of layer 4 reckon with. -/
namespace Go.Proofs.YtlpekknhaaddcaaDoor
namespace E

/-- The value of a list of digits, the last digit first. -/
def val (l : List (Fin 16)) : Nat := l.foldr (fun d n => d.val + 10 * n) 0
theorem val_nil : val [] = 0 := rfl
theorem val_cons (d : Fin 16) (l : List (Fin 16)) : val (d :: l) = d.val + 10 * val l := rfl
theorem val_app (l m : List (Fin 16)) : val (l ++ m) = val l + 10 ^ l.length * val m := by
  induction l with
  | nil => simp [val_nil]
  | cons d l ih =>
    rw [List.cons_append, val_cons, ih, val_cons, List.length_cons, Nat.pow_succ, Nat.mul_add, ← Nat.mul_assoc, Nat.mul_comm 10 (10 ^ l.length)]
    omega
theorem val_snoc (l : List (Fin 16)) (d : Fin 16) : val (l ++ [d]) = val l + 10 ^ l.length * d.val := by
  rw [val_app, val_cons, val_nil]
  simp
/-- All digits are at most 9. -/
def ok9 (l : List (Fin 16)) : Prop := ∀ d ∈ l, d.val ≤ 9
theorem ok9_nil : ok9 [] := fun _ h => by cases h
theorem ok9_cons {d : Fin 16} {l : List (Fin 16)} : ok9 (d :: l) ↔ d.val ≤ 9 ∧ ok9 l := by simp [ok9]
theorem ok9_app {l m : List (Fin 16)} : ok9 (l ++ m) ↔ ok9 l ∧ ok9 m := by
  simp only [ok9, List.mem_append]
  exact ⟨fun h => ⟨fun d hd => h d (.inl hd), fun d hd => h d (.inr hd)⟩, fun h d hd => hd.elim (h.1 d) (h.2 d)⟩
theorem ok9_take {l : List (Fin 16)} (h : ok9 l) (k : Nat) : ok9 (l.take k) := fun d hd => h d (List.mem_of_mem_take hd)
theorem ok9_getD {l : List (Fin 16)} (h : ok9 l) (i : Nat) : (l.getD i 0).val ≤ 9 := by
  rw [List.getD_eq_getElem?_getD]
  rcases hi : l[i]? with _ | d
  · exact Nat.zero_le _
  · exact h d (List.mem_of_getElem? hi)
theorem val_lt {l : List (Fin 16)} (h : ok9 l) : val l < 10 ^ l.length := by
  induction l with
  | nil => simp [val_nil]
  | cons d l ih =>
    have h2 := ok9_cons.1 h
    have h3 := ih h2.2
    rw [val_cons, List.length_cons, Nat.pow_succ]
    omega
/-- A digit of a list is a digit of its value. -/
theorem val_getD {l : List (Fin 16)} (h : ok9 l) (i : Nat) : (l.getD i 0).val = val l / 10 ^ i % 10 := by
  induction l generalizing i with
  | nil => simp [val_nil]
  | cons d l ih =>
    have h2 := ok9_cons.1 h
    cases i with
    | zero =>
      rw [val_cons, List.getD_cons_zero, Nat.pow_zero, Nat.div_one]
      omega
    | succ i =>
      rw [List.getD_cons_succ, ih h2.2, val_cons, Nat.pow_succ, Nat.mul_comm (10 ^ i) 10, ← Nat.div_div_eq_div_mul]
      congr 2
      omega
/-- The value of the first digits. -/
theorem val_take {l : List (Fin 16)} (h : ok9 l) (k : Nat) : val (l.take k) = val l % 10 ^ k := by
  have h1 := val_app (l.take k) (l.drop k)
  rw [List.take_append_drop] at h1
  have h2 := val_lt (ok9_take h k)
  rcases Nat.le_total k l.length with hk | hk
  · rw [List.length_take, Nat.min_eq_left hk] at h1 h2
    rw [h1, Nat.add_mul_mod_self_left, Nat.mod_eq_of_lt h2]
  · rw [List.take_of_length_le hk]
    have h3 := val_lt h
    exact (Nat.mod_eq_of_lt (Nat.lt_of_lt_of_le h3 (Nat.pow_le_pow_right (by omega) hk))).symm
theorem val_take_succ {l : List (Fin 16)} (h : ok9 l) (k : Nat) : val (l.take (k + 1)) = val (l.take k) + 10 ^ k * (l.getD k 0).val := by
  rw [val_take h, val_take h, val_getD h, Nat.pow_succ, Nat.mod_mul]
/-- The digits of a number, the last one first; no zeros at the end. -/
def dgs (n : Nat) : List (Fin 16) := if h : n = 0 then [] else ⟨n % 10, by omega⟩ :: dgs (n / 10)
termination_by n
decreasing_by omega
theorem dgs_zero : dgs 0 = [] := by
  unfold dgs
  simp
theorem dgs_pos {n : Nat} (h : n ≠ 0) : dgs n = ⟨n % 10, by omega⟩ :: dgs (n / 10) := by
  rw [dgs, dif_neg h]
theorem val_dgs (n : Nat) : val (dgs n) = n := by
  induction n using Nat.strongRecOn with
  | ind n ih =>
    by_cases h : n = 0
    · subst h
      rw [dgs_zero, val_nil]
    · rw [dgs_pos h, val_cons, ih (n / 10) (by omega)]
      show n % 10 + 10 * (n / 10) = n
      omega
theorem dgs_ok9 (n : Nat) : ok9 (dgs n) := by
  induction n using Nat.strongRecOn with
  | ind n ih =>
    by_cases h : n = 0
    · subst h
      rw [dgs_zero]
      exact ok9_nil
    · rw [dgs_pos h]
      exact ok9_cons.2 ⟨by show n % 10 ≤ 9; omega, ih (n / 10) (by omega)⟩
theorem dgs_nil {n : Nat} : dgs n = [] ↔ n = 0 := by
  constructor
  · intro h
    have := val_dgs n
    rw [h, val_nil] at this
    exact this.symm
  · intro h
    subst h
    exact dgs_zero
theorem dgs_len_le (n k : Nat) : (dgs n).length ≤ k ↔ n < 10 ^ k := by
  constructor
  · intro h
    have := val_lt (dgs_ok9 n)
    rw [val_dgs] at this
    exact Nat.lt_of_lt_of_le this (Nat.pow_le_pow_right (by omega) h)
  · intro h
    induction k generalizing n with
    | zero =>
      have : n = 0 := by simpa using h
      rw [this, dgs_zero]
      exact Nat.le_refl _
    | succ k ih =>
      by_cases h0 : n = 0
      · rw [h0, dgs_zero]
        exact Nat.zero_le _
      · rw [dgs_pos h0, List.length_cons]
        have := ih (n / 10) (by rw [Nat.pow_succ] at h; omega)
        omega
/-- A list with no zero at its end is the digits of its value. -/
theorem dgs_val {l : List (Fin 16)} (h : ok9 l) (hz : ∀ m d, l = m ++ [d] → d ≠ 0) : l = dgs (val l) := by
  induction l with
  | nil => rw [val_nil, dgs_zero]
  | cons d l ih =>
    have h2 := ok9_cons.1 h
    have hl : l = dgs (val l) := ih h2.2 (fun m e he => hz (d :: m) e (by rw [he]; rfl))
    have hv : val (d :: l) ≠ 0 := by
      rw [val_cons]
      intro h0
      have h3 : val l = 0 := by omega
      rw [h3, dgs_zero] at hl
      subst hl
      exact hz [] d rfl (Fin.ext (by show d.val = 0; omega))
    rw [dgs_pos hv]
    congr 1
    · apply Fin.ext
      show d.val = val (d :: l) % 10
      rw [val_cons]
      omega
    · rw [show val (d :: l) / 10 = val l by rw [val_cons]; omega]
      exact hl
theorem val_zeros (l m : List (Fin 16)) (h : ∀ d ∈ m, d = 0) : val (l ++ m) = val l := by
  have : val m = 0 := by
    induction m with
    | nil => rfl
    | cons d m ih =>
      rw [val_cons, ih (fun e he => h e (List.mem_cons_of_mem _ he)), h d (List.mem_cons_self ..)]
      rfl
  rw [val_app, this, Nat.mul_zero, Nat.add_zero]
/-- What trim leaves: the first k digits, the next ones zeros, and the last of them none. -/
theorem trim_eq {l : List (Fin 16)} (h : ok9 l) (k : Nat) (hk : k ≤ l.length) (hz : ∀ j, k ≤ j → j < l.length → l.getD j 0 = 0) (hn : k ≠ 0 → l.getD (k - 1) 0 ≠ 0) : l.take k = dgs (val l) := by
  have hv : val l = val (l.take k) := by
    have h1 := val_zeros (l.take k) (l.drop k) (fun d hd => by
      obtain ⟨j, hj, rfl⟩ := List.getElem_of_mem hd
      rw [List.length_drop] at hj
      have := hz (k + j) (by omega) (by omega)
      rw [List.getD_eq_getElem?_getD, List.getElem?_eq_getElem (by omega)] at this
      rw [List.getElem_drop]
      exact this)
    rw [List.take_append_drop] at h1
    exact h1
  rw [hv]
  refine dgs_val (ok9_take h k) fun m d he => ?_
  have hl : k = m.length + 1 := by
    have := congrArg List.length he
    rw [List.length_take, Nat.min_eq_left hk, List.length_append, List.length_singleton] at this
    exact this
  have h1 := hn (by omega)
  have h2 : (l.take k).getD (k - 1) 0 = l.getD (k - 1) 0 := by
    rw [List.getD_eq_getElem?_getD, List.getD_eq_getElem?_getD, List.getElem?_take, if_pos (by omega)]
  have h3 : (m ++ [d]).getD (k - 1) 0 = d := by
    rw [show k - 1 = m.length by omega, List.getD_eq_getElem?_getD, List.getElem?_append_right (Nat.le_refl _)]
    simp
  rw [he, h3] at h2
  rw [h2]
  exact h1
/-- One step of a sum: the digits so far, and what is carried. -/
theorem plus_step {x y z c p a b s : Nat} (h : x + y = z + p * c) (hs : s = a + b + c) : (x + p * a) + (y + p * b) = (z + p * (s % 10)) + p * 10 * (s / 10) := by
  have h1 : s = s % 10 + 10 * (s / 10) := by omega
  have h2 : p * s = p * (s % 10) + p * 10 * (s / 10) := by
    conv => lhs; rw [h1, Nat.mul_add, ← Nat.mul_assoc]
  have h3 : p * s = p * a + p * b + p * c := by rw [hs, Nat.mul_add, Nat.mul_add]
  omega
/-- One step of a difference: the digits so far, and what is borrowed. -/
theorem minus_step {x y z c p a b : Nat} (h : x + p * c = z + y) (hc : c ≤ 1) (ha : a ≤ 9) (hb : b ≤ 9) :
    (b + c ≤ a → (x + p * a) + p * 10 * 0 = (z + p * (a - b - c)) + (y + p * b)) ∧ (a < b + c → (x + p * a) + p * 10 * 1 = (z + p * (a + 10 - b - c)) + (y + p * b)) := by
  constructor
  · intro hle
    obtain ⟨d, hd⟩ : ∃ d, a = b + c + d := ⟨a - b - c, by omega⟩
    have e : a - b - c = d := by omega
    rw [e, hd, Nat.mul_add, Nat.mul_add]
    omega
  · intro hlt
    obtain ⟨d, hd⟩ : ∃ d, a + 10 = b + c + d := ⟨a + 10 - b - c, by omega⟩
    have e : a + 10 - b - c = d := by omega
    rw [e]
    have h2 : p * (a + 10) = p * b + p * c + p * d := by rw [hd, Nat.mul_add, Nat.mul_add]
    rw [Nat.mul_add] at h2
    omega
theorem val_ext (a : List (Fin 16)) : ∀ b : List (Fin 16), (∀ j, a.getD j 0 = b.getD j 0) → val a = val b := by
  induction a with
  | nil =>
    intro b h
    have := val_zeros [] b (fun d hd => by
      obtain ⟨j, hj⟩ := List.getElem?_of_mem hd
      have := h j
      rw [List.getD_eq_getElem?_getD, List.getD_eq_getElem?_getD, hj] at this
      simpa using this.symm)
    rw [List.nil_append] at this
    exact this.symm
  | cons d a ih =>
    intro b h
    cases b with
    | nil =>
      have := val_zeros [] (d :: a) (fun e he => by
        obtain ⟨j, hj⟩ := List.getElem?_of_mem he
        have := h j
        rw [List.getD_eq_getElem?_getD, hj] at this
        simpa using this)
      rw [List.nil_append] at this
      exact this
    | cons e b =>
      have h0 := h 0
      rw [List.getD_cons_zero, List.getD_cons_zero] at h0
      rw [val_cons, val_cons, h0, ih b (fun j => by
        have := h (j + 1)
        rw [List.getD_cons_succ, List.getD_cons_succ] at this
        exact this)]
/-- The first digit from the top that differs decides. -/
theorem less_at {l m : List (Fin 16)} (hl : ok9 l) (hm : ok9 m) (i : Nat) (heq : ∀ j, i < j → l.getD j 0 = m.getD j 0) (hlt : (l.getD i 0).val < (m.getD i 0).val) : val l < val m := by
  have h1 : val l / 10 ^ (i + 1) = val m / 10 ^ (i + 1) := by
    have e1 : ∀ (l : List (Fin 16)), ok9 l → val l / 10 ^ (i + 1) = val (l.drop (i + 1)) := fun l h => by
      have h2 := val_app (l.take (i + 1)) (l.drop (i + 1))
      rw [List.take_append_drop] at h2
      have h3 := val_lt (ok9_take h (i + 1))
      rcases Nat.le_total (i + 1) l.length with hk | hk
      · rw [List.length_take, Nat.min_eq_left hk] at h2 h3
        rw [h2, Nat.add_mul_div_left _ _ (Nat.pow_pos (by omega)), Nat.div_eq_of_lt h3, Nat.zero_add]
      · rw [List.drop_of_length_le hk, val_nil]
        exact Nat.div_eq_of_lt (Nat.lt_of_lt_of_le (val_lt h) (Nat.pow_le_pow_right (by omega) hk))
    rw [e1 l hl, e1 m hm]
    have e2 : ∀ (a b : List (Fin 16)), ok9 a → ok9 b → (∀ j, a.getD j 0 = b.getD j 0) → val a = val b := fun a => by
      induction a with
      | nil =>
        intro b _ hb h
        have := val_zeros [] b (fun d hd => by
          obtain ⟨j, hj⟩ := List.getElem?_of_mem hd
          have := h j
          rw [List.getD_eq_getElem?_getD, List.getD_eq_getElem?_getD, hj] at this
          simpa using this.symm)
        rw [List.nil_append] at this
        exact this.symm
      | cons d a ih =>
        intro b ha hb h
        cases b with
        | nil =>
          have := val_zeros [] (d :: a) (fun e he => by
            obtain ⟨j, hj⟩ := List.getElem?_of_mem he
            have := h j
            rw [List.getD_eq_getElem?_getD, hj] at this
            simpa using this)
          rw [List.nil_append] at this
          exact this
        | cons e b =>
          have h0 := h 0
          rw [List.getD_cons_zero, List.getD_cons_zero] at h0
          rw [val_cons, val_cons, h0, ih b (ok9_cons.1 ha).2 (ok9_cons.1 hb).2 (fun j => by
            have := h (j + 1)
            rw [List.getD_cons_succ, List.getD_cons_succ] at this
            exact this)]
    refine e2 _ _ (fun d hd => hl d (List.mem_of_mem_drop hd)) (fun d hd => hm d (List.mem_of_mem_drop hd)) fun j => ?_
    have := heq (i + 1 + j) (by omega)
    rw [List.getD_eq_getElem?_getD, List.getD_eq_getElem?_getD] at this ⊢
    rw [List.getElem?_drop, List.getElem?_drop]
    exact this
  have h2 := val_take_succ hl i
  have h3 := val_take_succ hm i
  have h4 := val_lt (ok9_take hl i)
  have h5 : val (l.take i) < 10 ^ i := Nat.lt_of_lt_of_le h4 (Nat.pow_le_pow_right (by omega) (by rw [List.length_take]; exact Nat.min_le_left _ _))
  rw [val_take hl] at h2
  rw [val_take hm] at h3
  have h6 := Nat.mod_add_div (val l) (10 ^ (i + 1))
  have h7 := Nat.mod_add_div (val m) (10 ^ (i + 1))
  have h8 : 10 ^ i * ((l.getD i 0).val + 1) ≤ 10 ^ i * (m.getD i 0).val := Nat.mul_le_mul_left _ hlt
  rw [Nat.mul_add, Nat.mul_one] at h8
  rw [h1] at h6
  omega
/-- The digit of a list beyond the digits of its value. -/
theorem dgs_getD (n i : Nat) : ((dgs n).getD i 0).val = n / 10 ^ i % 10 := by
  rw [val_getD (dgs_ok9 n), val_dgs]

end E
end Go.Proofs.YtlpekknhaaddcaaDoor

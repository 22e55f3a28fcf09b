/- The table of the instructions as plain lists. -/
import Derived.Test.YtaodghaicmjadaaDoorPkMath
namespace Go.Proofs.YtaodghaicmjadaaDoor
set_option linter.unusedVariables false
namespace E

/-- The instructions: operation code, mnemonic, format. -/
def rowsT : List (Nat × List UInt8 × Nat) := [(4, [83, 80, 77], 8), (5, [66, 65, 76, 82], 1), (6, [66, 67, 84, 82], 1), (7, [66, 67, 82], 1), (8, [83, 83, 75], 1), (9, [73, 83, 75], 1), (10, [83, 86, 67], 7), (16, [76, 80, 82], 1), (17, [76, 78, 82], 1), (18, [76, 84, 82], 1), (19, [76, 67, 82], 1), (20, [78, 82], 1), (21, [67, 76, 82], 1), (22, [79, 82], 1), (23, [88, 82], 1), (24, [76, 82], 1), (25, [67, 82], 1), (26, [65, 82], 1), (27, [83, 82], 1), (28, [77, 82], 1), (29, [68, 82], 1), (30, [65, 76, 82], 1), (31, [83, 76, 82], 1), (64, [83, 84, 72], 2), (65, [76, 65], 2), (66, [83, 84, 67], 2), (67, [73, 67], 2), (68, [69, 88], 2), (69, [66, 65, 76], 2), (70, [66, 67, 84], 2), (71, [66, 67], 2), (72, [76, 72], 2), (73, [67, 72], 2), (74, [65, 72], 2), (75, [83, 72], 2), (76, [77, 72], 2), (78, [67, 86, 68], 2), (79, [67, 86, 66], 2), (80, [83, 84], 2), (84, [78], 2), (85, [67, 76], 2), (86, [79], 2), (87, [88], 2), (88, [76], 2), (89, [67], 2), (90, [65], 2), (91, [83], 2), (92, [77], 2), (93, [68], 2), (94, [65, 76], 2), (95, [83, 76], 2), (128, [83, 83, 77], 9), (130, [76, 80, 83, 87], 9), (134, [66, 88, 72], 3), (135, [66, 88, 76, 69], 3), (136, [83, 82, 76], 3), (137, [83, 76, 76], 3), (138, [83, 82, 65], 3), (139, [83, 76, 65], 3), (140, [83, 82, 68, 76], 3), (141, [83, 76, 68, 76], 3), (142, [83, 82, 68, 65], 3), (143, [83, 76, 68, 65], 3), (144, [83, 84, 77], 3), (145, [84, 77], 4), (146, [77, 86, 73], 4), (147, [84, 83], 9), (148, [78, 73], 4), (149, [67, 76, 73], 4), (150, [79, 73], 4), (151, [88, 73], 4), (152, [76, 77], 3), (156, [83, 73, 79], 9), (157, [84, 73, 79], 9), (158, [72, 73, 79], 9), (159, [84, 67, 72], 9), (209, [77, 86, 78], 5), (210, [77, 86, 67], 5), (211, [77, 86, 90], 5), (212, [78, 67], 5), (213, [67, 76, 67], 5), (214, [79, 67], 5), (215, [88, 67], 5), (220, [84, 82], 5), (221, [84, 82, 84], 5), (222, [69, 68], 5), (223, [69, 68, 77, 75], 5), (240, [83, 82, 80], 6), (241, [77, 86, 79], 6), (242, [80, 65, 67, 75], 6), (243, [85, 78, 80, 75], 6), (248, [90, 65, 80], 6), (249, [67, 80], 6), (250, [65, 80], 6), (251, [83, 80], 6), (252, [77, 80], 6), (253, [68, 80], 6)]
def rowT (k : Nat) : Nat × List UInt8 × Nat := rowsT.getD k (0, [], 0)
def opK (k : Nat) : Nat := (rowT k).1
def nmK (k : Nat) : List UInt8 := (rowT k).2.1
def foK (k : Nat) : Nat := (rowT k).2.2
/-- The name of a format in a row of the program's table. -/
def frmL : Nat → List UInt8
  | 1 => [82, 82, 32]
  | 2 => [82, 88, 32]
  | 3 => [82, 83, 32]
  | 4 => [83, 73, 32]
  | 5 => [83, 83, 32]
  | 7 => [82, 82, 73]
  | 8 => [82, 82, 49]
  | 9 => [83, 32, 32]
  | _ => [83, 83, 50]
/-- The privileged ones. -/
def pvO (op : Nat) : Bool := op == 8 || op == 9 || op == 128 || op == 130 || (decide (156 ≤ op) && decide (op ≤ 159))
def padL (l : List UInt8) : List UInt8 := l ++ List.replicate (4 - l.length) 32
/-- A row of the program's table. -/
def rowL (k : Nat) : List UInt8 := [UInt8.ofNat (opK k), 32] ++ (padL (nmK k) ++ ([32] ++ (frmL (foK k) ++ [if pvO (opK k) then 42 else 32, 124])))
/-- The program's table. -/
def tabL : List UInt8 := (List.range 97).flatMap rowL
/-- Without the blanks at its end. -/
def trimB (l : List UInt8) : List UInt8 := (l.reverse.dropWhile (· == 32)).reverse

theorem all97 {p : Nat → Bool} (h : (List.range 97).all p = true) {k : Nat} (hk : k < 97) : p k = true := List.all_eq_true.1 h k (List.mem_range.2 hk)
theorem nm_len_all : (List.range 97).all (fun k => decide (1 ≤ (nmK k).length ∧ (nmK k).length ≤ 4)) = true := by decide +kernel
theorem nm_len (k : Nat) (h : k < 97) : 1 ≤ (nmK k).length ∧ (nmK k).length ≤ 4 := of_decide_eq_true (all97 nm_len_all h)
theorem frm_len (f : Nat) : (frmL f).length = 3 := by
  unfold frmL
  split <;> rfl
theorem nm_len' (k : Nat) : (nmK k).length ≤ 4 := by
  by_cases h : k < 97
  · exact (nm_len k h).2
  · have h1 : rowT k = (0, [], 0) := by
      unfold rowT
      rw [List.getD_eq_getElem?_getD, List.getElem?_eq_none (by show rowsT.length ≤ k; have : rowsT.length = 97 := by decide +kernel
                                                                omega)]
      rfl
    simp [nmK, h1]
theorem pad_len {l : List UInt8} (h : l.length ≤ 4) : (padL l).length = 4 := by
  simp [padL]; omega
theorem row_len (k : Nat) : (rowL k).length = 12 := by
  have h1 := pad_len (nm_len' k)
  have h2 := frm_len (foK k)
  unfold rowL
  simp only [List.length_append, List.length_cons, List.length_nil, h1, h2]
theorem tab_len : tabL.length = 1164 := by decide +kernel
theorem flat_at (f : Nat → List UInt8) (h : ∀ k, (f k).length = 12) (n k : Nat) (hk : k < n) : (((List.range n).flatMap f).drop (k * 12)).take 12 = f k := by
  induction n with
  | zero => omega
  | succ n ih =>
    have hl : ∀ m, ((List.range m).flatMap f).length = m * 12 := fun m => by
      induction m with
      | zero => rfl
      | succ m im => rw [List.range_succ, List.flatMap_append, List.length_append, im]; simp [h]; omega
    rw [List.range_succ, List.flatMap_append]
    by_cases e : k < n
    · rw [List.drop_append_of_le_length (by rw [hl]; omega), List.take_append_of_le_length (by rw [List.length_drop, hl]; omega)]
      exact ih e
    · obtain rfl : k = n := by omega
      rw [List.drop_left' (hl k)]
      simp only [List.flatMap_cons, List.flatMap_nil, List.append_nil]
      exact List.take_of_length_le (by rw [h]; omega)
theorem tab_at (k : Nat) (hk : k < 97) : (tabL.drop (k * 12)).take 12 = rowL k := flat_at rowL row_len 97 k hk
theorem op_lt_all : (List.range 97).all (fun k => decide (opK k < 256)) = true := by decide +kernel
theorem op_lt (k : Nat) (h : k < 97) : opK k < 256 := of_decide_eq_true (all97 op_lt_all h)
theorem fo_all : (List.range 97).all (fun k => decide (1 ≤ foK k ∧ foK k ≤ 9)) = true := by decide +kernel
theorem fo_in (k : Nat) (h : k < 97) : 1 ≤ foK k ∧ foK k ≤ 9 := of_decide_eq_true (all97 fo_all h)
/-- The places of a row. -/
theorem row_op (k : Nat) (h : k < 97) : (gt (rowL k) 0).toNat = opK k := by
  have h1 := op_lt k h
  show (UInt8.ofNat (opK k)).toNat = opK k
  simp
  omega
theorem row_name (k : Nat) : ((rowL k).drop 2).take 4 = padL (nmK k) := by
  have h1 := pad_len (nm_len' k)
  show List.take 4 (padL (nmK k) ++ _) = _
  rw [List.take_append_of_le_length (by omega), List.take_of_length_le (by omega)]
theorem row_form (k : Nat) : ((rowL k).drop 7).take 3 = frmL (foK k) := by
  have h1 := pad_len (nm_len' k)
  have h2 := frm_len (foK k)
  unfold rowL
  rw [List.drop_append, List.drop_eq_nil_of_le (by simp), List.nil_append, List.drop_append, List.drop_eq_nil_of_le (by simp [h1]), List.nil_append, List.drop_append, List.drop_eq_nil_of_le (by simp [h1]), List.nil_append]
  simp only [List.length_cons, List.length_nil, h1, Nat.reduceAdd, Nat.reduceSub, List.drop_zero]
  rw [List.take_append_of_le_length (by omega), List.take_of_length_le (by omega)]
theorem row_star (k : Nat) : gt (rowL k) 10 = if pvO (opK k) then 42 else 32 := by
  have h1 := pad_len (nm_len' k)
  have h2 := frm_len (foK k)
  unfold rowL gt
  rw [List.getD_eq_getElem?_getD, List.getElem?_append_right (by simp), List.getElem?_append_right (by simp [h1]), List.getElem?_append_right (by simp [h1]), List.getElem?_append_right (by simp [h1, h2])]
  simp [h1, h2]
theorem trim_pad_all : (List.range 97).all (fun k => decide (trimB (padL (nmK k)) = nmK k)) = true := by decide +kernel
theorem trim_pad (k : Nat) (h : k < 97) : trimB (padL (nmK k)) = nmK k := of_decide_eq_true (all97 trim_pad_all h)

/-! ### What is found -/

/-- The place of an operation code. -/
def ixC (op : Int) : Option Nat := (List.range 97).find? fun k => (opK k : Int) == op
/-- The place of a mnemonic. -/
def ixN (l : List UInt8) : Option Nat := (List.range 97).find? fun k => nmK k == l
def rowO : Option Nat → List UInt8
  | some k => rowL k
  | none => []
def foO : Option Nat → Nat
  | some k => foK k
  | none => 0
def nmO : Option Nat → List UInt8
  | some k => nmK k
  | none => []
def opO : Option Nat → Nat
  | some k => opK k
  | none => 0
def lenO (op : Int) : Nat := if op < 0 ∨ 255 < op then 0 else if op < 64 then 2 else if op < 192 then 4 else 6
theorem ixC_some {op : Int} {k : Nat} (h : ixC op = some k) : k < 97 ∧ (opK k : Int) = op := by
  have h1 := List.find?_some h
  have h2 := List.mem_of_find?_eq_some h
  exact ⟨List.mem_range.1 h2, by simpa using h1⟩
theorem ixC_out {op : Int} (h : op < 0 ∨ 255 < op) : ixC op = none := by
  refine List.find?_eq_none.2 fun k hk => ?_
  have h1 := op_lt k (List.mem_range.1 hk)
  simp
  omega
theorem ixN_some {l : List UInt8} {k : Nat} (h : ixN l = some k) : k < 97 ∧ nmK k = l := by
  have h1 := List.find?_some h
  have h2 := List.mem_of_find?_eq_some h
  exact ⟨List.mem_range.1 h2, by simpa using h1⟩
/-- The first row with the text at the place. -/
def mtR (p : Nat) (l : List UInt8) (k : Nat) : Bool := ((rowL k).drop p).take l.length == l
def ixR (p : Nat) (l : List UInt8) : Option Nat := (List.range 97).find? (mtR p l)
theorem find_congr {p q : Nat → Bool} (h : ∀ k, k < 97 → p k = q k) : (List.range 97).find? p = (List.range 97).find? q := by
  have : ∀ l : List Nat, (∀ k ∈ l, k < 97) → l.find? p = l.find? q := by
    intro l
    induction l with
    | nil => intro _; rfl
    | cons a l ih =>
      intro hl
      rw [List.find?_cons, List.find?_cons, h a (hl a (List.mem_cons_self ..)), ih fun k hk => hl k (List.mem_cons_of_mem _ hk)]
  exact this _ fun k hk => List.mem_range.1 hk
theorem ixR_op (op : Nat) (h : op < 256) : ixR 0 [UInt8.ofNat op] = ixC (op : Int) := by
  refine find_congr fun k hk => ?_
  have h1 := op_lt k hk
  show (List.take 1 (UInt8.ofNat (opK k) :: _) == [UInt8.ofNat op]) = ((opK k : Int) == (op : Int))
  rw [Bool.eq_iff_iff]
  simp only [List.take_succ_cons, List.take_zero, beq_iff_eq, List.cons.injEq, and_true, Int.natCast_inj]
  constructor
  · intro h2
    have h3 := congrArg UInt8.toNat h2
    simp at h3
    omega
  · intro h2; rw [h2]
/-- What is found by a name. -/
def fndN (l : List UInt8) : Option Nat := if l.length ≤ 4 then (if (ixR 2 (padL l)).isSome && nmO (ixR 2 (padL l)) == l then ixR 2 (padL l) else none) else none
theorem mt_name (l : List UInt8) (h : l.length ≤ 4) (k : Nat) : mtR 2 (padL l) k = (padL (nmK k) == padL l) := by
  unfold mtR
  rw [pad_len h, row_name]
theorem find_least {p : Nat → Bool} {k : Nat} (h : (List.range 97).find? p = some k) {j : Nat} (hj : j < k) : p j = false := by
  obtain ⟨h1, us, bs, h2, h3⟩ := List.find?_eq_some_iff_append.1 h
  have h4 : us = List.range k := by
    have h5 : us.length < 97 := by
      have := congrArg List.length h2
      simp at this
      omega
    have h6 : (List.range 97)[us.length]? = some k := by rw [h2]; simp
    rw [List.getElem?_range h5] at h6
    have h7 : us.length = k := Option.some.inj h6
    have h8 : (List.range 97).take us.length = us := by rw [h2]; simp
    rw [← h8, h7, List.take_range, Nat.min_eq_left (by omega)]
  have := h3 j (by rw [h4]; exact List.mem_range.2 hj)
  simpa using this
theorem fndN_eq (l : List UInt8) : fndN l = ixN l := by
  unfold fndN
  by_cases h : l.length ≤ 4
  · rw [if_pos h]
    cases e : ixN l with
    | none =>
      have h1 : ∀ k, k < 97 → nmK k ≠ l := fun k hk => by
        have := List.find?_eq_none.1 e k (List.mem_range.2 hk)
        simpa using this
      cases e2 : ixR 2 (padL l) with
      | none => simp
      | some k =>
        have hk := List.mem_range.1 (List.mem_of_find?_eq_some e2)
        have h2 := h1 k hk
        simp [nmO, h2]
    | some k =>
      obtain ⟨hk, hn⟩ := ixN_some e
      have h2 : mtR 2 (padL l) k = true := by rw [mt_name l h, hn]; simp
      cases e2 : ixR 2 (padL l) with
      | none =>
        have := List.find?_eq_none.1 e2 k (List.mem_range.2 hk)
        exact absurd h2 this
      | some j =>
        have hj := List.mem_range.1 (List.mem_of_find?_eq_some e2)
        have h3 : mtR 2 (padL l) j = true := List.find?_some e2
        rw [mt_name l h] at h3
        have h4 : nmK j = l := by
          have h5 : padL (nmK j) = padL l := by simpa using h3
          have h6 := trim_pad j hj
          rw [h5, ← hn, trim_pad k hk] at h6
          rw [← h6, hn]
        have h7 : j = k := by
          rcases Nat.lt_trichotomy j k with h8 | h8 | h8
          · have := find_least e h8
            rw [h4] at this
            simp at this
          · exact h8
          · have := find_least e2 h8
            rw [h2] at this
            cases this
        subst h7
        simp [nmO, h4]
  · rw [if_neg h]
    symm
    refine List.find?_eq_none.2 fun k hk => ?_
    have := (nm_len k (List.mem_range.1 hk)).2
    intro h2
    have h3 : nmK k = l := by simpa using h2
    rw [h3] at this
    omega

end E
end Go.Proofs.YtaodghaicmjadaaDoor

/- Instructions: the table and the search. -/
import Derived.Test.YtbcncohjjnmdcaaGreatDoorRows
import Derived.IntWalk
import Derived.Laws.EntriesVeiled
import Derived.Lib.Strings
import Derived.LoopIn
import Derived.LoopNIn
import Derived.OrdersHeld
import Derived.OrdersIn
import Derived.OwnWalkIn
import Derived.RangeFuncBox
import Derived.RangeFuncCalls
import Derived.RangeFuncLeaves
import Derived.RangeFuncNested
import Derived.RegionIn
import Derived.RegionTactic
import Derived.Scope
import Derived.Shelf.RegionOpen
import Derived.TacticsIn
import Derived.TacticsInMore
import Derived.WalkMore
import Derived.Test.YtbcncohjjnmdcaaGreatDoorPkA
namespace Go.Proofs.YtbcncohjjnmdcaaGreatDoor
set_option linter.unusedVariables false
namespace E

/-- The instructions: operation code, mnemonic, format. -/
def rowsT : List (Nat × List UInt8 × Nat) := [(4, [83, 80, 77], 8), (5, [66, 65, 76, 82], 1), (6, [66, 67, 84, 82], 1), (7, [66, 67, 82], 1), (8, [83, 83, 75], 1), (9, [73, 83, 75], 1), (10, [83, 86, 67], 7), (16, [76, 80, 82], 1), (17, [76, 78, 82], 1), (18, [76, 84, 82], 1), (19, [76, 67, 82], 1), (20, [78, 82], 1), (21, [67, 76, 82], 1), (22, [79, 82], 1), (23, [88, 82], 1), (24, [76, 82], 1), (25, [67, 82], 1), (26, [65, 82], 1), (27, [83, 82], 1), (28, [77, 82], 1), (29, [68, 82], 1), (30, [65, 76, 82], 1), (31, [83, 76, 82], 1), (64, [83, 84, 72], 2), (65, [76, 65], 2), (66, [83, 84, 67], 2), (67, [73, 67], 2), (68, [69, 88], 2), (69, [66, 65, 76], 2), (70, [66, 67, 84], 2), (71, [66, 67], 2), (72, [76, 72], 2), (73, [67, 72], 2), (74, [65, 72], 2), (75, [83, 72], 2), (76, [77, 72], 2), (78, [67, 86, 68], 2), (79, [67, 86, 66], 2), (80, [83, 84], 2), (84, [78], 2), (85, [67, 76], 2), (86, [79], 2), (87, [88], 2), (88, [76], 2), (89, [67], 2), (90, [65], 2), (91, [83], 2), (92, [77], 2), (93, [68], 2), (94, [65, 76], 2), (95, [83, 76], 2), (128, [83, 83, 77], 9), (130, [76, 80, 83, 87], 9), (134, [66, 88, 72], 3), (135, [66, 88, 76, 69], 3), (136, [83, 82, 76], 3), (137, [83, 76, 76], 3), (138, [83, 82, 65], 3), (139, [83, 76, 65], 3), (140, [83, 82, 68, 76], 3), (141, [83, 76, 68, 76], 3), (142, [83, 82, 68, 65], 3), (143, [83, 76, 68, 65], 3), (144, [83, 84, 77], 3), (145, [84, 77], 4), (146, [77, 86, 73], 4), (147, [84, 83], 9), (148, [78, 73], 4), (149, [67, 76, 73], 4), (150, [79, 73], 4), (151, [88, 73], 4), (152, [76, 77], 3), (156, [83, 73, 79], 9), (157, [84, 73, 79], 9), (158, [72, 73, 79], 9), (159, [84, 67, 72], 9), (209, [77, 86, 78], 5), (210, [77, 86, 67], 5), (211, [77, 86, 90], 5), (212, [78, 67], 5), (213, [67, 76, 67], 5), (214, [79, 67], 5), (215, [88, 67], 5), (220, [84, 82], 5), (221, [84, 82, 84], 5), (222, [69, 68], 5), (223, [69, 68, 77, 75], 5), (240, [83, 82, 80], 6), (241, [77, 86, 79], 6), (242, [80, 65, 67, 75], 6), (243, [85, 78, 80, 75], 6), (248, [90, 65, 80], 6), (249, [67, 80], 6), (250, [65, 80], 6), (251, [83, 80], 6), (252, [77, 80], 6), (253, [68, 80], 6)]
def rowT (k : Nat) : Nat × List UInt8 × Nat := rowsT.getD k (0, [], 0)
def opK (k : Nat) : Nat := (rowT k).1
def nmK (k : Nat) : List UInt8 := (rowT k).2.1
def foK (k : Nat) : Nat := (rowT k).2.2
/-- The name of a format in a row of the program's table. -/
def frmL : Nat → List UInt8
  | 1 => [82, 82, 32]
  | 2 => [82, 88, 32]
  | 3 => [82, 83, 32]
  | 4 => [83, 73, 32]
  | 5 => [83, 83, 32]
  | 7 => [82, 82, 73]
  | 8 => [82, 82, 49]
  | 9 => [83, 32, 32]
  | _ => [83, 83, 50]
/-- The privileged ones. -/
def pvO (op : Nat) : Bool := op == 8 || op == 9 || op == 128 || op == 130 || (decide (156 ≤ op) && decide (op ≤ 159))
def padL (l : List UInt8) : List UInt8 := l ++ List.replicate (4 - l.length) 32
/-- A row of the program's table. -/
def rowL (k : Nat) : List UInt8 := [UInt8.ofNat (opK k), 32] ++ (padL (nmK k) ++ ([32] ++ (frmL (foK k) ++ [if pvO (opK k) then 42 else 32, 124])))
/-- The program's table. -/
def tabL : List UInt8 := (List.range 97).flatMap rowL
theorem all97 {p : Nat → Bool} (h : (List.range 97).all p = true) {k : Nat} (hk : k < 97) : p k = true := List.all_eq_true.1 h k (List.mem_range.2 hk)
theorem nm_len_all : (List.range 97).all (fun k => decide (1 ≤ (nmK k).length ∧ (nmK k).length ≤ 4)) = true := by decide +kernel
theorem nm_len (k : Nat) (h : k < 97) : 1 ≤ (nmK k).length ∧ (nmK k).length ≤ 4 := of_decide_eq_true (all97 nm_len_all h)
theorem frm_len (f : Nat) : (frmL f).length = 3 := by
  unfold frmL
  split <;> rfl
theorem nm_len' (k : Nat) : (nmK k).length ≤ 4 := by
  by_cases h : k < 97
  · exact (nm_len k h).2
  · have h1 : rowT k = (0, [], 0) := by
      unfold rowT
      rw [List.getD_eq_getElem?_getD, List.getElem?_eq_none (by show rowsT.length ≤ k; have : rowsT.length = 97 := by decide +kernel
                                                                omega)]
      rfl
    simp [nmK, h1]
theorem pad_len {l : List UInt8} (h : l.length ≤ 4) : (padL l).length = 4 := by
  simp [padL]; omega
theorem row_len (k : Nat) : (rowL k).length = 12 := by
  have h1 := pad_len (nm_len' k)
  have h2 := frm_len (foK k)
  unfold rowL
  simp only [List.length_append, List.length_cons, List.length_nil, h1, h2]
theorem tab_len : tabL.length = 1164 := by decide +kernel
theorem flat_at (f : Nat → List UInt8) (h : ∀ k, (f k).length = 12) (n k : Nat) (hk : k < n) : (((List.range n).flatMap f).drop (k * 12)).take 12 = f k := by
  induction n with
  | zero => omega
  | succ n ih =>
    have hl : ∀ m, ((List.range m).flatMap f).length = m * 12 := fun m => by
      induction m with
      | zero => rfl
      | succ m im => rw [List.range_succ, List.flatMap_append, List.length_append, im]; simp [h]; omega
    rw [List.range_succ, List.flatMap_append]
    by_cases e : k < n
    · rw [List.drop_append_of_le_length (by rw [hl]; omega), List.take_append_of_le_length (by rw [List.length_drop, hl]; omega)]
      exact ih e
    · obtain rfl : k = n := by omega
      rw [List.drop_left' (hl k)]
      simp only [List.flatMap_cons, List.flatMap_nil, List.append_nil]
      exact List.take_of_length_le (by rw [h]; omega)
theorem tab_at (k : Nat) (hk : k < 97) : (tabL.drop (k * 12)).take 12 = rowL k := flat_at rowL row_len 97 k hk
theorem op_lt_all : (List.range 97).all (fun k => decide (opK k < 256)) = true := by decide +kernel
theorem op_lt (k : Nat) (h : k < 97) : opK k < 256 := of_decide_eq_true (all97 op_lt_all h)
theorem fo_all : (List.range 97).all (fun k => decide (1 ≤ foK k ∧ foK k ≤ 9)) = true := by decide +kernel
theorem fo_in (k : Nat) (h : k < 97) : 1 ≤ foK k ∧ foK k ≤ 9 := of_decide_eq_true (all97 fo_all h)
theorem row_form (k : Nat) : ((rowL k).drop 7).take 3 = frmL (foK k) := by
  have h1 := pad_len (nm_len' k)
  have h2 := frm_len (foK k)
  unfold rowL
  rw [List.drop_append, List.drop_eq_nil_of_le (by simp), List.nil_append, List.drop_append, List.drop_eq_nil_of_le (by simp [h1]), List.nil_append, List.drop_append, List.drop_eq_nil_of_le (by simp [h1]), List.nil_append]
  simp only [List.length_cons, List.length_nil, h1, Nat.reduceAdd, Nat.reduceSub, List.drop_zero]
  rw [List.take_append_of_le_length (by omega), List.take_of_length_le (by omega)]
/-! ### What is found -/

/-- The place of an operation code. -/
def ixC (op : Int) : Option Nat := (List.range 97).find? fun k => (opK k : Int) == op
def rowO : Option Nat → List UInt8
  | some k => rowL k
  | none => []
def foO : Option Nat → Nat
  | some k => foK k
  | none => 0
theorem ixC_some {op : Int} {k : Nat} (h : ixC op = some k) : k < 97 ∧ (opK k : Int) = op := by
  have h1 := List.find?_some h
  have h2 := List.mem_of_find?_eq_some h
  exact ⟨List.mem_range.1 h2, by simpa using h1⟩
theorem ixC_out {op : Int} (h : op < 0 ∨ 255 < op) : ixC op = none := by
  refine List.find?_eq_none.2 fun k hk => ?_
  have h1 := op_lt k (List.mem_range.1 hk)
  simp
  omega
/-- The first row with the text at the place. -/
def mtR (p : Nat) (l : List UInt8) (k : Nat) : Bool := ((rowL k).drop p).take l.length == l
def ixR (p : Nat) (l : List UInt8) : Option Nat := (List.range 97).find? (mtR p l)
theorem find_congr {p q : Nat → Bool} (h : ∀ k, k < 97 → p k = q k) : (List.range 97).find? p = (List.range 97).find? q := by
  have : ∀ l : List Nat, (∀ k ∈ l, k < 97) → l.find? p = l.find? q := by
    intro l
    induction l with
    | nil => intro _; rfl
    | cons a l ih =>
      intro hl
      rw [List.find?_cons, List.find?_cons, h a (hl a (List.mem_cons_self ..)), ih fun k hk => hl k (List.mem_cons_of_mem _ hk)]
  exact this _ fun k hk => List.mem_range.1 hk
theorem ixR_op (op : Nat) (h : op < 256) : ixR 0 [UInt8.ofNat op] = ixC (op : Int) := by
  refine find_congr fun k hk => ?_
  have h1 := op_lt k hk
  show (List.take 1 (UInt8.ofNat (opK k) :: _) == [UInt8.ofNat op]) = ((opK k : Int) == (op : Int))
  rw [Bool.eq_iff_iff]
  simp only [List.take_succ_cons, List.take_zero, beq_iff_eq, List.cons.injEq, and_true, Int.natCast_inj]
  constructor
  · intro h2
    have h3 := congrArg UInt8.toNat h2
    simp at h3
    omega
  · intro h2; rw [h2]
end E
end Go.Proofs.YtbcncohjjnmdcaaGreatDoor
namespace Go.Proofs.YtbcncohjjnmdcaaGreatDoor
open Go.RowKit
set_option linter.unusedVariables false
namespace E

end E
end Go.Proofs.YtbcncohjjnmdcaaGreatDoor
namespace Go.Proofs.YtbcncohjjnmdcaaGreatDoor
open Go.RowKit
set_option linter.unusedVariables false
namespace E
attribute [local go_sem] Oper.semAt_some

def rowS (k : Nat) : ByteArray := ⟨(rowL k).toArray⟩
theorem rowS_size (k : Nat) : (rowS k).size = 12 := by
  show (rowL k).toArray.size = 12
  simp [row_len]
theorem rowS_at (k j : Nat) (h : j < (rowS k).size) : (rowS k)[j] = gt (rowL k) j := by
  rw [str_at]
  rfl
theorem ext_str {s : ByteArray} {a b : Nat} {l : List UInt8} (h : (s.data.toList.drop a).take (b - a) = l) : s.extract a b = ⟨l.toArray⟩ := by
  have h3 : (s.extract a b).data = l.toArray := Array.toList_inj.1 (by rw [Lib.extract_data]; simpa using h)
  cases hq : s.extract a b with
  | mk d => rw [hq] at h3; exact congrArg ByteArray.mk h3
theorem form_row (k : Nat) (hk : k < 97) (w : World) : Calls Tryz.prog 119 #[.string (rowS k)] w fun e w' => e = .returned (.int .i64 (foK k : Int)) ∧ w = w' := by
  have h1 := rowS_size k
  have h2 : (rowS k).extract 7 10 = ⟨(frmL (foK k)).toArray⟩ := ext_str (row_form k)
  have h3 := fo_in k hk
  generalize rowS k = s at *
  generalize foK k = f at *
  obtain rfl | rfl | rfl | rfl | rfl | rfl | rfl | rfl | rfl : f = 1 ∨ f = 2 ∨ f = 3 ∨ f = 4 ∨ f = 5 ∨ f = 6 ∨ f = 7 ∨ f = 8 ∨ f = 9 := by omega
  all_goals
    simp only [frmL] at h2
    clear h3 hk
    go_enter Tryz.func119, Tryz.ntmps119
    go_wp2
    go_ret
    exact ⟨rfl, rfl⟩
end E
end Go.Proofs.YtbcncohjjnmdcaaGreatDoor
namespace Go.Proofs.YtbcncohjjnmdcaaGreatDoor
open Go.RowKit Go.Shelf
set_option linter.unusedVariables false
namespace E
attribute [local go_sem] Oper.semAt_some

theorem slice_tab (T : ByteArray) (hT : T.data.toList = tabL) (j q : Nat) (hq : q = j * 12) (hj : j < 97) (w : World) :
    (Instr.slice 9 (.string T) (some (.int .i64 (q : Int))) (some (.int .i64 ((q : Int) + 12))) none).run Tryz.prog w = .ok (.string (rowS j)) w := by
  have hsz : T.size = 1164 := by
    have := congrArg List.length hT
    rw [tab_len] at this
    exact this
  have h1 := run_slice_string (P := Tryz.prog) w 9 T .i64 .i64 (q : Int) ((q : Int) + 12) Tryz.underlying9 (by omega) (by omega) (by omega)
  have h2 : T.extract (q : Int).toNat ((q : Int) + 12).toNat = rowS j := ext_str (by
    rw [show ((q : Int)).toNat = q by omega, show ((q : Int) + 12).toNat = q + 12 by omega, show q + 12 - q = 12 by omega, hT, hq, tab_at j hj])
  rw [h2] at h1
  exact h1
set_option maxRecDepth 100000 in
theorem rows_in (n : Nat) (hn : 1 ≤ n) (l n₀ : Nat) (J Jx : List Nat → World → Prop)
    (hY : ∀ pre x W, J pre W → pre.length < 97 → YieldAt Fence.wide (n - 1) Tryz.prog l #[.string (rowS x)] W fun e W' =>
      (e = .returned (.bool true) ∧ J (pre ++ [x]) W' ∧ Below n₀ W W') ∨ (e = .returned (.bool false) ∧ Jx (pre ++ [x]) W'))
    (W : World) (h0 : J [] W) :
    CallsIn Fence.wide n Tryz.prog 220 #[.func (.yield l) #[] #[]] W fun e W' => (∃ v, e = .returned v) ∧
      ((∃ ys, ys = List.range 97 ∧ J ys W') ∨ (∃ pre, pre <+: List.range 97 ∧ Jx pre W')) := by
  have hro : Fence.wide.round = none := rfl
  have HY := Lib.hid hY
  have HJ0 := Lib.hid h0
  clear hY h0
  refine callsIn_of_wp Tryz.func220 rfl trivial ?_ hro
  simp only [Tryz.ntmps220, List.size_toArray, List.length_cons, List.length_nil, Nat.reduceAdd, Nat.reduceSub, Array.replicate_succ, Array.replicate_zero, List.push_toArray, List.append_toArray, List.nil_append, List.cons_append]
  gi_wp2
  gi_loopw [2] (fun i wr => ∃ j : Nat, j ≤ 97 ∧ i = .int .i64 ((j * 12 : Nat) : Int) ∧ J (List.range j) wr) (fun i _ => 1164 - (intOf i).toNat)
  case atStart =>
    exact ⟨0, Nat.zero_le _, rfl, HJ0.out⟩
  case round =>
    obtain ⟨j, hj, rfl, hJ⟩ := hrel
    have HJ := Lib.hid hJ
    clear hJ
    obtain ⟨q, hq⟩ : ∃ q, q = j * 12 := ⟨_, rfl⟩
    rw [← hq]
    have HQ := Lib.hid hq
    by_cases hlt : j < 97
    · have hq1 : (q : Int) < 1164 := by omega
      clear hq
      gi_wp2_with fail
      rw [slice_tab _ (by kernel_rfl) j q HQ.out hlt]
      obtain ⟨fn2, tmps2, assign2, body2, hy, hR⟩ := HY.out (List.range j) j wr HJ.out (by rw [List.length_range]; exact hlt)
      gi_wp2_with fail
      refine hR.mono ?_
      rintro e W3 hor
      rcases hor with ⟨rfl, hJ3, hk3⟩ | ⟨rfl, hJx3⟩
      · rw [← List.range_succ] at hJ3
        have HJ3 := Lib.hid hJ3
        clear hJ3 hk3 hR hy
        gi_wp2
        go_roundw
        case rel => exact ⟨j + 1, hlt, by rw [HQ.out]; push_cast; congr 1; omega, HJ3.out⟩
        case measure => simp [intOf]; omega
      · rw [← List.range_succ] at hJx3
        have HJ3 := Lib.hid hJx3
        clear hJx3 hR hy
        gi_wp2
        refine bodyPost_ret (results_none rfl _ _ _) rfl ?_
        exact ⟨⟨_, rfl⟩, .inr ⟨List.range (j + 1), by
          have := List.take_prefix (j + 1) (List.range 97)
          rwa [List.take_range, Nat.min_eq_left (by omega)] at this, HJ3.out⟩⟩
    · obtain rfl : j = 97 := by omega
      subst hq
      clear HQ
      gi_wp2
      go_end0
      first | exact ⟨⟨_, rfl⟩, .inl ⟨_, rfl, HJ.out⟩⟩ | exact ⟨⟨_, rfl⟩, .inl HJ.out⟩

end E
end Go.Proofs.YtbcncohjjnmdcaaGreatDoor
namespace Go.Proofs.YtbcncohjjnmdcaaGreatDoor
open Go.RowKit
set_option linter.unusedVariables false
namespace E

/-- It ends in the normal way. -/
def OnlyN (Q : Exit → Act → World → Prop) : Exit → Act → World → Prop
  | .normal, a, w => Q .normal a w
  | _, _, _ => False
theorem onlyN_normal {Q : Exit → Act → World → Prop} {a : Act} {w : World} (h : Q .normal a w) : OnlyN Q .normal a w := h
theorem onlyN_lets (Q : Exit → Act → World → Prop) : ¬ LetsOut (OnlyN Q) := fun ⟨_, _, h⟩ => h
def notDefer (o : Oper) : Bool := match o.op with
  | .defer _ => false
  | _ => true
theorem upon_round {P : Program} {l n : Nat} {o : Oper} {a : Act} {next : Act → World → Prop} {Q : Exit → Act → World → Prop} {r : Result Next} (hQ : ¬ LetsOut Q) (h : o.upon P a next Q r) :
    o.uponIn (Fence.wide.inRound l) n P a next Q r := by
  cases r with
  | ok x w' =>
    cases x <;> simp only [Oper.upon, Oper.uponIn] at h ⊢
    case value => exact h
    case skip => exact h
    case defer => exact h
    case enter f args =>
      refine ⟨(fun e => by cases e), ((callsIn_wide.2 h).inRound l).mono fun e w'' he => ?_⟩
      cases e <;> exact he
    case row row args =>
      exact ⟨(fun e => by cases e), fun c cs _ => let ⟨v, w', r, s⟩ := h c cs; ⟨v, w', r, stepsIn_wide.2 s⟩⟩
  | halt x w' =>
    cases x <;> simp only [Oper.upon, Oper.uponIn] at h ⊢
    case panic v => exact h
theorem wpOp_round {P : Program} {l n : Nat} {ops : Array Oper} {Q : Exit → Act → World → Prop} (hQ : ¬ LetsOut Q) (hd : ∀ (i : Nat) (o : Oper), ops[i]? = some o → notDefer o = true) {i : Nat} {K : Act → World → Prop} {a : Act} {w : World} (h : wpOp P ops Q i K a w) :
    wpOpIn (Fence.wide.inRound l) n P ops Q i K a w := by
  unfold wpOp at h
  unfold wpOpIn
  split
  · rename_i ho
    rw [ho] at h
    exact h
  · rename_i o ho
    rw [ho] at h
    simp only at h
    split
    · rename_i hw
      rw [if_pos hw] at h
      have h' : o.wp P a w K Q := h.resolve_right fun hx => hQ hx.2
      refine ⟨fun _ _ => trivial, ?_⟩
      have hs : Oper.semAt (some l) a.eval o = execOp a.eval o := Oper.semAt_some l a.eval o fun c hc => by
        have := hd i o ho
        unfold notDefer at this
        rw [hc] at this
        cases this
      rw [Fence.inRound_round, hs]
      exact upon_round hQ h'
    · rename_i hw
      rw [if_neg hw] at h
      exact ⟨fun _ _ => trivial, h⟩
theorem wpAny_round {P : Program} {l n : Nat} {ops : Array Oper} {Q : Exit → Act → World → Prop} {md : Region.Mode} (hQ : ¬ LetsOut Q) (hd : ∀ (i : Nat) (o : Oper), ops[i]? = some o → notDefer o = true) :
    ∀ (fuel : Nat) (listed : Array Bool) (a : Act) (w : World), wpAny P md ops Q fuel listed a w → wpAnyIn (Fence.wide.inRound l) n P md ops Q fuel listed a w
  | 0, _, _, _, h => h
  | fuel + 1, _, _, _, h => ⟨h.1, fun i hi => wpOpIn_mono (fun a' w' h' => wpAny_round hQ hd fuel _ a' w' h') (wpOp_round hQ hd (h.2 i hi))⟩
theorem round_of_held {P : Program} {l n id : Nat} {ops : Array Oper} {Q : Exit → Act → World → Prop} (S : World → Prop) {a : Act} {w : World} (hm : P.follows .mixedOrders = true) (hd : ops.all notDefer = true)
    (h : wpAnyH P .any ops (OnlyN Q) S ops.size (Array.replicate ops.size false) a w.drew) : (Code.region id ops true).wpIn (Fence.wide.inRound l) n P Q a w := by
  refine Code.wpIn_mono (Q := OnlyN Q) (fun e a w hq => by cases e <;> first | exact hq | exact hq.elim) ?_
  refine wpIn_region_any hm (wpAny_round (onlyN_lets Q) (fun i o ho => ?_) _ _ _ _ (wpAny_of_held _ _ _ _ h))
  obtain ⟨hi, he⟩ := Array.getElem?_eq_some_iff.1 ho
  rw [← he]
  exact Array.all_eq_true.1 hd i hi
/-- A scope that holds a label, through which the run goes without a jump. -/
theorem scope_in {n : Nat} {P : Program} {c : Code} {Q : Exit → Act → World → Prop} {a : Act} {w : World} (h : c.wpIn Fence.wide n P (Exit.noGoto Q) a w) : (Code.scope c).wpIn Fence.wide n P Q a w :=
  wpIn_wide.2 (wp_scope_straight ((wpIn_wide (n := n)).1 h))

end E
end Go.Proofs.YtbcncohjjnmdcaaGreatDoor
namespace Go.Proofs.YtbcncohjjnmdcaaGreatDoor
open Go.RowKit Go.Shelf
set_option linter.unusedVariables false
namespace E
attribute [local go_sem] Oper.semAt_some

def encR (k : Nat) : Array Value := #[.string (rowS k)]
theorem rows_stops (n : Nat) (hn : 1 ≤ n) (n₀ : Nat) (w : World) : SeqStopsK Fence.wide n Tryz.prog 220 #[] encR (Below n₀) (fun ys => ys = List.range 97) (fun pre => pre <+: List.range 97) 97 w :=
  fun l J Jx W _ _ _ hY h0 => rows_in n hn l n₀ J Jx hY W h0
theorem rowsV_any (w : World) : Calls Tryz.prog 202 #[] w fun e w' => e = .returned (.func (.func 220) #[] #[]) ∧ w = w' := by
  go_enter Tryz.func202, Tryz.ntmps202
  go_wp2
  go_ret
  exact ⟨rfl, rfl⟩
theorem grown_of8 {w w' : World} (h : Below w.heap.size w w') (row : Option Nat) : w.grownBy w' row := ⟨h.os, h.tape, h.output, h.size, fun k hk _ => h.block k hk⟩
theorem grown_drewN (w : World) (m : Nat) (row : Option Nat) : w.grownBy (w.drewN m) row := grown_of8 (belowDraw w m) row
theorem keeps_drewN (W : World) (m : Nat) : KeepsOthers W (W.drewN m) := KeepsOthers.of_grownBy (grown_drewN W m none) (fun j o e => by cases (e : none = some j))
theorem not_row8 {W : World} {B : Nat} {o : Obj} {row : Option Nat} (hB : W.heap[B]? = some o) (hc : o.isCells = true) (hrow : ∀ r, row = some r → ∃ o : Obj, W.heap[r]? = some o ∧ o.isCells = false) : some B ≠ row := fun e => by
  obtain ⟨o', ho, hn⟩ := hrow B e.symm
  rw [hB] at ho
  cases ho
  rw [hc] at hn
  cases hn
theorem Boxed.ab8 {W W' : World} {B : Nat} {t : TypeId} {v : Value} {row : Option Nat} (h : Boxed W B t v) (hg : W.grownBy W' row) (hrow : ∀ r, row = some r → ∃ o : Obj, W.heap[r]? = some o ∧ o.isCells = false) : Boxed W' B t v :=
  h.kept hg (not_row8 h rfl hrow)
theorem boxed_new28 (w : World) (o : Obj) (t : TypeId) (v : Value) : Boxed ((w.alloc o).alloc (.cells #[v] t)) (w.heap.size + 1) t v := by
  have := Boxed.new (w.alloc o) t v
  rwa [World.size_alloc] at this
theorem boxed_new38 (w : World) (o o2 : Obj) (t : TypeId) (v : Value) : Boxed (((w.alloc o).alloc o2).alloc (.cells #[v] t)) (w.heap.size + 1 + 1) t v := by
  have := Boxed.new ((w.alloc o).alloc o2) t v
  rwa [World.size_alloc, World.size_alloc] at this
theorem boxed_new48 (w : World) (o o2 o3 : Obj) (t : TypeId) (v : Value) : Boxed ((((w.alloc o).alloc o2).alloc o3).alloc (.cells #[v] t)) (w.heap.size + 1 + 1 + 1) t v := by
  have := Boxed.new (((w.alloc o).alloc o2).alloc o3) t v
  rwa [World.size_alloc, World.size_alloc, World.size_alloc] at this
theorem run_loadVar_one8 {P : Program} {w : World} {a : Addr} {ty : TypeId} {d : TypeDesc} {v : Value} (hc : w.cell? a = some v) (hu : P.underlying ty = some d) (hd : (match d with | .struct _ | .array _ _ => true | _ => false) = false) :
    (loadVar ty a).run P w = .ok v w := by
  have hagg : (isAgg ty).run P w = .ok false w := by
    unfold isAgg
    rw [Sem.run_bind, run_underlying hu w]
    cases d <;> simp_all
  simp [loadVar, Sem.run_bind, hagg, Result.andThen, go_sem, hc]
theorem results_two {P : Program} {fn : Func} {p q : Tmp} {t u : TypeId} {w : World} {a b : Addr} {v v' : Value} {tmps : Array Value} (h : fn.results = #[.cell p t, .cell q u])
    (hp : tmps.getD p undef = .pointer (some a)) (hq : tmps.getD q undef = .pointer (some b)) (la : (loadVar t a).run P w = .ok v w) (lb : (loadVar u b).run P w = .ok v' w) :
    (results fn tmps).run P w = .ok (.tuple #[v, v']) w := by
  have hp' : tmps[p]?.getD undef = .pointer (some a) := by simpa using hp
  have hq' : tmps[q]?.getD undef = .pointer (some b) := by simpa using hq
  simp only [results, h, Sem.run_bind] at *
  simp [hp', hq', asAddr, Sem.run_bind, Result.andThen, la, lb]

/-- Between two rounds. -/
def SI (B p : Nat) (s : ByteArray) (l : List UInt8) (pre : List Nat) (W : World) : Prop :=
  Boxed W B 3 (.int .i64 (p : Int)) ∧ Boxed W (B + 1) 9 (.string s) ∧ Boxed W (B + 1 + 1) 128 (.string ⟨#[]⟩) ∧ Boxed W (B + 1 + 1 + 1) 4 (.bool false) ∧ pre.all (fun k => !mtR p l k) = true
theorem SI.own (B p : Nat) (s : ByteArray) (l : List UInt8) : Go.Own (SI B p s l) := fun _ X Y row ⟨h1, h2, h3, h4, h5⟩ hg hr => ⟨Boxed.ab8 h1 hg hr, Boxed.ab8 h2 hg hr, Boxed.ab8 h3 hg hr, Boxed.ab8 h4 hg hr, h5⟩
theorem SI.drewN {B p : Nat} {s : ByteArray} {l : List UInt8} {pre : List Nat} {W : World} (h : SI B p s l pre W) (m : Nat) : SI B p s l pre (W.drewN m) :=
  SI.own B p s l pre W _ none h (grown_drewN W m _) (fun r e => by cases e)
/-- A round has left: the row is found. -/
def SX (B p : Nat) (l : List UInt8) (c : Code) (pre : List Nat) (W : World) : Prop :=
  c = .ret ∧ ∃ q x, pre = q ++ [x] ∧ q.all (fun k => !mtR p l k) = true ∧ mtR p l x = true ∧ Boxed W (B + 1 + 1) 128 (.string (rowS x)) ∧ Boxed W (B + 1 + 1 + 1) 4 (.bool true)
theorem SX.own (B p : Nat) (l : List UInt8) (c : Code) : Go.Own (SX B p l c) := fun _ X Y row ⟨h1, q, x, h2, h3, h4, h5, h6⟩ hg hr => ⟨h1, q, x, h2, h3, h4, Boxed.ab8 h5 hg hr, Boxed.ab8 h6 hg hr⟩
theorem find_stop {mt : Nat → Bool} {q : List Nat} {x : Nat} (hp : q ++ [x] <+: List.range 97) (h : q.all (fun k => !mt k) = true) (hx : mt x = true) : (List.range 97).find? mt = some x := by
  obtain ⟨t, ht⟩ := hp
  rw [← ht, List.append_assoc, List.find?_append]
  have h1 : q.find? mt = none := List.find?_eq_none.2 fun k hk => by
    have := List.all_eq_true.1 h k hk
    simpa using this
  rw [h1]
  simp [hx]
theorem find_all {mt : Nat → Bool} (h : (List.range 97).all (fun k => !mt k) = true) : (List.range 97).find? mt = none :=
  List.find?_eq_none.2 fun k hk => by
    have := List.all_eq_true.1 h k hk
    simpa using this
theorem mt_at {p : Nat} {l : List UInt8} {k : Nat} (hp : p + l.length ≤ 12) : mtR p l k = true ↔ ∀ j, j < l.length → gt (rowL k) (p + j) = gt l j := by
  unfold mtR
  rw [beq_iff_eq]
  have hr := row_len k
  constructor
  · intro h j hj
    have e : gt l j = gt (List.take l.length (List.drop p (rowL k))) j := by rw [h]
    rw [e]
    unfold gt
    simp only [List.getD_eq_getElem?_getD]
    rw [List.getElem?_take, if_pos hj, List.getElem?_drop]
  · intro h
    refine List.ext_getElem (by rw [List.length_take, List.length_drop]; omega) fun j h1 h2 => ?_
    have h3 := h j h2
    rw [gt_lt h2, gt_lt (by omega)] at h3
    rw [← h3, List.getElem_take, List.getElem_drop]
/-- What the search answers. -/
def srV (o : Option Nat) : Value := .tuple #[.string ⟨(rowO o).toArray⟩, .bool o.isSome]
set_option maxRecDepth 100000 in
set_option maxHeartbeats 1000000 in
theorem search_any (p : Nat) (s : ByteArray) (l : List UInt8) (w : World) (hs : s.data.toList = l) (hp : p + l.length ≤ 12) :
    Calls Tryz.prog 174 #[.int .i64 (p : Int), .string s] w (New w (srV (ixR p l))) := by
  refine (callsIn_wide (n := 5)).1 ?_
  have hro : Fence.wide.round = none := rfl
  have hsz : s.size = l.length := by rw [← hs]; rfl
  have hat : ∀ k (h : k < s.size), s[k] = gt l k := fun k h => by rw [← hs]; exact str_at s k h
  have HAT := Lib.hid hat
  have HSZ := Lib.hid hsz
  have hp12 : p + s.size ≤ 12 := by omega
  have HP := Lib.hid hp
  have hgf := Lib.hid (enters_of Tryz.func220 (by kernel_rfl) rfl)
  clear hs hp hat hsz
  have bP := (((Boxed.new w 3 (.int .i64 (p : Int))).alloc (.cells #[.string s] 9)).alloc (.cells #[.string ⟨#[]⟩] 128)).alloc (.cells #[.bool false] 4)
  have bT := ((boxed_new28 w (.cells #[.int .i64 (p : Int)] 3) 9 (.string s)).alloc (.cells #[.string ⟨#[]⟩] 128)).alloc (.cells #[.bool false] 4)
  have bR := (boxed_new38 w (.cells #[.int .i64 (p : Int)] 3) (.cells #[.string s] 9) 128 (.string ⟨#[]⟩)).alloc (.cells #[.bool false] 4)
  have bO := boxed_new48 w (.cells #[.int .i64 (p : Int)] 3) (.cells #[.string s] 9) (.cells #[.string ⟨#[]⟩] 128) 4 (.bool false)
  obtain ⟨w4, hw4⟩ : ∃ w4, w4 = (((w.alloc (.cells #[.int .i64 (p : Int)] 3)).alloc (.cells #[.string s] 9)).alloc (.cells #[.string ⟨#[]⟩] 128)).alloc (.cells #[.bool false] 4) := ⟨_, rfl⟩
  have hB0 : Below w.heap.size w w4 := by
    rw [hw4]
    exact (((below_new w _).alloc (by simp) _).alloc (by simp; omega) _).alloc (by simp; omega) _
  rw [← hw4] at bP bT bR bO
  have HB0 := Lib.hid hB0
  have HW4 := Lib.hid hw4
  have HI0 := Lib.hid (show SI w.heap.size p s l [] w4 from ⟨bP, bT, bR, bO, rfl⟩)
  have hszW : w.heap.size ≤ w4.heap.size := hB0.size
  clear bP bT bR bO hB0 hw4
  refine callsIn_of_wp_marks Tryz.func174 rfl trivial ?_ hro
  simp only [Tryz.ntmps174, List.size_toArray, List.length_cons, List.length_nil, Nat.reduceAdd, Nat.reduceSub, Array.replicate_succ, Array.replicate_zero, List.push_toArray, List.append_toArray, List.nil_append, List.cons_append]
  gi_wp2_with fail
  rw [← HW4.out]
  refine scope_in ?_
  refine wpIn_seq (wpIn_label ?_)
  gi_wp2_with fail
  refine ⟨trivial, (callsIn_wide.2 (rowsV_any _)).mono ?_⟩
  rintro e w' ⟨rfl, rfl⟩
  gi_wp2_with fail
  refine wpIn_rangeFunc_ownG hro (by omega) (gf := 220) (lb := #[]) rfl trivial hgf.out
    (rows_stops (5 - 1) (by omega) w.heap.size w4) belowK_t (belowK_b hszW) (Below.refl _ w4) (fun _ => rfl)
    (fun pre W => SI w.heap.size p s l pre W ∧ Below w.heap.size w W)
    (fun cd pre W => SX w.heap.size p l cd pre W ∧ Below w.heap.size w W)
    (OwnFrom.and (Own.from (SI.own _ _ _ _) _) (ownFrom_below (Nat.le_refl _) hszW))
    (fun cd => OwnFrom.and (Own.from (SX.own _ _ _ cd) _) (ownFrom_below (Nat.le_refl _) hszW))
    ⟨HI0.out, HB0.out⟩
    (fun k => { tmps := #[.int .i64 (p : Int), .string s, .pointer (some ⟨w.heap.size, 0, none⟩), .pointer (some ⟨w.heap.size + 1, 0, none⟩), .pointer (some ⟨w.heap.size + 1 + 1, 0, none⟩), .pointer (some ⟨w.heap.size + 1 + 1 + 1, 0, none⟩), .string (rowS k), undef, .func (.func 220) #[] #[], .string (rowS k), undef, undef, undef, undef, undef, undef, undef, undef, undef, undef, undef, undef, undef, undef, undef, undef], defers := [] }) ?assign ?body ?done ?stop
  case assign =>
    intro l b W K hK
    unfold encR
    gi_wp2
    exact hK
  case body =>
    rintro lp pre x W ⟨hsi, hB⟩ hlt
    have c0 := hsi.1.cell
    have c1 := hsi.2.1.cell
    have HSI := Lib.hid hsi
    have HB := Lib.hid hB
    clear hsi hB
    have hxs := rowS_size x
    gi_wp2
    gi_loopw [12] (fun i wr => ∃ j : Nat, j ≤ s.size ∧ i = .int .i64 (j : Int) ∧ (∃ m, wr = W.drewN m) ∧ (∀ t, t < j → gt (rowL x) (p + t) = gt l t)) (fun i _ => s.size - (intOf i).toNat)
    case atStart => exact ⟨0, Nat.zero_le _, rfl, ⟨0, rfl⟩, fun t ht => by omega⟩
    case round =>
      obtain ⟨j, hj, rfl, ⟨m, rfl⟩, hall⟩ := hrel
      have HA := Lib.hid hall
      clear hall
      by_cases hjl : j < s.size
      · have hjI : (j : Int) < (s.size : Int) := by omega
        have h12 : (p : Int) + (j : Int) < 12 := by omega
        have e1 : IntKind.i64.wrap ((p : Int) + (j : Int)) = (p : Int) + (j : Int) := IntWalk.i64_in _ (by omega)
        have e2 : ((p : Int) + (j : Int)).toNat = p + j := by omega
        have e0 : 0 ≤ (p : Int) + (j : Int) := by omega
        have r1 : ∀ h : p + j < (rowS x).size, (rowS x)[p + j] = gt (rowL x) (p + j) := fun h => rowS_at x (p + j) h
        have r2 : ∀ h : j < s.size, s[j] = gt l j := fun h => HAT.out j h
        have hS : (W.drewN m).drew.cell? ⟨w.heap.size, 0, none⟩ = some (.int .i64 (p : Int)) ∧ (W.drewN m).drew.cell? ⟨w.heap.size + 1, 0, none⟩ = some (.string s) := ⟨by simpa using c0, by simpa using c1⟩
        gi_wp2_with fail
        refine round_of_held (fun Y => Y.cell? ⟨w.heap.size, 0, none⟩ = some (.int .i64 (p : Int)) ∧ Y.cell? ⟨w.heap.size + 1, 0, none⟩ = some (.string s)) (by kernel_rfl) (by kernel_rfl) ?_
        show wpAnyH _ _ _ _ _ 9 #[false, false, false, false, false, false, false, false, false] _ _
        refine wpAnyH_take (i := 0) (oi := ⟨some 15, _, _, _, _, _⟩) (v := .string (rowS x)) rfl (by kernel_rfl) (by kernel_rfl) (by kernel_rfl) (fun _ _ _ h => h) (Or.inl ⟨by rfl, fun W hSw => by (try dsimp only at hSw); go_simp⟩) hS ?_
        try simp only [Act.put, List.setIfInBounds_toArray, List.set_cons_zero, List.set_cons_succ]
        refine wpAnyH_take (i := 1) (oi := ⟨some 16, _, _, _, _, _⟩) (v := .int .i64 (p : Int)) rfl (by kernel_rfl) (by kernel_rfl) (by kernel_rfl) (fun _ _ _ h => h) (Or.inl ⟨by rfl, fun W hSw => by (try dsimp only at hSw); go_simp⟩) hS ?_
        try simp only [Act.put, List.setIfInBounds_toArray, List.set_cons_zero, List.set_cons_succ]
        refine wpAnyH_take (i := 2) (oi := ⟨some 17, _, _, _, _, _⟩) (v := .int .i64 (j : Int)) rfl (by kernel_rfl) (by kernel_rfl) (by kernel_rfl) (fun _ _ _ h => h) (Or.inl ⟨by rfl, fun W hSw => by (try dsimp only at hSw); go_simp⟩) hS ?_
        try simp only [Act.put, List.setIfInBounds_toArray, List.set_cons_zero, List.set_cons_succ]
        refine wpAnyH_take (i := 3) (oi := ⟨some 18, _, _, _, _, _⟩) (v := .int .i64 (IntKind.i64.wrap ((p : Int) + (j : Int)))) rfl (by kernel_rfl) (by kernel_rfl) (by kernel_rfl) (fun _ _ _ h => h) (Or.inl ⟨by rfl, fun W hSw => by (try dsimp only at hSw); go_simp⟩) hS ?_
        try simp only [Act.put, List.setIfInBounds_toArray, List.set_cons_zero, List.set_cons_succ]
        refine wpAnyH_take (i := 4) (oi := ⟨some 19, _, _, _, _, _⟩) (v := .int .u8 ((gt (rowL x) (p + j)).toNat : Int)) rfl (by kernel_rfl) (by kernel_rfl) (by kernel_rfl) (fun _ _ _ h => h) (Or.inl ⟨by rfl, fun W hSw => by (try dsimp only at hSw); go_simp⟩) hS ?_
        try simp only [Act.put, List.setIfInBounds_toArray, List.set_cons_zero, List.set_cons_succ]
        refine wpAnyH_take (i := 5) (oi := ⟨some 20, _, _, _, _, _⟩) (v := .string s) rfl (by kernel_rfl) (by kernel_rfl) (by kernel_rfl) (fun _ _ _ h => h) (Or.inl ⟨by rfl, fun W hSw => by (try dsimp only at hSw); go_simp⟩) hS ?_
        try simp only [Act.put, List.setIfInBounds_toArray, List.set_cons_zero, List.set_cons_succ]
        refine wpAnyH_take (i := 6) (oi := ⟨some 21, _, _, _, _, _⟩) (v := .int .i64 (j : Int)) rfl (by kernel_rfl) (by kernel_rfl) (by kernel_rfl) (fun _ _ _ h => h) (Or.inl ⟨by rfl, fun W hSw => by (try dsimp only at hSw); go_simp⟩) hS ?_
        try simp only [Act.put, List.setIfInBounds_toArray, List.set_cons_zero, List.set_cons_succ]
        refine wpAnyH_take (i := 7) (oi := ⟨some 22, _, _, _, _, _⟩) (v := .int .u8 ((gt l j).toNat : Int)) rfl (by kernel_rfl) (by kernel_rfl) (by kernel_rfl) (fun _ _ _ h => h) (Or.inl ⟨by rfl, fun W hSw => by (try dsimp only at hSw); go_simp⟩) hS ?_
        try simp only [Act.put, List.setIfInBounds_toArray, List.set_cons_zero, List.set_cons_succ]
        refine wpAnyH_take (i := 8) (oi := ⟨some 23, _, _, _, _, _⟩) (v := .bool ((((gt (rowL x) (p + j)).toNat : Int)) != ((gt l j).toNat : Int))) rfl (by kernel_rfl) (by kernel_rfl) (by kernel_rfl) (fun _ _ _ h => h) (Or.inl ⟨by rfl, fun W hSw => by (try dsimp only at hSw); go_simp⟩) hS ?_
        try simp only [Act.put, List.setIfInBounds_toArray, List.set_cons_zero, List.set_cons_succ]
        refine wpAnyH_done (by kernel_rfl) ?_ _
        refine onlyN_normal ?_
        have hS2 := hS
        clear hS r1 r2 e0 e1 e2
        by_cases hb : gt (rowL x) (p + j) = gt l j
        · have hbI : ((((gt (rowL x) (p + j)).toNat : Int)) != ((gt l j).toNat : Int)) = false := by rw [hb]; simp
          have HB1 := Lib.hid hb
          clear hb hS2
          gi_wp2
          go_roundw
          case rel => exact ⟨j + 1, by omega, by go_num, ⟨m + 1, rfl⟩, fun t ht => by
            rcases Nat.lt_succ_iff_lt_or_eq.1 ht with h | h
            · exact HA.out t h
            · subst h; exact HB1.out⟩
          case measure => simp [intOf]; omega
        · have hbI : ((((gt (rowL x) (p + j)).toNat : Int)) != ((gt l j).toNat : Int)) = true := by
            rw [bne_iff_ne]
            intro h
            exact hb (UInt8.toNat_inj.1 (by omega))
          have HB1 := Lib.hid hb
          clear hb hS2
          have hend : SI w.heap.size p s l (pre ++ [x]) (W.drewN (m + 1)) := by
            have h := SI.drewN HSI.out (m + 1)
            refine ⟨h.1, h.2.1, h.2.2.1, h.2.2.2.1, ?_⟩
            rw [List.all_append, HSI.out.2.2.2.2]
            have hno : mtR p l x = false := by
              cases e : mtR p l x with
              | false => rfl
              | true => exact absurd ((mt_at HP.out).1 e j (by rw [← HSZ.out]; exact hjl)) HB1.out
            simp [hno]
          have HE := Lib.hid hend
          clear hend
          gi_wp2
          exact ⟨(keeps_drewN W (m + 1)).from _, (belowDraw W (m + 1)).mono HB.out.size, HE.out, bel0 HB.out (belowDraw W (m + 1))⟩
      · obtain rfl : j = s.size := by omega
        have bb := SI.drewN HSI.out m
        have bR := bb.2.2.1
        have bO := bb.2.2.2.1
        have bO2 := bO.other (B' := w.heap.size + 1 + 1) (by omega) (.string (rowS x))
        have cR := bR.cell
        have fR := bR.frozen
        have cO := bO2.cell
        have fO := bO2.frozen
        have hBm := bel0 HB.out (belowDraw W m)
        have HBM := Lib.hid hBm
        have HBR := Lib.hid bR
        have HBO := Lib.hid bO2
        clear bb bR bO bO2 hBm
        gi_wp2
        refine ⟨(((keeps_drewN W m).trans (KeepsOthers.setCell _ _ _)).trans (KeepsOthers.setCell _ _ _)).from _, ⟨rfl, pre, x, rfl, HSI.out.2.2.2.2, (mt_at HP.out).2 (fun t ht => HA.out t (by rw [HSZ.out]; exact ht)), (HBR.out.set _).other (by omega) _, HBO.out.set _⟩, (HBM.out.setCell (p := ⟨w.heap.size + 1 + 1, 0, none⟩) (by simp; omega) _).setCell (p := ⟨w.heap.size + 1 + 1 + 1, 0, none⟩) (by simp; omega) _⟩
  case done =>
    rintro D ys W hD rfl ⟨hsi, hB⟩ hK
    have hno := find_all hsi.2.2.2.2
    have bR := hsi.2.2.1
    have bO := hsi.2.2.2.1
    have bO2 := bO.other (B' := w.heap.size + 1 + 1) (by omega) (.string ⟨#[]⟩)
    have cR := bR.cell
    have fR := bR.frozen
    have cO := bO2.cell
    have fO := bO2.frozen
    have HB := Lib.hid hB
    have HBR := Lib.hid bR
    have HBO := Lib.hid bO2
    have HK := Lib.hid hK
    have HNO := Lib.hid hno
    clear hsi bR bO bO2 hB hK hno
    gi_wp2
    rw [Exit.noGoto_ret]
    have hK2 := ((KeepsOthers.setCell W ⟨w.heap.size + 1 + 1, 0, none⟩ (.string ⟨#[]⟩)).trans (KeepsOthers.setCell _ ⟨w.heap.size + 1 + 1 + 1, 0, none⟩ (.bool false))).same D _ HK.out rfl
    have hnr : ∀ r, some D = some r → ∃ o : Obj, ((W.setCell ⟨w.heap.size + 1 + 1, 0, none⟩ (.string ⟨#[]⟩)).setCell ⟨w.heap.size + 1 + 1 + 1, 0, none⟩ (.bool false)).heap[r]? = some o ∧ o.isCells = false := fun r e => by cases e; exact ⟨_, hK2, rfl⟩
    have b1 := Boxed.ab8 ((HBR.out.set (.string ⟨#[]⟩)).other (by omega) (.bool false)) (grownBy_putObj' _ D (.deferred none)) hnr
    have b2 := Boxed.ab8 (HBO.out.set (.bool false)) (grownBy_putObj' _ D (.deferred none)) hnr
    refine ⟨by simp, .inl ⟨_, _, rfl, run_takeDeferred hK2, ?_⟩⟩
    refine ⟨_, results_two rfl rfl rfl (run_loadVar_one8 b1.cell Tryz.underlying128 rfl) (run_loadVar_one8 b2.cell Tryz.underlying4 rfl), ?_, ((HB.out.setCell (p := ⟨w.heap.size + 1 + 1, 0, none⟩) (by simp; omega) _).setCell (p := ⟨w.heap.size + 1 + 1 + 1, 0, none⟩) (by simp; omega) _).trans (belowK_b (w := w) (Nat.le_refl _) _ D _ _ (by omega) hK2 rfl rfl)⟩
    rw [show ixR p l = none from HNO.out]
    rfl
  case stop =>
    rintro D cd pre W hD hp ⟨⟨rfl, q, x, rfl, hq, hx, bR, bO⟩, hB⟩ hK
    have hfd := find_stop hp hq hx
    have HB := Lib.hid hB
    have HBR := Lib.hid bR
    have HBO := Lib.hid bO
    have HK := Lib.hid hK
    have HFD := Lib.hid hfd
    clear bR bO hB hK hfd hp hq hx
    gi_wp2
    rw [Exit.noGoto_ret]
    have hK2 := HK.out
    have hnr : ∀ r, some D = some r → ∃ o : Obj, W.heap[r]? = some o ∧ o.isCells = false := fun r e => by cases e; exact ⟨_, hK2, rfl⟩
    have b1 := Boxed.ab8 HBR.out (grownBy_putObj' _ D (.deferred none)) hnr
    have b2 := Boxed.ab8 HBO.out (grownBy_putObj' _ D (.deferred none)) hnr
    refine ⟨by simp, .inl ⟨_, _, rfl, run_takeDeferred hK2, ?_⟩⟩
    refine ⟨_, results_two rfl rfl rfl (run_loadVar_one8 b1.cell Tryz.underlying128 rfl) (run_loadVar_one8 b2.cell Tryz.underlying4 rfl), ?_, HB.out.trans (belowK_b (w := w) (Nat.le_refl _) _ D _ _ (by omega) hK2 rfl rfl)⟩
    rw [show ixR p l = some x from HFD.out]
    rfl

end E
end Go.Proofs.YtbcncohjjnmdcaaGreatDoor
namespace Go.Proofs.YtbcncohjjnmdcaaGreatDoor
open Go.RowKit Go.Shelf
set_option linter.unusedVariables false
namespace E

/-- How a round is left. -/
def toldPost {α : Type} (B : Nat) (Kp : α → World → World → Prop) (I Ix : List α → World → Prop) (pre : List α) (x : α) (W : World) : Exit → Act → World → Prop
  | .normal, _, W' => KeepsFrom B W W' ∧ Kp x W W' ∧ I (pre ++ [x]) W'
  | .ret, _, W' => KeepsFrom B W W' ∧ Kp x W W' ∧ Ix (pre ++ [x]) W'
  | _, _, _ => False
/-- The contract of an iterator that tells. -/
def Tells {α : Type} (n : Nat) (P : Program) (gf : Nat) (lb : Array Value) (encs : α → Array Value) (V : List α → α → World → Prop) (Kp : α → World → World → Prop) (S : List α → World → Prop) (w : World) : Prop :=
  ∀ (l : Nat) (J Jx : List α → World → Prop) (W : World), Below w.heap.size w W → (∀ s X Y, J s X → X.grownBy Y none → J s Y) →
    (∀ pre x W1, V pre x W1 → J pre W1 → YieldAt Fence.wide (n - 1) P l (encs x) W1 fun e W' => Kp x W1 W' ∧ ((e = .returned (.bool true) ∧ J (pre ++ [x]) W') ∨ (e = .returned (.bool false) ∧ Jx (pre ++ [x]) W'))) →
    J [] W → CallsIn Fence.wide n P gf (#[.func (.yield l) #[] #[]] ++ lb) W fun e W' => (∃ v, e = .returned v) ∧ ((∃ xs, S xs W' ∧ J xs W') ∨ (∃ pre, Jx pre W'))

theorem wpIn_told {P : Program} {α : Type} {g : Operand} {ps : Array Tmp} {assign body : Code} {Q : Exit → Act → World → Prop} {a : Act} {w : World} {n gf : Nat} {lb : Array Value}
    (hg : a.eval g = .func (.func gf) #[] lb) (eg : Enters P gf) {encs : α → Array Value} {V : List α → α → World → Prop} {Kp : α → World → World → Prop} {S : List α → World → Prop}
    (hseq : Tells (n - 1) P gf lb encs V Kp S w) (hps : ∀ x, (encs x).size = ps.size)
    (hV : ∀ pre x W l o o', W.heap[l]? = some o → o.isCells = false → V pre x W → V pre x (W.putObj l o'))
    (hKt : ∀ x A B C, Kp x A B → Kp x B C → Kp x A C) (hKb : ∀ x W l o o', W.heap[l]? = some o → o.isCells = false → Kp x W (W.putObj l o'))
    (hS : ∀ xs W l o o', W.heap[l]? = some o → o.isCells = false → S xs W → S xs (W.putObj l o'))
    (I Ix : List α → World → Prop) (hI : OwnFrom w.heap.size I) (hIx : OwnFrom w.heap.size Ix) (h0 : I [] w) (a₁ : α → Act)
    (hassign : ∀ (l : Nat) (x : α) (W : World) (K : Act → World → Prop), K (a₁ x) W →
      assign.wpIn (Fence.wide.inRound l) (n - 1 - 1) P (Exit.then K (fun _ _ _ => False)) { tmps := (ps.zip (encs x)).foldl (fun t (p, v) => t.setIfInBounds p v) a.tmps, defers := [] } W)
    (hbody : ∀ (l : Nat) (pre : List α) (x : α) (W : World), V pre x W → I pre W → body.wpIn (Fence.wide.inRound l) (n - 1 - 1) P (toldPost w.heap.size Kp I Ix pre x W) (a₁ x) W)
    (hdone : ∀ (D : Nat) (xs : List α) (W : World), w.heap.size ≤ D → S xs W → I xs W → W.heap[D]? = some (.deferred (some [])) → Q .normal { a with defers := { target := .collected D, args := #[] } :: a.defers } W)
    (hstop : ∀ (D : Nat) (pre : List α) (W : World), w.heap.size ≤ D → Ix pre W → W.heap[D]? = some (.deferred (some [])) → Q .ret { a with defers := { target := .collected D, args := #[] } :: a.defers } W) :
    (Code.rangeFunc g ps assign body).wpIn Fence.wide n P Q a w := by
  refine wpIn_rangeFunc fun fn hfn => ?_
  obtain ⟨R, hR⟩ : ∃ R : LoopState → Option Code → Loop, R = fun st j => { state := st, pending := j, fn := fn, tmps := a.tmps, params := ps, assign := assign, body := body, defers := w.heap.size } := ⟨_, rfl⟩
  obtain ⟨D, hD⟩ : ∃ D, D = w.heap.size := ⟨_, rfl⟩
  obtain ⟨w1, hw1⟩ : ∃ w1, w1 = (w.alloc (.deferred (some []))).alloc (.loop (R .ready none)) := ⟨_, rfl⟩
  have hrec : w1.heap[D + 1]? = some (.loop (R .ready none)) := by
    have h := World.alloc_heap_new (w.alloc (.deferred (some []))) (.loop (R .ready none))
    rw [World.size_alloc] at h
    rw [hw1, hD]
    exact h
  have hdef : w1.heap[D]? = some (.deferred (some [])) := by
    rw [hw1, hD]
    exact (Below.heap_alloc _ _ _ (by simp)).trans (World.alloc_heap_new w _)
  have hbel : Below w.heap.size w w1 := by
    rw [hw1]
    exact (below_new w _).alloc (by simp) _
  have hI1 : I [] w1 := by rw [hw1]; exact hI.alloc _ (hI.alloc _ h0)
  refine ⟨D + 1, [{ target := .collected D, args := #[] }], w1, { target := .fn (.func gf) lb, args := #[.func (.yield (D + 1)) #[] #[]] }, w1, gf, #[.func (.yield (D + 1)) #[] #[]] ++ lb, w1, ?_, ?_, fun _ _ => trivial, ?_, (fun e => by cases e), ?_⟩
  · rw [hw1, hR, hD]
    exact run_enterLoop_outer _ _ _ _ _
  · simp only [resolve, hg]
    simp [go_sem]
  · simp [invoke, go_sem, eg _ _]
  refine (hseq (D + 1)
    (fun pre W => I pre W ∧ W.heap[D + 1]? = some (.loop (R .ready none)) ∧ W.heap[D]? = some (.deferred (some [])))
    (fun pre W => Ix pre W ∧ W.heap[D + 1]? = some (.loop (R .done (some .ret))) ∧ W.heap[D]? = some (.deferred (some [])))
    w1 hbel ?grow ?round ⟨hI1, hrec, hdef⟩).mono ?back
  case grow =>
    rintro s X Y ⟨h1, h2, h3⟩ hXY
    exact ⟨hI s X Y none h1 hXY (fun r e => by cases e), (hXY.block _ (Array.getElem?_eq_some_iff.1 h2).1 (by simp)).trans h2, (hXY.block _ (Array.getElem?_eq_some_iff.1 h3).1 (by simp)).trans h3⟩
  case round =>
    rintro pre x W hv ⟨h1, h2, h3⟩
    have hlt := (Array.getElem?_eq_some_iff.1 h2).1
    have hy := run_yield (P := P) (args := encs x) h2 (by rw [hR]; exact hps x)
    rw [hR] at hy
    refine ⟨fn, _, assign, body, hy, roundIn_of_wpIn hfn (hassign _ x W _ ⟨_, run_beginRound h2 (by rw [hR]), ?_⟩)⟩
    obtain ⟨Wb, hWb⟩ : ∃ Wb, Wb = W.putObj (D + 1) (.loop { R .ready none with state := .busy }) := ⟨_, rfl⟩
    rw [← hWb]
    have hb2 : Wb.heap[D + 1]? = some (.loop { R .ready none with state := .busy }) := by rw [hWb]; exact World.putObj_heap_same hlt
    have hb3 : Wb.heap[D]? = some (.deferred (some [])) := by rw [hWb]; exact (World.putObj_heap_other (by omega)).trans h3
    have hIb : I pre Wb := by rw [hWb]; exact hI.putObj _ h1 (by omega) h2 rfl
    have hVb : V pre x Wb := by rw [hWb]; exact hV _ _ _ _ _ _ h2 rfl hv
    have hKs : Kp x W Wb := by rw [hWb]; exact hKb _ _ _ _ _ h2 rfl
    refine wpIn_mono (hbody _ pre x Wb hVb hIb) fun e a3 W3 hp => ?_
    have close : ∀ jump : Option Code, KeepsFrom w.heap.size Wb W3 → ∃ W4, W4 = W3.putObj (D + 1) (.loop (R (if jump.isNone then .ready else .done) jump)) ∧
        (Instr.endRound (D + 1) jump).run P W3 = .ok (.bool jump.isNone) W4 ∧ W3.heap[D + 1]? = some (.loop { R .ready none with state := .busy }) ∧ W4.heap[D + 1]? = some (.loop (R (if jump.isNone then .ready else .done) jump)) ∧ W4.heap[D]? = some (.deferred (some [])) := fun jump hk => by
      have hl3 := hk.same _ _ (by omega) hb2 rfl
      have hr := run_endRound (P := P) jump hl3
      rw [hR] at hr
      refine ⟨_, rfl, by rw [hR]; exact hr, hl3, World.putObj_heap_same (Array.getElem?_eq_some_iff.1 hl3).1, (World.putObj_heap_other (by omega)).trans (hk.same _ _ (by omega) hb3 rfl)⟩
    cases e with
    | normal =>
      obtain ⟨hk, hkp, hi⟩ := hp
      obtain ⟨W4, hW4, hr, hl3, h5, h6⟩ := close none hk
      exact ⟨_, _, hr, hKt _ _ _ _ hKs (hKt _ _ _ _ hkp (by rw [hW4]; exact hKb _ _ _ _ _ hl3 rfl)), .inl ⟨rfl, by rw [hW4]; exact hI.putObj _ hi (by omega) hl3 rfl, h5, h6⟩⟩
    | ret =>
      obtain ⟨hk, hkp, hi⟩ := hp
      obtain ⟨W4, hW4, hr, hl3, h5, h6⟩ := close (some .ret) hk
      exact ⟨_, _, hr, hKt _ _ _ _ hKs (hKt _ _ _ _ hkp (by rw [hW4]; exact hKb _ _ _ _ _ hl3 rfl)), .inr ⟨rfl, by rw [hW4]; exact hIx.putObj _ hi (by omega) hl3 rfl, h5, h6⟩⟩
    | exit id => exact hp.elim
    | goto t => exact hp.elim
    | panic ch => exact hp.elim
    | outgrown => exact hp.elim
  case back =>
    rintro e W2 ⟨⟨v, rfl⟩, (⟨xs, hs, hi, hl, hk⟩ | ⟨pre, hi, hl, hk⟩)⟩
    · have he := run_endLoop (P := P) hl (by rw [hR]; simp)
      rw [hR] at he hl
      exact ⟨none, _, he, hdone D xs _ (by omega) (hS _ _ _ _ _ hl rfl hs) (hI.putObj _ hi (by omega) hl rfl) ((World.putObj_heap_other (by omega)).trans hk)⟩
    · have he := run_endLoop (P := P) hl (by rw [hR]; simp)
      rw [hR] at he hl
      exact ⟨some .ret, _, he, wpIn_ret (hstop D pre _ (by omega) (hIx.putObj _ hi (by omega) hl rfl) ((World.putObj_heap_other (by omega)).trans hk))⟩

end E
end Go.Proofs.YtbcncohjjnmdcaaGreatDoor
namespace Go.Proofs.YtbcncohjjnmdcaaGreatDoor
open Go.RowKit Go.Shelf
set_option linter.unusedVariables false
namespace E

theorem row_str (k : Nat) : (⟨(rowL k).toArray⟩ : ByteArray) = rowS k := rfl
set_option maxRecDepth 100000 in
theorem withCode_any (op : Int) (w : World) : Calls Tryz.prog 118 #[.int .i64 op] w (New w (srV (ixC op))) := by
  by_cases ho : op < 0 ∨ 255 < op
  · rw [ixC_out ho]
    by_cases h1 : op < 0
    · clear ho
      go_enter Tryz.func118, Tryz.ntmps118
      go_wp2
      go_ret2
      exact ⟨rfl, Below.refl _ _⟩
    · have h2 : 255 < op := by omega
      clear ho
      go_enter Tryz.func118, Tryz.ntmps118
      go_wp2
      go_ret2
      exact ⟨rfl, Below.refl _ _⟩
  · obtain ⟨n, rfl⟩ : ∃ n : Nat, op = (n : Int) := ⟨op.toNat, by omega⟩
    have hn : n < 256 := by omega
    have hx : (UInt8.ofNat n).toNat = n := by simp; omega
    have hs0 : ∀ W, Calls Tryz.prog 174 #[.int .i64 0, .string ⟨#[UInt8.ofNat n]⟩] W (New W (srV (ixC (n : Int)))) := fun W => by
      rw [← ixR_op n hn]
      exact search_any 0 ⟨#[UInt8.ofNat n]⟩ [UInt8.ofNat n] W rfl (by simp)
    have HS := Lib.hid hs0
    have hrd : Rd (w.alloc (.cells #[.int .u8 (n : Int)] 5)) (some ⟨w.heap.size, 0, none⟩) [UInt8.ofNat n] := by
      have := rd_new w [UInt8.ofNat n] 5
      unfold bsU at this
      rw [List.map_cons, List.map_nil, hx] at this
      exact this
    have hcv : (Go.convert 31 9 (.slice (some ⟨w.heap.size, 0, none⟩) 1 1)).run Tryz.prog (w.alloc (.cells #[.int .u8 (n : Int)] 5)) = .ok (.string ⟨#[UInt8.ofNat n]⟩) (w.alloc (.cells #[.int .u8 (n : Int)] 5)) := conv_rd (c := 1) hrd
    have hb := below_new w (.cells #[.int .u8 (n : Int)] 5)
    have HB := Lib.hid hb
    have hnI : (n : Int) ≤ 255 := by omega
    clear ho hx hrd hb hn hs0
    go_enter Tryz.func118, Tryz.ntmps118
    go_wp2_with fail
    refine (HS.out _).mono ?_
    rintro e w2 ⟨rfl, hb2⟩
    have HB2 := Lib.hid (bel0 HB.out hb2)
    clear hb2 hcv
    unfold srV
    go_wp2
    go_ret2
    exact ⟨rfl, HB2.out⟩
/-- What Form, Name, Find and Privileged answer. -/
def formV (o : Option Nat) : Value := .tuple #[.int .i64 (foO o : Int), .bool o.isSome]
theorem form_any (op : Int) (w : World) : Calls Tryz.prog 59 #[.int .i64 op] w (New w (formV (ixC op))) := by
  obtain ⟨o, ho⟩ : ∃ o, o = ixC op := ⟨_, rfl⟩
  have H := Lib.hid (withCode_any op w)
  have hk : ∀ k, o = some k → k < 97 := fun k h => (ixC_some (ho.symm.trans h)).1
  rw [← ho] at H ⊢
  clear ho
  cases o with
  | none =>
    clear hk
    unfold srV rowO formV foO at *
    go_enter Tryz.func59, Tryz.ntmps59
    go_wp2_with fail
    refine H.out.mono ?_
    rintro e w2 ⟨rfl, hb2⟩
    have HB := Lib.hid hb2
    clear hb2
    go_wp2
    go_ret2
    exact ⟨rfl, HB.out⟩
  | some k =>
    have HN := Lib.hid (fun W => form_row k (hk k rfl) W)
    clear hk
    unfold srV rowO formV foO at *
    simp only [row_str, Option.isSome_some] at H
    go_enter Tryz.func59, Tryz.ntmps59
    go_wp2_with fail
    refine H.out.mono ?_
    rintro e w2 ⟨rfl, hb2⟩
    have HB := Lib.hid hb2
    clear hb2
    go_wp2_with fail
    refine (HN.out _).mono ?_
    rintro e w' ⟨rfl, rfl⟩
    go_wp2
    go_ret2
    exact ⟨rfl, HB.out⟩
end E
end Go.Proofs.YtbcncohjjnmdcaaGreatDoor

/- The contracts of the helpers of the statements: same, dec, is, not, field. -/
import Derived.Test.YtbcncohjjnmdcaaGreatDoorRows
import Derived.Test.YtbcncohjjnmdcaaGreatDoorPkC
namespace Go.Proofs.YtbcncohjjnmdcaaGreatDoor
open Go.RowKit Go.Shelf
set_option linter.unusedVariables false
namespace E

theorem decode_any (p : Option Addr) (c : Nat) (bs : List UInt8) (w : World) (hr : Rd w p bs) (hg : Sg w) :
    Calls Tryz.prog 181 #[.slice p bs.length c] w (DecPost w bs) := by
  by_cases hl : 1 ≤ bs.length ∧ bs.length ≤ 16
  · exact decode_yes p c bs w hl.1 hl.2 hr hg
  · have ho : dOk bs = false := by unfold dOk; rw [decide_eq_false hl]; rfl
    refine (decode_no p bs.length c w hl).mono ?_
    rintro e w' ⟨rfl, hb⟩
    refine ⟨?_, hb⟩
    unfold dNeg dDig
    rw [ho]
    rfl
end E
end Go.Proofs.YtbcncohjjnmdcaaGreatDoor
namespace Go.Proofs.YtbcncohjjnmdcaaGreatDoor
open Go.RowKit Go.Shelf
set_option linter.unusedVariables false
namespace E

theorem results_cell14 {fn : Func} {p : Tmp} {ty : TypeId} (h : fn.results = #[.cell p ty]) (tmps : Array Value) (P : Program) (w : World) :
    (results fn tmps).run P w = ((asAddr (tmps.getD p undef)).run P w).andThen fun a w₁ => (loadVar ty a).run P w₁ := by
  simp only [results, h]
  simp [Sem.run_bind, Result.andThen]
end E
end Go.Proofs.YtbcncohjjnmdcaaGreatDoor
namespace Go.Proofs.YtbcncohjjnmdcaaGreatDoor
open Go.RowKit Go.Shelf
set_option linter.unusedVariables false
namespace E

/-! ### Numbers -/

theorem dgt_zero : dgt 48 = 0 := by decide
theorem okD_fg {dl : List UInt8} (h : ∀ j, j < dl.length → isD (gt dl j) = true) : okD (fg dl) = true := by
  unfold okD
  rw [List.all_eq_true]
  intro d hd
  unfold fg at hd
  rw [List.mem_reverse, List.mem_map] at hd
  obtain ⟨c, hc, rfl⟩ := hd
  obtain ⟨j, hj, rfl⟩ := List.getElem_of_mem hc
  have := h j hj
  rw [gt_lt hj] at this
  have h2 := (isD_iff _).1 this
  rw [decide_eq_true_eq, dgt_nat h2]
  omega
theorem okD_getD (ds : List (Fin 16)) : okD ds = true ↔ ∀ i, i < ds.length → (ds.getD i 0).val ≤ 9 := by
  unfold okD
  rw [List.all_eq_true]
  constructor
  · intro h i hi
    have := h (ds[i]) (List.getElem_mem hi)
    rw [decide_eq_true_eq] at this
    simpa [List.getD_eq_getElem?_getD, hi] using this
  · intro h d hd
    obtain ⟨j, hj, rfl⟩ := List.getElem_of_mem hd
    have := h j hj
    rw [decide_eq_true_eq]
    simpa [List.getD_eq_getElem?_getD, hj] using this
theorem fg_getD9 {dl : List UInt8} (h : ∀ j, j < dl.length → isD (gt dl j) = true) (i : Nat) : ((fg dl).getD i 0).val ≤ 9 := by
  by_cases hi : i < (fg dl).length
  · exact (okD_getD _).1 (okD_fg h) i hi
  · rw [List.getD_eq_getElem?_getD, List.getElem?_eq_none (by omega)]
    decide
/-- What a number's digits are, out of a field whose digits they are. -/
theorem split_zero (r : List UInt8) : ∃ j, r = List.replicate j 48 ++ r.dropWhile (· == 48) := by
  induction r with
  | nil => exact ⟨0, rfl⟩
  | cons x t ih =>
    by_cases hx : x = 48
    · subst hx
      obtain ⟨j, hj⟩ := ih
      refine ⟨j + 1, ?_⟩
      rw [List.dropWhile_cons, if_pos (by simp), List.replicate_succ, List.cons_append, ← hj]
    · exact ⟨0, by simp [hx]⟩
theorem fg_numL (ds : List (Fin 16)) (h1 : 1 ≤ ds.length) : (∃ r, ds = fg (numL ds) ++ List.replicate r 0) ∧ 1 ≤ (numL ds).length ∧ (numL ds).length ≤ ds.length := by
  obtain ⟨j, hj⟩ := split_zero (ds.reverse.map chr)
  obtain ⟨T, hT⟩ : ∃ T, T = (ds.reverse.map chr).dropWhile (· == 48) := ⟨_, rfl⟩
  rw [← hT] at hj
  have hback : (ds.reverse.map chr).map dgt = ds.reverse := by
    rw [List.map_map]
    have : (dgt ∘ chr) = id := funext dgt_chr
    rw [this, List.map_id]
  have hds : ds = (T.map dgt).reverse ++ List.replicate j 0 := by
    have := congrArg (fun l => (l.map dgt).reverse) hj
    simp only [hback, List.reverse_reverse, List.map_append, List.reverse_append, List.map_replicate, dgt_zero, List.reverse_replicate] at this
    exact this
  unfold numL
  rw [← hT]
  by_cases h0 : T = []
  · rw [if_pos h0]
    subst h0
    have hjl : ds.length = j := by rw [hds]; simp
    refine ⟨⟨j - 1, ?_⟩, by simp, by simpa using h1⟩
    rw [hds]
    have : fg [48] = [0] := by decide
    rw [this]
    obtain ⟨k, rfl⟩ : ∃ k, j = k + 1 := ⟨j - 1, by omega⟩
    simp [List.replicate_succ]
  · rw [if_neg h0]
    have hlen : ds.length = T.length + j := by rw [hds]; simp
    exact ⟨⟨j, hds⟩, List.length_pos_iff.2 h0, by omega⟩
theorem drop_head (l : List UInt8) (x : UInt8) (t : List UInt8) (h : l.dropWhile (· == 48) = x :: t) (hx : x = 48) : False := by
  induction l with
  | nil => simp at h
  | cons y l ih =>
    by_cases hy : y = 48
    · subst hy
      rw [List.dropWhile_cons, if_pos (by simp)] at h
      exact ih h
    · rw [List.dropWhile_cons, if_neg (by simpa using hy)] at h
      injection h with h1 _
      exact hy (h1.trans hx)
theorem numL_head (ds : List (Fin 16)) (h : 1 < (numL ds).length) : gt (numL ds) 0 ≠ 48 := by
  unfold numL at h ⊢
  by_cases h0 : (ds.reverse.map chr).dropWhile (· == 48) = []
  · rw [if_pos h0] at h; simp at h
  · rw [if_neg h0] at h ⊢
    intro he
    cases hq : (ds.reverse.map chr).dropWhile (· == 48) with
    | nil => exact h0 hq
    | cons x t =>
      rw [hq] at he
      have hx : x = 48 := he
      exact drop_head _ _ _ hq hx
theorem numL_isD (ds : List (Fin 16)) (hk : okD ds = true) (j : Nat) (hj : j < (numL ds).length) : isD (gt (numL ds) j) = true := by
  have hm : gt (numL ds) j ∈ numL ds := by rw [gt_lt hj]; exact List.getElem_mem hj
  generalize gt (numL ds) j = c at hm
  unfold numL at hm
  by_cases h0 : (ds.reverse.map chr).dropWhile (· == 48) = []
  · rw [if_pos h0, List.mem_singleton] at hm
    subst hm; decide
  · rw [if_neg h0] at hm
    have := (List.dropWhile_sublist _).subset hm
    rw [List.mem_map] at this
    obtain ⟨d, hd, rfl⟩ := this
    rw [List.mem_reverse] at hd
    unfold okD at hk
    have := List.all_eq_true.1 hk d hd
    rw [decide_eq_true_eq] at this
    rw [isD_iff, chr_nat]
    omega
theorem okL_numL (ds : List (Fin 16)) (hk : okD ds = true) (h1 : 1 ≤ ds.length) (h2 : ds.length ≤ 31) : okL (numL ds) = true := by
  obtain ⟨_, h3, h4⟩ := fg_numL ds h1
  exact (okL_iff _).2 ⟨⟨h3, by omega, numL_head ds⟩, numL_isD ds hk⟩
end E
end Go.Proofs.YtbcncohjjnmdcaaGreatDoor
namespace Go.Proofs.YtbcncohjjnmdcaaGreatDoor
open Go.RowKit Go.Shelf
set_option linter.unusedVariables false
namespace E

/-- The cells of digits as whole numbers. -/
def bsI4 (l : List (Fin 16)) : List Value := l.map fun d => .int .i64 (d.val : Int)
theorem bsI_get4 (l : List (Fin 16)) (j : Nat) (hj : j < l.length) : (bsI4 l)[j]? = some (.int .i64 ((l.getD j 0).val : Int)) := by simp [bsI4, List.getD_eq_getElem?_getD, hj]
/-- A slice of whole numbers that reads as the digits l. -/
def RdI (w : World) (p : Option Addr) (l : List (Fin 16)) : Prop := l = [] ∨ ∃ B off, p = some ⟨B, off, none⟩ ∧ ∀ j, j < l.length → w.cell? ⟨B, off + j, none⟩ = some (.int .i64 ((l.getD j 0).val : Int))
theorem RdI.below {w w' : World} {p : Option Addr} {l : List (Fin 16)} (h : RdI w p l) (hb : Below w.heap.size w w') : RdI w' p l := by
  rcases h with h | ⟨B, off, hp, hc⟩
  · exact .inl h
  · exact .inr ⟨B, off, hp, fun j hj => keepC (hc j hj) hb⟩
theorem RdI.take {w : World} {p : Option Addr} {l : List (Fin 16)} (h : RdI w p l) (k : Nat) : RdI w p (l.take k) := by
  rcases h with h | ⟨B, off, rfl, hc⟩
  · subst h; exact .inl (by simp)
  · refine .inr ⟨B, off, rfl, fun j hj => ?_⟩
    have hj' : j < l.length ∧ j < k := by simp at hj; omega
    rw [hc j hj'.1]
    simp [List.getD_eq_getElem?_getD, hj'.2]
/-- A row of the call's own that holds digits as whole numbers. -/
def HoldI (w : World) (base : Nat) (sv : Value) (l : List (Fin 16)) : Prop := w.ownsRow base 3 1 sv l.length (bsI4 l)
theorem HoldI.rd {w : World} {base : Nat} {sv : Value} {l : List (Fin 16)} (h : HoldI w base sv l) : ∃ p c, sv = .slice p l.length c ∧ RdI w p l ∧ l.length ≤ c ∧ c ≤ 9223372036854775807 ∧ (p = none → c = 0) := by
  have h' := h
  obtain ⟨_, h1 | ⟨g, cap, cur, hv, _, hh, hle, hm, hsz, ht⟩⟩ := h
  · obtain ⟨h2, h3⟩ := h1
    have hl : l.length = 0 := h3
    exact ⟨none, 0, by rw [h2, hl], .inl (List.length_eq_zero_iff.1 hl), by omega, by omega, fun _ => rfl⟩
  · subst hv
    refine ⟨_, _, rfl, .inr ⟨_, _, rfl, fun j hj => ?_⟩, hle, by unfold maxLen at hm; omega, fun hn => by cases hn⟩
    rw [Nat.zero_add, h'.cellAt j (by omega), bsI_get4 l j hj]
theorem HoldI.kept {w w' : World} {base : Nat} {sv : Value} {l : List (Fin 16)} (h : HoldI w base sv l) (hb : Below w.heap.size w w') : HoldI w' base sv l := own_kept h hb
end E
end Go.Proofs.YtbcncohjjnmdcaaGreatDoor
namespace Go.Proofs.YtbcncohjjnmdcaaGreatDoor
open Go.RowKit Go.Shelf
set_option linter.unusedVariables false
namespace E

/-- What is held of each world: w and all that lay below. -/
def ApS (w W : World) : Prop := Below w.heap.size w W
theorem ApS.mk {w W : World} {B j : Nat} {v : Value} (hB : B < w.heap.size) (hc : w.cell? ⟨B, j, none⟩ = some v) (h : ApS w W) : W.cell? ⟨B, j, none⟩ = some v ∧ ApS w W := ⟨(h.cell (p := ⟨B, j, none⟩) hB).trans hc, h⟩
theorem ApS.new {w W : World} {B j : Nat} {v : Value} {o : Obj} (hB : B < w.heap.size) (hc : w.cell? ⟨B, j, none⟩ = some v) (h : W.cell? ⟨B, j, none⟩ = some v ∧ ApS w W) : (W.alloc o).cell? ⟨B, j, none⟩ = some v ∧ ApS w (W.alloc o) :=
  ApS.mk hB hc (show Below w.heap.size w (W.alloc o) from Below.alloc h.2 (Below.size h.2) o)
/-- A new row of bytes is returned. -/
def RuPost (w : World) (l : List UInt8) (e : Ending) (w' : World) : Prop := ∃ sv, e = .returned sv ∧ Hold w' w.heap.size sv l ∧ Below w.heap.size w w'
end E
end Go.Proofs.YtbcncohjjnmdcaaGreatDoor
namespace Go.Proofs.YtbcncohjjnmdcaaGreatDoor
open Go.RowKit Go.Shelf
set_option linter.unusedVariables false
namespace E

/-- What a move of the document's own leaves: a row; nil, where a size is invalid. -/
def RmPost (w : World) (ok : Bool) (l : List UInt8) (e : Ending) (w' : World) : Prop := (ok = true ∧ RuPost w l e w') ∨ (ok = false ∧ New w (.slice none 0 0) e w')
end E
end Go.Proofs.YtbcncohjjnmdcaaGreatDoor
namespace Go.Proofs.YtbcncohjjnmdcaaGreatDoor
open Go.RowKit Go.Shelf
set_option linter.unusedVariables false
namespace E
/-- A slice that reads as a list. -/
def SvRd (W : World) (sv : Value) (l : List UInt8) : Prop := ∃ p c, sv = .slice p l.length c ∧ Rd W p l
theorem SvRd.below {w w' : World} {sv : Value} {l : List UInt8} (h : SvRd w sv l) (hb : Below w.heap.size w w') : SvRd w' sv l := by
  obtain ⟨p, c, h1, h2⟩ := h
  exact ⟨p, c, h1, h2.below hb⟩
def SvPost (w : World) (l : List UInt8) (e : Ending) (w' : World) : Prop := ∃ sv, e = .returned sv ∧ SvRd w' sv l ∧ Below w.heap.size w w'
theorem MvPost.sv {f : Nat} {args : Array Value} {w : World} {n : Int} {l : List UInt8} {ok : Bool} (h : Calls Tryz.prog f args w (MvPost w ok n l)) (hl : l.length = n.toNat) : Calls Tryz.prog f args w (SvPost w (if ok then l else [])) :=
  h.mono fun e w' h => by
    rcases h with ⟨ho, g, h1, h2, h3⟩ | ⟨ho, h1, h2⟩
    · rw [ho, if_pos rfl]
      exact ⟨_, h1, ⟨_, _, by rw [hl], h2.rd⟩, h3⟩
    · rw [ho, if_neg (by simp)]
      exact ⟨_, h1, ⟨none, 0, rfl, .inl rfl⟩, h2⟩
theorem RmPost.sv {f : Nat} {args : Array Value} {w : World} {l : List UInt8} {ok : Bool} (h : Calls Tryz.prog f args w (RmPost w ok l)) : Calls Tryz.prog f args w (SvPost w (if ok then l else [])) :=
  h.mono fun e w' h => by
    rcases h with ⟨ho, sv, h1, h2, h3⟩ | ⟨ho, h1, h2⟩
    · rw [ho, if_pos rfl]
      obtain ⟨p, c, e1, e2, _⟩ := h2.rd
      exact ⟨_, h1, ⟨p, c, e1, e2⟩, h3⟩
    · rw [ho, if_neg (by simp)]
      exact ⟨_, h1, ⟨none, 0, rfl, .inl rfl⟩, h2⟩
end E
end Go.Proofs.YtbcncohjjnmdcaaGreatDoor

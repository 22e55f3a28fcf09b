/- Small arithmetic, memory, blocks of cells. -/
import Derived.Test.YtbcncohjjnmdcaaGreatDoorRows
import Derived.Below
import Derived.BigQuiet
import Derived.Deep.AppendLies
import Derived.Deep.Cut
import Derived.Deep.DeepMust
import Derived.Deep.Draws
import Derived.Deep.QuietTactic
import Derived.Deep.RegionHeld3
import Derived.Laws.AppendOwn
import Derived.Laws.AppendOwnNone
import Derived.Laws.CopyOwn
import Derived.Laws.IdiomStrings
import Derived.Laws.OwnMore
import Derived.Lib.Hide
import Derived.MapKept
import Derived.OwnWalk
import Derived.ProofKit
import Derived.WalkKit
namespace Go.Proofs.YtbcncohjjnmdcaaGreatDoor
open Go.RowKit
set_option linter.unusedVariables false
namespace E

/-- The byte at a place of a list. -/
def gt (l : List UInt8) (j : Nat) : UInt8 := l.getD j 0
theorem gt_lt {l : List UInt8} {j : Nat} (h : j < l.length) : gt l j = l[j] := by simp [gt, List.getD_eq_getElem?_getD, List.getElem?_eq_getElem h]
theorem all256 {p : UInt8 → Prop} (h : ∀ n : Nat, n < 256 → p (UInt8.ofNat n)) (x : UInt8) : p x := by
  have := h x.toNat x.toNat_lt
  rwa [UInt8.ofNat_toNat] at this
theorem u8_wf {v : Int} (h : (Lit.int .u8 v).wf = true) : 0 ≤ v ∧ v < 256 := by
  simp [Lit.wf, IntKind.min, IntKind.max, IntKind.bits, IntKind.signed] at h; omega
theorem u8_of {a : Int} (h : (Lit.int .u8 a).wf = true) : ∃ x : UInt8, a = (x.toNat : Int) := by
  obtain ⟨h0, h1⟩ := u8_wf h
  refine ⟨UInt8.ofNat a.toNat, ?_⟩
  have h2 : (UInt8.ofNat a.toNat).toNat = a.toNat := by
    rw [UInt8.toNat_ofNat']
    exact Nat.mod_eq_of_lt (by show a.toNat < 256; omega)
  omega

/-! ### Digits of four bits -/

/-- The low digit of a byte. -/
def lo (x : UInt8) : Fin 16 := ⟨x.toNat % 16, Nat.mod_lt _ (by decide)⟩
/-- The high digit of a byte. -/
def hi (x : UInt8) : Fin 16 := ⟨x.toNat / 16, by have := x.toNat_lt; omega⟩
/-- The byte of two digits. -/
def mk (h l : Fin 16) : UInt8 := UInt8.ofNat (16 * h.val + l.val)
theorem mk_nat (h l : Fin 16) : (mk h l).toNat = 16 * h.val + l.val := by
  unfold mk
  rw [UInt8.toNat_ofNat']
  have := h.isLt
  have := l.isLt
  exact Nat.mod_eq_of_lt (by show _ < 256; omega)
theorem lo_mk (h l : Fin 16) : lo (mk h l) = l := by
  apply Fin.ext
  show (mk h l).toNat % 16 = l.val
  rw [mk_nat]
  have := l.isLt
  omega
theorem hi_mk (h l : Fin 16) : hi (mk h l) = h := by
  apply Fin.ext
  show (mk h l).toNat / 16 = h.val
  rw [mk_nat]
  have := l.isLt
  omega
theorem mk_hl (x : UInt8) : mk (hi x) (lo x) = x := by
  apply UInt8.toNat_inj.1
  rw [mk_nat]
  show 16 * (x.toNat / 16) + x.toNat % 16 = x.toNat
  omega
/-- The digit at a place, counted from the right. -/
def nib (l : List UInt8) (p : Nat) : Fin 16 := if p % 2 = 0 then lo (gt l (l.length - 1 - p / 2)) else hi (gt l (l.length - 1 - p / 2))
/-- A digit put at a place. -/
def setD (l : List UInt8) (p : Nat) (d : Fin 16) : List UInt8 :=
  l.set (l.length - 1 - p / 2) (if p % 2 = 0 then mk (hi (gt l (l.length - 1 - p / 2))) d else mk d (lo (gt l (l.length - 1 - p / 2))))
theorem setD_len (l : List UInt8) (p : Nat) (d : Fin 16) : (setD l p d).length = l.length := by simp [setD]
theorem gt_set (l : List UInt8) (i j : Nat) (x : UInt8) (hi : i < l.length) : gt (l.set i x) j = if i = j then x else gt l j := by
  unfold gt
  rw [List.getD_eq_getElem?_getD, List.getD_eq_getElem?_getD, List.getElem?_set]
  by_cases h : i = j
  · subst h; simp [hi]
  · simp [h]
theorem nib_setD {l : List UInt8} {p q : Nat} {d : Fin 16} (hp : p < 2 * l.length) (hq : q < 2 * l.length) : nib (setD l p d) q = if q = p then d else nib l q := by
  unfold nib
  rw [setD_len]
  unfold setD
  rw [gt_set _ _ _ _ (by omega)]
  by_cases h : q = p
  · subst h
    by_cases h0 : q % 2 = 0
    · simp [h0, lo_mk]
    · simp [h0, hi_mk]
  · by_cases hb : l.length - 1 - p / 2 = l.length - 1 - q / 2
    · have hpq : p / 2 = q / 2 := by omega
      by_cases h0 : q % 2 = 0
      · have h1 : ¬ p % 2 = 0 := by omega
        simp [h, h0, h1, hpq, lo_mk]
      · have h1 : p % 2 = 0 := by omega
        simp [h, h0, h1, hpq, hi_mk]
    · simp [h, hb]
theorem nib_ext {l m : List UInt8} (hl : l.length = m.length) (h : ∀ p, p < 2 * l.length → nib l p = nib m p) : l = m := by
  refine List.ext_getElem hl fun i h1 h2 => ?_
  have ha := h (2 * (l.length - 1 - i)) (by omega)
  have hb := h (2 * (l.length - 1 - i) + 1) (by omega)
  unfold nib at ha hb
  rw [← hl] at ha hb
  rw [if_pos (by omega), if_pos (by omega), show l.length - 1 - 2 * (l.length - 1 - i) / 2 = i by omega] at ha
  rw [if_neg (by omega), if_neg (by omega), show l.length - 1 - (2 * (l.length - 1 - i) + 1) / 2 = i by omega] at hb
  rw [gt_lt h1, gt_lt h2] at ha hb
  rw [← mk_hl l[i], ← mk_hl m[i], ha, hb]
/-- The field of n bytes with the digit f p at each place p. -/
def ofNibs (n : Nat) (f : Nat → Fin 16) : List UInt8 := (List.range n).map fun i => mk (f (2 * (n - 1 - i) + 1)) (f (2 * (n - 1 - i)))
theorem ofNibs_len (n : Nat) (f : Nat → Fin 16) : (ofNibs n f).length = n := by simp [ofNibs]
theorem gt_ofNibs {n : Nat} {f : Nat → Fin 16} {i : Nat} (h : i < n) : gt (ofNibs n f) i = mk (f (2 * (n - 1 - i) + 1)) (f (2 * (n - 1 - i))) := by
  rw [gt_lt (by rw [ofNibs_len]; exact h)]
  simp [ofNibs]
theorem nib_ofNibs {n : Nat} {f : Nat → Fin 16} {p : Nat} (h : p < 2 * n) : nib (ofNibs n f) p = f p := by
  unfold nib
  rw [ofNibs_len, gt_ofNibs (by omega)]
  by_cases h0 : p % 2 = 0
  · rw [if_pos h0, lo_mk]
    congr 1; omega
  · rw [if_neg h0, hi_mk]
    congr 1; omega
theorem of_nib {l : List UInt8} {n : Nat} {f : Nat → Fin 16} (hl : l.length = n) (h : ∀ p, p < 2 * n → nib l p = f p) : l = ofNibs n f :=
  nib_ext (by rw [ofNibs_len]; exact hl) fun p hp => by rw [h p (by omega), nib_ofNibs (by omega)]

/-! ### Writing digits one after another -/

/-- Digits put at the place la and at each st places further left. -/
def wr (L : List UInt8) (la st : Nat) : List (Fin 16) → List UInt8
  | [] => L
  | d :: ds => wr (setD L la d) (la + st) st ds
theorem wr_snoc (L : List UInt8) (la st : Nat) (ds : List (Fin 16)) (d : Fin 16) : wr L la st (ds ++ [d]) = setD (wr L la st ds) (la + st * ds.length) d := by
  induction ds generalizing L la with
  | nil => simp [wr]
  | cons x ds ih => simp only [List.cons_append, wr, ih, List.length_cons]; congr 1; rw [Nat.mul_add]; omega
theorem wr_len (L : List UInt8) (la st : Nat) (ds : List (Fin 16)) : (wr L la st ds).length = L.length := by
  induction ds generalizing L la with
  | nil => rfl
  | cons x ds ih => simp only [wr, ih, setD_len]
theorem nib_wr_not (L : List UInt8) (la st : Nat) (ds : List (Fin 16)) (q : Nat) (hst : 0 < st) (hfit : ∀ j, j < ds.length → la + st * j < 2 * L.length) (hq : q < 2 * L.length)
    (hn : ∀ j, j < ds.length → q ≠ la + st * j) : nib (wr L la st ds) q = nib L q := by
  induction ds generalizing L la with
  | nil => rfl
  | cons x ds ih =>
    have h0 := hfit 0 (by simp)
    have e : ∀ j, la + st + st * j = la + st * (j + 1) := fun j => by rw [Nat.mul_add]; omega
    simp only [wr]
    rw [ih (setD L la x) (la + st) (fun j hj => by rw [setD_len, e]; exact hfit (j + 1) (by simpa using hj)) (by rw [setD_len]; exact hq) (fun j hj => by rw [e]; exact hn (j + 1) (by simpa using hj)),
      nib_setD (by simpa using h0) hq, if_neg (by simpa using hn 0 (by simp))]
theorem nib_wr (L : List UInt8) (la st : Nat) (ds : List (Fin 16)) (hst : 0 < st) (hfit : ∀ j, j < ds.length → la + st * j < 2 * L.length) (j : Nat) (hj : j < ds.length) : nib (wr L la st ds) (la + st * j) = ds.getD j 0 := by
  induction ds generalizing L la j with
  | nil => simp at hj
  | cons x ds ih =>
    have h0 := hfit 0 (by simp)
    have e : ∀ j, la + st + st * j = la + st * (j + 1) := fun j => by rw [Nat.mul_add]; omega
    have hf : ∀ j, j < ds.length → la + st + st * j < 2 * (setD L la x).length := fun j hj => by rw [setD_len, e]; exact hfit (j + 1) (by simpa using hj)
    simp only [wr]
    cases j with
    | zero =>
      rw [nib_wr_not (setD L la x) (la + st) st ds (la + st * 0) hst hf (by rw [setD_len]; exact h0) (fun j hj => by omega), nib_setD (by simpa using h0) h0, if_pos (by simp)]
      rfl
    | succ j =>
      rw [← e, ih (setD L la x) (la + st) hf j (by simpa using hj)]
      rfl
/-- What a field has at each place: the sign at sp, the digits from la on, else what the empty byte has. -/
def oF (sp la st : Nat) (em : UInt8) (s : Fin 16) (ds : List (Fin 16)) (p : Nat) : Fin 16 :=
  if p = sp then s else if la ≤ p ∧ (p - la) % st = 0 ∧ (p - la) / st < ds.length then ds.getD ((p - la) / st) 0 else if p % 2 = 0 then lo em else hi em
/-- The field of n bytes of a format. -/
def outL (n sp la st : Nat) (em : UInt8) (s : Fin 16) (ds : List (Fin 16)) : List UInt8 := ofNibs n (oF sp la st em s ds)
theorem outL_len (n sp la st : Nat) (em : UInt8) (s : Fin 16) (ds : List (Fin 16)) : (outL n sp la st em s ds).length = n := ofNibs_len _ _
theorem nib_rep (n : Nat) (em : UInt8) (p : Nat) (h : p < 2 * n) : nib (List.replicate n em) p = if p % 2 = 0 then lo em else hi em := by
  unfold nib
  rw [gt_lt (by simp; omega)]
  simp
theorem wr_out (n sp la st : Nat) (em : UInt8) (s : Fin 16) (ds : List (Fin 16)) (k : Nat) (hst : 0 < st) (hsp : sp < 2 * n) (hne : ∀ j, sp ≠ la + st * j)
    (hk : k ≤ ds.length) (hfit : ∀ j, j < k → la + st * j < 2 * n) (hend : k = ds.length ∨ 2 * n ≤ la + st * k) :
    wr (setD (List.replicate n em) sp s) la st (ds.take k) = outL n sp la st em s ds := by
  have hl : (setD (List.replicate n em) sp s).length = n := by rw [setD_len]; simp
  have htk : (ds.take k).length = k := by simp; omega
  refine of_nib (by rw [wr_len, hl]) fun p hp => ?_
  have hf : ∀ j, j < (ds.take k).length → la + st * j < 2 * (setD (List.replicate n em) sp s).length := fun j hj => by rw [hl]; exact hfit j (by omega)
  unfold oF
  by_cases h1 : p = sp
  · subst h1
    rw [if_pos rfl, nib_wr_not _ _ _ _ _ hst hf (by omega) (fun j _ => hne j), nib_setD (by simpa using hsp) (by simpa using hsp), if_pos rfl]
  rw [if_neg h1]
  by_cases h2 : la ≤ p ∧ (p - la) % st = 0 ∧ (p - la) / st < ds.length
  · rw [if_pos h2]
    obtain ⟨ha, hb, hc⟩ := h2
    have hd := Nat.div_add_mod (p - la) st
    rw [hb, Nat.add_zero] at hd
    generalize (p - la) / st = j at *
    have hpj : p = la + st * j := by omega
    have hjk : j < k := by
      rcases hend with he | he
      · omega
      · rcases Nat.lt_or_ge j k with h | h
        · exact h
        · have := Nat.mul_le_mul_left st h
          omega
    rw [hpj, nib_wr _ _ _ _ hst hf j (by omega)]
    simp [List.getD_eq_getElem?_getD, hjk]
  · rw [if_neg h2, nib_wr_not _ _ _ _ _ hst hf (by omega) (fun j hj he => h2 ?_), nib_setD (by simpa using hsp) (by simpa using hp), if_neg h1, nib_rep _ _ _ hp]
    subst he
    rw [Nat.add_sub_cancel_left, Nat.mul_mod_right, Nat.mul_div_cancel_left _ hst]
    exact ⟨by omega, rfl, by omega⟩
/-- The digits of a field, from the place la on, K of them. -/
def dg (l : List UInt8) (la st K : Nat) : List (Fin 16) := (List.range K).map fun i => nib l (la + st * i)
theorem dg_len (l : List UInt8) (la st K : Nat) : (dg l la st K).length = K := by simp [dg]
theorem dg_succ (l : List UInt8) (la st K : Nat) : dg l la st (K + 1) = dg l la st K ++ [nib l (la + st * K)] := by simp [dg, List.range_succ]
theorem dg_take (l : List UInt8) (la st k K : Nat) (h : k ≤ K) : (dg l la st K).take k = dg l la st k := by
  unfold dg
  rw [← List.map_take, List.take_range, Nat.min_eq_left h]
theorem dg_get (l : List UInt8) (la st K i : Nat) (h : i < K) : (dg l la st K).getD i 0 = nib l (la + st * i) := by
  simp [dg, List.getD_eq_getElem?_getD, h]
/-! ### Numbers -/

/-- The character of a digit. -/
def chr (d : Fin 16) : UInt8 := UInt8.ofNat (48 + d.val)
theorem chr_nat (d : Fin 16) : (chr d).toNat = 48 + d.val := by
  unfold chr
  rw [UInt8.toNat_ofNat']
  have := d.isLt
  exact Nat.mod_eq_of_lt (by show _ < 256; omega)
/-- The digit of a character. -/
def dgt (c : UInt8) : Fin 16 := ⟨(c.toNat - 48) % 16, Nat.mod_lt _ (by decide)⟩
theorem dgt_chr (d : Fin 16) : dgt (chr d) = d := by
  apply Fin.ext
  show ((chr d).toNat - 48) % 16 = d.val
  rw [chr_nat]
  have := d.isLt
  omega
theorem dgt_nat {c : UInt8} (h : 48 ≤ c.toNat ∧ c.toNat ≤ 57) : (dgt c).val = c.toNat - 48 := by
  show (c.toNat - 48) % 16 = c.toNat - 48
  omega
/-- Is it the character of a digit? -/
def isD (c : UInt8) : Bool := decide (48 ≤ c.toNat ∧ c.toNat ≤ 57)
theorem isD_iff (c : UInt8) : isD c = true ↔ 48 ≤ c.toNat ∧ c.toNat ≤ 57 := by simp [isD]
/-- Are they the digits of a number? -/
def okL (l : List UInt8) : Bool := decide (1 ≤ l.length ∧ l.length ≤ 31 ∧ (1 < l.length → gt l 0 ≠ 48)) && l.all isD
theorem okL_iff (l : List UInt8) : okL l = true ↔ (1 ≤ l.length ∧ l.length ≤ 31 ∧ (1 < l.length → gt l 0 ≠ 48)) ∧ ∀ j, j < l.length → isD (gt l j) = true := by
  unfold okL
  rw [Bool.and_eq_true, decide_eq_true_eq, List.all_eq_true]
  refine and_congr_right fun _ => ⟨fun h j hj => ?_, fun h x hx => ?_⟩
  · rw [gt_lt hj]; exact h _ (List.getElem_mem hj)
  · obtain ⟨j, hj, rfl⟩ := List.getElem_of_mem hx
    rw [← gt_lt hj]; exact h j hj
/-- The digits of a number, the last one first. -/
def fg (l : List UInt8) : List (Fin 16) := (l.map dgt).reverse
theorem fg_len (l : List UInt8) : (fg l).length = l.length := by simp [fg]
/-- The characters of a number's digits, which come with the last one first, without zeros ahead. -/
def numL (ds : List (Fin 16)) : List UInt8 := if ((ds.reverse.map chr).dropWhile (· == 48)) = [] then [48] else (ds.reverse.map chr).dropWhile (· == 48)
end E
end Go.Proofs.YtbcncohjjnmdcaaGreatDoor
namespace Go.Proofs.YtbcncohjjnmdcaaGreatDoor
open Go.RowKit
set_option linter.unusedVariables false
namespace E

/-- The cells of bytes. -/
def bsU (l : List UInt8) : List Value := l.map fun b => .int .u8 (b.toNat : Int)
theorem bsU_len (l : List UInt8) : (bsU l).length = l.length := by simp [bsU]
theorem bsU_get (l : List UInt8) (j : Nat) (hj : j < l.length) : (bsU l)[j]? = some (.int .u8 ((gt l j).toNat : Int)) := by
  rw [gt_lt hj]
  simp [bsU, List.getElem?_eq_getElem hj]
theorem bsU_at {l : List UInt8} {j : Nat} {v : Value} (h : (bsU l)[j]? = some v) : j < l.length ∧ v = .int .u8 ((gt l j).toNat : Int) := by
  have hj : j < l.length := by
    have := (List.getElem?_eq_some_iff.1 h).1
    simpa [bsU] using this
  refine ⟨hj, ?_⟩
  rw [bsU_get l j hj] at h
  exact (Option.some.inj h).symm
theorem bsU_one (l : List UInt8) : ∀ v ∈ bsU l, v.oneCell' = true := by
  intro v hv
  obtain ⟨x, _, rfl⟩ := List.mem_map.1 hv
  rfl
theorem bsU_snoc (l : List UInt8) (x : UInt8) : bsU (l ++ [x]) = bsU l ++ [.int .u8 (x.toNat : Int)] := by simp [bsU]
theorem bsU_set (l : List UInt8) (i : Nat) (x : UInt8) : (bsU l).set i (.int .u8 (x.toNat : Int)) = bsU (l.set i x) := by simp [bsU, List.map_set]
/-- What is returned, and what lay stays as it lay. -/
def New (w : World) (r : Value) (e : Ending) (w' : World) : Prop := e = .returned r ∧ Below w.heap.size w w'
/-- A slice that starts at p and has the length of l reads as the bytes l. -/
def Rd (w : World) (p : Option Addr) (l : List UInt8) : Prop := l = [] ∨ ∃ B off, p = some ⟨B, off, none⟩ ∧ ∀ j, j < l.length → w.cell? ⟨B, off + j, none⟩ = some (.int .u8 ((gt l j).toNat : Int))
theorem Rd.below {w w' : World} {p : Option Addr} {l : List UInt8} (h : Rd w p l) (hb : Below w.heap.size w w') : Rd w' p l := by
  rcases h with h | ⟨B, off, hp, hc⟩
  · exact .inl h
  · refine .inr ⟨B, off, hp, fun j hj => ?_⟩
    have hj' := hc j hj
    rw [hb.cell (World.block_lt_of_cell? w _ hj')]; exact hj'
theorem below_new (w : World) (o : Obj) : Below w.heap.size w (w.alloc o) := (Below.refl _ w).alloc (Nat.le_refl _) o
theorem cell_newU (w : World) (l : List UInt8) (t : TypeId) (j : Nat) (hj : j < l.length) : (w.alloc (.cells (bsU l).toArray t)).cell? ⟨w.heap.size, j, none⟩ = some (.int .u8 ((gt l j).toNat : Int)) := by
  have h := bsU_get l j hj
  simp [go_sem, h]
theorem rd_new (w : World) (l : List UInt8) (t : TypeId) : Rd (w.alloc (.cells (bsU l).toArray t)) (some ⟨w.heap.size, 0, none⟩) l :=
  .inr ⟨_, _, rfl, fun j hj => by rw [Nat.zero_add]; exact cell_newU w l t j hj⟩
theorem belowDraw (w : World) (m : Nat) : Below w.heap.size w (w.drewN m) := by
  induction m with
  | zero => exact Below.refl _ _
  | succ m ih => exact ih.drew
theorem Rd.take {w : World} {p : Option Addr} {l : List UInt8} (h : Rd w p l) (k : Nat) : Rd w p (l.take k) := by
  rcases h with h | ⟨B, off, rfl, hc⟩
  · subst h; exact .inl (by simp)
  · refine .inr ⟨B, off, rfl, fun j hj => ?_⟩
    have hj' : j < l.length := by simp at hj; omega
    rw [hc j hj', gt_lt hj', gt_lt hj, List.getElem_take]
/-- A row of the call's own that holds bytes. -/
def Hold (w : World) (base : Nat) (sv : Value) (l : List UInt8) : Prop := w.ownsRow base 5 1 sv l.length (bsU l)
theorem Hold.full {w : World} {base : Nat} {sv : Value} {l : List UInt8} (h : Hold w base sv l) : ∃ p c, sv = .slice p l.length c ∧ Rd w p l ∧ l.length ≤ c ∧ c ≤ 9223372036854775807 ∧ (p = none → c = 0) := by
  have h' := h
  obtain ⟨_, h1 | ⟨g, cap, cur, hv, _, hh, hle, hm, hsz, ht⟩⟩ := h
  · obtain ⟨h2, h3⟩ := h1
    have hl : l.length = 0 := h3
    exact ⟨none, 0, by rw [h2, hl], .inl (List.length_eq_zero_iff.1 hl), by omega, by omega, fun _ => rfl⟩
  · subst hv
    refine ⟨_, _, rfl, .inr ⟨_, _, rfl, fun j hj => ?_⟩, hle, by unfold maxLen at hm; omega, fun hn => by cases hn⟩
    rw [Nat.zero_add, h'.cellAt j (by omega), bsU_get l j hj]
theorem Hold.rd {w : World} {base : Nat} {sv : Value} {l : List UInt8} (h : Hold w base sv l) : ∃ p c, sv = .slice p l.length c ∧ Rd w p l ∧ (l.length ≤ 9223372036854775807) := by
  obtain ⟨p, c, h1, h2, h3, h4, _⟩ := h.full
  exact ⟨p, c, h1, h2, by omega⟩
theorem own_kept {w w' : World} {t base n : Nat} {sv : Value} {xs : List Value} (h : w.ownsRow base t 1 sv n xs) (hb : Below w.heap.size w w') : w'.ownsRow base t 1 sv n xs := by
  obtain ⟨h0, h1 | ⟨g, cap, cur, hv, hg, hh, hle, hm, hsz, ht⟩⟩ := h
  · exact ⟨h0, .inl h1⟩
  · refine ⟨h0, .inr ⟨g, cap, cur, hv, hg, ?_, hle, hm, hsz, ht⟩⟩
    have hlt : g < w.heap.size := by
      rcases Nat.lt_or_ge g w.heap.size with h' | h'
      · exact h'
      · simp [Array.getElem?_eq_none h'] at hh
    rw [hb.block g hlt]
    exact hh
theorem Hold.kept {w w' : World} {base : Nat} {sv : Value} {l : List UInt8} (h : Hold w base sv l) (hb : Below w.heap.size w w') : Hold w' base sv l := own_kept h hb
theorem Hold.base {w : World} {b1 b2 : Nat} {sv : Value} {l : List UInt8} (h : Hold w b1 sv l) (hb : b2 ≤ b1) : Hold w b2 sv l := by
  obtain ⟨h0, h1 | ⟨g, cap, cur, hv, hg, hr⟩⟩ := h
  · exact ⟨h0, .inl h1⟩
  · exact ⟨h0, .inr ⟨g, cap, cur, hv, Nat.le_trans hb hg, hr⟩⟩
theorem info5 : (Tryz.prog.info? 5).map (fun i => (i.zero, i.size, i.bytes)) = some (some (.int .u8 0), 1, 1) := by kernel_rfl
/-- The bytes of a string. -/
theorem str_at (s : ByteArray) (k : Nat) (h : k < s.size) : s[k] = gt s.data.toList k := by
  have h' : k < s.data.toList.length := h
  rw [gt_lt h']
  rfl
theorem take_one {l : List UInt8} {k : Nat} (h : k < l.length) : l.take (k + 1) = l.take k ++ [gt l k] := by
  rw [List.take_succ_eq_append_getElem h, gt_lt h]
theorem cellNew (w : World) (v : Value) (t : TypeId) : ∀ j u, [v][j]? = some u → (w.alloc (.cells #[v] t)).cell? ((⟨w.heap.size, 0, none⟩ : Addr).add j) = some u := by
  intro j u h
  match j, h with
  | 0, h => simp at h; subst h; simp [Addr.add, go_sem]

/-- string(b) is the bytes of b. -/
theorem conv_rd {w : World} {p : Option Addr} {c : Nat} {l : List UInt8} (h : Rd w p l) :
    (Go.convert 31 9 (.slice p l.length c)).run Tryz.prog w = .ok (.string ⟨l.toArray⟩) w := by
  rcases h with h0 | ⟨B, off, rfl, hc⟩
  · subst h0
    cases p with
    | none =>
      rw [run_convert_bytes_string w 31 9 5 none _ _ Tryz.underlying31 Tryz.underlying5 Tryz.underlying9]
      simp [Conv.bytesToString]
      rfl
    | some a => exact run_convert_bytes_back w 31 9 5 _ _ [] Tryz.underlying31 Tryz.underlying5 Tryz.underlying9 (fun j hj => by simp at hj)
  · refine run_convert_bytes_back w 31 9 5 _ _ _ Tryz.underlying31 Tryz.underlying5 Tryz.underlying9 (fun j hj => ?_)
    have h2 := hc j hj
    rw [gt_lt hj] at h2
    by_cases h0 : j = 0
    · subst h0; simpa [Addr.add] using h2
    · simpa [Addr.add, h0] using h2

/-- A block of new memory, from base on, whose first cells hold the bytes l. -/
def Blk (w : World) (base g : Nat) (l : List UInt8) : Prop := base ≤ g ∧ ∃ cur : Array Value, w.heap[g]? = some (.cells cur 5 (0, 0)) ∧ cur.toList.take l.length = bsU l
theorem Blk.cell {w : World} {base g : Nat} {l : List UInt8} (h : Blk w base g l) (j : Nat) (hj : j < l.length) : w.cell? ⟨g, j, none⟩ = some (.int .u8 ((gt l j).toNat : Int)) := by
  obtain ⟨_, cur, hg, ht⟩ := h
  rw [cell_of_row w g j cur _ (0, 0) hg, ← bsU_get l j hj, ← ht, List.getElem?_take, if_pos hj]
  simp
theorem Blk.frozen {w : World} {base g : Nat} {l : List UInt8} (h : Blk w base g l) (j : Nat) : w.frozen? ⟨g, j, none⟩ = false := by
  obtain ⟨_, cur, hg, _⟩ := h
  exact frozen_of_row w g j cur _ hg
theorem Blk.lt {w : World} {base g : Nat} {l : List UInt8} (h : Blk w base g l) : g < w.heap.size := by
  obtain ⟨_, cur, hg, _⟩ := h
  exact (Array.getElem?_eq_some_iff.1 hg).1
theorem Blk.stored {w : World} {base g : Nat} {l : List UInt8} (h : Blk w base g l) (j : Nat) (x : UInt8) :
    Blk (w.setCell ⟨g, j, none⟩ (.int .u8 (x.toNat : Int))) base g (l.set j x) ∧ w.grownBy (w.setCell ⟨g, j, none⟩ (.int .u8 (x.toNat : Int))) (some g) := by
  obtain ⟨hb, cur, hg, ht⟩ := h
  refine ⟨⟨hb, _, heap_setCell_same w g j cur _ _ hg, ?_⟩, ⟨rfl, rfl, rfl, by simp, fun k _ hk => heap_setCell_other w ⟨g, j, none⟩ k _ (fun e => hk (by simp [e]))⟩⟩
  rw [Array.toList_setIfInBounds, List.length_set, ← bsU_set, ← ht, List.take_set]
theorem Blk.kept {w w' : World} {row : Option Nat} {base g : Nat} {l : List UInt8} (h : Blk w base g l) (hg : w.grownBy w' row) (hne : some g ≠ row) : Blk w' base g l :=
  ⟨h.1, h.2.imp fun _ hc => ⟨(hg.block g h.lt hne).trans hc.1, hc.2⟩⟩
theorem Blk.below {w w' : World} {base g : Nat} {l : List UInt8} (h : Blk w base g l) (hb : Below w.heap.size w w') : Blk w' base g l :=
  ⟨h.1, h.2.imp fun _ hc => ⟨(hb.block g h.lt).trans hc.1, hc.2⟩⟩
theorem Blk.rd {w : World} {base g : Nat} {l : List UInt8} (h : Blk w base g l) : Rd w (some ⟨g, 0, none⟩) l := .inr ⟨_, _, rfl, fun j hj => by rw [Nat.zero_add]; exact h.cell j hj⟩
theorem Blk.base' {w : World} {b1 b2 g : Nat} {l : List UInt8} (h : Blk w b1 g l) (hb : b2 ≤ b1) : Blk w b2 g l := ⟨Nat.le_trans hb h.1, h.2⟩

/-! ### Digits -/

theorem and15 (x : UInt8) : bits .and .u8 (x.toNat : Int) 15 = ((lo x).val : Int) := all256 (p := fun x => bits .and .u8 (x.toNat : Int) 15 = ((lo x).val : Int)) (by decide +kernel) x
theorem shr4 (x : UInt8) : bits .and .u8 ((x.toNat : Int) / 16) 15 = ((hi x).val : Int) := all256 (p := fun x => bits .and .u8 ((x.toNat : Int) / 16) 15 = ((hi x).val : Int)) (by decide +kernel) x

end E
end Go.Proofs.YtbcncohjjnmdcaaGreatDoor
namespace Go.Proofs.YtbcncohjjnmdcaaGreatDoor
open Go.RowKit
set_option linter.unusedVariables false
namespace E

theorem bel0 {w W W' : World} (h : Below w.heap.size w W) (hb : Below W.heap.size W W') : Below w.heap.size w W' := h.trans (hb.mono h.size)
theorem below2 (w : World) (a b : Obj) : Below w.heap.size w ((w.alloc a).alloc b) := bel0 (below_new w a) (below_new _ b)
/-- A block of cells. -/
def Bx (w : World) (g : Nat) (t : TypeId) (cs : Array Value) : Prop := w.heap[g]? = some (.cells cs t (0, 0))
theorem Bx.lt {w : World} {g : Nat} {t : TypeId} {cs : Array Value} (h : Bx w g t cs) : g < w.heap.size := (Array.getElem?_eq_some_iff.1 h).1
theorem Bx.cell {w : World} {g : Nat} {t : TypeId} {cs : Array Value} (h : Bx w g t cs) (i : Nat) : w.cell? ⟨g, i, none⟩ = cs[i]? := cell_of_row w g i cs t (0, 0) h
theorem Bx.frozen {w : World} {g : Nat} {t : TypeId} {cs : Array Value} (h : Bx w g t cs) (i : Nat) : w.frozen? ⟨g, i, none⟩ = false := frozen_of_row w g i cs _ h
theorem Bx.new (w : World) (t : TypeId) (cs : Array Value) : Bx (w.alloc (.cells cs t)) w.heap.size t cs := heap_alloc_new w _
theorem Bx.below {w w' : World} {g : Nat} {t : TypeId} {cs : Array Value} (h : Bx w g t cs) (hb : Below w.heap.size w w') : Bx w' g t cs := (hb.block g h.lt).trans h
theorem Bx.set {w : World} {g : Nat} {t : TypeId} {cs : Array Value} (h : Bx w g t cs) (i : Nat) (u : Value) : Bx (w.setCell ⟨g, i, none⟩ u) g t (cs.setIfInBounds i u) := heap_setCell_same w g i cs _ _ h
theorem Bx.far {w : World} {g : Nat} {t : TypeId} {cs : Array Value} (h : Bx w g t cs) {p : Addr} (hp : p.block ≠ g) (u : Value) : Bx (w.setCell p u) g t cs := (heap_setCell_other w p g _ (fun e => hp e.symm)).trans h
theorem Bx.grown {w w' : World} {g : Nat} {row : Option Nat} {t : TypeId} {cs : Array Value} (h : Bx w g t cs) (hg : w.grownBy w' row) (hne : some g ≠ row) : Bx w' g t cs := (hg.block g h.lt hne).trans h
theorem Bx.bel {w w' : World} {g B : Nat} {t : TypeId} {cs : Array Value} (h : Bx w g t cs) (hb : Below B w w') (hg : g < B) : Bx w' g t cs := (hb.block g hg).trans h
/-- A slice that reads as a list and may be cut. -/
def SvB (W : World) (sv : Value) (l : List UInt8) : Prop := ∃ p c, sv = .slice p l.length c ∧ Rd W p l ∧ l.length ≤ c ∧ c ≤ 9223372036854775807 ∧ (p = none → c = 0)
theorem SvB.below {w w' : World} {sv : Value} {l : List UInt8} (h : SvB w sv l) (hb : Below w.heap.size w w') : SvB w' sv l := by
  obtain ⟨p, c, h1, h2, h3⟩ := h
  exact ⟨p, c, h1, h2.below hb, h3⟩
theorem SvB.nil (W : World) : SvB W (.slice none 0 0) [] := ⟨none, 0, rfl, .inl rfl, Nat.le_refl _, by omega, fun _ => rfl⟩
theorem Hold.svb {w : World} {base : Nat} {sv : Value} {l : List UInt8} (h : Hold w base sv l) : SvB w sv l := by
  obtain ⟨p, c, h1, h2, h3⟩ := h.full
  exact ⟨p, c, h1, h2, h3⟩
theorem svb_new (w : World) (l : List UInt8) (hl : l.length ≤ 1000) : SvB (w.alloc (.cells (bsU l).toArray 5)) (.slice (some ⟨w.heap.size, 0, none⟩) l.length l.length) l := ⟨_, _, rfl, rd_new w l _, Nat.le_refl _, by omega, fun h => by cases h⟩
/-! ### The map of the control bytes -/

/-- A block that is a map. -/
def Mp (w : World) (g : Nat) (es : Array MapEntry) (c : Nat) : Prop := w.heap[g]? = some (.map es c)
theorem Mp.lt {w : World} {g : Nat} {es : Array MapEntry} {c : Nat} (h : Mp w g es c) : g < w.heap.size := (Array.getElem?_eq_some_iff.1 h).1
theorem Mp.below {w w' : World} {g : Nat} {es : Array MapEntry} {c : Nat} (h : Mp w g es c) (hb : Below w.heap.size w w') : Mp w' g es c := (hb.block g h.lt).trans h
theorem Mp.bel {w w' : World} {g B : Nat} {es : Array MapEntry} {c : Nat} (h : Mp w g es c) (hb : Below B w w') (hg : g < B) : Mp w' g es c := (hb.block g hg).trans h
def mpPut (w : World) (g : Nat) (o : Obj) : World := { w with heap := w.heap.setIfInBounds g o }
theorem mpPut_at {w : World} {g : Nat} (hg : g < w.heap.size) (es : Array MapEntry) (c : Nat) : Mp (mpPut w g (.map es c)) g es c := by
  show (w.heap.setIfInBounds g _)[g]? = _
  simp [hg]
theorem mpPut_below {w W : World} {B g : Nat} {o : Obj} (h : Below B w W) (hg : B ≤ g) : Below B w (mpPut W g o) :=
  h.trans ⟨rfl, rfl, rfl, by simp [mpPut], fun k hk => by show (W.heap.setIfInBounds g o)[k]? = _; rw [Array.getElem?_setIfInBounds_ne (by omega)]⟩
end E
end Go.Proofs.YtbcncohjjnmdcaaGreatDoor

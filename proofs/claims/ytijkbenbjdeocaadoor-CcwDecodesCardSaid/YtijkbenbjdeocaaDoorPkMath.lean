/- Digits of four bits, fields of them, and numbers, as plain lists: what the chapter asks of each function, and that it is one list. -/
import Derived.Test.YtijkbenbjdeocaaDoorRows
import Derived.WalkKit
import Derived.ProofKit
import Derived.Lib.Hide
namespace Go.Proofs.YtijkbenbjdeocaaDoor
open Go.RowKit
set_option linter.unusedVariables false
namespace E

/-- The byte at a place of a list. -/
def gt (l : List UInt8) (j : Nat) : UInt8 := l.getD j 0
theorem gt_lt {l : List UInt8} {j : Nat} (h : j < l.length) : gt l j = l[j] := by simp [gt, List.getD_eq_getElem?_getD, List.getElem?_eq_getElem h]
theorem all256 {p : UInt8 → Prop} (h : ∀ n : Nat, n < 256 → p (UInt8.ofNat n)) (x : UInt8) : p x := by
  have := h x.toNat x.toNat_lt
  rwa [UInt8.ofNat_toNat] at this
theorem u8_wf {v : Int} (h : (Lit.int .u8 v).wf = true) : 0 ≤ v ∧ v < 256 := by
  simp [Lit.wf, IntKind.min, IntKind.max, IntKind.bits, IntKind.signed] at h; omega
theorem i64_wf {v : Int} (h : (Lit.int .i64 v).wf = true) : -9223372036854775808 ≤ v ∧ v < 9223372036854775808 := by
  simp [Lit.wf, IntKind.min, IntKind.max, IntKind.bits, IntKind.signed] at h; omega
theorem u8_of {a : Int} (h : (Lit.int .u8 a).wf = true) : ∃ x : UInt8, a = (x.toNat : Int) := by
  obtain ⟨h0, h1⟩ := u8_wf h
  refine ⟨UInt8.ofNat a.toNat, ?_⟩
  have h2 : (UInt8.ofNat a.toNat).toNat = a.toNat := by
    rw [UInt8.toNat_ofNat']
    exact Nat.mod_eq_of_lt (by show a.toNat < 256; omega)
  omega

/-! ### Digits of four bits -/

/-- The low digit of a byte. -/
def lo (x : UInt8) : Fin 16 := ⟨x.toNat % 16, Nat.mod_lt _ (by decide)⟩
/-- The high digit of a byte. -/
def hi (x : UInt8) : Fin 16 := ⟨x.toNat / 16, by have := x.toNat_lt; omega⟩
/-- The byte of two digits. -/
def mk (h l : Fin 16) : UInt8 := UInt8.ofNat (16 * h.val + l.val)
theorem mk_nat (h l : Fin 16) : (mk h l).toNat = 16 * h.val + l.val := by
  unfold mk
  rw [UInt8.toNat_ofNat']
  have := h.isLt
  have := l.isLt
  exact Nat.mod_eq_of_lt (by show _ < 256; omega)
theorem lo_mk (h l : Fin 16) : lo (mk h l) = l := by
  apply Fin.ext
  show (mk h l).toNat % 16 = l.val
  rw [mk_nat]
  have := l.isLt
  omega
theorem hi_mk (h l : Fin 16) : hi (mk h l) = h := by
  apply Fin.ext
  show (mk h l).toNat / 16 = h.val
  rw [mk_nat]
  have := l.isLt
  omega
theorem mk_hl (x : UInt8) : mk (hi x) (lo x) = x := by
  apply UInt8.toNat_inj.1
  rw [mk_nat]
  show 16 * (x.toNat / 16) + x.toNat % 16 = x.toNat
  omega
/-- The digit at a place, counted from the right. -/
def nib (l : List UInt8) (p : Nat) : Fin 16 := if p % 2 = 0 then lo (gt l (l.length - 1 - p / 2)) else hi (gt l (l.length - 1 - p / 2))
/-- A digit put at a place. -/
def setD (l : List UInt8) (p : Nat) (d : Fin 16) : List UInt8 :=
  l.set (l.length - 1 - p / 2) (if p % 2 = 0 then mk (hi (gt l (l.length - 1 - p / 2))) d else mk d (lo (gt l (l.length - 1 - p / 2))))
theorem setD_len (l : List UInt8) (p : Nat) (d : Fin 16) : (setD l p d).length = l.length := by simp [setD]
theorem gt_set (l : List UInt8) (i j : Nat) (x : UInt8) (hi : i < l.length) : gt (l.set i x) j = if i = j then x else gt l j := by
  unfold gt
  rw [List.getD_eq_getElem?_getD, List.getD_eq_getElem?_getD, List.getElem?_set]
  by_cases h : i = j
  · subst h; simp [hi]
  · simp [h]
theorem nib_setD {l : List UInt8} {p q : Nat} {d : Fin 16} (hp : p < 2 * l.length) (hq : q < 2 * l.length) : nib (setD l p d) q = if q = p then d else nib l q := by
  unfold nib
  rw [setD_len]
  unfold setD
  rw [gt_set _ _ _ _ (by omega)]
  by_cases h : q = p
  · subst h
    by_cases h0 : q % 2 = 0
    · simp [h0, lo_mk]
    · simp [h0, hi_mk]
  · by_cases hb : l.length - 1 - p / 2 = l.length - 1 - q / 2
    · have hpq : p / 2 = q / 2 := by omega
      by_cases h0 : q % 2 = 0
      · have h1 : ¬ p % 2 = 0 := by omega
        simp [h, h0, h1, hpq, lo_mk]
      · have h1 : p % 2 = 0 := by omega
        simp [h, h0, h1, hpq, hi_mk]
    · simp [h, hb]
theorem nib_ext {l m : List UInt8} (hl : l.length = m.length) (h : ∀ p, p < 2 * l.length → nib l p = nib m p) : l = m := by
  refine List.ext_getElem hl fun i h1 h2 => ?_
  have ha := h (2 * (l.length - 1 - i)) (by omega)
  have hb := h (2 * (l.length - 1 - i) + 1) (by omega)
  unfold nib at ha hb
  rw [← hl] at ha hb
  rw [if_pos (by omega), if_pos (by omega), show l.length - 1 - 2 * (l.length - 1 - i) / 2 = i by omega] at ha
  rw [if_neg (by omega), if_neg (by omega), show l.length - 1 - (2 * (l.length - 1 - i) + 1) / 2 = i by omega] at hb
  rw [gt_lt h1, gt_lt h2] at ha hb
  rw [← mk_hl l[i], ← mk_hl m[i], ha, hb]
/-- The field of n bytes with the digit f p at each place p. -/
def ofNibs (n : Nat) (f : Nat → Fin 16) : List UInt8 := (List.range n).map fun i => mk (f (2 * (n - 1 - i) + 1)) (f (2 * (n - 1 - i)))
theorem ofNibs_len (n : Nat) (f : Nat → Fin 16) : (ofNibs n f).length = n := by simp [ofNibs]
theorem gt_ofNibs {n : Nat} {f : Nat → Fin 16} {i : Nat} (h : i < n) : gt (ofNibs n f) i = mk (f (2 * (n - 1 - i) + 1)) (f (2 * (n - 1 - i))) := by
  rw [gt_lt (by rw [ofNibs_len]; exact h)]
  simp [ofNibs]
theorem nib_ofNibs {n : Nat} {f : Nat → Fin 16} {p : Nat} (h : p < 2 * n) : nib (ofNibs n f) p = f p := by
  unfold nib
  rw [ofNibs_len, gt_ofNibs (by omega)]
  by_cases h0 : p % 2 = 0
  · rw [if_pos h0, lo_mk]
    congr 1; omega
  · rw [if_neg h0, hi_mk]
    congr 1; omega
theorem ofNibs_congr {n : Nat} {f g : Nat → Fin 16} (h : ∀ p, p < 2 * n → f p = g p) : ofNibs n f = ofNibs n g :=
  nib_ext (by rw [ofNibs_len, ofNibs_len]) fun p hp => by
    rw [ofNibs_len] at hp
    rw [nib_ofNibs hp, nib_ofNibs hp, h p hp]
theorem of_nib {l : List UInt8} {n : Nat} {f : Nat → Fin 16} (hl : l.length = n) (h : ∀ p, p < 2 * n → nib l p = f p) : l = ofNibs n f :=
  nib_ext (by rw [ofNibs_len]; exact hl) fun p hp => by rw [h p (by omega), nib_ofNibs (by omega)]

/-! ### Writing digits one after another -/

/-- Digits put at the place la and at each st places further left. -/
def wr (L : List UInt8) (la st : Nat) : List (Fin 16) → List UInt8
  | [] => L
  | d :: ds => wr (setD L la d) (la + st) st ds
theorem wr_snoc (L : List UInt8) (la st : Nat) (ds : List (Fin 16)) (d : Fin 16) : wr L la st (ds ++ [d]) = setD (wr L la st ds) (la + st * ds.length) d := by
  induction ds generalizing L la with
  | nil => simp [wr]
  | cons x ds ih => simp only [List.cons_append, wr, ih, List.length_cons]; congr 1; rw [Nat.mul_add]; omega
theorem wr_len (L : List UInt8) (la st : Nat) (ds : List (Fin 16)) : (wr L la st ds).length = L.length := by
  induction ds generalizing L la with
  | nil => rfl
  | cons x ds ih => simp only [wr, ih, setD_len]
theorem nib_wr_not (L : List UInt8) (la st : Nat) (ds : List (Fin 16)) (q : Nat) (hst : 0 < st) (hfit : ∀ j, j < ds.length → la + st * j < 2 * L.length) (hq : q < 2 * L.length)
    (hn : ∀ j, j < ds.length → q ≠ la + st * j) : nib (wr L la st ds) q = nib L q := by
  induction ds generalizing L la with
  | nil => rfl
  | cons x ds ih =>
    have h0 := hfit 0 (by simp)
    have e : ∀ j, la + st + st * j = la + st * (j + 1) := fun j => by rw [Nat.mul_add]; omega
    simp only [wr]
    rw [ih (setD L la x) (la + st) (fun j hj => by rw [setD_len, e]; exact hfit (j + 1) (by simpa using hj)) (by rw [setD_len]; exact hq) (fun j hj => by rw [e]; exact hn (j + 1) (by simpa using hj)),
      nib_setD (by simpa using h0) hq, if_neg (by simpa using hn 0 (by simp))]
theorem nib_wr (L : List UInt8) (la st : Nat) (ds : List (Fin 16)) (hst : 0 < st) (hfit : ∀ j, j < ds.length → la + st * j < 2 * L.length) (j : Nat) (hj : j < ds.length) : nib (wr L la st ds) (la + st * j) = ds.getD j 0 := by
  induction ds generalizing L la j with
  | nil => simp at hj
  | cons x ds ih =>
    have h0 := hfit 0 (by simp)
    have e : ∀ j, la + st + st * j = la + st * (j + 1) := fun j => by rw [Nat.mul_add]; omega
    have hf : ∀ j, j < ds.length → la + st + st * j < 2 * (setD L la x).length := fun j hj => by rw [setD_len, e]; exact hfit (j + 1) (by simpa using hj)
    simp only [wr]
    cases j with
    | zero =>
      rw [nib_wr_not (setD L la x) (la + st) st ds (la + st * 0) hst hf (by rw [setD_len]; exact h0) (fun j hj => by omega), nib_setD (by simpa using h0) h0, if_pos (by simp)]
      rfl
    | succ j =>
      rw [← e, ih (setD L la x) (la + st) hf j (by simpa using hj)]
      rfl
/-- What a field has at each place: the sign at sp, the digits from la on, else what the empty byte has. -/
def oF (sp la st : Nat) (em : UInt8) (s : Fin 16) (ds : List (Fin 16)) (p : Nat) : Fin 16 :=
  if p = sp then s else if la ≤ p ∧ (p - la) % st = 0 ∧ (p - la) / st < ds.length then ds.getD ((p - la) / st) 0 else if p % 2 = 0 then lo em else hi em
/-- The field of n bytes of a format. -/
def outL (n sp la st : Nat) (em : UInt8) (s : Fin 16) (ds : List (Fin 16)) : List UInt8 := ofNibs n (oF sp la st em s ds)
theorem outL_len (n sp la st : Nat) (em : UInt8) (s : Fin 16) (ds : List (Fin 16)) : (outL n sp la st em s ds).length = n := ofNibs_len _ _
theorem nib_rep (n : Nat) (em : UInt8) (p : Nat) (h : p < 2 * n) : nib (List.replicate n em) p = if p % 2 = 0 then lo em else hi em := by
  unfold nib
  rw [gt_lt (by simp; omega)]
  simp
theorem wr_out (n sp la st : Nat) (em : UInt8) (s : Fin 16) (ds : List (Fin 16)) (k : Nat) (hst : 0 < st) (hsp : sp < 2 * n) (hne : ∀ j, sp ≠ la + st * j)
    (hk : k ≤ ds.length) (hfit : ∀ j, j < k → la + st * j < 2 * n) (hend : k = ds.length ∨ 2 * n ≤ la + st * k) :
    wr (setD (List.replicate n em) sp s) la st (ds.take k) = outL n sp la st em s ds := by
  have hl : (setD (List.replicate n em) sp s).length = n := by rw [setD_len]; simp
  have htk : (ds.take k).length = k := by simp; omega
  refine of_nib (by rw [wr_len, hl]) fun p hp => ?_
  have hf : ∀ j, j < (ds.take k).length → la + st * j < 2 * (setD (List.replicate n em) sp s).length := fun j hj => by rw [hl]; exact hfit j (by omega)
  unfold oF
  by_cases h1 : p = sp
  · subst h1
    rw [if_pos rfl, nib_wr_not _ _ _ _ _ hst hf (by omega) (fun j _ => hne j), nib_setD (by simpa using hsp) (by simpa using hsp), if_pos rfl]
  rw [if_neg h1]
  by_cases h2 : la ≤ p ∧ (p - la) % st = 0 ∧ (p - la) / st < ds.length
  · rw [if_pos h2]
    obtain ⟨ha, hb, hc⟩ := h2
    have hd := Nat.div_add_mod (p - la) st
    rw [hb, Nat.add_zero] at hd
    generalize (p - la) / st = j at *
    have hpj : p = la + st * j := by omega
    have hjk : j < k := by
      rcases hend with he | he
      · omega
      · rcases Nat.lt_or_ge j k with h | h
        · exact h
        · have := Nat.mul_le_mul_left st h
          omega
    rw [hpj, nib_wr _ _ _ _ hst hf j (by omega)]
    simp [List.getD_eq_getElem?_getD, hjk]
  · rw [if_neg h2, nib_wr_not _ _ _ _ _ hst hf (by omega) (fun j hj he => h2 ?_), nib_setD (by simpa using hsp) (by simpa using hp), if_neg h1, nib_rep _ _ _ hp]
    subst he
    rw [Nat.add_sub_cancel_left, Nat.mul_mod_right, Nat.mul_div_cancel_left _ hst]
    exact ⟨by omega, rfl, by omega⟩
/-- The digits of a field, from the place la on, K of them. -/
def dg (l : List UInt8) (la st K : Nat) : List (Fin 16) := (List.range K).map fun i => nib l (la + st * i)
theorem dg_len (l : List UInt8) (la st K : Nat) : (dg l la st K).length = K := by simp [dg]
theorem dg_succ (l : List UInt8) (la st K : Nat) : dg l la st (K + 1) = dg l la st K ++ [nib l (la + st * K)] := by simp [dg, List.range_succ]
theorem dg_take (l : List UInt8) (la st k K : Nat) (h : k ≤ K) : (dg l la st K).take k = dg l la st k := by
  unfold dg
  rw [← List.map_take, List.take_range, Nat.min_eq_left h]
theorem dg_get (l : List UInt8) (la st K i : Nat) (h : i < K) : (dg l la st K).getD i 0 = nib l (la + st * i) := by
  simp [dg, List.getD_eq_getElem?_getD, h]
theorem dg_get_not (l : List UInt8) (la st K i : Nat) (h : K ≤ i) : (dg l la st K).getD i 0 = 0 := by
  rw [List.getD_eq_getElem?_getD, List.getElem?_eq_none (by rw [dg_len]; exact h)]
  rfl

/-! ### Numbers -/

/-- The character of a digit. -/
def chr (d : Fin 16) : UInt8 := UInt8.ofNat (48 + d.val)
theorem chr_nat (d : Fin 16) : (chr d).toNat = 48 + d.val := by
  unfold chr
  rw [UInt8.toNat_ofNat']
  have := d.isLt
  exact Nat.mod_eq_of_lt (by show _ < 256; omega)
/-- The digit of a character. -/
def dgt (c : UInt8) : Fin 16 := ⟨(c.toNat - 48) % 16, Nat.mod_lt _ (by decide)⟩
theorem dgt_chr (d : Fin 16) : dgt (chr d) = d := by
  apply Fin.ext
  show ((chr d).toNat - 48) % 16 = d.val
  rw [chr_nat]
  have := d.isLt
  omega
theorem chr_dgt {c : UInt8} (h : 48 ≤ c.toNat ∧ c.toNat ≤ 57) : chr (dgt c) = c := by
  apply UInt8.toNat_inj.1
  rw [chr_nat]
  show 48 + (c.toNat - 48) % 16 = c.toNat
  omega
theorem dgt_nat {c : UInt8} (h : 48 ≤ c.toNat ∧ c.toNat ≤ 57) : (dgt c).val = c.toNat - 48 := by
  show (c.toNat - 48) % 16 = c.toNat - 48
  omega
/-- Is it the character of a digit? -/
def isD (c : UInt8) : Bool := decide (48 ≤ c.toNat ∧ c.toNat ≤ 57)
theorem isD_iff (c : UInt8) : isD c = true ↔ 48 ≤ c.toNat ∧ c.toNat ≤ 57 := by simp [isD]
/-- Are they the digits of a number? -/
def okL (l : List UInt8) : Bool := decide (1 ≤ l.length ∧ l.length ≤ 31 ∧ (1 < l.length → gt l 0 ≠ 48)) && l.all isD
theorem okL_iff (l : List UInt8) : okL l = true ↔ (1 ≤ l.length ∧ l.length ≤ 31 ∧ (1 < l.length → gt l 0 ≠ 48)) ∧ ∀ j, j < l.length → isD (gt l j) = true := by
  unfold okL
  rw [Bool.and_eq_true, decide_eq_true_eq, List.all_eq_true]
  refine and_congr_right fun _ => ⟨fun h j hj => ?_, fun h x hx => ?_⟩
  · rw [gt_lt hj]; exact h _ (List.getElem_mem hj)
  · obtain ⟨j, hj, rfl⟩ := List.getElem_of_mem hx
    rw [← gt_lt hj]; exact h j hj
/-- The digits of a number, the last one first. -/
def fg (l : List UInt8) : List (Fin 16) := (l.map dgt).reverse
theorem fg_len (l : List UInt8) : (fg l).length = l.length := by simp [fg]
/-- The characters of a number's digits, which come with the last one first, without zeros ahead. -/
def numL (ds : List (Fin 16)) : List UInt8 := if ((ds.reverse.map chr).dropWhile (· == 48)) = [] then [48] else (ds.reverse.map chr).dropWhile (· == 48)
/-- One digit more behind a number. -/
def ac (s : List UInt8) (c : UInt8) : List UInt8 := (if s = [48] then [] else s) ++ [c]
theorem ac_fold_ne (s l : List UInt8) (hs : s ≠ []) (h0 : s ≠ [48]) : l.foldl ac s = s ++ l := by
  induction l generalizing s with
  | nil => simp
  | cons c l ih =>
    have e : ac s c = s ++ [c] := by simp [ac, h0]
    rw [List.foldl_cons, e, ih (s ++ [c]) (by simp) ?_]
    · simp
    · intro hh
      have := congrArg List.length hh
      simp at this
      exact hs this
theorem ac_fold_zero (l : List UInt8) : l.foldl ac [48] = if l.dropWhile (· == 48) = [] then [48] else l.dropWhile (· == 48) := by
  induction l with
  | nil => simp
  | cons c l ih =>
    have e : ac [48] c = [c] := by simp [ac]
    rw [List.foldl_cons, e]
    by_cases h : c = 48
    · subst h
      rw [ih]
      simp
    · rw [ac_fold_ne [c] l (by simp) (by simpa using h)]
      simp [h]
theorem ac_fold (l : List UInt8) (h : l ≠ []) : l.foldl ac [] = if l.dropWhile (· == 48) = [] then [48] else l.dropWhile (· == 48) := by
  cases l with
  | nil => exact absurd rfl h
  | cons c l =>
    rw [List.foldl_cons]
    have e : ac [] c = [c] := by simp [ac]
    rw [e]
    by_cases hc : c = 48
    · subst hc
      rw [ac_fold_zero]
      simp
    · rw [ac_fold_ne [c] l (by simp) (by simpa using hc)]
      simp [hc]
/-- A number of at most 31 digits out of bytes. -/
def nmL (l : List UInt8) : List UInt8 := if (((l.take 31).map fun x => UInt8.ofNat (48 + x.toNat % 10)).foldl ac []) = [] then [48] else ((l.take 31).map fun x => UInt8.ofNat (48 + x.toNat % 10)).foldl ac []

end E
end Go.Proofs.YtijkbenbjdeocaaDoor

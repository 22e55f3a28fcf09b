/- Numbers as the statements give them: their digits, their packed bytes, their patterns and texts; what editing makes of them. Pure. -/
import Derived.Test.YtbcncohjjnmdcaaGreatDoorRows
import Derived.Test.YtbcncohjjnmdcaaGreatDoorEdA
namespace Go.Proofs.YtbcncohjjnmdcaaGreatDoor
set_option linter.unusedVariables false
namespace E

/-- Bytes of pairs of half bytes. -/
def pairs : List Nat → List UInt8
  | a :: b :: r => UInt8.ofNat (16 * a + b) :: pairs r
  | _ => []
/-- The digits of a number with its sign (1 plus, 2 minus). -/
def edSeq (s : Nat) : List Nat → List ED
  | [] => []
  | [a] => [⟨a, s, false⟩]
  | a :: b :: r => ⟨a, 0, false⟩ :: edSeq s (b :: r)
def sgH (neg : Bool) : Nat := if neg then 13 else 12
def sgN (neg : Bool) : Nat := if neg then 2 else 1
theorem byte_nat {a b : Nat} (ha : a ≤ 9) (hb : b ≤ 15) : (UInt8.ofNat (16 * a + b)).toNat = 16 * a + b := by
  rw [UInt8.toNat_ofNat']
  exact Nat.mod_eq_of_lt (by show _ < 256; omega)
theorem edL_pairs (neg : Bool) (rest : List UInt8) : ∀ (n : Nat) (d : List Nat), d.length = 2 * n + 1 → (∀ a ∈ d, a ≤ 9) → edL (pairs (d ++ [sgH neg]) ++ rest) = edSeq (sgN neg) d ++ edL rest
  | 0, d, h, h9 => by
    match d, h with
    | [a], _ =>
      have ha := h9 a (by simp)
      have hb : sgH neg ≤ 15 ∧ ¬ sgH neg ≤ 9 := by unfold sgH; split <;> omega
      have hx := byte_nat (a := a) (b := sgH neg) ha hb.1
      show edL (UInt8.ofNat (16 * a + sgH neg) :: rest) = _
      rw [edL]
      unfold edB
      rw [hx, if_neg (by omega), if_neg (by omega), show (16 * a + sgH neg) % 16 = sgH neg by omega, if_neg hb.2, show (16 * a + sgH neg) / 16 = a by omega]
      have hs : (if sgH neg = 11 ∨ sgH neg = 13 then 2 else 1) = sgN neg := by cases neg <;> rfl
      rw [hs]
      rfl
  | n + 1, d, h, h9 => by
    match d, h with
    | a :: b :: c :: r, h =>
      have ha := h9 a (by simp)
      have hb := h9 b (by simp)
      have hx := byte_nat (a := a) (b := b) ha (by omega)
      have ih := edL_pairs neg rest n (c :: r) (by simp at h ⊢; omega) (fun y hy => h9 y (by simp at hy ⊢; rcases hy with hy | hy <;> simp [hy]))
      show edL (UInt8.ofNat (16 * a + b) :: (pairs (c :: r ++ [sgH neg]) ++ rest)) = _
      rw [edL, ih]
      unfold edB
      rw [hx, if_neg (by omega), if_neg (by omega), show (16 * a + b) % 16 = b by omega, if_pos hb, show (16 * a + b) / 16 = a by omega]
      rfl
/-- The Selects of a number, one of which may be a Start. -/
def selP (K : Int) : Nat → List Nat → List UInt8
  | _, [] => []
  | i, _ :: r => (if (i : Int) = K then 33 else 32) :: selP K (i + 1) r
/-- Digits shown from an index on. -/
def txD (fill : UInt8) (f : Nat) : Nat → List Nat → List UInt8
  | _, [] => []
  | i, a :: r => (if f ≤ i then UInt8.ofNat (240 + a) else fill) :: txD fill f (i + 1) r
/-- The number of leading zeros. -/
def zN : List Nat → Nat
  | [] => 0
  | a :: r => if 0 < a then 0 else zN r + 1
def onF (K : Int) : Bool → Nat → List Nat → Bool
  | on, _, [] => on
  | on, i, a :: r => onF K (on || decide (0 < a) || decide ((i : Int) = K)) (i + 1) r
def txF (fill : UInt8) (K : Int) : Bool → Nat → List Nat → List UInt8
  | _, _, [] => []
  | on, i, a :: r => (if on || decide (0 < a) then UInt8.ofNat (240 + a) else fill) :: txF fill K (on || decide (0 < a) || decide ((i : Int) = K)) (i + 1) r
def mkF (K : Int) : Bool → Nat → Nat → Int → List Nat → Int
  | _, _, _, mk, [] => mk
  | on, i, x, mk, a :: r => mkF K (on || decide (0 < a) || decide ((i : Int) = K)) (i + 1) (x + 1) (if !on && decide (0 < a) then (x : Int) else mk) r
theorem bool_sel (i : Nat) (K : Int) : (((if (i : Int) = K then 33 else 32 : UInt8)) == 33) = decide ((i : Int) = K) := by
  by_cases h : (i : Int) = K
  · rw [if_pos h]; simp [h]
  · rw [if_neg h]; simp [h]
theorem take_step {fill c : UInt8} {L D : List ED} {d : ED} {i : Nat} {s : ES} (hc : c = 32 ∨ c = 33) (hb : d.bad = false) (h : L.drop s.next = d :: D) : edStep fill L i c s = (0, edOne fill i c s d) := by
  have hn : s.next < L.length := by
    rcases Nat.lt_or_ge s.next L.length with h1 | h1
    · exact h1
    · rw [List.drop_eq_nil_of_le h1] at h
      cases h
  have hd : L[s.next] = d := by
    rw [List.drop_eq_getElem_cons hn] at h
    exact (List.cons.inj h).1
  unfold edStep
  rw [if_neg (by rcases hc with rfl | rfl <;> decide), if_neg (by rcases hc with rfl | rfl <;> decide), dif_pos hn, hd, if_neg (by rw [hb]; simp)]
theorem drop_succ' {L D : List ED} {d : ED} {k : Nat} (h : L.drop k = d :: D) : L.drop (k + 1) = D := by
  rw [← List.drop_drop, h]
  rfl
/-- The run over the Selects of a number. -/
theorem run_sel (fill : UInt8) (L R : List ED) (K : Int) (s : Nat) : ∀ (d : List Nat) (i x k : Nat) (on nz : Bool) (mk : Int) (text : List UInt8), d ≠ [] → L.drop k = edSeq s d ++ R →
    edRun fill L (selP K i d) x ⟨k, on, nz, mk, text⟩ = (0, ⟨k + d.length, onF K on i d && s != 1, nz || decide (zN d < d.length), mkF K on i x mk d, text ++ txF fill K on i d⟩)
  | [], _, _, _, _, _, _, _, h, _ => absurd rfl h
  | [a], i, x, k, on, nz, mk, text, _, hL => by
    have hc : (if (i : Int) = K then 33 else 32 : UInt8) = 32 ∨ (if (i : Int) = K then 33 else 32 : UInt8) = 33 := by split <;> simp
    have hst := take_step (fill := fill) (i := x) (s := ⟨k, on, nz, mk, text⟩) hc rfl hL
    rw [selP, run_cons, hst]
    show edRun fill L (selP K (i + 1) []) (x + 1) _ = _
    rw [selP]
    show (0, edOne _ _ _ _ _) = _
    unfold edOne
    rw [bool_sel]
    have hz : (nz || decide (zN [a] < [a].length)) = (nz || decide (0 < a)) := by
      by_cases h : 0 < a
      · simp [h, zN]
      · simp [h, zN]
    rw [hz]
    simp only [onF, mkF, txF, List.length_cons, List.length_nil]
  | a :: b :: r, i, x, k, on, nz, mk, text, _, hL => by
    have hc : (if (i : Int) = K then 33 else 32 : UInt8) = 32 ∨ (if (i : Int) = K then 33 else 32 : UInt8) = 33 := by split <;> simp
    have hL' : L.drop k = ⟨a, 0, false⟩ :: (edSeq s (b :: r) ++ R) := hL
    have hst := take_step (fill := fill) (i := x) (s := ⟨k, on, nz, mk, text⟩) hc rfl hL'
    have hn := drop_succ' hL'
    rw [selP, run_cons, hst]
    show edRun fill L (selP K (i + 1) (b :: r)) (x + 1) (edOne _ _ _ _ _) = _
    unfold edOne
    rw [bool_sel]
    rw [run_sel fill L R K s (b :: r) (i + 1) (x + 1) (k + 1) _ _ _ _ (by simp) hn]
    have hz : (nz || decide (0 < a) || decide (zN (b :: r) < (b :: r).length)) = (nz || decide (zN (a :: b :: r) < (a :: b :: r).length)) := by
      rw [Bool.or_assoc]
      congr 1
      conv => rhs; rw [zN]
      by_cases h : 0 < a
      · simp [h]
      · simp [h]
    have e0 : ((0 : Nat) != 1) = true := rfl
    have e1 : (k + 1 + (b :: r).length) = k + (a :: b :: r).length := by simp; omega
    simp only [hz, e0, e1, Bool.and_true, onF, mkF, txF, List.append_assoc, List.singleton_append]
/-! ### The digits shown, the mark -/

theorem txF_on (fill : UInt8) (K : Int) (f : Nat) : ∀ (d : List Nat) (i : Nat), f ≤ i → txF fill K true i d = txD fill f i d
  | [], _, _ => rfl
  | a :: r, i, h => by
    rw [txF, txD, if_pos h]
    simp only [Bool.true_or, if_true]
    rw [txF_on fill K f r (i + 1) (by omega)]
def frF (K : Int) : Nat → List Nat → Nat
  | i, [] => i
  | i, a :: r => if 0 < a then i else if (i : Int) = K then i + 1 else frF K (i + 1) r
theorem frF_ge (K : Int) : ∀ (d : List Nat) (i : Nat), i ≤ frF K i d
  | [], i => Nat.le_refl _
  | a :: r, i => by
    have := frF_ge K r (i + 1)
    unfold frF
    split
    · omega
    · split <;> omega
theorem txF_off (fill : UInt8) (K : Int) : ∀ (d : List Nat) (i : Nat), txF fill K false i d = txD fill (frF K i d) i d
  | [], _ => rfl
  | a :: r, i => by
    rw [txF, txD, frF]
    by_cases h : 0 < a
    · simp only [h, if_true, decide_true, Bool.or_true, Bool.true_or]
      rw [if_pos (Nat.le_refl i), txF_on fill K i r (i + 1) (by omega)]
    · by_cases hk : (i : Int) = K
      · rw [if_neg h, if_pos hk, if_neg (show ¬ (i + 1 ≤ i) by omega)]
        simp only [h, hk, decide_true, decide_false, Bool.or_true, Bool.or_false]
        rw [txF_on fill K (i + 1) r (i + 1) (Nat.le_refl _)]
        rfl
      · have hg := frF_ge K r (i + 1)
        rw [if_neg h, if_neg hk, if_neg (show ¬ (frF K (i + 1) r ≤ i) by omega)]
        simp only [h, hk, decide_false, Bool.or_false]
        rw [txF_off fill K r (i + 1)]
        rfl
theorem frF_none {K : Int} (hK : K < 0) : ∀ (d : List Nat) (i : Nat), frF K i d = i + zN d
  | [], i => rfl
  | a :: r, i => by
    rw [frF, zN]
    by_cases h : 0 < a
    · rw [if_pos h, if_pos h]; rfl
    · rw [if_neg h, if_neg h, if_neg (by omega), frF_none hK r (i + 1)]
      omega
theorem onF_on (K : Int) : ∀ (d : List Nat) (i : Nat), onF K true i d = true
  | [], _ => rfl
  | a :: r, i => by
    rw [onF]
    simp only [Bool.true_or]
    exact onF_on K r (i + 1)
theorem onF_none {K : Int} (hK : K < 0) : ∀ (d : List Nat) (i : Nat), onF K false i d = decide (zN d < d.length)
  | [], _ => rfl
  | a :: r, i => by
    rw [onF, zN]
    have hk : ¬ (i : Int) = K := by omega
    by_cases h : 0 < a
    · simp only [h, decide_true, Bool.or_true, Bool.true_or, if_true]
      rw [onF_on]
      simp
    · simp only [h, hk, decide_false, Bool.or_false, if_false]
      rw [onF_none hK r (i + 1), List.length_cons]
      by_cases hz : zN r < r.length <;> simp [hz]
end E
end Go.Proofs.YtbcncohjjnmdcaaGreatDoor

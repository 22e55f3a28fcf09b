/- Numbers as the statements give them: their digits, their packed bytes, their patterns and texts; what editing makes of them. Pure. -/
import Derived.Test.YtfkenoehoocobaaEdMath
import Derived.Test.YtfkenoehoocobaaPkMath
namespace Go.Proofs.Ytfkenoehoocobaa
set_option linter.unusedVariables false
namespace E

/-- The digits of a number: an odd number of them, at most 99. -/
def dgM (l : List UInt8) : List Nat := (l.take 99).map fun x => x.toNat % 10
def dgN (l : List UInt8) : List Nat := if (dgM l).length % 2 = 0 then dgM l ++ [0] else dgM l
theorem dgM_len (l : List UInt8) : (dgM l).length ≤ 99 := by unfold dgM; simp; omega
theorem dgM_nine (l : List UInt8) : ∀ a ∈ dgM l, a ≤ 9 := by
  intro a h
  obtain ⟨x, _, rfl⟩ := List.mem_map.1 h
  omega
theorem dgN_len (l : List UInt8) : (dgN l).length ≤ 99 ∧ (dgN l).length % 2 = 1 := by
  have h := dgM_len l
  unfold dgN
  split
  · rw [List.length_append]
    simp
    omega
  · omega
theorem dgN_nine (l : List UInt8) : ∀ a ∈ dgN l, a ≤ 9 := by
  intro a h
  unfold dgN at h
  split at h
  · rcases List.mem_append.1 h with h | h
    · exact dgM_nine l a h
    · rw [List.mem_singleton.1 h]; omega
  · exact dgM_nine l a h
/-- Bytes of pairs of half bytes. -/
def pairs : List Nat → List UInt8
  | a :: b :: r => UInt8.ofNat (16 * a + b) :: pairs r
  | _ => []
theorem pairs_two (a b : Nat) (r : List Nat) : pairs (a :: b :: r) = UInt8.ofNat (16 * a + b) :: pairs r := rfl
/-- The digits of a number with its sign (1 plus, 2 minus). -/
def edSeq (s : Nat) : List Nat → List ED
  | [] => []
  | [a] => [⟨a, s, false⟩]
  | a :: b :: r => ⟨a, 0, false⟩ :: edSeq s (b :: r)
theorem edSeq_len (s : Nat) : ∀ d : List Nat, (edSeq s d).length = d.length
  | [] => rfl
  | [a] => rfl
  | a :: b :: r => by rw [edSeq, List.length_cons, edSeq_len s (b :: r)]; rfl
def sgH (neg : Bool) : Nat := if neg then 13 else 12
def sgN (neg : Bool) : Nat := if neg then 2 else 1
theorem byte_nat {a b : Nat} (ha : a ≤ 9) (hb : b ≤ 15) : (UInt8.ofNat (16 * a + b)).toNat = 16 * a + b := by
  rw [UInt8.toNat_ofNat']
  exact Nat.mod_eq_of_lt (by show _ < 256; omega)
theorem edL_pairs (neg : Bool) (rest : List UInt8) : ∀ (n : Nat) (d : List Nat), d.length = 2 * n + 1 → (∀ a ∈ d, a ≤ 9) → edL (pairs (d ++ [sgH neg]) ++ rest) = edSeq (sgN neg) d ++ edL rest
  | 0, d, h, h9 => by
    match d, h with
    | [a], _ =>
      have ha := h9 a (by simp)
      have hb : sgH neg ≤ 15 ∧ ¬ sgH neg ≤ 9 := by unfold sgH; split <;> omega
      have hx := byte_nat (a := a) (b := sgH neg) ha hb.1
      show edL (UInt8.ofNat (16 * a + sgH neg) :: rest) = _
      rw [edL]
      unfold edB
      rw [hx, if_neg (by omega), if_neg (by omega), show (16 * a + sgH neg) % 16 = sgH neg by omega, if_neg hb.2, show (16 * a + sgH neg) / 16 = a by omega]
      have hs : (if sgH neg = 11 ∨ sgH neg = 13 then 2 else 1) = sgN neg := by cases neg <;> rfl
      rw [hs]
      rfl
  | n + 1, d, h, h9 => by
    match d, h with
    | a :: b :: c :: r, h =>
      have ha := h9 a (by simp)
      have hb := h9 b (by simp)
      have hx := byte_nat (a := a) (b := b) ha (by omega)
      have ih := edL_pairs neg rest n (c :: r) (by simp at h ⊢; omega) (fun y hy => h9 y (by simp at hy ⊢; rcases hy with hy | hy <;> simp [hy]))
      show edL (UInt8.ofNat (16 * a + b) :: (pairs (c :: r ++ [sgH neg]) ++ rest)) = _
      rw [edL, ih]
      unfold edB
      rw [hx, if_neg (by omega), if_neg (by omega), show (16 * a + b) % 16 = b by omega, if_pos hb, show (16 * a + b) / 16 = a by omega]
      rfl
/-- The Selects of a number, one of which may be a Start. -/
def selP (K : Int) : Nat → List Nat → List UInt8
  | _, [] => []
  | i, _ :: r => (if (i : Int) = K then 33 else 32) :: selP K (i + 1) r
theorem selP_len (K : Int) : ∀ (i : Nat) (d : List Nat), (selP K i d).length = d.length
  | _, [] => rfl
  | i, _ :: r => by rw [selP, List.length_cons, selP_len K (i + 1) r]; rfl
/-- Digits shown from an index on. -/
def txD (fill : UInt8) (f : Nat) : Nat → List Nat → List UInt8
  | _, [] => []
  | i, a :: r => (if f ≤ i then UInt8.ofNat (240 + a) else fill) :: txD fill f (i + 1) r
theorem txD_len (fill : UInt8) (f : Nat) : ∀ (i : Nat) (d : List Nat), (txD fill f i d).length = d.length
  | _, [] => rfl
  | i, _ :: r => by rw [txD, List.length_cons, txD_len fill f (i + 1) r]; rfl
/-- The number of leading zeros. -/
def zN : List Nat → Nat
  | [] => 0
  | a :: r => if 0 < a then 0 else zN r + 1
theorem zN_le : ∀ d, zN d ≤ d.length
  | [] => Nat.le_refl _
  | a :: r => by
    have := zN_le r
    unfold zN
    split
    · omega
    · rw [List.length_cons]; omega
def onF (K : Int) : Bool → Nat → List Nat → Bool
  | on, _, [] => on
  | on, i, a :: r => onF K (on || decide (0 < a) || decide ((i : Int) = K)) (i + 1) r
def txF (fill : UInt8) (K : Int) : Bool → Nat → List Nat → List UInt8
  | _, _, [] => []
  | on, i, a :: r => (if on || decide (0 < a) then UInt8.ofNat (240 + a) else fill) :: txF fill K (on || decide (0 < a) || decide ((i : Int) = K)) (i + 1) r
def mkF (K : Int) : Bool → Nat → Nat → Int → List Nat → Int
  | _, _, _, mk, [] => mk
  | on, i, x, mk, a :: r => mkF K (on || decide (0 < a) || decide ((i : Int) = K)) (i + 1) (x + 1) (if !on && decide (0 < a) then (x : Int) else mk) r
theorem txF_len (fill : UInt8) (K : Int) : ∀ (on : Bool) (i : Nat) (d : List Nat), (txF fill K on i d).length = d.length
  | _, _, [] => rfl
  | on, i, a :: r => by rw [txF, List.length_cons, txF_len]; rfl
theorem bool_sel (i : Nat) (K : Int) : (((if (i : Int) = K then 33 else 32 : UInt8)) == 33) = decide ((i : Int) = K) := by
  by_cases h : (i : Int) = K
  · rw [if_pos h]; simp [h]
  · rw [if_neg h]; simp [h]
theorem take_step {fill c : UInt8} {L D : List ED} {d : ED} {i : Nat} {s : ES} (hc : c = 32 ∨ c = 33) (hb : d.bad = false) (h : L.drop s.next = d :: D) : edStep fill L i c s = (0, edOne fill i c s d) := by
  have hn : s.next < L.length := by
    rcases Nat.lt_or_ge s.next L.length with h1 | h1
    · exact h1
    · rw [List.drop_eq_nil_of_le h1] at h
      cases h
  have hd : L[s.next] = d := by
    rw [List.drop_eq_getElem_cons hn] at h
    exact (List.cons.inj h).1
  unfold edStep
  rw [if_neg (by rcases hc with rfl | rfl <;> decide), if_neg (by rcases hc with rfl | rfl <;> decide), dif_pos hn, hd, if_neg (by rw [hb]; simp)]
theorem drop_succ' {L D : List ED} {d : ED} {k : Nat} (h : L.drop k = d :: D) : L.drop (k + 1) = D := by
  rw [← List.drop_drop, h]
  rfl
/-- The run over the Selects of a number. -/
theorem run_sel (fill : UInt8) (L R : List ED) (K : Int) (s : Nat) : ∀ (d : List Nat) (i x k : Nat) (on nz : Bool) (mk : Int) (text : List UInt8), d ≠ [] → L.drop k = edSeq s d ++ R →
    edRun fill L (selP K i d) x ⟨k, on, nz, mk, text⟩ = (0, ⟨k + d.length, onF K on i d && s != 1, nz || decide (zN d < d.length), mkF K on i x mk d, text ++ txF fill K on i d⟩)
  | [], _, _, _, _, _, _, _, h, _ => absurd rfl h
  | [a], i, x, k, on, nz, mk, text, _, hL => by
    have hc : (if (i : Int) = K then 33 else 32 : UInt8) = 32 ∨ (if (i : Int) = K then 33 else 32 : UInt8) = 33 := by split <;> simp
    have hst := take_step (fill := fill) (i := x) (s := ⟨k, on, nz, mk, text⟩) hc rfl hL
    rw [selP, run_cons, hst]
    show edRun fill L (selP K (i + 1) []) (x + 1) _ = _
    rw [selP]
    show (0, edOne _ _ _ _ _) = _
    unfold edOne
    rw [bool_sel]
    have hz : (nz || decide (zN [a] < [a].length)) = (nz || decide (0 < a)) := by
      by_cases h : 0 < a
      · simp [h, zN]
      · simp [h, zN]
    rw [hz]
    simp only [onF, mkF, txF, List.length_cons, List.length_nil]
  | a :: b :: r, i, x, k, on, nz, mk, text, _, hL => by
    have hc : (if (i : Int) = K then 33 else 32 : UInt8) = 32 ∨ (if (i : Int) = K then 33 else 32 : UInt8) = 33 := by split <;> simp
    have hL' : L.drop k = ⟨a, 0, false⟩ :: (edSeq s (b :: r) ++ R) := hL
    have hst := take_step (fill := fill) (i := x) (s := ⟨k, on, nz, mk, text⟩) hc rfl hL'
    have hn := drop_succ' hL'
    rw [selP, run_cons, hst]
    show edRun fill L (selP K (i + 1) (b :: r)) (x + 1) (edOne _ _ _ _ _) = _
    unfold edOne
    rw [bool_sel]
    rw [run_sel fill L R K s (b :: r) (i + 1) (x + 1) (k + 1) _ _ _ _ (by simp) hn]
    have hz : (nz || decide (0 < a) || decide (zN (b :: r) < (b :: r).length)) = (nz || decide (zN (a :: b :: r) < (a :: b :: r).length)) := by
      rw [Bool.or_assoc]
      congr 1
      conv => rhs; rw [zN]
      by_cases h : 0 < a
      · simp [h]
      · simp [h]
    have e0 : ((0 : Nat) != 1) = true := rfl
    have e1 : (k + 1 + (b :: r).length) = k + (a :: b :: r).length := by simp; omega
    simp only [hz, e0, e1, Bool.and_true, onF, mkF, txF, List.append_assoc, List.singleton_append]
/-- The run over message bytes. -/
theorem run_msg (fill : UInt8) (L : List ED) : ∀ (t : List UInt8) (x k : Nat) (on nz : Bool) (mk : Int) (text : List UInt8), (∀ c ∈ t, c ≠ 32 ∧ c ≠ 33 ∧ c ≠ 34) →
    edRun fill L t x ⟨k, on, nz, mk, text⟩ = (0, ⟨k, on, nz, mk, text ++ (if on then t else List.replicate t.length fill)⟩)
  | [], x, k, on, nz, mk, text, _ => by
    cases on <;> simp [edRun]
  | c :: t, x, k, on, nz, mk, text, h => by
    obtain ⟨h1, h2, h3⟩ := h c (List.mem_cons_self ..)
    have hst : edStep fill L x c ⟨k, on, nz, mk, text⟩ = (0, ⟨k, on, nz, mk, text ++ [if on then c else fill]⟩) := by
      unfold edStep
      rw [if_neg h3, if_pos ⟨h1, h2⟩]
    rw [run_cons, hst]
    show edRun fill L t (x + 1) _ = _
    rw [run_msg fill L t (x + 1) k on nz mk _ (fun y hy => h y (List.mem_cons_of_mem _ hy))]
    cases on <;> simp [List.replicate_succ]

/-! ### The digits shown, the mark -/

theorem txF_on (fill : UInt8) (K : Int) (f : Nat) : ∀ (d : List Nat) (i : Nat), f ≤ i → txF fill K true i d = txD fill f i d
  | [], _, _ => rfl
  | a :: r, i, h => by
    rw [txF, txD, if_pos h]
    simp only [Bool.true_or, if_true]
    rw [txF_on fill K f r (i + 1) (by omega)]
def frF (K : Int) : Nat → List Nat → Nat
  | i, [] => i
  | i, a :: r => if 0 < a then i else if (i : Int) = K then i + 1 else frF K (i + 1) r
theorem frF_ge (K : Int) : ∀ (d : List Nat) (i : Nat), i ≤ frF K i d
  | [], i => Nat.le_refl _
  | a :: r, i => by
    have := frF_ge K r (i + 1)
    unfold frF
    split
    · omega
    · split <;> omega
theorem txF_off (fill : UInt8) (K : Int) : ∀ (d : List Nat) (i : Nat), txF fill K false i d = txD fill (frF K i d) i d
  | [], _ => rfl
  | a :: r, i => by
    rw [txF, txD, frF]
    by_cases h : 0 < a
    · simp only [h, if_true, decide_true, Bool.or_true, Bool.true_or]
      rw [if_pos (Nat.le_refl i), txF_on fill K i r (i + 1) (by omega)]
    · by_cases hk : (i : Int) = K
      · rw [if_neg h, if_pos hk, if_neg (show ¬ (i + 1 ≤ i) by omega)]
        simp only [h, hk, decide_true, decide_false, Bool.or_true, Bool.or_false]
        rw [txF_on fill K (i + 1) r (i + 1) (Nat.le_refl _)]
        rfl
      · have hg := frF_ge K r (i + 1)
        rw [if_neg h, if_neg hk, if_neg (show ¬ (frF K (i + 1) r ≤ i) by omega)]
        simp only [h, hk, decide_false, Bool.or_false]
        rw [txF_off fill K r (i + 1)]
        rfl
theorem frF_none {K : Int} (hK : K < 0) : ∀ (d : List Nat) (i : Nat), frF K i d = i + zN d
  | [], i => rfl
  | a :: r, i => by
    rw [frF, zN]
    by_cases h : 0 < a
    · rw [if_pos h, if_pos h]; rfl
    · rw [if_neg h, if_neg h, if_neg (by omega), frF_none hK r (i + 1)]
      omega
theorem frF_some {K : Nat} : ∀ (d : List Nat) (i : Nat), i ≤ K → K < i + d.length → frF K i d = if i + zN d ≤ K then i + zN d else K + 1
  | [], i, h1, h2 => by simp at h2; omega
  | a :: r, i, h1, h2 => by
    rw [frF, zN]
    by_cases h : 0 < a
    · rw [if_pos h, if_pos h, if_pos (by omega)]; rfl
    · rw [if_neg h, if_neg h]
      by_cases hk : i = K
      · rw [if_pos (by omega), if_neg (by omega), hk]
      · rw [if_neg (by omega), frF_some r (i + 1) (by omega) (by rw [List.length_cons] at h2; omega), show i + 1 + zN r = i + (zN r + 1) by omega]
theorem mkF_on (K : Int) : ∀ (d : List Nat) (i x : Nat) (mk : Int), mkF K true i x mk d = mk
  | [], _, _, _ => rfl
  | a :: r, i, x, mk => by
    rw [mkF]
    simp only [Bool.true_or, Bool.not_true, Bool.false_and]
    exact mkF_on K r (i + 1) (x + 1) mk
theorem mkF_none {K : Int} (hK : K < 0) : ∀ (d : List Nat) (i x : Nat) (mk : Int), mkF K false i x mk d = if zN d < d.length then ((x + zN d : Nat) : Int) else mk
  | [], _, _, mk => by rw [mkF, if_neg (by simp [zN])]
  | a :: r, i, x, mk => by
    rw [mkF, zN]
    have hk : ¬ (i : Int) = K := by omega
    by_cases h : 0 < a
    · simp only [h, decide_true, Bool.or_true, Bool.true_or, Bool.not_false, Bool.and_true, if_true]
      rw [mkF_on, if_pos (by simp)]
      rfl
    · simp only [h, hk, decide_false, Bool.or_false, Bool.and_false, if_false]
      rw [show (if (false : Bool) = true then (x : Int) else mk) = mk from rfl, mkF_none hK r (i + 1) (x + 1) mk, List.length_cons]
      by_cases hz : zN r < r.length
      · rw [if_pos hz, if_pos (by omega), show x + 1 + zN r = x + (zN r + 1) by omega]
      · rw [if_neg hz, if_neg (by omega)]
theorem mkF_some {K : Nat} : ∀ (d : List Nat) (i x : Nat) (mk : Int), i ≤ K → K < i + d.length → mkF K false i x mk d = if i + zN d ≤ K then ((x + zN d : Nat) : Int) else mk
  | [], i, x, mk, h1, h2 => by simp at h2; omega
  | a :: r, i, x, mk, h1, h2 => by
    rw [mkF, zN]
    by_cases h : 0 < a
    · simp only [h, decide_true, Bool.or_true, Bool.true_or, Bool.not_false, Bool.and_true, if_true]
      rw [mkF_on, if_pos (by omega)]
      rfl
    · by_cases hk : i = K
      · have hk' : (i : Int) = (K : Int) := by omega
        have hz : ¬ (i + (if 0 < a then 0 else zN r + 1) ≤ K) := by rw [if_neg h]; omega
        rw [if_neg hz]
        simp only [h, hk', decide_true, decide_false, Bool.or_true, Bool.or_false, Bool.and_false]
        rw [mkF_on]
        rfl
      · have hk' : ¬ (i : Int) = (K : Int) := by omega
        simp only [h, hk', decide_false, Bool.or_false, Bool.and_false, if_false]
        rw [show (if (false : Bool) = true then (x : Int) else mk) = mk from rfl, mkF_some r (i + 1) (x + 1) mk (by omega) (by rw [List.length_cons] at h2; omega), show i + 1 + zN r = i + (zN r + 1) by omega, show x + 1 + zN r = x + (zN r + 1) by omega]
theorem onF_on (K : Int) : ∀ (d : List Nat) (i : Nat), onF K true i d = true
  | [], _ => rfl
  | a :: r, i => by
    rw [onF]
    simp only [Bool.true_or]
    exact onF_on K r (i + 1)
theorem onF_none {K : Int} (hK : K < 0) : ∀ (d : List Nat) (i : Nat), onF K false i d = decide (zN d < d.length)
  | [], _ => rfl
  | a :: r, i => by
    rw [onF, zN]
    have hk : ¬ (i : Int) = K := by omega
    by_cases h : 0 < a
    · simp only [h, decide_true, Bool.or_true, Bool.true_or, if_true]
      rw [onF_on]
      simp
    · simp only [h, hk, decide_false, Bool.or_false, if_false]
      rw [onF_none hK r (i + 1), List.length_cons]
      by_cases hz : zN r < r.length <;> simp [hz]
theorem onF_some {K : Nat} : ∀ (d : List Nat) (i : Nat), i ≤ K → K < i + d.length → onF K false i d = true
  | [], i, h1, h2 => by simp at h2; omega
  | a :: r, i, h1, h2 => by
    rw [onF]
    by_cases hk : i = K
    · have hk' : (i : Int) = (K : Int) := by omega
      simp only [hk', decide_true, Bool.or_true]
      exact onF_on _ r (i + 1)
    · have hk' : ¬ (i : Int) = (K : Int) := by omega
      by_cases h : 0 < a
      · simp only [h, decide_true, Bool.or_true, Bool.true_or]
        exact onF_on _ r (i + 1)
      · simp only [h, hk', decide_false, Bool.or_false]
        exact onF_some r (i + 1) (by omega) (by rw [List.length_cons] at h2; omega)

end E
end Go.Proofs.Ytfkenoehoocobaa

/- What editing makes of one number, with or without a Start, and of two. Pure. -/
import Derived.Test.YtfkenoehoocobaaEdNum
namespace Go.Proofs.Ytfkenoehoocobaa
set_option linter.unusedVariables false
namespace E

def msgB (c : UInt8) : Bool := decide (c.toNat < 32) || decide (34 < c.toNat)
theorem msgB_ne {c : UInt8} (h : msgB c = true) : c ≠ 32 ∧ c ≠ 33 ∧ c ≠ 34 := by
  refine ⟨?_, ?_, ?_⟩ <;> rintro rfl <;> exact absurd h (by decide)
/-- The message bytes behind the digits. -/
def tlN (m : List UInt8) : List UInt8 := (m.take 50).filter msgB
theorem tlN_len (m : List UInt8) : (tlN m).length ≤ 50 := by
  unfold tlN
  have := List.length_filter_le msgB (m.take 50)
  rw [List.length_take] at this
  omega
theorem tlN_msg (m : List UInt8) : ∀ c ∈ tlN m, c ≠ 32 ∧ c ≠ 33 ∧ c ≠ 34 := fun c h => msgB_ne (List.mem_filter.1 h).2
def ptN (c : UInt8) (K : Int) (d : List Nat) (t : List UInt8) : List UInt8 := c :: (selP K 0 d ++ t)
theorem ptN_len (c : UInt8) (K : Int) (d : List Nat) (t : List UInt8) : (ptN c K d t).length = 1 + d.length + t.length := by
  unfold ptN
  rw [List.length_cons, List.length_append, selP_len]
  omega
def pkN (neg : Bool) (d : List Nat) : List UInt8 := pairs (d ++ [sgH neg])
def txN (fill : UInt8) (f : Nat) (d : List Nat) (t : List UInt8) (behind : Bool) : List UInt8 := fill :: (txD fill f 0 d ++ (if behind then t else List.replicate t.length fill))
theorem txN_len (fill : UInt8) (f : Nat) (d : List Nat) (t : List UInt8) (b : Bool) : (txN fill f d t b).length = 1 + d.length + t.length := by
  unfold txN
  rw [List.length_cons, List.length_append, txD_len]
  cases b
  · simp; omega
  · simp; omega
def cdN (neg : Bool) (d : List Nat) : Nat := if zN d = d.length then 0 else if neg then 1 else 2
theorem sgN_minus (neg : Bool) : (sgN neg != 1) = neg := by cases neg <;> rfl
/-- The run over a number's Selects and its message bytes. -/
theorem run_num (fill : UInt8) (L R : List ED) (K : Int) (neg : Bool) (d : List Nat) (t : List UInt8) (x k : Nat) (mk : Int) (text : List UInt8) (hd : d ≠ []) (hL : L.drop k = edSeq (sgN neg) d ++ R) (ht : ∀ c ∈ t, c ≠ 32 ∧ c ≠ 33 ∧ c ≠ 34) :
    edRun fill L (selP K 0 d ++ t) x ⟨k, false, false, mk, text⟩ = (0, ⟨k + d.length, onF K false 0 d && neg, decide (zN d < d.length), mkF K false 0 x mk d, text ++ (txF fill K false 0 d ++ (if onF K false 0 d && neg then t else List.replicate t.length fill))⟩) := by
  have h1 := run_sel fill L R K (sgN neg) d 0 x k false false mk text hd hL
  rw [sgN_minus, Bool.false_or] at h1
  rw [run_app, h1]
  show edRun fill L t _ _ = _
  rw [run_msg fill L t _ _ _ _ _ _ ht, List.append_assoc]
theorem run_first {fill : UInt8} (h : fill ≠ 32 ∧ fill ≠ 33 ∧ fill ≠ 34) (L : List ED) (p : List UInt8) : edRun fill L (fill :: p) 0 edInit = edRun fill L p 1 ⟨0, false, false, -1, [fill]⟩ := by
  have hst : edStep fill L 0 fill edInit = (0, ⟨0, false, false, -1, [fill]⟩) := by
    unfold edStep
    rw [if_neg h.2.2, if_pos ⟨h.1, h.2.1⟩]
    rfl
  rw [run_cons, hst]
  rfl
theorem odd_ne {d : List Nat} (h : d.length % 2 = 1) : d ≠ [] := by
  intro e
  rw [e] at h
  cases h
theorem edL_pk (neg : Bool) (d : List Nat) (rest : List UInt8) (h : d.length % 2 = 1) (h9 : ∀ a ∈ d, a ≤ 9) : edL (pkN neg d ++ rest) = edSeq (sgN neg) d ++ edL rest := edL_pairs neg rest (d.length / 2) d (by omega) h9
theorem cc_num (neg on : Bool) (d : List Nat) (h : decide (zN d < d.length) = true → on = neg) : (if decide (zN d < d.length) = true then (if on = true then 1 else 2) else 0) = cdN neg d := by
  unfold cdN
  have hz := zN_le d
  by_cases h0 : zN d < d.length
  · have e := h (by simpa using h0)
    subst e
    rw [if_pos (show decide (zN d < d.length) = true by simpa using h0), if_neg (show ¬ zN d = d.length by omega)]
  · rw [if_neg (show ¬ decide (zN d < d.length) = true by simpa using h0), if_pos (show zN d = d.length by omega)]
/-- One number. -/
theorem res_num {fill : UInt8} (hf : fill ≠ 32 ∧ fill ≠ 33 ∧ fill ≠ 34) (K : Int) (neg : Bool) (d : List Nat) (t : List UInt8) (ho : d.length % 2 = 1) (h9 : ∀ a ∈ d, a ≤ 9) (hl : d.length ≤ 99) (htl : t.length ≤ 50) (ht : ∀ c ∈ t, c ≠ 32 ∧ c ≠ 33 ∧ c ≠ 34) :
    edRes (ptN fill K d t) (pkN neg d) = (fill :: (txD fill (frF K 0 d) 0 d ++ (if onF K false 0 d && neg then t else List.replicate t.length fill)), (if decide (zN d < d.length) = true then (if onF K false 0 d && neg then 1 else 2) else 0), mkF K false 0 1 (-1) d, 0) := by
  have hL : edL (pkN neg d) = edSeq (sgN neg) d ++ [] := by
    have h := edL_pk neg d [] ho h9
    rwa [List.append_nil] at h
  have hlen := ptN_len fill K d t
  have hrun : edRun fill (edL (pkN neg d)) (ptN fill K d t) 0 edInit = edRun fill (edL (pkN neg d)) (selP K 0 d ++ t) 1 ⟨0, false, false, -1, [fill]⟩ := run_first hf _ _
  rw [run_num fill (edL (pkN neg d)) [] K neg d t 1 0 (-1) [fill] (odd_ne ho) hL ht] at hrun
  unfold edRes
  rw [if_pos (by rw [hlen]; omega)]
  show (if (edRun fill _ _ 0 edInit).1 = 0 then _ else _) = _
  have hh : (ptN fill K d t).headD 0 = fill := rfl
  rw [hh, hrun, if_pos rfl, txF_off]
  rfl
theorem res_one {fill : UInt8} (hf : fill ≠ 32 ∧ fill ≠ 33 ∧ fill ≠ 34) (neg : Bool) (d : List Nat) (t : List UInt8) (ho : d.length % 2 = 1) (h9 : ∀ a ∈ d, a ≤ 9) (hl : d.length ≤ 99) (htl : t.length ≤ 50) (ht : ∀ c ∈ t, c ≠ 32 ∧ c ≠ 33 ∧ c ≠ 34) :
    edRes (ptN fill (-1) d t) (pkN neg d) = (txN fill (zN d) d t (neg && decide (zN d < d.length)), cdN neg d, (if zN d = d.length then -1 else ((1 + zN d : Nat) : Int)), 0) := by
  rw [res_num hf (-1) neg d t ho h9 hl htl ht, onF_none (by omega), frF_none (by omega), mkF_none (by omega), Nat.zero_add, cc_num neg _ d (fun h => by rw [h]; rfl), Bool.and_comm]
  have hz := zN_le d
  by_cases h0 : zN d < d.length
  · rw [if_pos h0, if_neg (show ¬ zN d = d.length by omega)]; rfl
  · rw [if_neg h0, if_pos (show zN d = d.length by omega)]; rfl
theorem res_start {fill : UInt8} (hf : fill ≠ 32 ∧ fill ≠ 33 ∧ fill ≠ 34) (K : Nat) (neg : Bool) (d : List Nat) (t : List UInt8) (ho : d.length % 2 = 1) (h9 : ∀ a ∈ d, a ≤ 9) (hl : d.length ≤ 99) (htl : t.length ≤ 50) (ht : ∀ c ∈ t, c ≠ 32 ∧ c ≠ 33 ∧ c ≠ 34) (hK : K < d.length) :
    edRes (ptN fill (K : Int) d t) (pkN neg d) = (txN fill (if zN d ≤ K then zN d else K + 1) d t neg, cdN neg d, (if zN d ≤ K then ((1 + zN d : Nat) : Int) else -1), 0) := by
  rw [res_num hf (K : Int) neg d t ho h9 hl htl ht, onF_some d 0 (Nat.zero_le _) (by omega), frF_some d 0 (Nat.zero_le _) (by omega), mkF_some d 0 1 (-1) (Nat.zero_le _) (by omega), Nat.zero_add, Bool.true_and, cc_num neg neg d (fun h => rfl)]
  rfl
/-- Two numbers. -/
theorem res_two {fill : UInt8} (hf : fill ≠ 32 ∧ fill ≠ 33 ∧ fill ≠ 34) (na nb : Bool) (da db : List Nat) (ta tb : List UInt8) (hoa : da.length % 2 = 1) (hob : db.length % 2 = 1) (h9a : ∀ a ∈ da, a ≤ 9) (h9b : ∀ a ∈ db, a ≤ 9)
    (hta : ∀ c ∈ ta, c ≠ 32 ∧ c ≠ 33 ∧ c ≠ 34) (htb : ∀ c ∈ tb, c ≠ 32 ∧ c ≠ 33 ∧ c ≠ 34) (hl : (ptN fill (-1) da ta ++ ptN 34 (-1) db tb).length ≤ 256) :
    edRes (ptN fill (-1) da ta ++ ptN 34 (-1) db tb) (pkN na da ++ pkN nb db) = (txN fill (zN da) da ta (na && decide (zN da < da.length)) ++ txN fill (zN db) db tb (nb && decide (zN db < db.length)), cdN nb db,
      (if zN db = db.length then (if zN da = da.length then -1 else ((1 + zN da : Nat) : Int)) else (((1 + da.length + ta.length) + (1 + zN db) : Nat) : Int)), 0) := by
  have hLb : edL (pkN nb db) = edSeq (sgN nb) db ++ [] := by
    have h := edL_pk nb db [] hob h9b
    rwa [List.append_nil] at h
  have hL : edL (pkN na da ++ pkN nb db) = edSeq (sgN na) da ++ edL (pkN nb db) := edL_pk na da _ hoa h9a
  have hlen := ptN_len fill (-1) da ta
  have hdrop : (edL (pkN na da ++ pkN nb db)).drop (0 + da.length) = edSeq (sgN nb) db ++ [] := by
    rw [hL, Nat.zero_add, List.drop_append_of_le_length (by rw [edSeq_len]; omega)]
    rw [List.drop_eq_nil_of_le (by rw [edSeq_len]; omega), hLb]
    rfl
  have hrunA : edRun fill (edL (pkN na da ++ pkN nb db)) (ptN fill (-1) da ta) 0 edInit = edRun fill (edL (pkN na da ++ pkN nb db)) (selP (-1) 0 da ++ ta) 1 ⟨0, false, false, -1, [fill]⟩ := run_first hf _ _
  rw [run_num fill _ (edL (pkN nb db)) (-1) na da ta 1 0 (-1) [fill] (odd_ne hoa) hL hta] at hrunA
  have hstB : ∀ (s : ES) (i : Nat), edStep fill (edL (pkN na da ++ pkN nb db)) i 34 s = (0, ⟨s.next, false, false, s.mark, s.text ++ [fill]⟩) := fun s i => by
    unfold edStep
    rw [if_pos rfl]
  have hrun := run_app fill (edL (pkN na da ++ pkN nb db)) (ptN fill (-1) da ta) (ptN 34 (-1) db tb) 0 edInit
  rw [hrunA, if_pos rfl] at hrun
  have hB : ∀ x s, edRun fill (edL (pkN na da ++ pkN nb db)) (ptN 34 (-1) db tb) x s = edRun fill (edL (pkN na da ++ pkN nb db)) (selP (-1) 0 db ++ tb) (x + 1) ⟨s.next, false, false, s.mark, s.text ++ [fill]⟩ := fun x s => by
    show edRun fill _ (34 :: (selP (-1) 0 db ++ tb)) _ _ = _
    rw [run_cons, hstB]
    rfl
  rw [hB, run_num fill _ [] (-1) nb db tb _ (0 + da.length) _ _ (odd_ne hob) hdrop htb] at hrun
  unfold edRes
  rw [if_pos ⟨by rw [List.length_append, hlen]; omega, hl⟩]
  have hh : (ptN fill (-1) da ta ++ ptN 34 (-1) db tb).headD 0 = fill := rfl
  rw [hh, hrun, if_pos rfl]
  rw [txF_off, txF_off, onF_none (by omega), onF_none (by omega), frF_none (by omega), frF_none (by omega), mkF_none (by omega), mkF_none (by omega), Nat.zero_add, Nat.zero_add, hlen]
  have hz := zN_le db
  have hza := zN_le da
  refine Prod.ext ?_ (Prod.ext ?_ (Prod.ext ?_ rfl))
  · show _ = txN _ _ _ _ _ ++ txN _ _ _ _ _
    unfold txN
    rw [Bool.and_comm na, Bool.and_comm nb]
    simp [List.append_assoc]
  · show (if decide (zN db < db.length) = true then _ else _) = _
    exact cc_num nb _ db (fun h => by rw [h]; rfl)
  · show (if zN db < db.length then _ else _) = _
    by_cases h0 : zN db < db.length
    · rw [if_pos h0, if_neg (show ¬ zN db = db.length by omega)]
      congr 1
      omega
    · rw [if_neg h0, if_pos (show zN db = db.length by omega)]
      by_cases h1 : zN da < da.length
      · rw [if_pos h1, if_neg (show ¬ zN da = da.length by omega)]
      · rw [if_neg h1, if_pos (show zN da = da.length by omega)]

end E
end Go.Proofs.Ytfkenoehoocobaa

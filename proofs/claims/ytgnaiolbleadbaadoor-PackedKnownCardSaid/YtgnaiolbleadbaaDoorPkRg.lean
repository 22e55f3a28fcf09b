/- A region whose orders are too many to walk, by what holds of each of its states. -/
import Derived.Test.YtgnaiolbleadbaaDoorPkOwn
namespace Go.Proofs.YtgnaiolbleadbaaDoor
open Go.RowKit Go.Shelf
set_option linter.unusedVariables false
namespace E

/-- A region whose orders are too many to walk: what holds of each of its states holds at its end. -/
theorem count_set {listed : Array Bool} {j : Nat} (h : listed.getD j true = false) : (listed.setIfInBounds j true).toList.count false + 1 = listed.toList.count false := by
  have hlt : j < listed.size := by
    rcases Nat.lt_or_ge j listed.size with h' | h'
    · exact h'
    · simp [Array.getD, Nat.not_lt.2 h'] at h
  have hj : listed[j] = false := by simpa [Array.getD, hlt] using h
  rw [Array.toList_setIfInBounds, List.count_set (by simpa using hlt)]
  have hm : 0 < listed.toList.count false := List.count_pos_iff.2 (by rw [← hj]; exact Array.getElem_mem_toList hlt)
  have hj2 : listed.toList[j]'(by simpa using hlt) = false := by simpa using hj
  rw [hj2]
  have e1 : (if ((false : Bool) == false) = true then 1 else 0) = 1 := rfl
  have e2 : (if ((true : Bool) == false) = true then 1 else 0) = 0 := rfl
  rw [e1, e2]
  omega
theorem wpAny_inv {P : Program} {md : Region.Mode} {ops : Array Oper} {Q : Exit → Act → World → Prop} (I : Array Bool → Act → World → Prop)
    (step : ∀ listed a w j, I listed a w → j ∈ Region.ready md ops listed → wpOp P ops Q j (I (listed.setIfInBounds j true)) a w)
    (fin : ∀ listed a w, I listed a w → Region.ready md ops listed = [] → Q .normal a w) :
    ∀ (fuel : Nat) (listed : Array Bool) (a : Act) (w : World), I listed a w → listed.toList.count false ≤ fuel → wpAny P md ops Q fuel listed a w
  | 0, listed, a, w, hI, hc => by
    have h0 : Region.ready md ops listed = [] := by
      rcases hr : Region.ready md ops listed with _ | ⟨j, r⟩
      · rfl
      · have hj : j ∈ Region.ready md ops listed := by rw [hr]; exact List.mem_cons_self ..
        have := count_set (mem_ready.1 hj).1
        omega
    exact ⟨h0, fin _ _ _ hI h0⟩
  | fuel + 1, listed, a, w, hI, hc =>
    ⟨fun h => fin _ _ _ hI h, fun j hj => wpOp_mono (fun a' w' hI' => wpAny_inv I step fin fuel _ a' w' hI' (by have := count_set (mem_ready.1 hj).1; omega)) (step _ _ _ _ hI hj)⟩
/-- Where nothing may come up, all have. -/
theorem ready_nil {md : Region.Mode} {ops : Array Oper} {listed : Array Bool} (hs : listed.size = ops.size) (hd : ∀ (j : Nat) (o : Oper), ops[j]? = some o → ∀ e ∈ o.after, e.on < j) (h : Region.ready md ops listed = []) :
    ∀ j, j < ops.size → listed.getD j false = true := by
  intro j
  induction j using Nat.strongRecOn with
  | ind j ih =>
    intro hj
    rcases hb : listed.getD j true with _ | _
    · exfalso
      have hm : j ∈ Region.ready md ops listed := mem_ready.2 ⟨hb, ops[j], by simp [hj], fun e he _ => by
        have := hd j ops[j] (by simp [hj]) e he
        exact ih e.on this (by omega)⟩
      rw [h] at hm
      cases hm
    · have hl : j < listed.size := by omega
      simpa [Array.getD, hl] using hb
/-- Slots and what they hold. -/
def pts (x : Nat → Value) : List Nat → Nat → Array Value → Array Value
  | [], _, t => t
  | d :: ds, i, t => (pts x ds (i + 1) t).setIfInBounds d (x i)
theorem pts_size (x : Nat → Value) : ∀ (ds : List Nat) (i : Nat) (t : Array Value), (pts x ds i t).size = t.size
  | [], _, _ => rfl
  | d :: ds, i, t => by simp [pts, pts_size x ds (i + 1) t]
theorem pts_congr {x y : Nat → Value} : ∀ (ds : List Nat) (i : Nat) (t : Array Value), (∀ n, i ≤ n → x n = y n) → pts x ds i t = pts y ds i t
  | [], _, _, _ => rfl
  | d :: ds, i, t, h => by
    unfold pts
    rw [pts_congr ds (i + 1) t (fun n hn => h n (by omega)), h i (Nat.le_refl _)]
theorem pts_get (x : Nat → Value) : ∀ (ds : List Nat) (i k d : Nat) (t : Array Value), ds.Nodup → ds[k]? = some d → d < t.size → (pts x ds i t).getD d undef = x (i + k)
  | [], i, k, d, t, hn, hk, hd => by simp at hk
  | e :: ds, i, 0, d, t, hn, hk, hd => by
    simp at hk
    subst hk
    simp [pts, Array.getD, pts_size, hd]
  | e :: ds, i, k + 1, d, t, hn, hk, hd => by
    have hn2 := List.nodup_cons.1 hn
    have hk2 : ds[k]? = some d := by simpa using hk
    have hne : e ≠ d := fun h => hn2.1 (h ▸ List.mem_of_getElem? hk2)
    have h := pts_get x ds (i + 1) k d t hn2.2 hk2 hd
    unfold pts
    simp only [Array.getD_eq_getD_getElem?, Array.getElem?_setIfInBounds_ne hne] at h ⊢
    rw [h]
    congr 1
    omega
theorem pts_put (x : Nat → Value) (v : Value) : ∀ (ds : List Nat) (i k d : Nat) (t : Array Value), ds.Nodup → ds[k]? = some d → (pts x ds i t).setIfInBounds d v = pts (fun n => if n = i + k then v else x n) ds i t
  | [], i, k, d, t, hn, hk => by simp at hk
  | e :: ds, i, 0, d, t, hn, hk => by
    simp at hk
    subst hk
    unfold pts
    rw [pts_congr (x := x) (y := fun n => if n = i + 0 then v else x n) ds (i + 1) t (fun n hn => by simp; intro h; omega)]
    simp
  | e :: ds, i, k + 1, d, t, hn, hk => by
    have hn2 := List.nodup_cons.1 hn
    have hk2 : ds[k]? = some d := by simpa using hk
    have hne : e ≠ d := fun h => hn2.1 (h ▸ List.mem_of_getElem? hk2)
    unfold pts
    rw [Array.setIfInBounds_comm _ _ hne, pts_put x v ds (i + 1) k d t hn2.2 hk2]
    have e1 : (fun n => if n = i + 1 + k then v else x n) = (fun n => if n = i + (k + 1) then v else x n) := by
      funext n
      have : (n = i + 1 + k) = (n = i + (k + 1)) := by apply propext; omega
      simp only [this]
    rw [e1]
    simp
theorem pts_self (x : Nat → Value) : ∀ (ds : List Nat) (i : Nat) (t : Array Value), (∀ k d, ds[k]? = some d → x (i + k) = t.getD d undef) → pts x ds i t = t
  | [], _, _, _ => rfl
  | d :: ds, i, t, h => by
    unfold pts
    rw [pts_self x ds (i + 1) t (fun k e hk => by rw [← h (k + 1) e (by simpa using hk)]; congr 1; omega)]
    have h0 := h 0 d (by simp)
    rw [Nat.add_zero] at h0
    rw [h0]
    apply Array.ext
    · simp
    · intro n h1 h2
      rw [Array.getElem_setIfInBounds (by simpa using h1)]
      split
      · rename_i he
        subst he
        simp [Array.getD, h2]
      · rfl
theorem put_pts (a0 : Act) (x : Nat → Value) (v : Value) (D : List Nat) (j d : Nat) (hn : D.Nodup) (hd : D[j]? = some d) : Act.put { a0 with tmps := pts x D 0 a0.tmps } (some d) v = { a0 with tmps := pts (fun n => if n = j then v else x n) D 0 a0.tmps } := by
  show ({ a0 with tmps := (pts x D 0 a0.tmps).setIfInBounds d v } : Act) = _
  rw [pts_put x v D 0 j d _ hn hd]
  simp only [Nat.zero_add]
/-- What is held of each state of the region: what has come up holds what V says. -/
def RI (V : Nat → Value → Prop) (S : World → Prop) (n : Nat) (D : List Nat) (a0 : Act) (listed : Array Bool) (a : Act) (w : World) : Prop :=
  listed.size = n ∧ S w ∧ ∃ x : Nat → Value, a = { a0 with tmps := pts x D 0 a0.tmps } ∧ ∀ j, listed.getD j false = true → V j (x j)
theorem RI.next {V : Nat → Value → Prop} {S : World → Prop} {n : Nat} {D : List Nat} {a0 : Act} {listed : Array Bool} {a : Act} {w w' : World} {j d : Nat} {v : Value} (h : RI V S n D a0 listed a w) (hn : D.Nodup) (hd : D[j]? = some d) (hS : S w') (hv : V j v) :
    RI V S n D a0 (listed.setIfInBounds j true) (a.put (some d) v) w' := by
  obtain ⟨hs, _, x, rfl, hx⟩ := h
  refine ⟨by simpa using hs, hS, _, put_pts a0 x v D j d hn hd, fun i hi => ?_⟩
  by_cases hij : i = j
  · subst hij
    simpa using hv
  · rw [if_neg hij]
    exact hx i (by rw [← getD_set_ne false (Ne.symm hij)]; exact hi)
theorem RI.get {V : Nat → Value → Prop} {S : World → Prop} {n : Nat} {D : List Nat} {a0 : Act} {listed : Array Bool} {a : Act} {w : World} {j d : Nat} (h : RI V S n D a0 listed a w) (hn : D.Nodup) (hd : D[j]? = some d) (hlt : d < a0.tmps.size) (hl : listed.getD j false = true) :
    V j (a.tmps.getD d undef) := by
  obtain ⟨_, _, x, rfl, hx⟩ := h
  have := pts_get x D 0 j d a0.tmps hn hd hlt
  rw [Nat.zero_add] at this
  rw [this]
  exact hx j hl
theorem RI.start {V : Nat → Value → Prop} {S : World → Prop} {n : Nat} {D : List Nat} {a0 : Act} {w : World} (hS : S w) : RI V S n D a0 (Array.replicate n false) a0 w := by
  refine ⟨by simp, hS, fun k => a0.tmps.getD (D.getD k 0) undef, ?_, fun j hj => ?_⟩
  · rw [pts_self _ D 0 a0.tmps (fun k d hk => by simp only [Nat.zero_add, List.getD_eq_getElem?_getD, hk, Option.getD_some])]
  · exfalso
    simp [Array.getD] at hj

end E
end Go.Proofs.YtgnaiolbleadbaaDoor

/- Blocks of cells, slices that read as lists, maps; equal slices are the same. -/
import Derived.Test.YtbcncohjjnmdcaaGreatDoorRows
import Derived.Test.YtbcncohjjnmdcaaGreatDoorDcB
namespace Go.Proofs.YtbcncohjjnmdcaaGreatDoor
open Go.RowKit
set_option linter.unusedVariables false
namespace E

/-! ### The map of the control bytes -/

theorem ins_new {w : World} {g : Nat} {es : Array MapEntry} {c : Nat} (h : Mp w g es c) (k : Nat) (v : Value) (hn : Instr.findNow (.int .u8) (.int .u8 (k : Int)) es.toList 0 = some none) :
    (Instr.mapUpdate 225 (.map (some g)) (.int .u8 (k : Int)) v).run Tryz.prog w = .ok () (mpPut w g (.map (es.push { key := .int .u8 (k : Int), val := v, born := c }) (c + 1))) := by
  have h1 := MapKept.run_getObj_map (P := Tryz.prog) h
  have h2 := MapKept.run_findKey (P := Tryz.prog) (w := w) Tryz.underlying5 hn
  have h3 := MapKept.run_setObj_map (P := Tryz.prog) (Obj.map (es.push { key := .int .u8 (k : Int), val := v, born := c }) (c + 1)) h
  have h4 : (Instr.checkKey false 10000 5 (.int .u8 (k : Int))).run Tryz.prog w = .ok () w := by
    unfold Instr.checkKey
    simp only [Sem.run_bind, run_underlying Tryz.underlying5, Result.andThen]
    rfl
  simp [Instr.mapUpdate, run_underlying Tryz.underlying225, Result.andThen, h1, h4, h2, h3, mpPut]

end E
end Go.Proofs.YtbcncohjjnmdcaaGreatDoor
namespace Go.Proofs.YtbcncohjjnmdcaaGreatDoor
namespace E

/-- A digit of a source, the sign that is passed with it (0 none, 1 plus, 2 minus), whether it cannot be taken. -/
structure ED where
  n : Nat
  sign : Nat
  bad : Bool
def edB (x : UInt8) : List ED :=
  if 9 < x.toNat / 16 then [⟨0, 0, true⟩] else if x.toNat % 16 ≤ 9 then [⟨x.toNat / 16, 0, false⟩, ⟨x.toNat % 16, 0, false⟩]
  else [⟨x.toNat / 16, if x.toNat % 16 = 11 ∨ x.toNat % 16 = 13 then 2 else 1, false⟩]
def edL : List UInt8 → List ED
  | [] => []
  | x :: s => if 9 < x.toNat / 16 then edB x else edB x ++ edL s
/-- Where a run stands. -/
structure ES where
  next : Nat
  on : Bool
  nz : Bool
  mark : Int
  text : List UInt8
def edOne (fill : UInt8) (i : Nat) (c : UInt8) (s : ES) (d : ED) : ES :=
  ⟨s.next + 1, (s.on || decide (0 < d.n) || c == 33) && d.sign != 1, s.nz || decide (0 < d.n), if !s.on && decide (0 < d.n) then (i : Int) else s.mark, s.text ++ [if s.on || decide (0 < d.n) then UInt8.ofNat (240 + d.n) else fill]⟩
def edStep (fill : UInt8) (l : List ED) (i : Nat) (c : UInt8) (s : ES) : Nat × ES :=
  if c = 34 then (0, ⟨s.next, false, false, s.mark, s.text ++ [fill]⟩)
  else if c ≠ 32 ∧ c ≠ 33 then (0, ⟨s.next, s.on, s.nz, s.mark, s.text ++ [if s.on then c else fill]⟩)
  else if h : s.next < l.length then (if l[s.next].bad then (7, s) else (0, edOne fill i c s l[s.next])) else (5, s)
def edRun (fill : UInt8) (l : List ED) : List UInt8 → Nat → ES → Nat × ES
  | [], _, s => (0, s)
  | c :: p, i, s => if (edStep fill l i c s).1 = 0 then edRun fill l p (i + 1) (edStep fill l i c s).2 else edStep fill l i c s
theorem run_cons (fill : UInt8) (l : List ED) (c : UInt8) (p : List UInt8) (i : Nat) (s : ES) : edRun fill l (c :: p) i s = if (edStep fill l i c s).1 = 0 then edRun fill l p (i + 1) (edStep fill l i c s).2 else edStep fill l i c s := rfl
def edInit : ES := ⟨0, false, false, -1, []⟩
def edCC (s : ES) : Nat := if s.nz then (if s.on then 1 else 2) else 0
/-- What Edit answers: the text, the condition code, the mark, the code. -/
def edRes (p src : List UInt8) : List UInt8 × Nat × Int × Nat :=
  if 1 ≤ p.length ∧ p.length ≤ 256 then
    (if (edRun (p.headD 0) (edL src) p 0 edInit).1 = 0 then ((edRun (p.headD 0) (edL src) p 0 edInit).2.text, edCC (edRun (p.headD 0) (edL src) p 0 edInit).2, (edRun (p.headD 0) (edL src) p 0 edInit).2.mark, 0)
     else ([], 0, 0, (edRun (p.headD 0) (edL src) p 0 edInit).1))
  else ([], 0, 0, 6)
theorem step_code (fill : UInt8) (l : List ED) (i : Nat) (c : UInt8) (s : ES) : (edStep fill l i c s).1 = 0 ∨ (edStep fill l i c s).1 = 5 ∨ (edStep fill l i c s).1 = 7 := by
  unfold edStep
  split
  · exact .inl rfl
  · split
    · exact .inl rfl
    · split
      · split
        · exact .inr (.inr rfl)
        · exact .inl rfl
      · exact .inr (.inl rfl)
theorem run_code (fill : UInt8) (l : List ED) (p : List UInt8) : ∀ i s, (edRun fill l p i s).1 = 0 ∨ (edRun fill l p i s).1 = 5 ∨ (edRun fill l p i s).1 = 7 := by
  induction p with
  | nil => exact fun _ _ => .inl rfl
  | cons c p ih =>
    intro i s
    unfold edRun
    split
    · exact ih _ _
    · exact step_code fill l i c s
/-- A byte of the text: the fill byte, a digit at a Select or a Start, or the message byte. -/
def edGood (fill c x : UInt8) : Prop := x = fill ∨ ((c = 32 ∨ c = 33) ∧ 240 ≤ x.toNat ∧ x.toNat ≤ 249) ∨ (c ≠ 32 ∧ c ≠ 33 ∧ c ≠ 34 ∧ x = c)
def edNines (l : List ED) : Prop := ∀ d ∈ l, d.n ≤ 9
theorem edB_nines (x : UInt8) : edNines (edB x) := by
  have hx : x.toNat < 256 := x.toNat_lt
  unfold edNines edB
  intro d hd
  split at hd
  · simp at hd
    rw [hd]
    exact Nat.zero_le _
  · split at hd
    · simp at hd
      rcases hd with rfl | rfl
      · show x.toNat / 16 ≤ 9
        omega
      · show x.toNat % 16 ≤ 9
        omega
    · simp at hd
      rw [hd]
      show x.toNat / 16 ≤ 9
      omega
theorem edL_nines (s : List UInt8) : edNines (edL s) := by
  induction s with
  | nil => intro d hd; cases hd
  | cons x s ih =>
    unfold edL
    split
    · exact edB_nines x
    · intro d hd
      rcases List.mem_append.1 hd with h | h
      · exact edB_nines x d h
      · exact ih d h
theorem digit_nat (n : Nat) (h : n ≤ 9) : (UInt8.ofNat (240 + n)).toNat = 240 + n := by
  rw [UInt8.toNat_ofNat']
  exact Nat.mod_eq_of_lt (by show 240 + n < 256; omega)
/-- One step: its byte and its mark. -/
theorem step_good (fill : UInt8) (l : List ED) (hl : edNines l) (i : Nat) (c : UInt8) (s : ES) (h : (edStep fill l i c s).1 = 0) :
    ∃ x, (edStep fill l i c s).2.text = s.text ++ [x] ∧ edGood fill c x ∧ ((edStep fill l i c s).2.mark = s.mark ∨ ((edStep fill l i c s).2.mark = (i : Int) ∧ (c = 32 ∨ c = 33) ∧ 241 ≤ x.toNat ∧ x.toNat ≤ 249)) := by
  unfold edStep at h ⊢
  by_cases h1 : c = 34
  · rw [if_pos h1]
    exact ⟨fill, rfl, .inl rfl, .inl rfl⟩
  · rw [if_neg h1] at h ⊢
    by_cases h2 : c ≠ 32 ∧ c ≠ 33
    · rw [if_pos h2]
      refine ⟨_, rfl, ?_, .inl rfl⟩
      cases s.on
      · exact .inl rfl
      · exact .inr (.inr ⟨h2.1, h2.2, h1, rfl⟩)
    · rw [if_neg h2] at h ⊢
      have hc : c = 32 ∨ c = 33 := by
        by_cases e : c = 32
        · exact .inl e
        · by_cases e2 : c = 33
          · exact .inr e2
          · exact absurd ⟨e, e2⟩ h2
      by_cases h3 : s.next < l.length
      · rw [dif_pos h3] at h ⊢
        cases h4 : l[s.next].bad
        · rw [if_neg (by simp)]
          have h9 := hl _ (List.getElem_mem h3)
          have hd := digit_nat l[s.next].n h9
          generalize l[s.next] = d at *
          unfold edOne
          refine ⟨_, rfl, ?_, ?_⟩
          · by_cases hs : (s.on || decide (0 < d.n)) = true
            · rw [if_pos hs]
              exact .inr (.inl ⟨hc, by omega, by omega⟩)
            · rw [if_neg hs]
              exact .inl rfl
          · by_cases hs : (!s.on && decide (0 < d.n)) = true
            · right
              have hs' : (s.on || decide (0 < d.n)) = true := by
                simp only [Bool.and_eq_true, decide_eq_true_eq] at hs
                simp [hs.2]
              have hp : 0 < d.n := by
                simp only [Bool.and_eq_true, decide_eq_true_eq] at hs
                exact hs.2
              refine ⟨if_pos hs, hc, ?_⟩
              rw [if_pos hs']
              omega
            · left
              exact if_neg hs
        · rw [h4, if_pos rfl] at h
          cases h
      · rw [dif_neg h3] at h
        cases h
/-- A run: its text byte by byte, and its mark. -/
theorem run_good (fill : UInt8) (l : List ED) (hl : edNines l) (p : List UInt8) : ∀ i s, (edRun fill l p i s).1 = 0 →
    ∃ t, t.length = p.length ∧ (edRun fill l p i s).2.text = s.text ++ t ∧ (∀ j, j < p.length → edGood fill (p.getD j 0) (t.getD j 0)) ∧
      ((edRun fill l p i s).2.mark = s.mark ∨ ∃ j, j < p.length ∧ (edRun fill l p i s).2.mark = ((i + j : Nat) : Int) ∧ (p.getD j 0 = 32 ∨ p.getD j 0 = 33) ∧ 241 ≤ (t.getD j 0).toNat ∧ (t.getD j 0).toNat ≤ 249) := by
  induction p with
  | nil => exact fun i s _ => ⟨[], rfl, (List.append_nil _).symm, fun j hj => absurd hj (Nat.not_lt_zero _), .inl rfl⟩
  | cons c p ih =>
    intro i s h
    rw [run_cons] at h ⊢
    by_cases h0 : (edStep fill l i c s).1 = 0
    · rw [if_pos h0] at h ⊢
      obtain ⟨x, hx, hg, hm⟩ := step_good fill l hl i c s h0
      obtain ⟨t, h1, h2, h3, h4⟩ := ih _ _ h
      refine ⟨x :: t, by rw [List.length_cons, h1, List.length_cons], by rw [h2, hx, List.append_assoc]; rfl, fun j hj => ?_, ?_⟩
      · cases j with
        | zero => exact hg
        | succ j => exact h3 j (by simp at hj; omega)
      · rcases h4 with h4 | ⟨j, hj, h4, h5, h6⟩
        · rcases hm with hm | ⟨hm, hc, hx2⟩
          · exact .inl (h4.trans hm)
          · exact .inr ⟨0, by simp, by rw [h4, hm]; rfl, hc, hx2⟩
        · exact .inr ⟨j + 1, by simp; omega, by rw [h4]; congr 1; omega, h5, h6⟩
    · rw [if_neg h0] at h
      exact absurd h h0

end E
end Go.Proofs.YtbcncohjjnmdcaaGreatDoor
namespace Go.Proofs.YtbcncohjjnmdcaaGreatDoor
open Go.RowKit
set_option linter.unusedVariables false
namespace E

/-- The map of the control bytes. -/
def ctlM : Array MapEntry := #[⟨.int .u8 32, .func (.func 217) #[] #[], 0⟩, ⟨.int .u8 33, .func (.func 218) #[] #[], 1⟩, ⟨.int .u8 34, .func (.func 219) #[] #[], 2⟩]
set_option maxRecDepth 100000 in
theorem controls_any (w : World) : Calls Tryz.prog 199 #[] w (fun e w' => ∃ g, e = .returned (.map (some g)) ∧ w.heap.size ≤ g ∧ Mp w' g ctlM 3 ∧ Below w.heap.size w w') := by
  have hmm := @run_makeMap Tryz.prog
  have m0 : Mp (w.alloc (.map #[] 0)) w.heap.size #[] 0 := (MapKept.heap_alloc w _).1
  have e1 := ins_new m0 32 (.func (.func 217) #[] #[]) rfl
  have m1 := mpPut_at m0.lt (#[].push ⟨.int .u8 (32 : Nat), .func (.func 217) #[] #[], 0⟩) (0 + 1)
  have b1 := mpPut_below (o := .map (#[].push ⟨.int .u8 (32 : Nat), .func (.func 217) #[] #[], 0⟩) (0 + 1)) (below_new w (.map #[] 0)) (Nat.le_refl _)
  generalize mpPut (w.alloc (.map #[] 0)) w.heap.size (.map (#[].push ⟨.int .u8 (32 : Nat), .func (.func 217) #[] #[], 0⟩) (0 + 1)) = w1 at *
  have e2 := ins_new m1 33 (.func (.func 218) #[] #[]) rfl
  have m2 := mpPut_at m1.lt ((#[].push ⟨.int .u8 (32 : Nat), .func (.func 217) #[] #[], 0⟩).push ⟨.int .u8 (33 : Nat), .func (.func 218) #[] #[], 0 + 1⟩) (0 + 1 + 1)
  have b2 := mpPut_below (o := .map ((#[].push ⟨.int .u8 (32 : Nat), .func (.func 217) #[] #[], 0⟩).push ⟨.int .u8 (33 : Nat), .func (.func 218) #[] #[], 0 + 1⟩) (0 + 1 + 1)) b1 (Nat.le_refl _)
  generalize mpPut w1 w.heap.size (.map ((#[].push ⟨.int .u8 (32 : Nat), .func (.func 217) #[] #[], 0⟩).push ⟨.int .u8 (33 : Nat), .func (.func 218) #[] #[], 0 + 1⟩) (0 + 1 + 1)) = w2 at *
  have e3 := ins_new m2 34 (.func (.func 219) #[] #[]) rfl
  have m3 := mpPut_at m2.lt (((#[].push ⟨.int .u8 (32 : Nat), .func (.func 217) #[] #[], 0⟩).push ⟨.int .u8 (33 : Nat), .func (.func 218) #[] #[], 0 + 1⟩).push ⟨.int .u8 (34 : Nat), .func (.func 219) #[] #[], 0 + 1 + 1⟩) (0 + 1 + 1 + 1)
  have b3 := mpPut_below (o := .map (((#[].push ⟨.int .u8 (32 : Nat), .func (.func 217) #[] #[], 0⟩).push ⟨.int .u8 (33 : Nat), .func (.func 218) #[] #[], 0 + 1⟩).push ⟨.int .u8 (34 : Nat), .func (.func 219) #[] #[], 0 + 1 + 1⟩) (0 + 1 + 1 + 1)) b2 (Nat.le_refl _)
  generalize mpPut w2 w.heap.size (.map (((#[].push ⟨.int .u8 (32 : Nat), .func (.func 217) #[] #[], 0⟩).push ⟨.int .u8 (33 : Nat), .func (.func 218) #[] #[], 0 + 1⟩).push ⟨.int .u8 (34 : Nat), .func (.func 219) #[] #[], 0 + 1 + 1⟩) (0 + 1 + 1 + 1)) = w3 at *
  have M3 : Hid (Mp w3 w.heap.size ctlM 3) := Lib.hid m3
  have B3 := Lib.hid b3
  rw [show (((32 : Nat)) : Int) = 32 from rfl] at e1
  rw [show (((33 : Nat)) : Int) = 33 from rfl] at e2
  rw [show (((34 : Nat)) : Int) = 34 from rfl] at e3
  clear m0 m1 m2 m3 b1 b2 b3
  go_enter Tryz.func199, Tryz.ntmps199
  go_wp2
  go_ret
  exact ⟨_, rfl, Nat.le_refl _, M3.out, B3.out⟩
set_option maxRecDepth 100000 in
theorem look_ctl {w : World} {g : Nat} (h : Mp w g ctlM 3) (k : Int) (r : Option (Nat × Value)) (hr : Instr.findNow (.int .u8) (.int .u8 k) ctlM.toList 0 = some r) :
    (Instr.lookup 225 (.map (some g)) (.int .u8 k) true).run Tryz.prog w = .ok (.tuple #[(r.map (·.2)).getD .nilFunc, .bool r.isSome]) w := by
  have h1 := MapKept.run_getObj_map (P := Tryz.prog) h
  have h2 := MapKept.run_findKey (P := Tryz.prog) (w := w) Tryz.underlying5 hr
  have h4 : (Instr.checkKey ctlM.isEmpty 10000 5 (.int .u8 k)).run Tryz.prog w = .ok () w := by
    unfold Instr.checkKey
    simp only [Sem.run_bind, run_underlying Tryz.underlying5, Result.andThen]
    rfl
  have h5 : ∀ w, (zeroValue 228).run Tryz.prog w = .ok .nilFunc w := fun w => by kernel_rfl
  cases r with
  | none => simp [Instr.lookup, run_underlying Tryz.underlying225, Result.andThen, h1, h4, h2, h5]
  | some x =>
    obtain ⟨i, v⟩ := x
    simp [Instr.lookup, run_underlying Tryz.underlying225, Result.andThen, h1, h4, h2]

/-! ### The editor -/

/-- The editor as it lies in block G. -/
def EdM (w : World) (G : Nat) (sl : Value) (r : Bool) (fill : UInt8) (on nz : Bool) (mk : Int) (text : List UInt8) : Prop :=
  ∃ tv, Bx w G 224 #[sl, .bool r, tv, .int .u8 (fill.toNat : Int), .bool on, .bool nz, .int .i64 mk] ∧ w.ownsRow (G + 1) 5 1 tv text.length (bsU text)
set_option maxRecDepth 100000 in
theorem Bx.seven {w : World} {g : Nat} {t : TypeId} {a b c d e f h : Value} (hB : Bx w g t #[a, b, c, d, e, f, h]) : (w.cell? ⟨g, 0, none⟩ = some a ∧ w.cell? ⟨g, 1, none⟩ = some b ∧ w.cell? ⟨g, 2, none⟩ = some c ∧ w.cell? ⟨g, 3, none⟩ = some d ∧ w.cell? ⟨g, 4, none⟩ = some e ∧ w.cell? ⟨g, 5, none⟩ = some f ∧ w.cell? ⟨g, 6, none⟩ = some h) ∧ ∀ i, w.frozen? ⟨g, i, none⟩ = false :=
  ⟨⟨hB.cell 0, hB.cell 1, hB.cell 2, hB.cell 3, hB.cell 4, hB.cell 5, hB.cell 6⟩, fun i => hB.frozen i⟩
set_option maxRecDepth 100000 in
theorem own_set {w : World} {g i base n : Nat} {u sv : Value} {xs : List Value} (h : w.ownsRow base 5 1 sv n xs) (hg : g < base) : (w.setCell ⟨g, i, none⟩ u).ownsRow base 5 1 sv n xs := ownsRow_setCell_below h hg u
/-- What a method of an editor in block G leaves: what lies below G, and each map. -/
def BelM (G : Nat) (w w' : World) : Prop := Below G w w' ∧ ∀ g es c, g ≠ G → Mp w g es c → Mp w' g es c
set_option maxRecDepth 100000 in
theorem BelM.refl (G : Nat) (w : World) : BelM G w w := ⟨Below.refl _ _, fun _ _ _ _ h => h⟩
set_option maxRecDepth 100000 in
theorem BelM.trans {G : Nat} {a b c : World} (h : BelM G a b) (k : BelM G b c) : BelM G a c := ⟨h.1.trans k.1, fun g es n hg hm => k.2 g es n hg (h.2 g es n hg hm)⟩
set_option maxRecDepth 100000 in
theorem BelM.set {G i : Nat} {w W : World} (h : BelM G w W) (u : Value) : BelM G w (W.setCell ⟨G, i, none⟩ u) :=
  ⟨h.1.setCell (Nat.le_refl G) u, fun g es n hg hm => (Below.heap_setCell W ⟨G, i, none⟩ u g hg).trans (h.2 g es n hg hm)⟩
set_option maxRecDepth 100000 in
theorem BelM.bel {G : Nat} {w w' : World} (hb : Below w.heap.size w w') (hg : G ≤ w.heap.size) : BelM G w w' := ⟨hb.mono hg, fun g es n _ hm => hm.below hb⟩
/-- What a method without results leaves of the editor. -/
def MPost (w : World) (G : Nat) (sl : Value) (r : Bool) (fill : UInt8) (on nz : Bool) (mk : Int) (text : List UInt8) (e : Ending) (w' : World) : Prop := e = .returned (.tuple #[]) ∧ EdM w' G sl r fill on nz mk text ∧ BelM G w w'
set_option maxRecDepth 100000 in
theorem show_any (G : Nat) (sl : Value) (r : Bool) (fill : UInt8) (on nz : Bool) (mk : Int) (text : List UInt8) (b : UInt8) (w : World) (hl : text.length ≤ 1000) (h : EdM w G sl r fill on nz mk text) :
    Calls Tryz.prog 200 #[.pointer (some ⟨G, 0, none⟩), .int .u8 (b.toNat : Int)] w (MPost w G sl r fill on nz mk (text ++ [if on then b else fill])) := by
  obtain ⟨tv, hB, hO⟩ := h
  obtain ⟨⟨c0, c1, c2, c3, c4, c5, c6⟩, fz⟩ := hB.seven
  have f2 := fz 2
  have HB := Lib.hid hB
  have HO := Lib.hid hO
  have HL := Lib.hid hl
  have HG := Lib.hid hB.lt
  obtain ⟨i0, hi, hz0, hz1, hz2⟩ := info_parts info5
  clear hB hO fz hl
  have fin : ∀ (x : UInt8) (v' : Value) (w1 : World), w1.ownsRow (G + 1) 5 1 v' (text.length + 1) (bsU text ++ [.int .u8 (x.toNat : Int)]) → (w.alloc (.cells #[.int .u8 (x.toNat : Int)] 5)).grownBy w1 tv.ownBlock → (∃ p c, v' = .slice p (text.length + 1) c) ∧ (w1.cell? ⟨G, 2, none⟩ = some tv ∧ w1.frozen? ⟨G, 2, none⟩ = false) ∧ MPost w G sl r fill on nz mk (text ++ [x]) (.returned (.tuple #[])) (w1.setCell ⟨G, 2, none⟩ v') := fun x v' w1 h1 h2 => by
    have hne : some G ≠ tv.ownBlock := fun e => by
      have := (HO.out.lt G e.symm).1
      omega
    have hB1 : Bx w1 G 224 #[sl, .bool r, tv, .int .u8 (fill.toNat : Int), .bool on, .bool nz, .int .i64 mk] := ((HB.out.below (below_new w _)).grown h2 hne)
    have hO1 : w1.ownsRow (G + 1) 5 1 v' (text ++ [x]).length (bsU (text ++ [x])) := by rw [bsU_snoc, List.length_append]; exact h1
    obtain ⟨pv, cv, hv, _⟩ := Hold.full (show Hold w1 (G + 1) v' (text ++ [x]) from hO1)
    refine ⟨⟨pv, cv, by rw [hv, List.length_append]; rfl⟩, ⟨hB1.cell 2, hB1.frozen 2⟩, rfl, ⟨v', hB1.set 2 v', own_set hO1 (by omega)⟩, ?_⟩
    refine BelM.set ⟨?_, fun g es n hg hm => ?_⟩ _
    · refine Below.grown ((below_new w _).mono (Nat.le_of_lt HG.out)) h2 (by have := HG.out; simp; omega) (fun k hk => ?_)
      have := (HO.out.lt k hk).1
      omega
    · have hm1 := hm.below (below_new w (.cells #[.int .u8 (x.toNat : Int)] 5))
      refine (h2.block g hm1.lt (fun hk => ?_)).trans hm1
      rcases HO.out.2 with ⟨e, _⟩ | ⟨g', cap, cur, e, _, hgg, _⟩
      · rw [e] at hk
        cases hk
      · rw [e] at hk
        obtain rfl : g = g' := by simpa [Value.ownBlock] using hk
        have hm' : w.heap[g]? = some (.map es n) := hm
        rw [hgg] at hm'
        cases hm'
  have FIN := Lib.hid fin
  clear fin
  cases on
  · go_enter Tryz.func200, Tryz.ntmps200
    go_wp2_with (at_builtin; refine wpList_append_own _ rfl (.tmp 17) (.tmp 19) 31 rfl (G + 1) 5 i0 (.int .u8 0) 1 1 Tryz.underlying31 hi hz0 hz1 hz2 rfl (by decide) tv text.length (bsU text) rfl (HO.out.alloc _) ⟨w.heap.size, 0, none⟩ 1 1 [_] rfl rfl (cellNew _ _ _) (by intro u hu; simp at hu; subst hu; rfl) (by unfold maxLen; have := HL.out; omega) (by have := HL.out; omega) (by have := HG.out; simp; omega) ?_)
    intro v' w1 hown hgrow hnil
    obtain ⟨⟨pv, cv, rfl⟩, ⟨k2, k3⟩, hfin⟩ := FIN.out fill v' w1 hown hgrow
    have HF := Lib.hid hfin
    clear hown hgrow hnil hfin
    go_wp2
    (try simp only [Exit.inBlock, Exit.then])
    first | (refine bodyPost_ret (results_none rfl _ _ _) rfl ?_) | (refine bodyPost_end (results_none rfl _ _ _) rfl ?_)
    exact HF.out
  · go_enter Tryz.func200, Tryz.ntmps200
    go_wp2_with (at_builtin; refine wpList_append_own _ rfl (.tmp 17) (.tmp 19) 31 rfl (G + 1) 5 i0 (.int .u8 0) 1 1 Tryz.underlying31 hi hz0 hz1 hz2 rfl (by decide) tv text.length (bsU text) rfl (HO.out.alloc _) ⟨w.heap.size, 0, none⟩ 1 1 [_] rfl rfl (cellNew _ _ _) (by intro u hu; simp at hu; subst hu; rfl) (by unfold maxLen; have := HL.out; omega) (by have := HL.out; omega) (by have := HG.out; simp; omega) ?_)
    intro v' w1 hown hgrow hnil
    obtain ⟨⟨pv, cv, rfl⟩, ⟨k2, k3⟩, hfin⟩ := FIN.out b v' w1 hown hgrow
    have HF := Lib.hid hfin
    clear hown hgrow hnil hfin
    go_wp2
    (try simp only [Exit.inBlock, Exit.then])
    first | (refine bodyPost_ret (results_none rfl _ _ _) rfl ?_) | (refine bodyPost_end (results_none rfl _ _ _) rfl ?_)
    exact HF.out
set_option maxRecDepth 100000 in
theorem condition_any (G : Nat) (sl : Value) (r : Bool) (fill : UInt8) (on nz : Bool) (mk : Int) (text : List UInt8) (w : World) (h : EdM w G sl r fill on nz mk text) :
    Calls Tryz.prog 201 #[.pointer (some ⟨G, 0, none⟩)] w fun e w' => e = .returned (.int .i64 ((if nz then (if on then 1 else 2) else 0 : Nat) : Int)) ∧ w = w' := by
  obtain ⟨tv, hB, hO⟩ := h
  obtain ⟨⟨c0, c1, c2, c3, c4, c5, c6⟩, fz⟩ := hB.seven
  clear hB hO fz
  cases nz <;> cases on
  all_goals
    go_enter Tryz.func201, Tryz.ntmps201
    go_wp2
    go_ret
    exact ⟨rfl, rfl⟩
set_option maxRecDepth 100000 in
theorem isPlus_any (x : Nat) (w : World) : Calls Tryz.prog 241 #[.int .u8 (x : Int)] w fun e w' => e = .returned (.bool (decide (x ≠ 11 ∧ x ≠ 13))) ∧ w = w' := by
  by_cases h1 : x = 11
  · subst h1
    go_enter Tryz.func241, Tryz.ntmps241
    go_wp2
    go_ret
    exact ⟨by simp, rfl⟩
  · by_cases h2 : x = 13
    · subst h2
      go_enter Tryz.func241, Tryz.ntmps241
      go_wp2
      go_ret
      exact ⟨by simp, rfl⟩
    · have e1 : ((x : Int) == 11) = false := by simp; omega
      have e2 : ((x : Int) == 13) = false := by simp; omega
      have e3 : ((x : Int) != 11) = true := by simp; omega
      have e4 : ((x : Int) != 13) = true := by simp; omega
      have hv : decide (x ≠ 11 ∧ x ≠ 13) = true := by simp [h1, h2]
      rw [hv]
      clear h1 h2 hv
      go_enter Tryz.func241, Tryz.ntmps241
      go_wp2
      go_ret
      exact ⟨by simp, rfl⟩
set_option maxRecDepth 100000 in
theorem begin_any (G : Nat) (sl : Value) (r : Bool) (fill : UInt8) (on nz : Bool) (mk : Int) (text : List UInt8) (w : World) (h : EdM w G sl r fill on nz mk text) :
    Calls Tryz.prog 237 #[.pointer (some ⟨G, 0, none⟩)] w (MPost w G sl r fill true true (if on then mk else (text.length : Int)) text) := by
  obtain ⟨tv, hB, hO⟩ := h
  obtain ⟨⟨c0, c1, c2, c3, c4, c5, c6⟩, fz⟩ := hB.seven
  have f4 := fz 4
  have f5 := fz 5
  have f6 := fz 6
  obtain ⟨pt, ct, htv⟩ : ∃ p c, tv = .slice p text.length c := by
    obtain ⟨p, c, h, _⟩ := Hold.full (show Hold w (G + 1) tv text from hO)
    exact ⟨p, c, h⟩
  subst htv
  have HB := Lib.hid hB
  have HO := Lib.hid hO
  clear hB hO fz
  cases on
  · go_enter Tryz.func237, Tryz.ntmps237
    go_wp2
    (try simp only [Exit.inBlock, Exit.then])
    first | (refine bodyPost_ret (results_none rfl _ _ _) rfl ?_) | (refine bodyPost_end (results_none rfl _ _ _) rfl ?_)
    exact ⟨rfl, ⟨_, ((HB.out.set 6 _).set 4 _).set 5 _, own_set (own_set (own_set HO.out (by omega)) (by omega)) (by omega)⟩, (((BelM.refl G w).set _).set _).set _⟩
  · go_enter Tryz.func237, Tryz.ntmps237
    go_wp2
    (try simp only [Exit.inBlock, Exit.then])
    first | (refine bodyPost_ret (results_none rfl _ _ _) rfl ?_) | (refine bodyPost_end (results_none rfl _ _ _) rfl ?_)
    exact ⟨rfl, ⟨_, (HB.out.set 4 _).set 5 _, own_set (own_set HO.out (by omega)) (by omega)⟩, ((BelM.refl G w).set _).set _⟩
set_option maxRecDepth 100000 in
theorem separate_any (G : Nat) (sl : Value) (r : Bool) (fill : UInt8) (on nz : Bool) (mk : Int) (text : List UInt8) (w : World) (hl : text.length ≤ 1000) (h : EdM w G sl r fill on nz mk text) :
    Calls Tryz.prog 219 #[.pointer (some ⟨G, 0, none⟩)] w (fun e w' => e = .returned (.int .i64 0) ∧ EdM w' G sl r fill false false mk (text ++ [fill]) ∧ BelM G w w') := by
  obtain ⟨tv, hB, hO⟩ := h
  obtain ⟨⟨c0, c1, c2, c3, c4, c5, c6⟩, fz⟩ := hB.seven
  have f4 := fz 4
  have f5 := fz 5
  have H1 : Hid (EdM ((w.setCell ⟨G, 4, none⟩ (.bool false)).setCell ⟨G, 5, none⟩ (.bool false)) G sl r fill false false mk text) := Lib.hid ⟨tv, (hB.set 4 _).set 5 _, own_set (own_set hO (by omega)) (by omega)⟩
  have H2 : Hid (BelM G w ((w.setCell ⟨G, 4, none⟩ (.bool false)).setCell ⟨G, 5, none⟩ (.bool false))) := Lib.hid (((BelM.refl G w).set _).set _)
  have HS := Lib.hid (fun W (h : EdM W G sl r fill false false mk text) => show_any G sl r fill false false mk text fill W hl h)
  clear hB hO fz hl
  go_enter Tryz.func219, Tryz.ntmps219
  go_wp2_with fail
  refine (HS.out _ H1.out).mono ?_
  rintro e w1 ⟨rfl, hE, hb⟩
  have HE := Lib.hid hE
  have HB2 := Lib.hid (H2.out.trans hb)
  clear hE hb
  go_wp2
  go_ret
  exact ⟨rfl, HE.out, HB2.out⟩

end E
end Go.Proofs.YtbcncohjjnmdcaaGreatDoor
namespace Go.Proofs.YtbcncohjjnmdcaaGreatDoor
open Go.RowKit
set_option linter.unusedVariables false
namespace E

/-- A slice that reads as a list, from blocks below G. -/
def Src (w : World) (G : Nat) (sv : Value) (l : List UInt8) : Prop := ∃ p c, sv = .slice p l.length c ∧ l.length ≤ c ∧ c ≤ 9223372036854775807 ∧ (p = none → c = 0) ∧ (l = [] ∨ ∃ B off, p = some ⟨B, off, none⟩ ∧ B < G ∧ ∀ j, j < l.length → w.cell? ⟨B, off + j, none⟩ = some (.int .u8 ((gt l j).toNat : Int)))
set_option maxRecDepth 100000 in
theorem Src.bel {w w' : World} {G : Nat} {sv : Value} {l : List UInt8} (h : Src w G sv l) (hb : Below G w w') : Src w' G sv l := by
  obtain ⟨p, c, h1, h2, h3, h4, h5⟩ := h
  refine ⟨p, c, h1, h2, h3, h4, ?_⟩
  rcases h5 with h5 | ⟨B, off, e1, e2, e3⟩
  · exact .inl h5
  · exact .inr ⟨B, off, e1, e2, fun j hj => (hb.cell (p := ⟨B, off + j, none⟩) e2).trans (e3 j hj)⟩
set_option maxRecDepth 100000 in
theorem SvB.src {w : World} {sv : Value} {l : List UInt8} (h : SvB w sv l) : Src w w.heap.size sv l := by
  obtain ⟨p, c, h1, h2, h3, h4, h5⟩ := h
  refine ⟨p, c, h1, h3, h4, h5, ?_⟩
  rcases h2 with h2 | ⟨B, off, e1, e2⟩
  · exact .inl h2
  · by_cases h0 : l = []
    · exact .inl h0
    · have hl : 0 < l.length := List.length_pos_iff.2 h0
      exact .inr ⟨B, off, e1, World.block_lt_of_cell? w _ (e2 0 hl), e2⟩
set_option maxRecDepth 100000 in
theorem Src.up {w : World} {G G' : Nat} {sv : Value} {l : List UInt8} (h : Src w G sv l) (hg : G ≤ G') : Src w G' sv l := by
  obtain ⟨p, c, h1, h2, h3, h4, h5⟩ := h
  refine ⟨p, c, h1, h2, h3, h4, ?_⟩
  rcases h5 with h5 | ⟨B, off, e1, e2, e3⟩
  · exact .inl h5
  · exact .inr ⟨B, off, e1, by omega, e3⟩
set_option maxRecDepth 100000 in
/-- The rest of a slice. -/
theorem Src.tail {w : World} {G : Nat} {sv : Value} {x : UInt8} {l : List UInt8} (h : Src w G sv (x :: l)) :
    ∃ sv', (∀ W, (Instr.sliceAt 31 sv (some (.int .i64 1)) none none).run Tryz.prog W = .ok sv' W) ∧ Src w G sv' l ∧ ∃ p n c, sv' = .slice p n c := by
  obtain ⟨p, c, rfl, h2, h3, h4, h5⟩ := h
  have hs : ∀ W : World, (sizeOf (Tryz.prog.elem 31)).run Tryz.prog W = .ok 1 W := fun W => by kernel_rfl
  refine ⟨sliced p 1 (x :: l).length c 1, fun W => ?_, ?_, ⟨_, _, _, rfl⟩⟩
  · rw [run_sliceAt_slice W _ _ _ _ _ Tryz.underlying31, run_slice_l W _ _ _ _ Tryz.underlying31 .i64 1 (by omega) (by simp; omega)]
    rw [hs]
    rfl
  · unfold sliced
    by_cases hc : c = 1
    · subst hc
      have hl : l = [] := by
        have h2' : l.length + 1 ≤ 1 := h2
        have : l.length = 0 := by omega
        exact List.length_eq_zero_iff.1 this
      subst hl
      exact ⟨_, _, rfl, Nat.zero_le _, Nat.zero_le _, fun _ => rfl, .inl rfl⟩
    · rw [if_neg (by simpa using hc)]
      rcases h5 with h5 | ⟨B, off, rfl, e2, e3⟩
      · cases h5
      · refine ⟨some ⟨B, off + 1, none⟩, c - 1, by simp [Addr.add], (by have h2' : l.length + 1 ≤ c := h2; omega), by omega, fun h => (by cases h), .inr ⟨B, off + 1, rfl, e2, fun j hj => ?_⟩⟩
        have := e3 (j + 1) (by simp; omega)
        rw [show off + 1 + j = off + (j + 1) by omega, this]
        rfl
/-- The source's two cells of the editor's block. -/
def DgM (w : World) (G : Nat) (t : TypeId) (cs : Array Value) (sv : Value) (r : Bool) : Prop := Bx w G t cs ∧ cs[0]? = some sv ∧ cs[1]? = some (.bool r)
/-- What next leaves. -/
def NPost (w : World) (G : Nat) (t : TypeId) (cs : Array Value) (l : List UInt8) (e : Ending) (w' : World) : Prop := ∃ sv', e = .returned (.tuple #[]) ∧ w' = (w.setCell ⟨G, 0, none⟩ sv').setCell ⟨G, 1, none⟩ (.bool false) ∧ Src w G sv' l ∧ ∃ p n c, sv' = .slice p n c
set_option maxRecDepth 100000 in
theorem next_any (G : Nat) (t : TypeId) (cs : Array Value) (sv : Value) (r : Bool) (x : UInt8) (l : List UInt8) (w : World) (h : DgM w G t cs sv r) (hs : Src w G sv (x :: l)) :
    Calls Tryz.prog 240 #[.pointer (some ⟨G, 0, none⟩)] w (NPost w G t cs l) := by
  obtain ⟨hB, h0, h1⟩ := h
  have c0 := (hB.cell 0).trans h0
  have c1 := (hB.cell 1).trans h1
  have f0 := hB.frozen 0
  have f1 := hB.frozen 1
  obtain ⟨sv', hrun, hs', p, n, c, rfl⟩ := hs.tail
  obtain ⟨p0, c0', rfl, _⟩ := hs
  have HS := Lib.hid hs'
  clear hs' hB h0 h1
  generalize (x :: l).length = n0 at *
  go_enter Tryz.func240, Tryz.ntmps240
  go_wp2
  (try simp only [Exit.inBlock, Exit.then])
  first | (refine bodyPost_ret (results_none rfl _ _ _) rfl ?_) | (refine bodyPost_end (results_none rfl _ _ _) rfl ?_)
  exact ⟨_, rfl, rfl, HS.out, _, _, _, rfl⟩

end E
end Go.Proofs.YtbcncohjjnmdcaaGreatDoor
namespace Go.Proofs.YtbcncohjjnmdcaaGreatDoor
open Go.RowKit
set_option linter.unusedVariables false
namespace E

/-- The digits that are still to come. -/
def edRem (rem : List UInt8) (r : Bool) : List ED := if r then (match rem with | [] => [] | x :: l => ⟨x.toNat % 16, 0, false⟩ :: edL l) else edL rem
set_option maxRecDepth 100000 in
theorem edL_c (x : UInt8) (l : List UInt8) : edL (x :: l) = if 9 < x.toNat / 16 then edB x else edB x ++ edL l := rfl
set_option maxRecDepth 100000 in
theorem rem_false (l : List UInt8) : edRem l false = edL l := rfl
set_option maxRecDepth 100000 in
theorem rem_bad {x : UInt8} {l : List UInt8} (h : 9 < x.toNat / 16) : edRem (x :: l) false = [⟨0, 0, true⟩] := by
  rw [rem_false, edL_c, if_pos h]
  unfold edB
  rw [if_pos h]
set_option maxRecDepth 100000 in
theorem rem_sign {x : UInt8} {l : List UInt8} (h : ¬ 9 < x.toNat / 16) (h2 : ¬ x.toNat % 16 ≤ 9) : edRem (x :: l) false = ⟨x.toNat / 16, if x.toNat % 16 = 11 ∨ x.toNat % 16 = 13 then 2 else 1, false⟩ :: edL l := by
  rw [rem_false, edL_c, if_neg h]
  unfold edB
  rw [if_neg h, if_neg h2]
  rfl
set_option maxRecDepth 100000 in
theorem rem_two {x : UInt8} {l : List UInt8} (h : ¬ 9 < x.toNat / 16) (h2 : x.toNat % 16 ≤ 9) : edRem (x :: l) false = ⟨x.toNat / 16, 0, false⟩ :: ⟨x.toNat % 16, 0, false⟩ :: edL l := by
  rw [rem_false, edL_c, if_neg h]
  unfold edB
  rw [if_neg h, if_pos h2]
  rfl
set_option maxRecDepth 100000 in
theorem rem_right (x : UInt8) (l : List UInt8) : edRem (x :: l) true = ⟨x.toNat % 16, 0, false⟩ :: edL l := rfl
def Rok (rem : List UInt8) (r : Bool) : Prop := r = true → ∃ x l, rem = x :: l ∧ x.toNat % 16 ≤ 9
set_option maxRecDepth 100000 in
theorem and15n (x : UInt8) : bits .and .u8 (x.toNat : Int) 15 = ((x.toNat % 16 : Nat) : Int) := all256 (p := fun x => bits .and .u8 (x.toNat : Int) 15 = ((x.toNat % 16 : Nat) : Int)) (by decide +kernel) x
set_option maxRecDepth 100000 in
theorem EdM.bel {w w' : World} {G : Nat} {sl : Value} {r : Bool} {fill : UInt8} {on nz : Bool} {mk : Int} {text : List UInt8} (h : EdM w G sl r fill on nz mk text) (hb : Below w.heap.size w w') : EdM w' G sl r fill on nz mk text := by
  obtain ⟨tv, h1, h2⟩ := h
  exact ⟨tv, h1.below hb, own_kept h2 hb⟩
set_option maxRecDepth 100000 in
theorem EdM.lt {w : World} {G : Nat} {sl : Value} {r : Bool} {fill : UInt8} {on nz : Bool} {mk : Int} {text : List UInt8} (h : EdM w G sl r fill on nz mk text) : G < w.heap.size := by
  obtain ⟨tv, h1, h2⟩ := h
  exact h1.lt
/-- What take answers: of the digits D. -/
def TkPost (w : World) (G : Nat) (fill : UInt8) (on nz : Bool) (mk : Int) (text : List UInt8) (D : List ED) (e : Ending) (w' : World) : Prop :=
  BelM G w w' ∧ ((D = [] ∧ e = .returned (.tuple #[.int .u8 0, .bool false, .int .i64 5])) ∨
   (∃ d D', D = d :: D' ∧ d.bad = true ∧ e = .returned (.tuple #[.int .u8 0, .bool false, .int .i64 7])) ∨
   (∃ d D', D = d :: D' ∧ d.bad = false ∧ d.n ≤ 15 ∧ e = .returned (.tuple #[.int .u8 (d.n : Int), .bool (d.sign == 1), .int .i64 0]) ∧ ∃ sl r rem, EdM w' G sl r fill on nz mk text ∧ Src w' G sl rem ∧ Rok rem r ∧ edRem rem r = D'))
set_option maxRecDepth 100000 in
theorem src_mem {w : World} {G : Nat} {sv : Value} {x : UInt8} {l : List UInt8} (h : Src w G sv (x :: l)) : ∃ B off c, sv = .slice (some ⟨B, off, none⟩) (l.length + 1) c ∧ B < G ∧ w.cell? ⟨B, off, none⟩ = some (.int .u8 (x.toNat : Int)) := by
  obtain ⟨p, c, rfl, h2, h3, h4, h5⟩ := h
  rcases h5 with h5 | ⟨B, off, rfl, e2, e3⟩
  · cases h5
  · exact ⟨B, off, c, rfl, e2, by have := e3 0 (by simp); rw [Nat.add_zero] at this; exact this⟩
set_option maxRecDepth 100000 in
theorem EdM.store1 {w : World} {G : Nat} {sl : Value} {r : Bool} {fill : UInt8} {on nz : Bool} {mk : Int} {text : List UInt8} (h : EdM w G sl r fill on nz mk text) (b : Bool) : EdM (w.setCell ⟨G, 1, none⟩ (.bool b)) G sl b fill on nz mk text := by
  obtain ⟨tv, h1, h2⟩ := h
  exact ⟨tv, h1.set 1 _, own_set h2 (by omega)⟩
set_option maxRecDepth 100000 in
theorem EdM.store01 {w : World} {G : Nat} {sl : Value} {r : Bool} {fill : UInt8} {on nz : Bool} {mk : Int} {text : List UInt8} (h : EdM w G sl r fill on nz mk text) (sl' : Value) (b : Bool) : EdM ((w.setCell ⟨G, 0, none⟩ sl').setCell ⟨G, 1, none⟩ (.bool b)) G sl' b fill on nz mk text := by
  obtain ⟨tv, h1, h2⟩ := h
  exact ⟨tv, (h1.set 0 _).set 1 _, own_set (own_set h2 (by omega)) (by omega)⟩
set_option maxRecDepth 100000 in
theorem set2_bel {w W : World} {G : Nat} (h : BelM G w W) (u v : Value) : BelM G w ((W.setCell ⟨G, 0, none⟩ u).setCell ⟨G, 1, none⟩ v) := (h.set _).set _
/-- next, on an editor. -/
def NxPost (w : World) (G : Nat) (fill : UInt8) (on nz : Bool) (mk : Int) (text : List UInt8) (l : List UInt8) (e : Ending) (w' : World) : Prop := e = .returned (.tuple #[]) ∧ BelM G w w' ∧ ∃ sv', EdM w' G sv' false fill on nz mk text ∧ Src w' G sv' l
set_option maxRecDepth 100000 in
theorem enext_any (G : Nat) (sl : Value) (r : Bool) (fill : UInt8) (on nz : Bool) (mk : Int) (text : List UInt8) (x : UInt8) (l : List UInt8) (w : World) (h : EdM w G sl r fill on nz mk text) (hs : Src w G sl (x :: l)) :
    Calls Tryz.prog 240 #[.pointer (some ⟨G, 0, none⟩)] w (NxPost w G fill on nz mk text l) := by
  have h' := h
  obtain ⟨tv, hB, hO⟩ := h'
  refine (next_any G _ _ sl r x l w ⟨hB, rfl, rfl⟩ hs).mono ?_
  rintro e w' ⟨sv', rfl, rfl, hs', _⟩
  have hb := set2_bel (BelM.refl G w) sv' (.bool false)
  exact ⟨rfl, hb, sv', h.store01 sv' false, hs'.bel hb.1⟩
set_option maxRecDepth 100000 in
set_option maxHeartbeats 1000000 in
theorem take_any (G : Nat) (sl : Value) (r : Bool) (fill : UInt8) (on nz : Bool) (mk : Int) (text rem : List UInt8) (w : World) (h : EdM w G sl r fill on nz mk text) (hs : Src w G sl rem) (hr : Rok rem r) :
    Calls Tryz.prog 236 #[.pointer (some ⟨G, 0, none⟩)] w (TkPost w G fill on nz mk text (edRem rem r)) := by
  have HE := Lib.hid h
  have HS := Lib.hid hs
  obtain ⟨tv, hB, hO⟩ := h
  obtain ⟨⟨c0, c1, _⟩, fz⟩ := hB.seven
  have f1 := fz 1
  clear hB hO fz
  cases rem with
  | nil =>
    have hrf : r = false := by
      cases r
      · rfl
      · obtain ⟨x, l, e, _⟩ := hr rfl
        cases e
    subst hrf
    obtain ⟨p, c, rfl, _⟩ := hs
    clear hr
    go_enter Tryz.func236, Tryz.ntmps236
    go_wp2
    go_ret3
    exact ⟨BelM.refl _ _, .inl ⟨rfl, rfl⟩⟩
  | cons x l =>
    obtain ⟨B, off, c, rfl, hBG, hc⟩ := src_mem hs
    have e2 := and15n x
    obtain ⟨h, hh⟩ : ∃ h : Nat, h = x.toNat / 16 := ⟨_, rfl⟩
    obtain ⟨lo, hlo⟩ : ∃ lo : Nat, lo = x.toNat % 16 := ⟨_, rfl⟩
    have e1 : (x.toNat : Int) / 16 = (h : Int) := by omega
    rw [← hlo] at e2
    have i1 : ¬ (((l.length + 1 : Nat) : Int) = 0) := by omega
    have i2 : (0 : Int) < ((l.length + 1 : Nat) : Int) := by omega
    have HN := Lib.hid (fun W (hb : BelM G w W) (hE : EdM W G (.slice (some ⟨B, off, none⟩) (l.length + 1) c) r fill on nz mk text) => enext_any G _ r fill on nz mk text x l W hE (hs.bel hb.1))
    have HX : Hid (h = x.toNat / 16 ∧ lo = x.toNat % 16) := Lib.hid ⟨hh, hlo⟩
    have HR := Lib.hid hr
    have hx16 : h ≤ 15 := by have := x.toNat_lt; omega
    have hl16 : lo ≤ 15 := by omega
    have HH := Lib.hid hx16
    have HLL := Lib.hid hl16
    have HBG := Lib.hid hBG
    clear hs hr hBG hh hlo hx16 hl16
    have HDR : Hid (∀ m, BelM G w (w.drewN m)) := Lib.hid (fun m => BelM.bel (belowDraw w m) (Nat.le_of_lt HE.out.lt))
    have HED : Hid (∀ m, EdM (w.drewN m) G (.slice (some ⟨B, off, none⟩) (l.length + 1) c) r fill on nz mk text) := Lib.hid (fun m => HE.out.bel (belowDraw w m))
    generalize l.length + 1 = n0 at *
    cases r
    · by_cases h9 : 9 < h
      · have i3 : (9 : Int) < (h : Int) := by omega
        go_enter Tryz.func236, Tryz.ntmps236
        go_wp2
        go_quiet (fail)
        go_wp2
        go_ret3
        refine ⟨HDR.out _, .inr (.inl ⟨⟨0, 0, true⟩, [], ?_, rfl, rfl⟩)⟩
        have h9' : 9 < x.toNat / 16 := by rw [← HX.out.1]; exact h9
        exact rem_bad h9'
      · by_cases hl9 : 9 < lo
        · have i3 : ¬ ((9 : Int) < (h : Int)) := by omega
          have i4 : (9 : Int) < (lo : Int) := by omega
          go_enter Tryz.func236, Tryz.ntmps236
          go_wp2
          go_quiet (fail)
          go_wp2_with fail
          refine (HN.out _ (HDR.out _) (HED.out _)).mono ?_
          rintro e w1 ⟨rfl, hb1, sv', hE1, hS1⟩
          have HE1 := Lib.hid hE1
          have HS1 := Lib.hid hS1
          have HB1 := Lib.hid ((HDR.out _).trans hb1)
          clear hE1 hS1 hb1
          go_wp2_with fail
          refine (isPlus_any lo w1).mono ?_
          rintro e w2 ⟨rfl, rfl⟩
          go_wp2
          go_ret3
          refine ⟨HB1.out, .inr (.inr ⟨⟨h, if lo = 11 ∨ lo = 13 then 2 else 1, false⟩, edL l, ?_, rfl, HH.out, ?_, sv', false, l, HE1.out, HS1.out, (fun h => by cases h), rfl⟩)⟩
          · have h9' : ¬ 9 < x.toNat / 16 := by rw [← HX.out.1]; exact h9
            have hl9' : ¬ x.toNat % 16 ≤ 9 := by rw [← HX.out.2]; omega
            rw [rem_sign h9' hl9', ← HX.out.1, ← HX.out.2]
          · congr 4
            by_cases h11 : lo = 11
            · simp [h11]
            · by_cases h13 : lo = 13
              · simp [h13]
              · simp [h11, h13]
        · have i3 : ¬ ((9 : Int) < (h : Int)) := by omega
          have i4 : ¬ ((9 : Int) < (lo : Int)) := by omega
          go_enter Tryz.func236, Tryz.ntmps236
          go_wp2
          go_quiet (fail)
          go_wp2
          go_ret3
          have hb1 := (HDR.out 0)
          refine ⟨(HDR.out _).set _, .inr (.inr ⟨⟨h, 0, false⟩, ⟨lo, 0, false⟩ :: edL l, ?_, rfl, HH.out, rfl, _, true, x :: l, (HED.out _).store1 true, HS.out.bel ((HDR.out _).set _).1, fun _ => ⟨x, l, rfl, ?_⟩, ?_⟩)⟩
          · have h9' : ¬ 9 < x.toNat / 16 := by rw [← HX.out.1]; exact h9
            have hl9' : x.toNat % 16 ≤ 9 := by rw [← HX.out.2]; omega
            rw [rem_two h9' hl9', ← HX.out.1, ← HX.out.2]
          · rw [← HX.out.2]; omega
          · rw [rem_right, ← HX.out.2]
    · go_enter Tryz.func236, Tryz.ntmps236
      go_wp2
      go_quiet (fail)
      go_wp2_with fail
      refine (HN.out _ (HDR.out _) (HED.out _)).mono ?_
      rintro e w1 ⟨rfl, hb1, sv', hE1, hS1⟩
      have HE1 := Lib.hid hE1
      have HS1 := Lib.hid hS1
      have HB1 := Lib.hid ((HDR.out _).trans hb1)
      clear hE1 hS1 hb1
      go_wp2
      go_ret3
      refine ⟨HB1.out, .inr (.inr ⟨⟨lo, 0, false⟩, edL l, ?_, rfl, HLL.out, rfl, sv', false, l, HE1.out, HS1.out, (fun h => by cases h), rfl⟩)⟩
      rw [rem_right, ← HX.out.2]

end E
end Go.Proofs.YtbcncohjjnmdcaaGreatDoor
namespace Go.Proofs.YtbcncohjjnmdcaaGreatDoor
open Go.RowKit
set_option linter.unusedVariables false
namespace E

/-- What a control byte that takes a digit leaves of the editor. -/
def DgPost (w : World) (G : Nat) (fill : UInt8) (on nz : Bool) (mk : Int) (text : List UInt8) (D : List ED) (st : Bool) (e : Ending) (w' : World) : Prop :=
  BelM G w w' ∧ ((D = [] ∧ e = .returned (.int .i64 5)) ∨ (∃ d D', D = d :: D' ∧ d.bad = true ∧ e = .returned (.int .i64 7)) ∨
   (∃ d D', D = d :: D' ∧ d.bad = false ∧ e = .returned (.int .i64 0) ∧ ∃ sl r rem, EdM w' G sl r fill ((on || decide (0 < d.n) || st) && d.sign != 1) (nz || decide (0 < d.n)) (if !on && decide (0 < d.n) then (text.length : Int) else mk) (text ++ [if on || decide (0 < d.n) then UInt8.ofNat (240 + d.n) else fill]) ∧ Src w' G sl rem ∧ Rok rem r ∧ edRem rem r = D'))
set_option maxRecDepth 100000 in
theorem EdM.sig {w : World} {G : Nat} {sl : Value} {r : Bool} {fill : UInt8} {on nz : Bool} {mk : Int} {text : List UInt8} (h : EdM w G sl r fill on nz mk text) (b : Bool) : EdM (w.setCell ⟨G, 4, none⟩ (.bool b)) G sl r fill b nz mk text := by
  obtain ⟨tv, h1, h2⟩ := h
  exact ⟨tv, h1.set 4 _, own_set h2 (by omega)⟩
set_option maxRecDepth 100000 in
theorem EdM.c4 {w : World} {G : Nat} {sl : Value} {r : Bool} {fill : UInt8} {on nz : Bool} {mk : Int} {text : List UInt8} (h : EdM w G sl r fill on nz mk text) : w.cell? ⟨G, 4, none⟩ = some (.bool on) ∧ w.frozen? ⟨G, 4, none⟩ = false := by
  obtain ⟨tv, h1, h2⟩ := h
  exact ⟨h1.cell 4, h1.frozen 4⟩
set_option maxRecDepth 100000 in
theorem zone_add (n : Nat) (h : n ≤ 15) : IntKind.u8.wrap (240 + (n : Int)) = ((UInt8.ofNat (240 + n)).toNat : Int) := by
  rw [show (UInt8.ofNat (240 + n)).toNat = 240 + n from by rw [UInt8.toNat_ofNat']; exact Nat.mod_eq_of_lt (by show 240 + n < 256; omega)]
  unfold IntKind.wrap
  simp [IntKind.bits, IntKind.signed]
  omega
set_option maxRecDepth 100000 in
set_option maxHeartbeats 1000000 in
theorem digit_any (G : Nat) (sl : Value) (r : Bool) (fill : UInt8) (on nz : Bool) (mk : Int) (text rem : List UInt8) (st : Bool) (w : World) (hl : text.length ≤ 1000) (h : EdM w G sl r fill on nz mk text) (hs : Src w G sl rem) (hr : Rok rem r) :
    Calls Tryz.prog 231 #[.pointer (some ⟨G, 0, none⟩), .bool st] w (DgPost w G fill on nz mk text (edRem rem r) st) := by
  have HT := Lib.hid (take_any G sl r fill on nz mk text rem w h hs hr)
  have HL := Lib.hid hl
  clear h hs hr hl
  generalize edRem rem r = D at *
  go_enter Tryz.func231, Tryz.ntmps231
  go_wp2_with fail
  refine (HT.out).mono ?_
  rintro e w1 ⟨hb1, h1⟩
  have HB1 := Lib.hid hb1
  clear hb1 HT
  rcases h1 with ⟨rfl, rfl⟩ | ⟨d, D', rfl, hbad, rfl⟩ | ⟨d, D', rfl, hbad, hn, rfl, sl1, r1, rem1, hE, hS, hR, hD⟩
  · go_wp2
    go_ret
    exact ⟨HB1.out, .inl ⟨rfl, rfl⟩⟩
  · go_wp2
    go_ret
    exact ⟨HB1.out, .inr (.inl ⟨d, D', rfl, hbad, rfl⟩)⟩
  · have HE := Lib.hid hE
    have HS := Lib.hid hS
    have HR := Lib.hid hR
    have HD := Lib.hid hD
    have HBD := Lib.hid hbad
    have hz := zone_add d.n hn
    clear hE hS hR hD hbad hn
    have HGOAL : Hid (∀ (e : Ending) (w' : World), e = .returned (.int .i64 0) → BelM G w w' → (∃ sl r rem, EdM w' G sl r fill ((on || decide (0 < d.n) || st) && !(d.sign == 1)) (nz || decide (0 < d.n)) (if !on && decide (0 < d.n) then (text.length : Int) else mk) (text ++ [if on || decide (0 < d.n) then UInt8.ofNat (240 + d.n) else fill]) ∧ Src w' G sl rem ∧ Rok rem r ∧ edRem rem r = D') → DgPost w G fill on nz mk text (d :: D') st e w') := Lib.hid (fun e w' h1 h2 h3 => ⟨h2, .inr (.inr ⟨d, D', rfl, HBD.out, h1, h3⟩)⟩)
    generalize DgPost w G fill on nz mk text (d :: D') st = Q at *
    generalize d.n = n at *
    generalize (d.sign == 1) = pl at *
    have HBG := Lib.hid (Nat.le_refl G)
    have HSH := Lib.hid (fun (o z : Bool) (m : Int) (b : UInt8) W (h : EdM W G sl1 r1 fill o z m text) => show_any G sl1 r1 fill o z m text b W HL.out h)
    by_cases h0 : n = 0
    · subst h0
      have HS0 := Lib.hid (fun W (h : EdM W G sl1 r1 fill on nz mk text) => show_any G sl1 r1 fill on nz mk text 240 W HL.out h)
      rw [show (((240 : UInt8)).toNat : Int) = 240 from rfl] at HS0
      clear hz HSH
      cases on <;> cases st <;> cases pl
      all_goals
        go_wp2_with fail
        refine (HS0.out _ HE.out).mono ?_
        rintro e w2 ⟨rfl, hE2, hb2⟩
        obtain ⟨c4, f4⟩ := hE2.c4
        have HE2 := Lib.hid hE2
        have HB2 := Lib.hid (HB1.out.trans hb2)
        have HS2 := Lib.hid (HS.out.bel hb2.1)
        clear hE2 hb2 HS0
        go_wp2
        exact HGOAL.out _ _ rfl (HB2.out.set _) ⟨sl1, r1, rem1, by simpa using HE2.out.sig _, HS2.out.bel ((BelM.refl G _).set _).1, HR.out, HD.out⟩
    · have hnz : ((n : Int) != 0) = true := by simp; omega
      have hp : decide (0 < n) = true := by simp; omega
      have HP := Lib.hid hp
      have HN := Lib.hid h0
      have HBE := Lib.hid (begin_any G sl1 r1 fill on nz mk text w1 HE.out)
      generalize UInt8.ofNat (240 + n) = ch at *
      clear h0 hp
      cases on <;> cases st <;> cases pl
      all_goals
        go_wp2_with fail
        refine (HBE.out).mono ?_
        rintro e w2 ⟨rfl, hE2, hb2⟩
        have HE2 := Lib.hid hE2
        have HB2 := Lib.hid (HB1.out.trans hb2)
        have HS2 := Lib.hid (HS.out.bel hb2.1)
        clear hE2 hb2
        go_wp2_with fail
        refine (HSH.out _ _ _ _ _ HE2.out).mono ?_
        rintro e w3 ⟨rfl, hE3, hb3⟩
        obtain ⟨c4, f4⟩ := hE3.c4
        have HE3 := Lib.hid hE3
        have HB3 := Lib.hid (HB2.out.trans hb3)
        have HS3 := Lib.hid (HS2.out.bel hb3.1)
        clear hE3 hb3
        go_wp2
        refine HGOAL.out _ _ rfl (HB3.out.set _) ⟨sl1, r1, rem1, ?_, HS3.out.bel ((BelM.refl G _).set _).1, HR.out, HD.out⟩
        rw [HP.out]
        simpa using HE3.out.sig _
set_option maxRecDepth 100000 in
/-- A digit that is taken at a Select, or at a Start. -/
theorem select_any (G : Nat) (sl : Value) (r : Bool) (fill : UInt8) (on nz : Bool) (mk : Int) (text rem : List UInt8) (w : World) (hl : text.length ≤ 1000) (h : EdM w G sl r fill on nz mk text) (hs : Src w G sl rem) (hr : Rok rem r) :
    Calls Tryz.prog 217 #[.pointer (some ⟨G, 0, none⟩)] w (DgPost w G fill on nz mk text (edRem rem r) false) := by
  have HD := Lib.hid (digit_any G sl r fill on nz mk text rem false w hl h hs hr)
  clear h hs hr hl
  obtain ⟨Q, hQ⟩ : ∃ Q, Q = DgPost w G fill on nz mk text (edRem rem r) false := ⟨_, rfl⟩
  rw [← hQ] at HD ⊢
  have HQ := Lib.hid hQ
  clear hQ
  go_enter Tryz.func217, Tryz.ntmps217
  go_wp2_with fail
  refine (HD.out).mono ?_
  intro e w1 hq
  obtain ⟨code, rfl⟩ : ∃ code : Int, e = .returned (.int .i64 code) := by
    rw [HQ.out] at hq
    rcases hq with ⟨_, ⟨_, h⟩ | ⟨_, _, _, _, h⟩ | ⟨_, _, _, _, h, _⟩⟩ <;> exact ⟨_, h⟩
  have HH := Lib.hid hq
  clear hq
  go_wp2
  exact HH.out
set_option maxRecDepth 100000 in
theorem start_any (G : Nat) (sl : Value) (r : Bool) (fill : UInt8) (on nz : Bool) (mk : Int) (text rem : List UInt8) (w : World) (hl : text.length ≤ 1000) (h : EdM w G sl r fill on nz mk text) (hs : Src w G sl rem) (hr : Rok rem r) :
    Calls Tryz.prog 218 #[.pointer (some ⟨G, 0, none⟩)] w (DgPost w G fill on nz mk text (edRem rem r) true) := by
  have HD := Lib.hid (digit_any G sl r fill on nz mk text rem true w hl h hs hr)
  clear h hs hr hl
  obtain ⟨Q, hQ⟩ : ∃ Q, Q = DgPost w G fill on nz mk text (edRem rem r) true := ⟨_, rfl⟩
  rw [← hQ] at HD ⊢
  have HQ := Lib.hid hQ
  clear hQ
  go_enter Tryz.func218, Tryz.ntmps218
  go_wp2_with fail
  refine (HD.out).mono ?_
  intro e w1 hq
  obtain ⟨code, rfl⟩ : ∃ code : Int, e = .returned (.int .i64 code) := by
    rw [HQ.out] at hq
    rcases hq with ⟨_, ⟨_, h⟩ | ⟨_, _, _, _, h⟩ | ⟨_, _, _, _, h, _⟩⟩ <;> exact ⟨_, h⟩
  have HH := Lib.hid hq
  clear hq
  go_wp2
  exact HH.out

end E
end Go.Proofs.YtbcncohjjnmdcaaGreatDoor
namespace Go.Proofs.YtbcncohjjnmdcaaGreatDoor
open Go.RowKit
set_option linter.unusedVariables false
namespace E

set_option maxRecDepth 100000 in
theorem step_none {fill c : UInt8} {L : List ED} {i : Nat} {s : ES} (hc : c = 32 ∨ c = 33) (h : L.drop s.next = []) : edStep fill L i c s = (5, s) := by
  have hn : ¬ s.next < L.length := by have := List.drop_eq_nil_iff.1 h; omega
  unfold edStep
  rw [if_neg (by rcases hc with rfl | rfl <;> decide), if_neg (by rcases hc with rfl | rfl <;> decide), dif_neg hn]
set_option maxRecDepth 100000 in
theorem step_some {fill c : UInt8} {L D : List ED} {d : ED} {i : Nat} {s : ES} (hc : c = 32 ∨ c = 33) (h : L.drop s.next = d :: D) : edStep fill L i c s = if d.bad then (7, s) else (0, edOne fill i c s d) := by
  have hn : s.next < L.length := by
    rcases Nat.lt_or_ge s.next L.length with h1 | h1
    · exact h1
    · rw [List.drop_eq_nil_of_le h1] at h
      cases h
  have hd : L[s.next] = d := by
    rw [List.drop_eq_getElem_cons hn] at h
    exact (List.cons.inj h).1
  unfold edStep
  rw [if_neg (by rcases hc with rfl | rfl <;> decide), if_neg (by rcases hc with rfl | rfl <;> decide), dif_pos hn, hd]
set_option maxRecDepth 100000 in
theorem drop_next {L D : List ED} {d : ED} {k : Nat} (h : L.drop k = d :: D) : L.drop (k + 1) = D := by
  rw [← List.drop_drop, h]
  rfl
set_option maxRecDepth 100000 in
theorem drop_at {l : List UInt8} {i : Nat} (h : i < l.length) : l.drop i = gt l i :: l.drop (i + 1) := by
  rw [List.drop_eq_getElem_cons h, gt_lt h]
/-- Where the run stands behind i bytes of the pattern. -/
def EdAt (fill : UInt8) (L : List ED) (pat : List UInt8) (RUN : Nat × ES) (G : Nat) (w1 : World) (i : Nat) (W : World) : Prop :=
  ∃ s sl r rem, RUN = edRun fill L (pat.drop i) i s ∧ s.text.length = i ∧ EdM W G sl r fill s.on s.nz s.mark s.text ∧ Src W G sl rem ∧ Rok rem r ∧ edRem rem r = L.drop s.next ∧ BelM G w1 W
set_option maxRecDepth 100000 in
theorem edAt_step {fill : UInt8} {L : List ED} {pat : List UInt8} {RUN : Nat × ES} {s : ES} {i : Nat} (hi : i < pat.length) (h : RUN = edRun fill L (pat.drop i) i s) :
    RUN = if (edStep fill L i (gt pat i) s).1 = 0 then edRun fill L (pat.drop (i + 1)) (i + 1) (edStep fill L i (gt pat i) s).2 else edStep fill L i (gt pat i) s := by
  rw [h, drop_at hi, run_cons]
/-- What Edit answers. -/
def EPost (w : World) (r : List UInt8 × Nat × Int × Nat) (e : Ending) (w' : World) : Prop :=
  ∃ tv, e = .returned (.tuple #[.agg #[tv, .int .i64 (r.2.1 : Int), .int .i64 r.2.2.1], .int .i64 (r.2.2.2 : Int)]) ∧ Hold w' w.heap.size tv r.1 ∧ Below w.heap.size w w'
set_option maxRecDepth 100000 in
theorem hold_nil (w : World) (b : Nat) : Hold w b (.slice none 0 0) [] := World.ownsRow_nil _ _ _ _
set_option maxRecDepth 100000 in
/-- What the digits of a control byte make of a run. -/
theorem edAt_digit {fill c : UInt8} {L : List ED} {pat : List UInt8} {RUN : Nat × ES} {G i : Nat} {w1 W W' : World} {st : Bool} {s : ES} {r : Bool} {rem : List UInt8} {e : Ending} (hi : i < pat.length) (hcc : gt pat i = c) (hc : c = if st then 33 else 32)
    (h1 : RUN = edRun fill L (pat.drop i) i s) (h2 : s.text.length = i) (h6 : edRem rem r = L.drop s.next) (h7 : BelM G w1 W) (hp : DgPost W G fill s.on s.nz s.mark s.text (edRem rem r) st e W') :
    BelM G w1 W' ∧ ((RUN.1 = 5 ∧ e = .returned (.int .i64 5)) ∨ (RUN.1 = 7 ∧ e = .returned (.int .i64 7)) ∨ (e = .returned (.int .i64 0) ∧ EdAt fill L pat RUN G w1 (i + 1) W')) := by
  have hst := edAt_step hi h1
  have hc' : c = 32 ∨ c = 33 := by cases st <;> simp [hc]
  rw [hcc] at hst
  obtain ⟨hb, hp⟩ := hp
  refine ⟨h7.trans hb, ?_⟩
  rcases hp with ⟨hD, he⟩ | ⟨d, D', hD, hbad, he⟩ | ⟨d, D', hD, hbad, he, sl', r', rem', hE, hS, hR, hD'⟩
  · rw [h6] at hD
    rw [step_none hc' hD, if_neg (show ¬ ((5, s) : Nat × ES).1 = 0 from fun h => by cases h)] at hst
    exact .inl ⟨by rw [hst], he⟩
  · rw [h6] at hD
    rw [step_some hc' hD, if_pos hbad, if_neg (show ¬ ((7, s) : Nat × ES).1 = 0 from fun h => by cases h)] at hst
    exact .inr (.inl ⟨by rw [hst], he⟩)
  · rw [h6] at hD
    have hbn : ¬ d.bad = true := by rw [hbad]; simp
    rw [step_some hc' hD, if_neg hbn, if_pos rfl] at hst
    refine .inr (.inr ⟨he, edOne fill i c s d, sl', r', rem', hst, ?_, ?_, hS, hR, ?_, h7.trans hb⟩)
    · show (s.text ++ [_]).length = i + 1
      rw [List.length_append, h2]
      rfl
    · have hcs : (c == 33) = st := by cases st <;> subst hc <;> decide
      unfold edOne
      rw [hcs, ← h2]
      exact hE
    · rw [hD']
      exact (drop_next hD).symm
/-- Two cells of a block. -/
def Ap2 (G : Nat) (a b : Value) (W : World) : Prop := W.cell? ⟨G, 2, none⟩ = some a ∧ W.cell? ⟨G, 6, none⟩ = some b
set_option maxRecDepth 100000 in
theorem Ap2.st {W : World} {G F : Nat} {a b x y z : Value} (h : Ap2 G a b W) (h1 : G ≠ F) : Ap2 G a b (((W.setCell ⟨F, 0, none⟩ x).setCell ⟨F, 1, none⟩ y).setCell ⟨F, 2, none⟩ z) := by
  have hD : ∀ (V : World) (i j : Nat) (v : Value), (V.setCell ⟨F, i, none⟩ v).cell? ⟨G, j, none⟩ = V.cell? ⟨G, j, none⟩ := fun V i j v => World.cell?_setCell_other V _ _ v (fun e => h1 (by injection e with h _; exact h.symm))
  unfold Ap2 at *
  simp only [hD]
  exact h
set_option maxRecDepth 100000 in
theorem Hold.set3 {w : World} {b F : Nat} {sv : Value} {l : List UInt8} (h : Hold w b sv l) (hF : F < b) (x y z : Value) : Hold (((w.setCell ⟨F, 0, none⟩ x).setCell ⟨F, 1, none⟩ y).setCell ⟨F, 2, none⟩ z) b sv l := own_set (own_set (own_set h hF) hF) hF
set_option maxRecDepth 100000 in
theorem edit_not (p : Option Addr) (n c : Nat) (sv : Value) (w : World) (hn : ¬ (1 ≤ n ∧ n ≤ 256)) :
    Calls Tryz.prog 173 #[.slice p n c, sv] w (EPost w ([], 0, 0, 6)) := by
  have hb1 := below_new w (.cells #[.slice none 0 0, .int .i64 0, .int .i64 0] 192)
  have HB1 := Lib.hid hb1
  clear hb1
  by_cases h0 : n = 0
  · subst h0
    go_enter Tryz.func173, Tryz.ntmps173
    go_wp2
    refine bodyPost_ret (v := .tuple #[.agg #[.slice none 0 0, .int .i64 0, .int .i64 0], .int .i64 6]) ?_ rfl ⟨_, rfl, hold_nil _ _, ?_⟩
    · rw [results_cell_tmp rfl]
      go_simp
    · exact HB1.out
  · have h1 : (256 : Int) < (n : Int) := by omega
    have h2 : ¬ ((n : Int) < 1) := by omega
    clear h0 hn
    go_enter Tryz.func173, Tryz.ntmps173
    go_wp2
    refine bodyPost_ret (v := .tuple #[.agg #[.slice none 0 0, .int .i64 0, .int .i64 0], .int .i64 6]) ?_ rfl ⟨_, rfl, hold_nil _ _, ?_⟩
    · rw [results_cell_tmp rfl]
      go_simp
    · exact HB1.out
set_option maxRecDepth 100000 in
set_option maxHeartbeats 2000000 in
theorem edit_yes (p : Option Addr) (c : Nat) (sv : Value) (pat src : List UInt8) (w : World) (h1 : 1 ≤ pat.length) (h2 : pat.length ≤ 256) (hp : Rd w p pat) (hs : SvB w sv src) :
    Calls Tryz.prog 173 #[.slice p pat.length c, sv] w (EPost w (edRes pat src)) := by
  obtain ⟨B, off, rfl, hcl⟩ : ∃ B off, p = some ⟨B, off, none⟩ ∧ ∀ j, j < pat.length → w.cell? ⟨B, off + j, none⟩ = some (.int .u8 ((gt pat j).toNat : Int)) := by
    rcases hp with h | ⟨B, off, h, hc⟩
    · rw [h] at h1
      simp at h1
    · exact ⟨B, off, h, hc⟩
  have hB : B < w.heap.size := World.block_lt_of_cell? w _ (hcl 0 (by omega))
  obtain ⟨fill, hfill⟩ : ∃ x, x = gt pat 0 := ⟨_, rfl⟩
  have hc0 := hcl 0 (by omega)
  rw [Nat.add_zero, ← hfill] at hc0
  have hc1 : (w.alloc (.cells #[.slice none 0 0, .int .i64 0, .int .i64 0] 192)).cell? ⟨B, off, none⟩ = some (.int .u8 (fill.toNat : Int)) := ((below_new w _).cell (p := ⟨B, off, none⟩) hB).trans hc0
  obtain ⟨RUN, hRUN⟩ : ∃ x, x = edRun fill (edL src) pat 0 edInit := ⟨_, rfl⟩
  have hhd : pat.headD 0 = fill := by
    rw [hfill]
    cases pat
    · simp at h1
    · rfl
  have hres : edRes pat src = if RUN.1 = 0 then (RUN.2.text, edCC RUN.2, RUN.2.mark, 0) else ([], 0, 0, RUN.1) := by
    unfold edRes
    rw [if_pos ⟨h1, h2⟩, hhd, ← hRUN]
  have HRES := Lib.hid hres
  have HRUN := Lib.hid hRUN
  have HSV := Lib.hid hs.src
  have HCL := Lib.hid hcl
  have HB := Lib.hid hB
  obtain ⟨sp, sc, rfl, _⟩ := hs
  have h2B := Lib.hid (below2 w (.cells #[.slice none 0 0, .int .i64 0, .int .i64 0] 192) (.cells #[.slice sp src.length sc, .bool false, .slice none 0 0, .int .u8 (fill.toNat : Int), .bool false, .bool false, .int .i64 (-1)] 224))
  have hG := Bx.new (w.alloc (.cells #[.slice none 0 0, .int .i64 0, .int .i64 0] 192)) 224 #[.slice sp src.length sc, .bool false, .slice none 0 0, .int .u8 (fill.toNat : Int), .bool false, .bool false, .int .i64 (-1)]
  rw [World.size_alloc] at hG
  have HG := Lib.hid hG
  have hR := (Bx.new w 192 #[.slice none 0 0, .int .i64 0, .int .i64 0]).below (below_new _ (.cells #[.slice sp src.length sc, .bool false, .slice none 0 0, .int .u8 (fill.toNat : Int), .bool false, .bool false, .int .i64 (-1)] 224))
  have HR := Lib.hid hR
  obtain ⟨n, hn⟩ : ∃ n, n = pat.length := ⟨_, rfl⟩
  have HN := Lib.hid hn
  rw [← hn] at h1 h2 ⊢
  have i1 : ¬ ((n : Int) < 1) := by omega
  have i2 : ¬ ((256 : Int) < (n : Int)) := by omega
  have i3 : (0 : Int) < (n : Int) := by omega
  have H12 := Lib.hid (show 1 ≤ n ∧ n ≤ 256 from ⟨h1, h2⟩)
  clear hcl hp hfill hRUN hhd hres hn hB hG hR h1 h2 hc0
  generalize edRes pat src = res at *
  go_enter Tryz.func173, Tryz.ntmps173
  go_wp2_with fail
  refine (controls_any _).mono ?_
  rintro e w1 ⟨g, rfl, hg, hm, hb⟩
  have HM := Lib.hid hm
  have HB1 := Lib.hid (bel0 h2B.out hb)
  have HG1 := Lib.hid (HG.out.below hb)
  have HR1 := Lib.hid (HR.out.below hb)
  have HGG : Hid (g ≠ w.heap.size + 1) := Lib.hid (by have := hg; simp at this; omega)
  have hsv1 : Src w1 (w.heap.size + 1) (.slice sp src.length sc) src := (HSV.out.bel HB1.out).up (by omega)
  have hE1 : EdM w1 (w.heap.size + 1) (.slice sp src.length sc) false fill false false (-1) [] := ⟨_, HG1.out, World.ownsRow_nil _ _ _ _⟩
  have hAt0 : EdAt fill (edL src) pat RUN (w.heap.size + 1) w1 0 w1 := ⟨edInit, _, false, src, HRUN.out, rfl, hE1, hsv1, (fun h => by cases h), rfl, BelM.refl _ _⟩
  have HAT0 := Lib.hid hAt0
  clear hm hb hg hsv1 hE1 hAt0 HSV
  go_wp2
  go_loopw [31] (fun i wr => ∃ t : Nat, t ≤ n ∧ i = .int .i64 t ∧ EdAt fill (edL src) pat RUN (w.heap.size + 1) w1 t wr) (fun i _ => n - (intOf i).toNat)
  case atStart => exact ⟨0, Nat.zero_le _, rfl, HAT0.out⟩
  case round =>
    obtain ⟨t, ht, rfl, hAt⟩ := hrel
    obtain ⟨s, sl, r, rem, a1, a2, a3, a4, a5, a6, a7⟩ := hAt
    have A1 := Lib.hid a1
    have A2 := Lib.hid a2
    have A3 := Lib.hid a3
    have A4 := Lib.hid a4
    have A5 := Lib.hid a5
    have A6 := Lib.hid a6
    have A7 := Lib.hid a7
    clear a1 a2 a3 a4 a5 a6 a7
    by_cases hlt : t < n
    · have hcw : wr.cell? ⟨B, off + t, none⟩ = some (.int .u8 ((gt pat t).toNat : Int)) := (A7.out.1.cell (p := ⟨B, off + t, none⟩) (by have := HB.out; show B < w.heap.size + 1; omega)).trans ((HB1.out.cell (p := ⟨B, off + t, none⟩) HB.out).trans (HCL.out t (by rw [← HN.out]; exact hlt)))
      rcases (show gt pat t = 32 ∨ gt pat t = 33 ∨ gt pat t = 34 ∨ (gt pat t ≠ 32 ∧ gt pat t ≠ 33 ∧ gt pat t ≠ 34) by
        by_cases e1 : gt pat t = 32
        · exact .inl e1
        · by_cases e2 : gt pat t = 33
          · exact .inr (.inl e2)
          · by_cases e3 : gt pat t = 34
            · exact .inr (.inr (.inl e3))
            · exact .inr (.inr (.inr ⟨e1, e2, e3⟩))) with hcc | hcc | hcc | hcc
      · have hlk : ∀ W, Mp W g ctlM 3 → (Instr.lookup 225 (.map (some g)) (.int .u8 32) true).run Tryz.prog W = .ok (.tuple #[.func (.func 217) #[] #[], .bool true]) W := fun W h => look_ctl h 32 (some (0, .func (.func 217) #[] #[])) rfl
        have hl2 := hlk wr (A7.out.2 g ctlM 3 HGG.out HM.out)
        have HCC := Lib.hid hcc
        rw [hcc, show (((32 : UInt8)).toNat : Int) = 32 from rfl] at hcw
        clear hlk hcc
        go_wp2_with fail
        refine (select_any _ sl r fill s.on s.nz s.mark s.text rem wr (by have := A2.out; have := H12.out; omega) A3.out A4.out A5.out).mono ?_
        intro e w2 hq
        have hst := edAt_digit (st := false) (by rw [← HN.out]; exact hlt) HCC.out rfl A1.out A2.out A6.out A7.out hq
        obtain ⟨hb2, hst⟩ := hst
        have HB2 := Lib.hid hb2
        clear hq hb2
        rcases hst with ⟨hz, rfl⟩ | ⟨hz, rfl⟩ | ⟨rfl, hat⟩
        · have HZ := Lib.hid hz
          obtain ⟨⟨r1, r2, r3⟩, q1, q2, q3⟩ := (HR1.out.bel HB2.out.1 (by omega)).three
          clear hz hcw hl2
          go_wp2
          refine bodyPost_ret (v := .tuple #[.agg #[.slice none 0 0, .int .i64 0, .int .i64 0], .int .i64 5]) ?_ rfl ⟨.slice none 0 0, by rw [HRES.out, HZ.out]; rfl, by rw [HRES.out, HZ.out]; exact hold_nil _ _, below_set3 (HB1.out.trans (HB2.out.1.mono (by omega))) (Nat.le_refl _) _ _ _⟩
          rw [results_cell_tmp rfl]
          go_simp
        · have HZ := Lib.hid hz
          obtain ⟨⟨r1, r2, r3⟩, q1, q2, q3⟩ := (HR1.out.bel HB2.out.1 (by omega)).three
          clear hz hcw hl2
          go_wp2
          refine bodyPost_ret (v := .tuple #[.agg #[.slice none 0 0, .int .i64 0, .int .i64 0], .int .i64 7]) ?_ rfl ⟨.slice none 0 0, by rw [HRES.out, HZ.out]; rfl, by rw [HRES.out, HZ.out]; exact hold_nil _ _, below_set3 (HB1.out.trans (HB2.out.1.mono (by omega))) (Nat.le_refl _) _ _ _⟩
          rw [results_cell_tmp rfl]
          go_simp
        · have HAT := Lib.hid hat
          clear hat hcw hl2
          go_wp2
          go_roundw
          case rel => exact ⟨t + 1, by omega, by go_num, HAT.out⟩
          case measure => simp [intOf]; omega
      · have hlk : ∀ W, Mp W g ctlM 3 → (Instr.lookup 225 (.map (some g)) (.int .u8 33) true).run Tryz.prog W = .ok (.tuple #[.func (.func 218) #[] #[], .bool true]) W := fun W h => look_ctl h 33 (some (1, .func (.func 218) #[] #[])) rfl
        have hl2 := hlk wr (A7.out.2 g ctlM 3 HGG.out HM.out)
        have HCC := Lib.hid hcc
        rw [hcc, show (((33 : UInt8)).toNat : Int) = 33 from rfl] at hcw
        clear hlk hcc
        go_wp2_with fail
        refine (start_any _ sl r fill s.on s.nz s.mark s.text rem wr (by have := A2.out; have := H12.out; omega) A3.out A4.out A5.out).mono ?_
        intro e w2 hq
        have hst := edAt_digit (st := true) (by rw [← HN.out]; exact hlt) HCC.out rfl A1.out A2.out A6.out A7.out hq
        obtain ⟨hb2, hst⟩ := hst
        have HB2 := Lib.hid hb2
        clear hq hb2
        rcases hst with ⟨hz, rfl⟩ | ⟨hz, rfl⟩ | ⟨rfl, hat⟩
        · have HZ := Lib.hid hz
          obtain ⟨⟨r1, r2, r3⟩, q1, q2, q3⟩ := (HR1.out.bel HB2.out.1 (by omega)).three
          clear hz hcw hl2
          go_wp2
          refine bodyPost_ret (v := .tuple #[.agg #[.slice none 0 0, .int .i64 0, .int .i64 0], .int .i64 5]) ?_ rfl ⟨.slice none 0 0, by rw [HRES.out, HZ.out]; rfl, by rw [HRES.out, HZ.out]; exact hold_nil _ _, below_set3 (HB1.out.trans (HB2.out.1.mono (by omega))) (Nat.le_refl _) _ _ _⟩
          rw [results_cell_tmp rfl]
          go_simp
        · have HZ := Lib.hid hz
          obtain ⟨⟨r1, r2, r3⟩, q1, q2, q3⟩ := (HR1.out.bel HB2.out.1 (by omega)).three
          clear hz hcw hl2
          go_wp2
          refine bodyPost_ret (v := .tuple #[.agg #[.slice none 0 0, .int .i64 0, .int .i64 0], .int .i64 7]) ?_ rfl ⟨.slice none 0 0, by rw [HRES.out, HZ.out]; rfl, by rw [HRES.out, HZ.out]; exact hold_nil _ _, below_set3 (HB1.out.trans (HB2.out.1.mono (by omega))) (Nat.le_refl _) _ _ _⟩
          rw [results_cell_tmp rfl]
          go_simp
        · have HAT := Lib.hid hat
          clear hat hcw hl2
          go_wp2
          go_roundw
          case rel => exact ⟨t + 1, by omega, by go_num, HAT.out⟩
          case measure => simp [intOf]; omega
      · have hlk : ∀ W, Mp W g ctlM 3 → (Instr.lookup 225 (.map (some g)) (.int .u8 34) true).run Tryz.prog W = .ok (.tuple #[.func (.func 219) #[] #[], .bool true]) W := fun W h => look_ctl h 34 (some (2, .func (.func 219) #[] #[])) rfl
        have hl2 := hlk wr (A7.out.2 g ctlM 3 HGG.out HM.out)
        have hst := edAt_step (by rw [← HN.out]; exact hlt) A1.out
        rw [hcc] at hst
        have hst2 : RUN = edRun fill (edL src) (pat.drop (t + 1)) (t + 1) ⟨s.next, false, false, s.mark, s.text ++ [fill]⟩ := hst
        have HST := Lib.hid hst2
        rw [hcc, show (((34 : UInt8)).toNat : Int) = 34 from rfl] at hcw
        clear hlk hcc hst hst2
        go_wp2_with fail
        refine (separate_any _ sl r fill s.on s.nz s.mark s.text wr (by have := A2.out; have := H12.out; omega) A3.out).mono ?_
        rintro e w2 ⟨rfl, hE, hb2⟩
        have hat : EdAt fill (edL src) pat RUN (w.heap.size + 1) w1 (t + 1) w2 := ⟨_, sl, r, rem, HST.out, by show (s.text ++ [fill]).length = t + 1; rw [List.length_append, A2.out]; rfl, hE, A4.out.bel hb2.1, A5.out, A6.out, A7.out.trans hb2⟩
        have HAT := Lib.hid hat
        clear hat hE hb2 hcw hl2
        go_wp2
        go_roundw
        case rel => exact ⟨t + 1, by omega, by go_num, HAT.out⟩
        case measure => simp [intOf]; omega
      · have hst := edAt_step (by rw [← HN.out]; exact hlt) A1.out
        obtain ⟨x, hx⟩ : ∃ x, x = gt pat t := ⟨_, rfl⟩
        rw [← hx] at hcc hst hcw
        have hne : ((x.toNat : Int) == 32) = false ∧ ((x.toNat : Int) == 33) = false ∧ ((x.toNat : Int) == 34) = false := by
          refine ⟨?_, ?_, ?_⟩ <;> simp only [beq_eq_false_iff_ne, ne_eq] <;> intro h
          · exact hcc.1 (UInt8.toNat_inj.1 (by show x.toNat = 32; omega))
          · exact hcc.2.1 (UInt8.toNat_inj.1 (by show x.toNat = 33; omega))
          · exact hcc.2.2 (UInt8.toNat_inj.1 (by show x.toNat = 34; omega))
        have hfn : Instr.findNow (.int .u8) (.int .u8 (x.toNat : Int)) ctlM.toList 0 = some none := by simp [Instr.findNow, Instr.sameNow, ctlM, hne.1, hne.2.1, hne.2.2]
        have hl2 : (Instr.lookup 225 (.map (some g)) (.int .u8 (x.toNat : Int)) true).run Tryz.prog wr = .ok (.tuple #[.nilFunc, .bool false]) wr := look_ctl (A7.out.2 g ctlM 3 HGG.out HM.out) _ none hfn
        have hst2 : RUN = edRun fill (edL src) (pat.drop (t + 1)) (t + 1) ⟨s.next, s.on, s.nz, s.mark, s.text ++ [if s.on then x else fill]⟩ := by
          have e : edStep fill (edL src) t x s = (0, ⟨s.next, s.on, s.nz, s.mark, s.text ++ [if s.on then x else fill]⟩) := by
            unfold edStep
            rw [if_neg hcc.2.2, if_pos ⟨hcc.1, hcc.2.1⟩]
          rw [e] at hst
          exact hst
        have HST := Lib.hid hst2
        clear hcc hst hst2 hne hfn hx
        go_wp2_with fail
        refine (show_any _ sl r fill s.on s.nz s.mark s.text x wr (by have := A2.out; have := H12.out; omega) A3.out).mono ?_
        rintro e w2 ⟨rfl, hE, hb2⟩
        have hat : EdAt fill (edL src) pat RUN (w.heap.size + 1) w1 (t + 1) w2 := ⟨_, sl, r, rem, HST.out, by show (s.text ++ [_]).length = t + 1; rw [List.length_append, A2.out]; rfl, hE, A4.out.bel hb2.1, A5.out, A6.out, A7.out.trans hb2⟩
        have HAT := Lib.hid hat
        clear hat hE hb2 hcw hl2
        go_wp2
        go_roundw
        case rel => exact ⟨t + 1, by omega, by go_num, HAT.out⟩
        case measure => simp [intOf]; omega
    · obtain rfl : t = n := by omega
      have hrun : RUN = (0, s) := by
        have h := A1.out
        rw [HN.out, List.drop_length] at h
        exact h
      have hres : res = (s.text, edCC s, s.mark, 0) := by
        rw [HRES.out, hrun]
        rfl
      have HV := Lib.hid hres
      obtain ⟨tv, hBx, hown⟩ := A3.out
      have HOW : Hid (Hold wr (w.heap.size + 1 + 1) tv s.text) := Lib.hid hown
      obtain ⟨pv, cv, rfl, _⟩ := HOW.out.full
      have hbd : Below wr.heap.size wr wr.drew := (Below.refl _ _).drew
      have hBd := hBx.below hbd
      have H0 : Hid (Ap2 (w.heap.size + 1) (.slice pv s.text.length cv) (.int .i64 s.mark) wr.drew) := Lib.hid ⟨hBd.cell 2, hBd.cell 6⟩
      have hcd : Calls Tryz.prog 201 #[.pointer (some ⟨w.heap.size + 1, 0, none⟩)] wr.drew fun e w' => e = .returned (.int .i64 (edCC s : Int)) ∧ wr.drew = w' := condition_any (w.heap.size + 1) sl r fill s.on s.nz s.mark s.text wr.drew (A3.out.bel hbd)
      have HCD := Lib.hid hcd
      have HRD : Hid (∀ W, wr.drew = W → Bx W w.heap.size 192 #[.slice none 0 0, .int .i64 0, .int .i64 0] ∧ Below w.heap.size w W ∧ Hold W (w.heap.size + 1 + 1) (.slice pv s.text.length cv) s.text ∧ Ap2 (w.heap.size + 1) (.slice pv s.text.length cv) (.int .i64 s.mark) W) := Lib.hid (fun W h => by
        subst h
        exact ⟨(HR1.out.bel A7.out.1 (by omega)).below hbd, bel0 (HB1.out.trans (A7.out.1.mono (by omega))) hbd, HOW.out.kept hbd, H0.out⟩)
      clear hrun hres hBx hown hbd hBd hcd
      generalize edCC s = cc at *
      go_wp2
      go_region_held3 (fun W => W.cell? ⟨w.heap.size + 1, 2, none⟩ = some (.slice pv s.text.length cv) ∧ W.cell? ⟨w.heap.size + 1, 6, none⟩ = some (.int .i64 s.mark))
        (first | assumption | exact H0.out | exact Ap2.st (by assumption) (by omega))
        (first | (go_at_call 201; refine (HCD.out).mono ?_; rintro e w5 ⟨rfl, hw5⟩; obtain ⟨hk1, hk2, hk3, hs5⟩ := HRD.out w5 hw5; have HB5 := Lib.hid hk2; have HO5 := Lib.hid hk3; obtain ⟨⟨r1, r2, r3⟩, q1, q2, q3⟩ := hk1.three; clear hk1 hk2 hk3 hw5))
      all_goals go_wp2
      all_goals refine bodyPost_ret (v := .tuple #[.agg #[.slice pv s.text.length cv, .int .i64 (cc : Int), .int .i64 s.mark], .int .i64 0]) ?_ rfl ⟨_, by rw [HV.out]; rfl, by rw [HV.out]; exact Hold.base (Hold.set3 HO5.out (by omega) _ _ _) (by omega), below_set3 HB5.out (Nat.le_refl _) _ _ _⟩
      all_goals rw [results_cell_tmp rfl]
      all_goals go_simp
set_option maxRecDepth 100000 in
/-- Edit answers what editing as a function of lists answers. -/
theorem edit_any (pv sv : Value) (pat src : List UInt8) (w : World) (hp : SvB w pv pat) (hs : SvB w sv src) :
    Calls Tryz.prog 173 #[pv, sv] w (EPost w (edRes pat src)) := by
  obtain ⟨p, c, rfl, hr, _⟩ := hp
  by_cases h : 1 ≤ pat.length ∧ pat.length ≤ 256
  · exact edit_yes p c sv pat src w h.1 h.2 hr hs
  · have hv : edRes pat src = ([], 0, 0, 6) := by unfold edRes; rw [if_neg h]
    rw [hv]
    exact edit_not p pat.length c sv w h

end E
end Go.Proofs.YtbcncohjjnmdcaaGreatDoor

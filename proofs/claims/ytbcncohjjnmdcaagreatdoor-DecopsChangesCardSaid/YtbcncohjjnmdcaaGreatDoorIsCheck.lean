/- The contract of Check. -/
import Derived.Test.YtbcncohjjnmdcaaGreatDoorRows
import Derived.Test.YtbcncohjjnmdcaaGreatDoorIsIns
namespace Go.Proofs.YtbcncohjjnmdcaaGreatDoor
open Go.RowKit Go.Shelf
set_option linter.unusedVariables false
namespace E
attribute [local go_sem] Oper.semAt_some

theorem bx_cells {w : World} {g : Nat} {t : TypeId} {Q : Ins} (h : Bx w g t Q.cs) :
    w.cell? ⟨g, 0, none⟩ = some (.int .i64 Q.op) ∧ w.cell? ⟨g, 1, none⟩ = some (.int .i64 Q.fo) ∧ w.cell? ⟨g, 2, none⟩ = some (.int .i64 Q.r1) ∧ w.cell? ⟨g, 3, none⟩ = some (.int .i64 Q.r2) ∧ w.cell? ⟨g, 4, none⟩ = some (.int .i64 Q.x2) ∧ w.cell? ⟨g, 5, none⟩ = some (.int .i64 Q.b1) ∧ w.cell? ⟨g, 6, none⟩ = some (.int .i64 Q.d1) ∧ w.cell? ⟨g, 7, none⟩ = some (.int .i64 Q.b2) ∧ w.cell? ⟨g, 8, none⟩ = some (.int .i64 Q.d2) ∧ w.cell? ⟨g, 9, none⟩ = some (.int .i64 Q.l1) ∧ w.cell? ⟨g, 10, none⟩ = some (.int .i64 Q.l2) ∧ w.cell? ⟨g, 11, none⟩ = some (.int .i64 Q.i2) :=
  ⟨h.cell 0, h.cell 1, h.cell 2, h.cell 3, h.cell 4, h.cell 5, h.cell 6, h.cell 7, h.cell 8, h.cell 9, h.cell 10, h.cell 11⟩
theorem ck_step (s : Ins × Bool) (f : Option Nat × Nat) (h : s.2 = true) : ckStep s f = (fs s.1 f.1 0, inR (fv s.1 f.1) f.2) := by
  unfold ckStep
  rw [h]
  rfl
theorem kd_adr (F : Nat) {U B : Nat} (h : U ≠ B) : ((fldsT F).map (adr B U)).map (kd B) = fldsT F := by
  rw [List.map_map]
  refine List.map_id'' (fun f => ?_) _
  obtain ⟨o, b⟩ := f
  cases o with
  | none => simp [adr, kd, h]
  | some k => simp [adr, kd]
theorem ins_iff (Q P : Ins) : Q = P ↔ Q.op = P.op ∧ Q.fo = P.fo ∧ Q.r1 = P.r1 ∧ Q.r2 = P.r2 ∧ Q.x2 = P.x2 ∧ Q.b1 = P.b1 ∧ Q.d1 = P.d1 ∧ Q.b2 = P.b2 ∧ Q.d2 = P.d2 ∧ Q.l1 = P.l1 ∧ Q.l2 = P.l2 ∧ Q.i2 = P.i2 := by
  cases Q
  cases P
  simp
def insNe (Q P : Ins) : Bool := !decide (Q = P)
theorem ins_neq (a0 a1 a2 a3 a4 a5 a6 a7 a8 a9 a10 a11 b0 b1 b2 b3 b4 b5 b6 b7 b8 b9 b10 b11 : Int) (w : World) : (binOp .neq 25 (.agg #[.int .i64 a0, .int .i64 a1, .int .i64 a2, .int .i64 a3, .int .i64 a4, .int .i64 a5, .int .i64 a6, .int .i64 a7, .int .i64 a8, .int .i64 a9, .int .i64 a10, .int .i64 a11]) (.agg #[.int .i64 b0, .int .i64 b1, .int .i64 b2, .int .i64 b3, .int .i64 b4, .int .i64 b5, .int .i64 b6, .int .i64 b7, .int .i64 b8, .int .i64 b9, .int .i64 b10, .int .i64 b11])).run Tryz.prog w = .ok (.bool (insNe ⟨a0, a1, a2, a3, a4, a5, a6, a7, a8, a9, a10, a11⟩ ⟨b0, b1, b2, b3, b4, b5, b6, b7, b8, b9, b10, b11⟩)) w := by
  go_simp
  unfold insNe
  simp only [ins_iff]
  by_cases h0 : a0 = b0
  · subst h0
    rw [if_pos rfl]
    by_cases h1 : a1 = b1
    · subst h1
      rw [if_pos rfl]
      by_cases h2 : a2 = b2
      · subst h2
        rw [if_pos rfl]
        by_cases h3 : a3 = b3
        · subst h3
          rw [if_pos rfl]
          by_cases h4 : a4 = b4
          · subst h4
            rw [if_pos rfl]
            by_cases h5 : a5 = b5
            · subst h5
              rw [if_pos rfl]
              by_cases h6 : a6 = b6
              · subst h6
                rw [if_pos rfl]
                by_cases h7 : a7 = b7
                · subst h7
                  rw [if_pos rfl]
                  by_cases h8 : a8 = b8
                  · subst h8
                    rw [if_pos rfl]
                    by_cases h9 : a9 = b9
                    · subst h9
                      rw [if_pos rfl]
                      by_cases h10 : a10 = b10
                      · subst h10
                        rw [if_pos rfl]
                        by_cases h11 : a11 = b11
                        · subst h11
                          rw [if_pos rfl]
                          simp
                        · rw [if_neg h11]
                          simp [h11]
                      · rw [if_neg h10]
                        simp [h10]
                    · rw [if_neg h9]
                      simp [h9]
                  · rw [if_neg h8]
                    simp [h8]
                · rw [if_neg h7]
                  simp [h7]
              · rw [if_neg h6]
                simp [h6]
            · rw [if_neg h5]
              simp [h5]
          · rw [if_neg h4]
            simp [h4]
        · rw [if_neg h3]
          simp [h3]
      · rw [if_neg h2]
        simp [h2]
    · rw [if_neg h1]
      simp [h1]
  · rw [if_neg h0]
    simp [h0]
theorem vy_above {Pf : List (Addr × Nat) → Prop} {B base n : Nat} {pre : List (Addr × Nat)} {y : Addr × Nat} {W : World} (h : Vy Pf B base pre y W) (h1 : n ≤ B) (h2 : n ≤ base) : n ≤ y.1.block := by
  obtain ⟨_, ⟨k, _, e⟩ | ⟨U, h3, e, _⟩⟩ := h
  · rw [e]; exact h1
  · rw [e]; show n ≤ U; omega
theorem vy_drew {Pf : List (Addr × Nat) → Prop} {B base : Nat} {pre : List (Addr × Nat)} {y : Addr × Nat} {W : World} (h : Vy Pf B base pre y W) : Vy Pf B base pre y W.drew := by
  obtain ⟨hp, h | ⟨U, h1, h2, h3⟩⟩ := h
  · exact ⟨hp, .inl h⟩
  · exact ⟨hp, .inr ⟨U, h1, h2, h3.kept (grown_drewN W 1 none) (by simp)⟩⟩
theorem Boxed.apart {W : World} {g : Nat} {t : TypeId} {v : Value} (h : Boxed W g t v) {p : Addr} (hp : p.block ≠ g) (u : Value) : Boxed (W.setCell p u) g t v := (heap_setCell_other W p g _ (fun e => hp e.symm)).trans h
theorem kb_box {base Bi b : Nat} (W : World) (g : Nat) (u : Value) (h1 : g < base) (h2 : g ≠ Bi) : Kb base Bi b W (W.setCell ⟨g, 0, none⟩ u) := by
  refine ⟨by simp, fun k vs t x hk _ h4 => ?_⟩
  rw [heap_setCell_other W ⟨g, 0, none⟩ k u (by show k ≠ g; omega)]
  exact hk
/-- Between two rounds. -/
def CI (A Br : Nat) (Q : Ins) (pre : List (Addr × Nat)) (W : World) : Prop :=
  ((pre.map (kd Br)).foldl ckStep (Q, true)).2 = true ∧ Bx W A 25 Q.cs ∧ Boxed W (A + 1) 54 (.int .i64 0) ∧ Bx W Br 25 ((pre.map (kd Br)).foldl ckStep (Q, true)).1.cs
theorem CI.own (A Br : Nat) (Q : Ins) : Go.Own (CI A Br Q) := fun _ X Y row ⟨h1, h2, h3, h4⟩ hg hr => ⟨h1, Bx.ab h2 hg hr, Boxed.ab8 h3 hg hr, Bx.ab h4 hg hr⟩
/-- A round has left: a field is out of its range. -/
def CX (A Br F : Nat) (Q : Ins) (pre : List (Addr × Nat)) (W : World) : Prop :=
  PfF F Br pre ∧ ((pre.map (kd Br)).foldl ckStep (Q, true)).2 = false ∧ Boxed W (A + 1) 54 (.int .i64 6)
theorem CX.own (A Br F : Nat) (Q : Ins) : Go.Own (CX A Br F Q) := fun _ X Y row ⟨h1, h2, h3⟩ hg hr => ⟨h1, h2, Boxed.ab8 h3 hg hr⟩
theorem results_cell18 {P : Program} {fn : Func} {p : Tmp} {t : TypeId} {d : TypeDesc} {w : World} {a : Addr} {v : Value} {tmps : Array Value} (h : fn.results = #[.cell p t])
    (hp : tmps.getD p undef = .pointer (some a)) (ha : w.cell? a = some v)
    (ht : P.underlying t = some d) (hd : (match d with | .struct _ | .array _ _ => true | _ => false) = false) :
    (results fn tmps).run P w = .ok v w := by
  have hp' : tmps[p]?.getD undef = .pointer (some a) := by simpa using hp
  simp [results, h, hp', asAddr, run_loadVar_one8 ha ht hd]
attribute [local go_sem 5000] ins_neq
set_option maxRecDepth 100000 in
set_option maxHeartbeats 2000000 in
theorem check_any (Q : Ins) (w : World) : Calls Tryz.prog 34 #[Q.val] w (New w (.int .i64 (chkV Q))) := by
  refine (callsIn_wide (n := 7)).1 ?_
  have hro : Fence.wide.round = none := rfl
  have bA := (Bx.new w 25 Q.cs).below (below_new _ (.cells #[.int .i64 0] 54))
  have bR := boxed_new28 w (.cells Q.cs 25) 54 (.int .i64 0)
  obtain ⟨w2, hw2⟩ : ∃ w2, w2 = (w.alloc (.cells Q.cs 25)).alloc (.cells #[.int .i64 0] 54) := ⟨_, rfl⟩
  rw [← hw2] at bA bR
  have hB2 : Below w.heap.size w w2 := by rw [hw2]; exact bel0 (below_new w _) (below_new _ _)
  have ca0 := (bx_cells bA).1
  have HF := Lib.hid (form_any Q.op w2)
  obtain ⟨F, hF⟩ : ∃ F, F = foO (ixC Q.op) := ⟨_, rfl⟩
  obtain ⟨b, hb⟩ : ∃ b, b = (ixC Q.op).isSome := ⟨_, rfl⟩
  unfold formV at HF
  rw [← hF, ← hb] at HF
  have hfo : foB Q = (b && Q.fo == (F : Int)) := by unfold foB; rw [← hF, ← hb]
  have hch : chkV Q = if foB Q then (if okB8 F Q then 0 else 6) else 80 := by unfold chkV; rw [← hF]
  have hF9 : b = true → 1 ≤ F ∧ F ≤ 9 := fun h => by
    rw [hb] at h
    cases e : ixC Q.op with
    | none => rw [e] at h; cases h
    | some k => rw [hF, e]; exact fo_in k (ixC_some e).1
  have HW2 := Lib.hid hw2
  have HA := Lib.hid bA
  have HR := Lib.hid bR
  have HB2 := Lib.hid hB2
  have HFO := Lib.hid hfo
  have HCH := Lib.hid hch
  have HF9 := Lib.hid hF9
  clear hw2 bA bR hB2 hfo hch hF9 hF hb
  unfold Ins.val
  refine callsIn_of_wp_marks Tryz.func34 rfl trivial ?_ hro
  simp only [Tryz.ntmps34, List.size_toArray, List.length_cons, List.length_nil, Nat.reduceAdd, Nat.reduceSub, Array.replicate_succ, Array.replicate_zero, List.push_toArray, List.append_toArray, List.nil_append, List.cons_append]
  have hw2' := HW2.out
  unfold Ins.cs at hw2'
  rw [hw2'] at ca0
  gi_wp2_with fail
  rw [← hw2']
  refine ⟨trivial, (callsIn_wide.2 HF.out).mono ?_⟩
  rintro e w3 ⟨rfl, hb3⟩
  have bA3 := HA.out.below hb3
  have bR3 := HR.out.kept (grown_of8 hb3 none) (by simp)
  have hB3 := bel0 HB2.out hb3
  have hsz3 : w.heap.size + 2 ≤ w3.heap.size := by
    have h1 := bR3.lt
    omega
  obtain ⟨c0, c1, c2, c3, c4, c5, c6, c7, c8, c9, c10, c11⟩ := bx_cells bA3
  have cR := bR3.cell
  have fR := bR3.frozen
  have HA3 := Lib.hid bA3
  have HR3 := Lib.hid bR3
  have HB3 := Lib.hid hB3
  clear hb3 bA3 bR3 hB3 ca0 hw2'
  by_cases hfo : foB Q = true
  · have hbb : b = true := by
      have h := HFO.out
      rw [hfo] at h
      cases b with
      | false => cases h
      | true => rfl
    have hfF : (Q.fo != (F : Int)) = false := by
      have h := HFO.out
      rw [hfo, hbb, Bool.true_and] at h
      show (!(Q.fo == (F : Int))) = false
      rw [← h]
      rfl
    obtain ⟨hF1, hF2⟩ := HF9.out hbb
    subst hbb
    have HFB := Lib.hid hfo
    clear hfo
    obtain ⟨w4, hw4⟩ : ∃ w4, w4 = w3.alloc (.cells Q.cs 25) := ⟨_, rfl⟩
    have bB4 : Bx w4 w3.heap.size 25 Q.cs := by rw [hw4]; exact Bx.new w3 _ _
    obtain ⟨w5, hw5⟩ : ∃ w5, w5 = w4.alloc (.cells #[.pointer (some ⟨w3.heap.size, 0, none⟩)] 95) := ⟨_, rfl⟩
    have hsz4 : w4.heap.size = w3.heap.size + 1 := by rw [hw4]; simp
    have hsz5 : w5.heap.size = w3.heap.size + 2 := by rw [hw5]; simp [hsz4]
    have hB35 : Below w3.heap.size w3 w5 := by rw [hw5, hw4]; exact bel0 (below_new w3 _) (below_new _ _)
    have bI5 : Boxed w5 (w3.heap.size + 1) 95 (.pointer (some ⟨w3.heap.size, 0, none⟩)) := by rw [← hsz4, hw5]; exact Boxed.new w4 _ _
    have bB5 : Bx w5 w3.heap.size 25 Q.cs := by rw [hw5]; exact bB4.below (below_new _ _)
    have bA5 := HA3.out.below hB35
    have bR5 := HR3.out.kept (grown_of8 hB35 none) (by simp)
    have hfoQ : Q.fo = (F : Int) := by simpa [bne_eq_false_iff_eq] using hfF
    have HT := Lib.hid (fields_tells 6 F w3.heap.size (w3.heap.size + 1) w5 hF1 hF2 (by omega) (by omega) bI5 (by rw [← hfoQ]; exact (bx_cells bB5).2.1))
    have HI0 := Lib.hid (show CI w.heap.size w3.heap.size Q [] w5 ∧ Below w.heap.size w w5 from ⟨⟨rfl, bA5, bR5, bB5⟩, bel0 HB3.out hB35⟩)
    have hgf := Lib.hid (enters_of Tryz.func120 (by kernel_rfl) rfl)
    have HW4 := Lib.hid hw4
    have HW5 := Lib.hid hw5
    have HSZ := Lib.hid (And.intro hsz3 (And.intro hsz4 hsz5))
    have hw4' := hw4
    unfold Ins.cs at hw4'
    clear hw4 bB4 hw5 hsz4 hsz5 hB35 bI5 bB5 bA5 bR5 hfoQ
    gi_wp2_with fail
    rw [← hw4']
    refine ⟨trivial, (callsIn_wide.2 (fieldsV_any _ _)).mono ?_⟩
    rintro e w' ⟨rfl, rfl⟩
    rw [← HW5.out]
    gi_wp2_with fail
    refine wpIn_told (gf := 120) (lb := #[.pointer (some ⟨w3.heap.size + 1, 0, none⟩)]) rfl hgf.out HT.out (fun _ => rfl) (fun pre x W l o o' => vy_put pre x W l o o') (fun x A B C h k => h.trans k) (fun x W l o o' => kb_put W l o o') (fun xs W l o o' _ _ h => h)
      (fun pre W => CI w.heap.size w3.heap.size Q pre W ∧ Below w.heap.size w W)
      (fun pre W => CX w.heap.size w3.heap.size F Q pre W ∧ Below w.heap.size w W)
      (OwnFrom.and (Own.from (CI.own _ _ _) _) (ownFrom_below (Nat.le_refl _) (by have := HSZ.out; omega)))
      (OwnFrom.and (Own.from (CX.own _ _ _ _) _) (ownFrom_below (Nat.le_refl _) (by have := HSZ.out; omega)))
      HI0.out
      (fun y => { tmps := #[.agg #[.int .i64 Q.op, .int .i64 Q.fo, .int .i64 Q.r1, .int .i64 Q.r2, .int .i64 Q.x2, .int .i64 Q.b1, .int .i64 Q.d1, .int .i64 Q.b2, .int .i64 Q.d2, .int .i64 Q.l1, .int .i64 Q.l2, .int .i64 Q.i2], .pointer (some ⟨w.heap.size, 0, none⟩), .pointer (some ⟨w.heap.size + 1, 0, none⟩), .int .i64 (F : Int), .bool true, .pointer (some ⟨w3.heap.size, 0, none⟩), .pointer (some y.1), .int .i64 (y.2 : Int), .tuple #[.int .i64 (F : Int), .bool true], .pointer (some ⟨w.heap.size, 0, none⟩), .int .i64 Q.op, .tuple #[.int .i64 (F : Int), .bool true], .int .i64 (F : Int), .bool true, .bool true, .bool false, .bool false, .pointer (some ⟨w.heap.size, 1, none⟩), .int .i64 Q.fo, .int .i64 (F : Int), .bool false, .bool false, .agg #[.int .i64 Q.op, .int .i64 Q.fo, .int .i64 Q.r1, .int .i64 Q.r2, .int .i64 Q.x2, .int .i64 Q.b1, .int .i64 Q.d1, .int .i64 Q.b2, .int .i64 Q.d2, .int .i64 Q.l1, .int .i64 Q.l2, .int .i64 Q.i2], .func (.func 120) #[] #[.pointer (some ⟨w3.heap.size + 1, 0, none⟩)], .pointer (some y.1), .int .i64 (y.2 : Int), undef, undef, undef, undef, undef, undef, undef, undef, undef, undef, undef, undef, undef, undef, undef, undef, undef, undef, undef, undef, undef], defers := [] }) ?assign ?body ?done ?stop
    case assign =>
      intro l y W K hK
      unfold encY
      gi_wp2
      exact hK
    case body =>
      rintro lp pre y W hv ⟨hci, hB⟩
      have hv2 := vy_drew hv
      have hci2 := CI.own _ _ _ _ _ _ none hci (grown_drewN W 1 none) (fun r e => by cases (e : none = some r))
      obtain ⟨hpf, cy, fy, hset, hne, _, hkset, hlt⟩ := vy_cell (Bi := w3.heap.size + 1) hv2 (by have := HSZ.out; omega) hci2.2.2.2
      have hbt := pf_bits hpf
      obtain ⟨z, hz⟩ : ∃ z, z = fv ((pre.map (kd w3.heap.size)).foldl ckStep (Q, true)).1 (kd w3.heap.size y).1 := ⟨_, rfl⟩
      have hstep : ((pre ++ [y]).map (kd w3.heap.size)).foldl ckStep (Q, true) = (fs ((pre.map (kd w3.heap.size)).foldl ckStep (Q, true)).1 (kd w3.heap.size y).1 0, inR z y.2) := by
        rw [List.map_append, List.foldl_append]
        exact (ck_step _ _ hci.1).trans (by rw [hz]; rfl)
      rw [← hz] at cy
      have hRy : w.heap.size + 1 ≠ y.1.block := hne _ (by have := HSZ.out; omega) (by have := HSZ.out; omega)
      have hAy : w.heap.size ≠ y.1.block := hne _ (by have := HSZ.out; omega) (by have := HSZ.out; omega)
      obtain ⟨p, bt⟩ := y
      have cR := hci.2.2.1.cell
      have fR := hci.2.2.1.frozen
      have cy1 : W.cell? p = some (.int .i64 z) := by rw [← cell_drew_own W p]; exact cy
      have fy1 : W.frozen? p = false := by rw [← frozen_drew_own W p]; exact fy
      have HPF := Lib.hid hpf
      have HSET := Lib.hid (hset 0)
      have HK := Lib.hid (hkset (.int .i64 0))
      have HST := Lib.hid hstep
      have HCI := Lib.hid hci2
      have HB := Lib.hid hB
      have HNE := Lib.hid (And.intro hRy hAy)
      have HBP := Lib.hid ((hB.drew).setCell (p := p) (vy_above hv (by have := HSZ.out; omega) (by have := HSZ.out; omega)) (.int .i64 0))
      have HKR := Lib.hid (kb_box (Bi := w3.heap.size + 1) (base := w5.heap.size) (b := p.block) W.drew (w.heap.size + 1) (.int .i64 6) (by have := HSZ.out; omega) (by have := HSZ.out; omega))
      have hS : (fun Y : World => Y.cell? p = some (.int .i64 z)) W.drew := cy
      dsimp only at hbt
      clear hv hv2 hci hci2 hpf hset hne hkset hstep hz hB hRy hAy hlt cy fy
      by_cases hz0 : z < 0
      · have hin : inR z bt = false := by unfold inR; exact decide_eq_false (fun h => by omega)
        have HIN := Lib.hid hin
        have hz0d : decide (z < 0) = true := decide_eq_true hz0
        clear hin hz0
        gi_wp2_with fail
        refine round_of_held (fun Y => Y.cell? p = some (.int .i64 z)) (by kernel_rfl) (by kernel_rfl) ?_
        show wpAnyH _ _ _ _ _ 12 #[false, false, false, false, false, false, false, false, false, false, false, false] _ _
        refine wpAnyH_take (i := 0) (oi := ⟨some 26, _, _, _, _, _⟩) (v := .pointer (some p)) rfl (by kernel_rfl) (by kernel_rfl) (by kernel_rfl) (fun _ _ _ h => h) (Or.inl ⟨by rfl, fun W hSw => by clear hSw; go_simp⟩) hS ?_
        try simp only [Act.put, List.setIfInBounds_toArray, List.set_cons_zero, List.set_cons_succ]
        refine wpAnyH_take (i := 1) (oi := ⟨some 27, _, _, _, _, _⟩) (v := .pointer (some p)) rfl (by kernel_rfl) (by kernel_rfl) (by kernel_rfl) (fun _ _ _ h => h) (Or.inl ⟨by rfl, fun W hSw => by clear hSw; go_simp⟩) hS ?_
        try simp only [Act.put, List.setIfInBounds_toArray, List.set_cons_zero, List.set_cons_succ]
        refine wpAnyH_take (i := 2) (oi := ⟨some 28, _, _, _, _, _⟩) (v := .int .i64 z) rfl (by kernel_rfl) (by kernel_rfl) (by kernel_rfl) (fun _ _ _ h => h) (Or.inl ⟨by rfl, fun W hSw => by (try dsimp only at hSw); go_simp⟩) hS ?_
        try simp only [Act.put, List.setIfInBounds_toArray, List.set_cons_zero, List.set_cons_succ]
        refine wpAnyH_take (i := 3) (oi := ⟨some 29, _, _, _, _, _⟩) (v := .bool true) rfl (by kernel_rfl) (by kernel_rfl) (by kernel_rfl) (fun _ _ _ h => h) (Or.inl ⟨by rfl, fun W hSw => by clear hSw; go_simp⟩) hS ?_
        try simp only [Act.put, List.setIfInBounds_toArray, List.set_cons_zero, List.set_cons_succ]
        refine wpAnyH_take (i := 4) (oi := ⟨some 30, _, _, _, _, _⟩) (v := .bool true) rfl (by kernel_rfl) (by kernel_rfl) (by kernel_rfl) (fun _ _ _ h => h) (Or.inl ⟨by rfl, fun W hSw => by clear hSw; go_simp⟩) hS ?_
        try simp only [Act.put, List.setIfInBounds_toArray, List.set_cons_zero, List.set_cons_succ]
        refine wpAnyH_take (i := 5) (oi := ⟨some 31, _, _, _, _, _⟩) (v := undef) rfl (by kernel_rfl) (by kernel_rfl) (by kernel_rfl) (fun _ _ _ h => h) (Or.inr ⟨by rfl, rfl⟩) hS ?_
        try simp only [Act.put, List.setIfInBounds_toArray, List.set_cons_zero, List.set_cons_succ]
        refine wpAnyH_take (i := 6) (oi := ⟨some 32, _, _, _, _, _⟩) (v := undef) rfl (by kernel_rfl) (by kernel_rfl) (by kernel_rfl) (fun _ _ _ h => h) (Or.inr ⟨by rfl, rfl⟩) hS ?_
        try simp only [Act.put, List.setIfInBounds_toArray, List.set_cons_zero, List.set_cons_succ]
        refine wpAnyH_take (i := 7) (oi := ⟨some 33, _, _, _, _, _⟩) (v := undef) rfl (by kernel_rfl) (by kernel_rfl) (by kernel_rfl) (fun _ _ _ h => h) (Or.inr ⟨by rfl, rfl⟩) hS ?_
        try simp only [Act.put, List.setIfInBounds_toArray, List.set_cons_zero, List.set_cons_succ]
        refine wpAnyH_take (i := 8) (oi := ⟨some 34, _, _, _, _, _⟩) (v := undef) rfl (by kernel_rfl) (by kernel_rfl) (by kernel_rfl) (fun _ _ _ h => h) (Or.inr ⟨by rfl, rfl⟩) hS ?_
        try simp only [Act.put, List.setIfInBounds_toArray, List.set_cons_zero, List.set_cons_succ]
        refine wpAnyH_take (i := 9) (oi := ⟨some 35, _, _, _, _, _⟩) (v := undef) rfl (by kernel_rfl) (by kernel_rfl) (by kernel_rfl) (fun _ _ _ h => h) (Or.inr ⟨by rfl, rfl⟩) hS ?_
        try simp only [Act.put, List.setIfInBounds_toArray, List.set_cons_zero, List.set_cons_succ]
        refine wpAnyH_take (i := 10) (oi := ⟨some 36, _, _, _, _, _⟩) (v := undef) rfl (by kernel_rfl) (by kernel_rfl) (by kernel_rfl) (fun _ _ _ h => h) (Or.inr ⟨by rfl, rfl⟩) hS ?_
        try simp only [Act.put, List.setIfInBounds_toArray, List.set_cons_zero, List.set_cons_succ]
        refine wpAnyH_take (i := 11) (oi := ⟨some 37, _, _, _, _, _⟩) (v := .bool true) rfl (by kernel_rfl) (by kernel_rfl) (by kernel_rfl) (fun _ _ _ h => h) (Or.inl ⟨by rfl, fun W hSw => by clear hSw; go_simp⟩) hS ?_
        try simp only [Act.put, List.setIfInBounds_toArray, List.set_cons_zero, List.set_cons_succ]
        refine wpAnyH_done (by kernel_rfl) ?_ _
        refine onlyN_normal ?_
        gi_wp2
        exact ⟨((KeepsOthers.drew W).trans (KeepsOthers.setCell _ _ _)).from _, kb_drew HKR.out, ⟨HPF.out, by rw [HST.out]; exact HIN.out, HCI.out.2.2.1.set _⟩, (HB.out.drew).setCell (p := ⟨w.heap.size + 1, 0, none⟩) (by simp) _⟩
      · have hz0d : decide (z < 0) = false := decide_eq_false hz0
        rcases hbt with rfl | rfl | rfl
        · by_cases hzm : 16 ≤ z
          · have hin : inR z 4 = false := by unfold inR; exact decide_eq_false (fun h => by have := h.2; omega)
            have HIN := Lib.hid hin
            have ew : IntKind.i64.wrap 16 = 16 := by decide
            have hzd : decide (16 ≤ z) = true := decide_eq_true hzm
            clear hin hz0
            gi_wp2_with fail
            refine round_of_held (fun Y => Y.cell? p = some (.int .i64 z)) (by kernel_rfl) (by kernel_rfl) ?_
            show wpAnyH _ _ _ _ _ 12 #[false, false, false, false, false, false, false, false, false, false, false, false] _ _
            refine wpAnyH_take (i := 0) (oi := ⟨some 26, _, _, _, _, _⟩) (v := .pointer (some p)) rfl (by kernel_rfl) (by kernel_rfl) (by kernel_rfl) (fun _ _ _ h => h) (Or.inl ⟨by rfl, fun W hSw => by clear hSw; go_simp⟩) hS ?_
            try simp only [Act.put, List.setIfInBounds_toArray, List.set_cons_zero, List.set_cons_succ]
            refine wpAnyH_take (i := 1) (oi := ⟨some 27, _, _, _, _, _⟩) (v := .pointer (some p)) rfl (by kernel_rfl) (by kernel_rfl) (by kernel_rfl) (fun _ _ _ h => h) (Or.inl ⟨by rfl, fun W hSw => by clear hSw; go_simp⟩) hS ?_
            try simp only [Act.put, List.setIfInBounds_toArray, List.set_cons_zero, List.set_cons_succ]
            refine wpAnyH_take (i := 2) (oi := ⟨some 28, _, _, _, _, _⟩) (v := .int .i64 z) rfl (by kernel_rfl) (by kernel_rfl) (by kernel_rfl) (fun _ _ _ h => h) (Or.inl ⟨by rfl, fun W hSw => by (try dsimp only at hSw); go_simp⟩) hS ?_
            try simp only [Act.put, List.setIfInBounds_toArray, List.set_cons_zero, List.set_cons_succ]
            refine wpAnyH_take (i := 3) (oi := ⟨some 29, _, _, _, _, _⟩) (v := .bool false) rfl (by kernel_rfl) (by kernel_rfl) (by kernel_rfl) (fun _ _ _ h => h) (Or.inl ⟨by rfl, fun W hSw => by clear hSw; go_simp⟩) hS ?_
            try simp only [Act.put, List.setIfInBounds_toArray, List.set_cons_zero, List.set_cons_succ]
            refine wpAnyH_take (i := 4) (oi := ⟨some 30, _, _, _, _, _⟩) (v := .bool false) rfl (by kernel_rfl) (by kernel_rfl) (by kernel_rfl) (fun _ _ _ h => h) (Or.inl ⟨by rfl, fun W hSw => by clear hSw; go_simp⟩) hS ?_
            try simp only [Act.put, List.setIfInBounds_toArray, List.set_cons_zero, List.set_cons_succ]
            refine wpAnyH_take (i := 5) (oi := ⟨some 31, _, _, _, _, _⟩) (v := .pointer (some p)) rfl (by kernel_rfl) (by kernel_rfl) (by kernel_rfl) (fun _ _ _ h => h) (Or.inl ⟨by rfl, fun W hSw => by clear hSw; go_simp⟩) hS ?_
            try simp only [Act.put, List.setIfInBounds_toArray, List.set_cons_zero, List.set_cons_succ]
            refine wpAnyH_take (i := 6) (oi := ⟨some 32, _, _, _, _, _⟩) (v := .pointer (some p)) rfl (by kernel_rfl) (by kernel_rfl) (by kernel_rfl) (fun _ _ _ h => h) (Or.inl ⟨by rfl, fun W hSw => by clear hSw; go_simp⟩) hS ?_
            try simp only [Act.put, List.setIfInBounds_toArray, List.set_cons_zero, List.set_cons_succ]
            refine wpAnyH_take (i := 7) (oi := ⟨some 33, _, _, _, _, _⟩) (v := .int .i64 z) rfl (by kernel_rfl) (by kernel_rfl) (by kernel_rfl) (fun _ _ _ h => h) (Or.inl ⟨by rfl, fun W hSw => by (try dsimp only at hSw); go_simp⟩) hS ?_
            try simp only [Act.put, List.setIfInBounds_toArray, List.set_cons_zero, List.set_cons_succ]
            refine wpAnyH_take (i := 8) (oi := ⟨some 34, _, _, _, _, _⟩) (v := .int .i64 4) rfl (by kernel_rfl) (by kernel_rfl) (by kernel_rfl) (fun _ _ _ h => h) (Or.inl ⟨by rfl, fun W hSw => by clear hSw; go_simp⟩) hS ?_
            try simp only [Act.put, List.setIfInBounds_toArray, List.set_cons_zero, List.set_cons_succ]
            refine wpAnyH_take (i := 9) (oi := ⟨some 35, _, _, _, _, _⟩) (v := .int .i64 16) rfl (by kernel_rfl) (by kernel_rfl) (by kernel_rfl) (fun _ _ _ h => h) (Or.inl ⟨by rfl, fun W hSw => by clear hSw; go_simp⟩) hS ?_
            try simp only [Act.put, List.setIfInBounds_toArray, List.set_cons_zero, List.set_cons_succ]
            refine wpAnyH_take (i := 10) (oi := ⟨some 36, _, _, _, _, _⟩) (v := .bool true) rfl (by kernel_rfl) (by kernel_rfl) (by kernel_rfl) (fun _ _ _ h => h) (Or.inl ⟨by rfl, fun W hSw => by clear hSw; go_simp⟩) hS ?_
            try simp only [Act.put, List.setIfInBounds_toArray, List.set_cons_zero, List.set_cons_succ]
            refine wpAnyH_take (i := 11) (oi := ⟨some 37, _, _, _, _, _⟩) (v := .bool true) rfl (by kernel_rfl) (by kernel_rfl) (by kernel_rfl) (fun _ _ _ h => h) (Or.inl ⟨by rfl, fun W hSw => by clear hSw; go_simp⟩) hS ?_
            try simp only [Act.put, List.setIfInBounds_toArray, List.set_cons_zero, List.set_cons_succ]
            refine wpAnyH_done (by kernel_rfl) ?_ _
            refine onlyN_normal ?_
            gi_wp2
            exact ⟨((KeepsOthers.drew W).trans (KeepsOthers.setCell _ _ _)).from _, kb_drew HKR.out, ⟨HPF.out, by rw [HST.out]; exact HIN.out, HCI.out.2.2.1.set _⟩, (HB.out.drew).setCell (p := ⟨w.heap.size + 1, 0, none⟩) (by simp) _⟩
          · have hin : inR z 4 = true := by unfold inR; exact decide_eq_true ⟨by omega, by omega⟩
            have HIN := Lib.hid hin
            have ew : IntKind.i64.wrap 16 = 16 := by decide
            have hzd : decide (16 ≤ z) = false := decide_eq_false hzm
            clear hin hz0
            gi_wp2_with fail
            refine round_of_held (fun Y => Y.cell? p = some (.int .i64 z)) (by kernel_rfl) (by kernel_rfl) ?_
            show wpAnyH _ _ _ _ _ 12 #[false, false, false, false, false, false, false, false, false, false, false, false] _ _
            refine wpAnyH_take (i := 0) (oi := ⟨some 26, _, _, _, _, _⟩) (v := .pointer (some p)) rfl (by kernel_rfl) (by kernel_rfl) (by kernel_rfl) (fun _ _ _ h => h) (Or.inl ⟨by rfl, fun W hSw => by clear hSw; go_simp⟩) hS ?_
            try simp only [Act.put, List.setIfInBounds_toArray, List.set_cons_zero, List.set_cons_succ]
            refine wpAnyH_take (i := 1) (oi := ⟨some 27, _, _, _, _, _⟩) (v := .pointer (some p)) rfl (by kernel_rfl) (by kernel_rfl) (by kernel_rfl) (fun _ _ _ h => h) (Or.inl ⟨by rfl, fun W hSw => by clear hSw; go_simp⟩) hS ?_
            try simp only [Act.put, List.setIfInBounds_toArray, List.set_cons_zero, List.set_cons_succ]
            refine wpAnyH_take (i := 2) (oi := ⟨some 28, _, _, _, _, _⟩) (v := .int .i64 z) rfl (by kernel_rfl) (by kernel_rfl) (by kernel_rfl) (fun _ _ _ h => h) (Or.inl ⟨by rfl, fun W hSw => by (try dsimp only at hSw); go_simp⟩) hS ?_
            try simp only [Act.put, List.setIfInBounds_toArray, List.set_cons_zero, List.set_cons_succ]
            refine wpAnyH_take (i := 3) (oi := ⟨some 29, _, _, _, _, _⟩) (v := .bool false) rfl (by kernel_rfl) (by kernel_rfl) (by kernel_rfl) (fun _ _ _ h => h) (Or.inl ⟨by rfl, fun W hSw => by clear hSw; go_simp⟩) hS ?_
            try simp only [Act.put, List.setIfInBounds_toArray, List.set_cons_zero, List.set_cons_succ]
            refine wpAnyH_take (i := 4) (oi := ⟨some 30, _, _, _, _, _⟩) (v := .bool false) rfl (by kernel_rfl) (by kernel_rfl) (by kernel_rfl) (fun _ _ _ h => h) (Or.inl ⟨by rfl, fun W hSw => by clear hSw; go_simp⟩) hS ?_
            try simp only [Act.put, List.setIfInBounds_toArray, List.set_cons_zero, List.set_cons_succ]
            refine wpAnyH_take (i := 5) (oi := ⟨some 31, _, _, _, _, _⟩) (v := .pointer (some p)) rfl (by kernel_rfl) (by kernel_rfl) (by kernel_rfl) (fun _ _ _ h => h) (Or.inl ⟨by rfl, fun W hSw => by clear hSw; go_simp⟩) hS ?_
            try simp only [Act.put, List.setIfInBounds_toArray, List.set_cons_zero, List.set_cons_succ]
            refine wpAnyH_take (i := 6) (oi := ⟨some 32, _, _, _, _, _⟩) (v := .pointer (some p)) rfl (by kernel_rfl) (by kernel_rfl) (by kernel_rfl) (fun _ _ _ h => h) (Or.inl ⟨by rfl, fun W hSw => by clear hSw; go_simp⟩) hS ?_
            try simp only [Act.put, List.setIfInBounds_toArray, List.set_cons_zero, List.set_cons_succ]
            refine wpAnyH_take (i := 7) (oi := ⟨some 33, _, _, _, _, _⟩) (v := .int .i64 z) rfl (by kernel_rfl) (by kernel_rfl) (by kernel_rfl) (fun _ _ _ h => h) (Or.inl ⟨by rfl, fun W hSw => by (try dsimp only at hSw); go_simp⟩) hS ?_
            try simp only [Act.put, List.setIfInBounds_toArray, List.set_cons_zero, List.set_cons_succ]
            refine wpAnyH_take (i := 8) (oi := ⟨some 34, _, _, _, _, _⟩) (v := .int .i64 4) rfl (by kernel_rfl) (by kernel_rfl) (by kernel_rfl) (fun _ _ _ h => h) (Or.inl ⟨by rfl, fun W hSw => by clear hSw; go_simp⟩) hS ?_
            try simp only [Act.put, List.setIfInBounds_toArray, List.set_cons_zero, List.set_cons_succ]
            refine wpAnyH_take (i := 9) (oi := ⟨some 35, _, _, _, _, _⟩) (v := .int .i64 16) rfl (by kernel_rfl) (by kernel_rfl) (by kernel_rfl) (fun _ _ _ h => h) (Or.inl ⟨by rfl, fun W hSw => by clear hSw; go_simp⟩) hS ?_
            try simp only [Act.put, List.setIfInBounds_toArray, List.set_cons_zero, List.set_cons_succ]
            refine wpAnyH_take (i := 10) (oi := ⟨some 36, _, _, _, _, _⟩) (v := .bool false) rfl (by kernel_rfl) (by kernel_rfl) (by kernel_rfl) (fun _ _ _ h => h) (Or.inl ⟨by rfl, fun W hSw => by clear hSw; go_simp⟩) hS ?_
            try simp only [Act.put, List.setIfInBounds_toArray, List.set_cons_zero, List.set_cons_succ]
            refine wpAnyH_take (i := 11) (oi := ⟨some 37, _, _, _, _, _⟩) (v := .bool false) rfl (by kernel_rfl) (by kernel_rfl) (by kernel_rfl) (fun _ _ _ h => h) (Or.inl ⟨by rfl, fun W hSw => by clear hSw; go_simp⟩) hS ?_
            try simp only [Act.put, List.setIfInBounds_toArray, List.set_cons_zero, List.set_cons_succ]
            refine wpAnyH_done (by kernel_rfl) ?_ _
            refine onlyN_normal ?_
            gi_wp2
            exact ⟨((KeepsOthers.drew W).trans (KeepsOthers.setCell _ _ _)).from _, kb_drew HK.out, ⟨by rw [HST.out]; exact HIN.out, HCI.out.2.1.far (by exact fun h => HNE.out.2 h.symm) _, Boxed.apart HCI.out.2.2.1 (by exact fun h => HNE.out.1 h.symm) _, by rw [HST.out]; exact HSET.out⟩, by have h := HB.out.drew; exact HBP.out⟩
        · by_cases hzm : 256 ≤ z
          · have hin : inR z 8 = false := by unfold inR; exact decide_eq_false (fun h => by have := h.2; omega)
            have HIN := Lib.hid hin
            have ew : IntKind.i64.wrap 256 = 256 := by decide
            have hzd : decide (256 ≤ z) = true := decide_eq_true hzm
            clear hin hz0
            gi_wp2_with fail
            refine round_of_held (fun Y => Y.cell? p = some (.int .i64 z)) (by kernel_rfl) (by kernel_rfl) ?_
            show wpAnyH _ _ _ _ _ 12 #[false, false, false, false, false, false, false, false, false, false, false, false] _ _
            refine wpAnyH_take (i := 0) (oi := ⟨some 26, _, _, _, _, _⟩) (v := .pointer (some p)) rfl (by kernel_rfl) (by kernel_rfl) (by kernel_rfl) (fun _ _ _ h => h) (Or.inl ⟨by rfl, fun W hSw => by clear hSw; go_simp⟩) hS ?_
            try simp only [Act.put, List.setIfInBounds_toArray, List.set_cons_zero, List.set_cons_succ]
            refine wpAnyH_take (i := 1) (oi := ⟨some 27, _, _, _, _, _⟩) (v := .pointer (some p)) rfl (by kernel_rfl) (by kernel_rfl) (by kernel_rfl) (fun _ _ _ h => h) (Or.inl ⟨by rfl, fun W hSw => by clear hSw; go_simp⟩) hS ?_
            try simp only [Act.put, List.setIfInBounds_toArray, List.set_cons_zero, List.set_cons_succ]
            refine wpAnyH_take (i := 2) (oi := ⟨some 28, _, _, _, _, _⟩) (v := .int .i64 z) rfl (by kernel_rfl) (by kernel_rfl) (by kernel_rfl) (fun _ _ _ h => h) (Or.inl ⟨by rfl, fun W hSw => by (try dsimp only at hSw); go_simp⟩) hS ?_
            try simp only [Act.put, List.setIfInBounds_toArray, List.set_cons_zero, List.set_cons_succ]
            refine wpAnyH_take (i := 3) (oi := ⟨some 29, _, _, _, _, _⟩) (v := .bool false) rfl (by kernel_rfl) (by kernel_rfl) (by kernel_rfl) (fun _ _ _ h => h) (Or.inl ⟨by rfl, fun W hSw => by clear hSw; go_simp⟩) hS ?_
            try simp only [Act.put, List.setIfInBounds_toArray, List.set_cons_zero, List.set_cons_succ]
            refine wpAnyH_take (i := 4) (oi := ⟨some 30, _, _, _, _, _⟩) (v := .bool false) rfl (by kernel_rfl) (by kernel_rfl) (by kernel_rfl) (fun _ _ _ h => h) (Or.inl ⟨by rfl, fun W hSw => by clear hSw; go_simp⟩) hS ?_
            try simp only [Act.put, List.setIfInBounds_toArray, List.set_cons_zero, List.set_cons_succ]
            refine wpAnyH_take (i := 5) (oi := ⟨some 31, _, _, _, _, _⟩) (v := .pointer (some p)) rfl (by kernel_rfl) (by kernel_rfl) (by kernel_rfl) (fun _ _ _ h => h) (Or.inl ⟨by rfl, fun W hSw => by clear hSw; go_simp⟩) hS ?_
            try simp only [Act.put, List.setIfInBounds_toArray, List.set_cons_zero, List.set_cons_succ]
            refine wpAnyH_take (i := 6) (oi := ⟨some 32, _, _, _, _, _⟩) (v := .pointer (some p)) rfl (by kernel_rfl) (by kernel_rfl) (by kernel_rfl) (fun _ _ _ h => h) (Or.inl ⟨by rfl, fun W hSw => by clear hSw; go_simp⟩) hS ?_
            try simp only [Act.put, List.setIfInBounds_toArray, List.set_cons_zero, List.set_cons_succ]
            refine wpAnyH_take (i := 7) (oi := ⟨some 33, _, _, _, _, _⟩) (v := .int .i64 z) rfl (by kernel_rfl) (by kernel_rfl) (by kernel_rfl) (fun _ _ _ h => h) (Or.inl ⟨by rfl, fun W hSw => by (try dsimp only at hSw); go_simp⟩) hS ?_
            try simp only [Act.put, List.setIfInBounds_toArray, List.set_cons_zero, List.set_cons_succ]
            refine wpAnyH_take (i := 8) (oi := ⟨some 34, _, _, _, _, _⟩) (v := .int .i64 8) rfl (by kernel_rfl) (by kernel_rfl) (by kernel_rfl) (fun _ _ _ h => h) (Or.inl ⟨by rfl, fun W hSw => by clear hSw; go_simp⟩) hS ?_
            try simp only [Act.put, List.setIfInBounds_toArray, List.set_cons_zero, List.set_cons_succ]
            refine wpAnyH_take (i := 9) (oi := ⟨some 35, _, _, _, _, _⟩) (v := .int .i64 256) rfl (by kernel_rfl) (by kernel_rfl) (by kernel_rfl) (fun _ _ _ h => h) (Or.inl ⟨by rfl, fun W hSw => by clear hSw; go_simp⟩) hS ?_
            try simp only [Act.put, List.setIfInBounds_toArray, List.set_cons_zero, List.set_cons_succ]
            refine wpAnyH_take (i := 10) (oi := ⟨some 36, _, _, _, _, _⟩) (v := .bool true) rfl (by kernel_rfl) (by kernel_rfl) (by kernel_rfl) (fun _ _ _ h => h) (Or.inl ⟨by rfl, fun W hSw => by clear hSw; go_simp⟩) hS ?_
            try simp only [Act.put, List.setIfInBounds_toArray, List.set_cons_zero, List.set_cons_succ]
            refine wpAnyH_take (i := 11) (oi := ⟨some 37, _, _, _, _, _⟩) (v := .bool true) rfl (by kernel_rfl) (by kernel_rfl) (by kernel_rfl) (fun _ _ _ h => h) (Or.inl ⟨by rfl, fun W hSw => by clear hSw; go_simp⟩) hS ?_
            try simp only [Act.put, List.setIfInBounds_toArray, List.set_cons_zero, List.set_cons_succ]
            refine wpAnyH_done (by kernel_rfl) ?_ _
            refine onlyN_normal ?_
            gi_wp2
            exact ⟨((KeepsOthers.drew W).trans (KeepsOthers.setCell _ _ _)).from _, kb_drew HKR.out, ⟨HPF.out, by rw [HST.out]; exact HIN.out, HCI.out.2.2.1.set _⟩, (HB.out.drew).setCell (p := ⟨w.heap.size + 1, 0, none⟩) (by simp) _⟩
          · have hin : inR z 8 = true := by unfold inR; exact decide_eq_true ⟨by omega, by omega⟩
            have HIN := Lib.hid hin
            have ew : IntKind.i64.wrap 256 = 256 := by decide
            have hzd : decide (256 ≤ z) = false := decide_eq_false hzm
            clear hin hz0
            gi_wp2_with fail
            refine round_of_held (fun Y => Y.cell? p = some (.int .i64 z)) (by kernel_rfl) (by kernel_rfl) ?_
            show wpAnyH _ _ _ _ _ 12 #[false, false, false, false, false, false, false, false, false, false, false, false] _ _
            refine wpAnyH_take (i := 0) (oi := ⟨some 26, _, _, _, _, _⟩) (v := .pointer (some p)) rfl (by kernel_rfl) (by kernel_rfl) (by kernel_rfl) (fun _ _ _ h => h) (Or.inl ⟨by rfl, fun W hSw => by clear hSw; go_simp⟩) hS ?_
            try simp only [Act.put, List.setIfInBounds_toArray, List.set_cons_zero, List.set_cons_succ]
            refine wpAnyH_take (i := 1) (oi := ⟨some 27, _, _, _, _, _⟩) (v := .pointer (some p)) rfl (by kernel_rfl) (by kernel_rfl) (by kernel_rfl) (fun _ _ _ h => h) (Or.inl ⟨by rfl, fun W hSw => by clear hSw; go_simp⟩) hS ?_
            try simp only [Act.put, List.setIfInBounds_toArray, List.set_cons_zero, List.set_cons_succ]
            refine wpAnyH_take (i := 2) (oi := ⟨some 28, _, _, _, _, _⟩) (v := .int .i64 z) rfl (by kernel_rfl) (by kernel_rfl) (by kernel_rfl) (fun _ _ _ h => h) (Or.inl ⟨by rfl, fun W hSw => by (try dsimp only at hSw); go_simp⟩) hS ?_
            try simp only [Act.put, List.setIfInBounds_toArray, List.set_cons_zero, List.set_cons_succ]
            refine wpAnyH_take (i := 3) (oi := ⟨some 29, _, _, _, _, _⟩) (v := .bool false) rfl (by kernel_rfl) (by kernel_rfl) (by kernel_rfl) (fun _ _ _ h => h) (Or.inl ⟨by rfl, fun W hSw => by clear hSw; go_simp⟩) hS ?_
            try simp only [Act.put, List.setIfInBounds_toArray, List.set_cons_zero, List.set_cons_succ]
            refine wpAnyH_take (i := 4) (oi := ⟨some 30, _, _, _, _, _⟩) (v := .bool false) rfl (by kernel_rfl) (by kernel_rfl) (by kernel_rfl) (fun _ _ _ h => h) (Or.inl ⟨by rfl, fun W hSw => by clear hSw; go_simp⟩) hS ?_
            try simp only [Act.put, List.setIfInBounds_toArray, List.set_cons_zero, List.set_cons_succ]
            refine wpAnyH_take (i := 5) (oi := ⟨some 31, _, _, _, _, _⟩) (v := .pointer (some p)) rfl (by kernel_rfl) (by kernel_rfl) (by kernel_rfl) (fun _ _ _ h => h) (Or.inl ⟨by rfl, fun W hSw => by clear hSw; go_simp⟩) hS ?_
            try simp only [Act.put, List.setIfInBounds_toArray, List.set_cons_zero, List.set_cons_succ]
            refine wpAnyH_take (i := 6) (oi := ⟨some 32, _, _, _, _, _⟩) (v := .pointer (some p)) rfl (by kernel_rfl) (by kernel_rfl) (by kernel_rfl) (fun _ _ _ h => h) (Or.inl ⟨by rfl, fun W hSw => by clear hSw; go_simp⟩) hS ?_
            try simp only [Act.put, List.setIfInBounds_toArray, List.set_cons_zero, List.set_cons_succ]
            refine wpAnyH_take (i := 7) (oi := ⟨some 33, _, _, _, _, _⟩) (v := .int .i64 z) rfl (by kernel_rfl) (by kernel_rfl) (by kernel_rfl) (fun _ _ _ h => h) (Or.inl ⟨by rfl, fun W hSw => by (try dsimp only at hSw); go_simp⟩) hS ?_
            try simp only [Act.put, List.setIfInBounds_toArray, List.set_cons_zero, List.set_cons_succ]
            refine wpAnyH_take (i := 8) (oi := ⟨some 34, _, _, _, _, _⟩) (v := .int .i64 8) rfl (by kernel_rfl) (by kernel_rfl) (by kernel_rfl) (fun _ _ _ h => h) (Or.inl ⟨by rfl, fun W hSw => by clear hSw; go_simp⟩) hS ?_
            try simp only [Act.put, List.setIfInBounds_toArray, List.set_cons_zero, List.set_cons_succ]
            refine wpAnyH_take (i := 9) (oi := ⟨some 35, _, _, _, _, _⟩) (v := .int .i64 256) rfl (by kernel_rfl) (by kernel_rfl) (by kernel_rfl) (fun _ _ _ h => h) (Or.inl ⟨by rfl, fun W hSw => by clear hSw; go_simp⟩) hS ?_
            try simp only [Act.put, List.setIfInBounds_toArray, List.set_cons_zero, List.set_cons_succ]
            refine wpAnyH_take (i := 10) (oi := ⟨some 36, _, _, _, _, _⟩) (v := .bool false) rfl (by kernel_rfl) (by kernel_rfl) (by kernel_rfl) (fun _ _ _ h => h) (Or.inl ⟨by rfl, fun W hSw => by clear hSw; go_simp⟩) hS ?_
            try simp only [Act.put, List.setIfInBounds_toArray, List.set_cons_zero, List.set_cons_succ]
            refine wpAnyH_take (i := 11) (oi := ⟨some 37, _, _, _, _, _⟩) (v := .bool false) rfl (by kernel_rfl) (by kernel_rfl) (by kernel_rfl) (fun _ _ _ h => h) (Or.inl ⟨by rfl, fun W hSw => by clear hSw; go_simp⟩) hS ?_
            try simp only [Act.put, List.setIfInBounds_toArray, List.set_cons_zero, List.set_cons_succ]
            refine wpAnyH_done (by kernel_rfl) ?_ _
            refine onlyN_normal ?_
            gi_wp2
            exact ⟨((KeepsOthers.drew W).trans (KeepsOthers.setCell _ _ _)).from _, kb_drew HK.out, ⟨by rw [HST.out]; exact HIN.out, HCI.out.2.1.far (by exact fun h => HNE.out.2 h.symm) _, Boxed.apart HCI.out.2.2.1 (by exact fun h => HNE.out.1 h.symm) _, by rw [HST.out]; exact HSET.out⟩, by have h := HB.out.drew; exact HBP.out⟩
        · by_cases hzm : 4096 ≤ z
          · have hin : inR z 12 = false := by unfold inR; exact decide_eq_false (fun h => by have := h.2; omega)
            have HIN := Lib.hid hin
            have ew : IntKind.i64.wrap 4096 = 4096 := by decide
            have hzd : decide (4096 ≤ z) = true := decide_eq_true hzm
            clear hin hz0
            gi_wp2_with fail
            refine round_of_held (fun Y => Y.cell? p = some (.int .i64 z)) (by kernel_rfl) (by kernel_rfl) ?_
            show wpAnyH _ _ _ _ _ 12 #[false, false, false, false, false, false, false, false, false, false, false, false] _ _
            refine wpAnyH_take (i := 0) (oi := ⟨some 26, _, _, _, _, _⟩) (v := .pointer (some p)) rfl (by kernel_rfl) (by kernel_rfl) (by kernel_rfl) (fun _ _ _ h => h) (Or.inl ⟨by rfl, fun W hSw => by clear hSw; go_simp⟩) hS ?_
            try simp only [Act.put, List.setIfInBounds_toArray, List.set_cons_zero, List.set_cons_succ]
            refine wpAnyH_take (i := 1) (oi := ⟨some 27, _, _, _, _, _⟩) (v := .pointer (some p)) rfl (by kernel_rfl) (by kernel_rfl) (by kernel_rfl) (fun _ _ _ h => h) (Or.inl ⟨by rfl, fun W hSw => by clear hSw; go_simp⟩) hS ?_
            try simp only [Act.put, List.setIfInBounds_toArray, List.set_cons_zero, List.set_cons_succ]
            refine wpAnyH_take (i := 2) (oi := ⟨some 28, _, _, _, _, _⟩) (v := .int .i64 z) rfl (by kernel_rfl) (by kernel_rfl) (by kernel_rfl) (fun _ _ _ h => h) (Or.inl ⟨by rfl, fun W hSw => by (try dsimp only at hSw); go_simp⟩) hS ?_
            try simp only [Act.put, List.setIfInBounds_toArray, List.set_cons_zero, List.set_cons_succ]
            refine wpAnyH_take (i := 3) (oi := ⟨some 29, _, _, _, _, _⟩) (v := .bool false) rfl (by kernel_rfl) (by kernel_rfl) (by kernel_rfl) (fun _ _ _ h => h) (Or.inl ⟨by rfl, fun W hSw => by clear hSw; go_simp⟩) hS ?_
            try simp only [Act.put, List.setIfInBounds_toArray, List.set_cons_zero, List.set_cons_succ]
            refine wpAnyH_take (i := 4) (oi := ⟨some 30, _, _, _, _, _⟩) (v := .bool false) rfl (by kernel_rfl) (by kernel_rfl) (by kernel_rfl) (fun _ _ _ h => h) (Or.inl ⟨by rfl, fun W hSw => by clear hSw; go_simp⟩) hS ?_
            try simp only [Act.put, List.setIfInBounds_toArray, List.set_cons_zero, List.set_cons_succ]
            refine wpAnyH_take (i := 5) (oi := ⟨some 31, _, _, _, _, _⟩) (v := .pointer (some p)) rfl (by kernel_rfl) (by kernel_rfl) (by kernel_rfl) (fun _ _ _ h => h) (Or.inl ⟨by rfl, fun W hSw => by clear hSw; go_simp⟩) hS ?_
            try simp only [Act.put, List.setIfInBounds_toArray, List.set_cons_zero, List.set_cons_succ]
            refine wpAnyH_take (i := 6) (oi := ⟨some 32, _, _, _, _, _⟩) (v := .pointer (some p)) rfl (by kernel_rfl) (by kernel_rfl) (by kernel_rfl) (fun _ _ _ h => h) (Or.inl ⟨by rfl, fun W hSw => by clear hSw; go_simp⟩) hS ?_
            try simp only [Act.put, List.setIfInBounds_toArray, List.set_cons_zero, List.set_cons_succ]
            refine wpAnyH_take (i := 7) (oi := ⟨some 33, _, _, _, _, _⟩) (v := .int .i64 z) rfl (by kernel_rfl) (by kernel_rfl) (by kernel_rfl) (fun _ _ _ h => h) (Or.inl ⟨by rfl, fun W hSw => by (try dsimp only at hSw); go_simp⟩) hS ?_
            try simp only [Act.put, List.setIfInBounds_toArray, List.set_cons_zero, List.set_cons_succ]
            refine wpAnyH_take (i := 8) (oi := ⟨some 34, _, _, _, _, _⟩) (v := .int .i64 12) rfl (by kernel_rfl) (by kernel_rfl) (by kernel_rfl) (fun _ _ _ h => h) (Or.inl ⟨by rfl, fun W hSw => by clear hSw; go_simp⟩) hS ?_
            try simp only [Act.put, List.setIfInBounds_toArray, List.set_cons_zero, List.set_cons_succ]
            refine wpAnyH_take (i := 9) (oi := ⟨some 35, _, _, _, _, _⟩) (v := .int .i64 4096) rfl (by kernel_rfl) (by kernel_rfl) (by kernel_rfl) (fun _ _ _ h => h) (Or.inl ⟨by rfl, fun W hSw => by clear hSw; go_simp⟩) hS ?_
            try simp only [Act.put, List.setIfInBounds_toArray, List.set_cons_zero, List.set_cons_succ]
            refine wpAnyH_take (i := 10) (oi := ⟨some 36, _, _, _, _, _⟩) (v := .bool true) rfl (by kernel_rfl) (by kernel_rfl) (by kernel_rfl) (fun _ _ _ h => h) (Or.inl ⟨by rfl, fun W hSw => by clear hSw; go_simp⟩) hS ?_
            try simp only [Act.put, List.setIfInBounds_toArray, List.set_cons_zero, List.set_cons_succ]
            refine wpAnyH_take (i := 11) (oi := ⟨some 37, _, _, _, _, _⟩) (v := .bool true) rfl (by kernel_rfl) (by kernel_rfl) (by kernel_rfl) (fun _ _ _ h => h) (Or.inl ⟨by rfl, fun W hSw => by clear hSw; go_simp⟩) hS ?_
            try simp only [Act.put, List.setIfInBounds_toArray, List.set_cons_zero, List.set_cons_succ]
            refine wpAnyH_done (by kernel_rfl) ?_ _
            refine onlyN_normal ?_
            gi_wp2
            exact ⟨((KeepsOthers.drew W).trans (KeepsOthers.setCell _ _ _)).from _, kb_drew HKR.out, ⟨HPF.out, by rw [HST.out]; exact HIN.out, HCI.out.2.2.1.set _⟩, (HB.out.drew).setCell (p := ⟨w.heap.size + 1, 0, none⟩) (by simp) _⟩
          · have hin : inR z 12 = true := by unfold inR; exact decide_eq_true ⟨by omega, by omega⟩
            have HIN := Lib.hid hin
            have ew : IntKind.i64.wrap 4096 = 4096 := by decide
            have hzd : decide (4096 ≤ z) = false := decide_eq_false hzm
            clear hin hz0
            gi_wp2_with fail
            refine round_of_held (fun Y => Y.cell? p = some (.int .i64 z)) (by kernel_rfl) (by kernel_rfl) ?_
            show wpAnyH _ _ _ _ _ 12 #[false, false, false, false, false, false, false, false, false, false, false, false] _ _
            refine wpAnyH_take (i := 0) (oi := ⟨some 26, _, _, _, _, _⟩) (v := .pointer (some p)) rfl (by kernel_rfl) (by kernel_rfl) (by kernel_rfl) (fun _ _ _ h => h) (Or.inl ⟨by rfl, fun W hSw => by clear hSw; go_simp⟩) hS ?_
            try simp only [Act.put, List.setIfInBounds_toArray, List.set_cons_zero, List.set_cons_succ]
            refine wpAnyH_take (i := 1) (oi := ⟨some 27, _, _, _, _, _⟩) (v := .pointer (some p)) rfl (by kernel_rfl) (by kernel_rfl) (by kernel_rfl) (fun _ _ _ h => h) (Or.inl ⟨by rfl, fun W hSw => by clear hSw; go_simp⟩) hS ?_
            try simp only [Act.put, List.setIfInBounds_toArray, List.set_cons_zero, List.set_cons_succ]
            refine wpAnyH_take (i := 2) (oi := ⟨some 28, _, _, _, _, _⟩) (v := .int .i64 z) rfl (by kernel_rfl) (by kernel_rfl) (by kernel_rfl) (fun _ _ _ h => h) (Or.inl ⟨by rfl, fun W hSw => by (try dsimp only at hSw); go_simp⟩) hS ?_
            try simp only [Act.put, List.setIfInBounds_toArray, List.set_cons_zero, List.set_cons_succ]
            refine wpAnyH_take (i := 3) (oi := ⟨some 29, _, _, _, _, _⟩) (v := .bool false) rfl (by kernel_rfl) (by kernel_rfl) (by kernel_rfl) (fun _ _ _ h => h) (Or.inl ⟨by rfl, fun W hSw => by clear hSw; go_simp⟩) hS ?_
            try simp only [Act.put, List.setIfInBounds_toArray, List.set_cons_zero, List.set_cons_succ]
            refine wpAnyH_take (i := 4) (oi := ⟨some 30, _, _, _, _, _⟩) (v := .bool false) rfl (by kernel_rfl) (by kernel_rfl) (by kernel_rfl) (fun _ _ _ h => h) (Or.inl ⟨by rfl, fun W hSw => by clear hSw; go_simp⟩) hS ?_
            try simp only [Act.put, List.setIfInBounds_toArray, List.set_cons_zero, List.set_cons_succ]
            refine wpAnyH_take (i := 5) (oi := ⟨some 31, _, _, _, _, _⟩) (v := .pointer (some p)) rfl (by kernel_rfl) (by kernel_rfl) (by kernel_rfl) (fun _ _ _ h => h) (Or.inl ⟨by rfl, fun W hSw => by clear hSw; go_simp⟩) hS ?_
            try simp only [Act.put, List.setIfInBounds_toArray, List.set_cons_zero, List.set_cons_succ]
            refine wpAnyH_take (i := 6) (oi := ⟨some 32, _, _, _, _, _⟩) (v := .pointer (some p)) rfl (by kernel_rfl) (by kernel_rfl) (by kernel_rfl) (fun _ _ _ h => h) (Or.inl ⟨by rfl, fun W hSw => by clear hSw; go_simp⟩) hS ?_
            try simp only [Act.put, List.setIfInBounds_toArray, List.set_cons_zero, List.set_cons_succ]
            refine wpAnyH_take (i := 7) (oi := ⟨some 33, _, _, _, _, _⟩) (v := .int .i64 z) rfl (by kernel_rfl) (by kernel_rfl) (by kernel_rfl) (fun _ _ _ h => h) (Or.inl ⟨by rfl, fun W hSw => by (try dsimp only at hSw); go_simp⟩) hS ?_
            try simp only [Act.put, List.setIfInBounds_toArray, List.set_cons_zero, List.set_cons_succ]
            refine wpAnyH_take (i := 8) (oi := ⟨some 34, _, _, _, _, _⟩) (v := .int .i64 12) rfl (by kernel_rfl) (by kernel_rfl) (by kernel_rfl) (fun _ _ _ h => h) (Or.inl ⟨by rfl, fun W hSw => by clear hSw; go_simp⟩) hS ?_
            try simp only [Act.put, List.setIfInBounds_toArray, List.set_cons_zero, List.set_cons_succ]
            refine wpAnyH_take (i := 9) (oi := ⟨some 35, _, _, _, _, _⟩) (v := .int .i64 4096) rfl (by kernel_rfl) (by kernel_rfl) (by kernel_rfl) (fun _ _ _ h => h) (Or.inl ⟨by rfl, fun W hSw => by clear hSw; go_simp⟩) hS ?_
            try simp only [Act.put, List.setIfInBounds_toArray, List.set_cons_zero, List.set_cons_succ]
            refine wpAnyH_take (i := 10) (oi := ⟨some 36, _, _, _, _, _⟩) (v := .bool false) rfl (by kernel_rfl) (by kernel_rfl) (by kernel_rfl) (fun _ _ _ h => h) (Or.inl ⟨by rfl, fun W hSw => by clear hSw; go_simp⟩) hS ?_
            try simp only [Act.put, List.setIfInBounds_toArray, List.set_cons_zero, List.set_cons_succ]
            refine wpAnyH_take (i := 11) (oi := ⟨some 37, _, _, _, _, _⟩) (v := .bool false) rfl (by kernel_rfl) (by kernel_rfl) (by kernel_rfl) (fun _ _ _ h => h) (Or.inl ⟨by rfl, fun W hSw => by clear hSw; go_simp⟩) hS ?_
            try simp only [Act.put, List.setIfInBounds_toArray, List.set_cons_zero, List.set_cons_succ]
            refine wpAnyH_done (by kernel_rfl) ?_ _
            refine onlyN_normal ?_
            gi_wp2
            exact ⟨((KeepsOthers.drew W).trans (KeepsOthers.setCell _ _ _)).from _, kb_drew HK.out, ⟨by rw [HST.out]; exact HIN.out, HCI.out.2.1.far (by exact fun h => HNE.out.2 h.symm) _, Boxed.apart HCI.out.2.2.1 (by exact fun h => HNE.out.1 h.symm) _, by rw [HST.out]; exact HSET.out⟩, by have h := HB.out.drew; exact HBP.out⟩
    case done =>
      rintro D ys W hD ⟨U, hU, rfl⟩ ⟨hci, hB⟩ hK
      obtain ⟨h1, bA, bR, bB⟩ := hci
      rw [kd_adr F (show U ≠ w3.heap.size by have := HSZ.out; omega)] at h1 bB
      obtain ⟨Q2, hQ2⟩ : ∃ Q2, Q2 = ((fldsT F).foldl ckStep (Q, true)).1 := ⟨_, rfl⟩
      rw [← hQ2] at bB
      have hok : okB8 F Q = decide (Q2 = Q.hd) := by unfold okB8; rw [h1, Bool.true_and, hQ2]
      have hch : chkV Q = if decide (Q2 = Q.hd) = true then 0 else 6 := by rw [HCH.out, if_pos HFB.out, hok]
      obtain ⟨d0, d1, d2, d3, d4, d5, d6, d7, d8, d9, d10, d11⟩ := bx_cells bB
      have a0 := (bx_cells bA).1
      have a1 := (bx_cells bA).2.1
      have cR := bR.cell
      have fR := bR.frozen
      have HCH2 := Lib.hid hch
      have HBR := Lib.hid bR
      have HB := Lib.hid hB
      have HKD := Lib.hid hK
      clear h1 bA bR bB hQ2 hok hch hB hK
      have hnr : ∀ (u : Value) r, some D = some r → ∃ o : Obj, (W.setCell ⟨w.heap.size + 1, 0, none⟩ u).heap[r]? = some o ∧ o.isCells = false := fun u r e => by
        cases e
        exact ⟨_, (KeepsOthers.setCell W ⟨w.heap.size + 1, 0, none⟩ u).same D _ HKD.out rfl, rfl⟩
      have fin : ∀ (x : Int) (tmps : Array Value), x = chkV Q → tmps.getD 2 undef = .pointer (some ⟨w.heap.size + 1, 0, none⟩) → LeavesInM Fence.wide 7 Tryz.prog Tryz.f34 tmps (New w (.int .i64 (chkV Q))) [{ target := .collected D, args := #[] }] .returning (W.setCell ⟨w.heap.size + 1, 0, none⟩ (.int .i64 x)) := fun x tmps hx ht => by
        have hK2 := (KeepsOthers.setCell W ⟨w.heap.size + 1, 0, none⟩ (.int .i64 x)).same D _ HKD.out rfl
        refine ⟨by simp, .inl ⟨_, _, rfl, run_takeDeferred hK2, ?_⟩⟩
        refine ⟨_, results_cell18 rfl ht (Boxed.ab8 (HBR.out.set (.int .i64 x)) (grownBy_putObj' _ D (.deferred none)) (hnr _)).cell Tryz.underlying54 rfl, by rw [hx], ?_⟩
        exact (HB.out.setCell (p := ⟨w.heap.size + 1, 0, none⟩) (by simp) _).trans (belowK_b (w := w) (Nat.le_refl _) _ D _ _ (by have := HSZ.out; omega) hK2 rfl rfl)
      have FIN := Lib.hid fin
      clear fin hnr
      by_cases he : Q2 = Q.hd
      · have hx : (0 : Int) = chkV Q := by rw [HCH2.out, decide_eq_true he]; rfl
        have HX := Lib.hid hx
        have hEQ : insNe ⟨Q2.op, Q2.fo, Q2.r1, Q2.r2, Q2.x2, Q2.b1, Q2.d1, Q2.b2, Q2.d2, Q2.l1, Q2.l2, Q2.i2⟩ ⟨Q.op, Q.fo, 0, 0, 0, 0, 0, 0, 0, 0, 0, 0⟩ = false := by
          show (!decide (Q2 = Q.hd)) = false
          rw [decide_eq_true he]
          rfl
        clear hx he
        gi_wp2
        exact FIN.out _ _ HX.out rfl
      · have hx : (6 : Int) = chkV Q := by rw [HCH2.out, decide_eq_false he]; rfl
        have HX := Lib.hid hx
        have hEQ : insNe ⟨Q2.op, Q2.fo, Q2.r1, Q2.r2, Q2.x2, Q2.b1, Q2.d1, Q2.b2, Q2.d2, Q2.l1, Q2.l2, Q2.i2⟩ ⟨Q.op, Q.fo, 0, 0, 0, 0, 0, 0, 0, 0, 0, 0⟩ = true := by
          show (!decide (Q2 = Q.hd)) = true
          rw [decide_eq_false he]
          rfl
        clear hx he
        gi_wp2
        exact FIN.out _ _ HX.out rfl
    case stop =>
      rintro D pre W hD ⟨⟨hpf, h2, bR⟩, hB⟩ hK
      have hok : okB8 F Q = false := ck_stop (j := pre.length) (by rw [← hpf]; exact h2)
      have hx : chkV Q = 6 := by rw [HCH.out, if_pos HFB.out, hok]; rfl
      have hnr : ∀ r, some D = some r → ∃ o : Obj, W.heap[r]? = some o ∧ o.isCells = false := fun r e => by cases e; exact ⟨_, hK, rfl⟩
      refine ⟨by simp, .inl ⟨_, _, rfl, run_takeDeferred hK, ?_⟩⟩
      refine ⟨_, results_cell18 rfl rfl (Boxed.ab8 bR (grownBy_putObj' _ D (.deferred none)) hnr).cell Tryz.underlying54 rfl, by rw [hx], ?_⟩
      exact hB.trans (belowK_b (w := w) (Nat.le_refl _) _ D _ _ (by have := HSZ.out; omega) hK rfl rfl)
  · have hc : chkV Q = 80 := by rw [HCH.out, if_neg hfo]
    have HC := Lib.hid hc
    clear hc
    cases b with
    | false =>
      gi_wp2
      exact ⟨_, results_cell18 rfl rfl (HR3.out.set _).cell Tryz.underlying54 rfl, by rw [HC.out], HB3.out.setCell (p := ⟨w.heap.size + 1, 0, none⟩) (by simp) _⟩
    | true =>
      have hfF : (Q.fo != (F : Int)) = true := by
        rw [bne_iff_ne]
        intro h
        exact hfo (by rw [HFO.out, h]; simp)
      gi_wp2
      exact ⟨_, results_cell18 rfl rfl (HR3.out.set _).cell Tryz.underlying54 rfl, by rw [HC.out], HB3.out.setCell (p := ⟨w.heap.size + 1, 0, none⟩) (by simp) _⟩

end E
end Go.Proofs.YtbcncohjjnmdcaaGreatDoor

/- The program's Edit answers what editing as a function of lists answers. -/
import Derived.Test.YtfkenoehoocobaaEdEd
import Derived.Laws.ResultCell
namespace Go.Proofs.Ytfkenoehoocobaa
open Go.RowKit
set_option linter.unusedVariables false
namespace E

theorem step_none {fill c : UInt8} {L : List ED} {i : Nat} {s : ES} (hc : c = 32 ∨ c = 33) (h : L.drop s.next = []) : edStep fill L i c s = (5, s) := by
  have hn : ¬ s.next < L.length := by have := List.drop_eq_nil_iff.1 h; omega
  unfold edStep
  rw [if_neg (by rcases hc with rfl | rfl <;> decide), if_neg (by rcases hc with rfl | rfl <;> decide), dif_neg hn]
theorem step_some {fill c : UInt8} {L D : List ED} {d : ED} {i : Nat} {s : ES} (hc : c = 32 ∨ c = 33) (h : L.drop s.next = d :: D) : edStep fill L i c s = if d.bad then (7, s) else (0, edOne fill i c s d) := by
  have hn : s.next < L.length := by
    rcases Nat.lt_or_ge s.next L.length with h1 | h1
    · exact h1
    · rw [List.drop_eq_nil_of_le h1] at h
      cases h
  have hd : L[s.next] = d := by
    rw [List.drop_eq_getElem_cons hn] at h
    exact (List.cons.inj h).1
  unfold edStep
  rw [if_neg (by rcases hc with rfl | rfl <;> decide), if_neg (by rcases hc with rfl | rfl <;> decide), dif_pos hn, hd]
theorem drop_next {L D : List ED} {d : ED} {k : Nat} (h : L.drop k = d :: D) : L.drop (k + 1) = D := by
  rw [← List.drop_drop, h]
  rfl
theorem drop_at {l : List UInt8} {i : Nat} (h : i < l.length) : l.drop i = gt l i :: l.drop (i + 1) := by
  rw [List.drop_eq_getElem_cons h, gt_lt h]
/-- Where the run stands behind i bytes of the pattern. -/
def EdAt (fill : UInt8) (L : List ED) (pat : List UInt8) (RUN : Nat × ES) (G : Nat) (w1 : World) (i : Nat) (W : World) : Prop :=
  ∃ s sl r rem, RUN = edRun fill L (pat.drop i) i s ∧ s.text.length = i ∧ EdM W G sl r fill s.on s.nz s.mark s.text ∧ Src W G sl rem ∧ Rok rem r ∧ edRem rem r = L.drop s.next ∧ BelM G w1 W
theorem edAt_step {fill : UInt8} {L : List ED} {pat : List UInt8} {RUN : Nat × ES} {s : ES} {i : Nat} (hi : i < pat.length) (h : RUN = edRun fill L (pat.drop i) i s) :
    RUN = if (edStep fill L i (gt pat i) s).1 = 0 then edRun fill L (pat.drop (i + 1)) (i + 1) (edStep fill L i (gt pat i) s).2 else edStep fill L i (gt pat i) s := by
  rw [h, drop_at hi, run_cons]
/-- What Edit answers. -/
def EPost (w : World) (r : List UInt8 × Nat × Int × Nat) (e : Ending) (w' : World) : Prop :=
  ∃ tv, e = .returned (.tuple #[.agg #[tv, .int .i64 (r.2.1 : Int), .int .i64 r.2.2.1], .int .i64 (r.2.2.2 : Int)]) ∧ Hold w' w.heap.size tv r.1 ∧ Below w.heap.size w w'
theorem hold_nil (w : World) (b : Nat) : Hold w b (.slice none 0 0) [] := World.ownsRow_nil _ _ _ _
/-- What the digits of a control byte make of a run. -/
theorem edAt_digit {fill c : UInt8} {L : List ED} {pat : List UInt8} {RUN : Nat × ES} {G i : Nat} {w1 W W' : World} {st : Bool} {s : ES} {r : Bool} {rem : List UInt8} {e : Ending} (hi : i < pat.length) (hcc : gt pat i = c) (hc : c = if st then 33 else 32)
    (h1 : RUN = edRun fill L (pat.drop i) i s) (h2 : s.text.length = i) (h6 : edRem rem r = L.drop s.next) (h7 : BelM G w1 W) (hp : DgPost W G fill s.on s.nz s.mark s.text (edRem rem r) st e W') :
    BelM G w1 W' ∧ ((RUN.1 = 5 ∧ e = .returned (.int .i64 5)) ∨ (RUN.1 = 7 ∧ e = .returned (.int .i64 7)) ∨ (e = .returned (.int .i64 0) ∧ EdAt fill L pat RUN G w1 (i + 1) W')) := by
  have hst := edAt_step hi h1
  have hc' : c = 32 ∨ c = 33 := by cases st <;> simp [hc]
  rw [hcc] at hst
  obtain ⟨hb, hp⟩ := hp
  refine ⟨h7.trans hb, ?_⟩
  rcases hp with ⟨hD, he⟩ | ⟨d, D', hD, hbad, he⟩ | ⟨d, D', hD, hbad, he, sl', r', rem', hE, hS, hR, hD'⟩
  · rw [h6] at hD
    rw [step_none hc' hD, if_neg (show ¬ ((5, s) : Nat × ES).1 = 0 from fun h => by cases h)] at hst
    exact .inl ⟨by rw [hst], he⟩
  · rw [h6] at hD
    rw [step_some hc' hD, if_pos hbad, if_neg (show ¬ ((7, s) : Nat × ES).1 = 0 from fun h => by cases h)] at hst
    exact .inr (.inl ⟨by rw [hst], he⟩)
  · rw [h6] at hD
    have hbn : ¬ d.bad = true := by rw [hbad]; simp
    rw [step_some hc' hD, if_neg hbn, if_pos rfl] at hst
    refine .inr (.inr ⟨he, edOne fill i c s d, sl', r', rem', hst, ?_, ?_, hS, hR, ?_, h7.trans hb⟩)
    · show (s.text ++ [_]).length = i + 1
      rw [List.length_append, h2]
      rfl
    · have hcs : (c == 33) = st := by cases st <;> subst hc <;> decide
      unfold edOne
      rw [hcs, ← h2]
      exact hE
    · rw [hD']
      exact (drop_next hD).symm
theorem keepC {w w' : World} {a : Addr} {v : Value} (h : w.cell? a = some v) (hb : Below w.heap.size w w') : w'.cell? a = some v := (hb.cell (World.block_lt_of_cell? w a h)).trans h
/-- Two cells of a block. -/
def Ap2 (G : Nat) (a b : Value) (W : World) : Prop := W.cell? ⟨G, 2, none⟩ = some a ∧ W.cell? ⟨G, 6, none⟩ = some b
theorem Ap2.st {W : World} {G F : Nat} {a b x y z : Value} (h : Ap2 G a b W) (h1 : G ≠ F) : Ap2 G a b (((W.setCell ⟨F, 0, none⟩ x).setCell ⟨F, 1, none⟩ y).setCell ⟨F, 2, none⟩ z) := by
  have hD : ∀ (V : World) (i j : Nat) (v : Value), (V.setCell ⟨F, i, none⟩ v).cell? ⟨G, j, none⟩ = V.cell? ⟨G, j, none⟩ := fun V i j v => World.cell?_setCell_other V _ _ v (fun e => h1 (by injection e with h _; exact h.symm))
  unfold Ap2 at *
  simp only [hD]
  exact h
theorem Bx.three {w : World} {g : Nat} {t : TypeId} {a b c : Value} (h : Bx w g t #[a, b, c]) : (w.cell? ⟨g, 0, none⟩ = some a ∧ w.cell? ⟨g, 1, none⟩ = some b ∧ w.cell? ⟨g, 2, none⟩ = some c) ∧ w.frozen? ⟨g, 0, none⟩ = false ∧ w.frozen? ⟨g, 1, none⟩ = false ∧ w.frozen? ⟨g, 2, none⟩ = false := ⟨⟨h.cell 0, h.cell 1, h.cell 2⟩, h.frozen 0, h.frozen 1, h.frozen 2⟩
theorem below_set3 {w W : World} (h : Below w.heap.size w W) {F : Nat} (hF : w.heap.size ≤ F) (x y z : Value) : Below w.heap.size w (((W.setCell ⟨F, 0, none⟩ x).setCell ⟨F, 1, none⟩ y).setCell ⟨F, 2, none⟩ z) :=
  ((h.setCell (p := ⟨F, 0, none⟩) hF x).setCell (p := ⟨F, 1, none⟩) hF y).setCell (p := ⟨F, 2, none⟩) hF z
theorem Hold.set3 {w : World} {b F : Nat} {sv : Value} {l : List UInt8} (h : Hold w b sv l) (hF : F < b) (x y z : Value) : Hold (((w.setCell ⟨F, 0, none⟩ x).setCell ⟨F, 1, none⟩ y).setCell ⟨F, 2, none⟩ z) b sv l := own_set (own_set (own_set h hF) hF) hF
set_option maxRecDepth 100000 in
theorem edit_not (p : Option Addr) (n c : Nat) (sv : Value) (w : World) (hn : ¬ (1 ≤ n ∧ n ≤ 256)) :
    Calls Try.prog 12 #[.slice p n c, sv] w (EPost w ([], 0, 0, 6)) := by
  have hb1 := below_new w (.cells #[.slice none 0 0, .int .i64 0, .int .i64 0] 26)
  have HB1 := Lib.hid hb1
  clear hb1
  by_cases h0 : n = 0
  · subst h0
    go_enter Try.func12, Try.ntmps12
    go_wp2
    refine bodyPost_ret (v := .tuple #[.agg #[.slice none 0 0, .int .i64 0, .int .i64 0], .int .i64 6]) ?_ rfl ⟨_, rfl, hold_nil _ _, ?_⟩
    · rw [results_cell_tmp rfl]
      go_simp
    · exact HB1.out
  · have h1 : (256 : Int) < (n : Int) := by omega
    have h2 : ¬ ((n : Int) < 1) := by omega
    clear h0 hn
    go_enter Try.func12, Try.ntmps12
    go_wp2
    refine bodyPost_ret (v := .tuple #[.agg #[.slice none 0 0, .int .i64 0, .int .i64 0], .int .i64 6]) ?_ rfl ⟨_, rfl, hold_nil _ _, ?_⟩
    · rw [results_cell_tmp rfl]
      go_simp
    · exact HB1.out
set_option maxRecDepth 100000 in
set_option maxHeartbeats 2000000 in
theorem edit_yes (p : Option Addr) (c : Nat) (sv : Value) (pat src : List UInt8) (w : World) (h1 : 1 ≤ pat.length) (h2 : pat.length ≤ 256) (hp : Rd w p pat) (hs : SvB w sv src) :
    Calls Try.prog 12 #[.slice p pat.length c, sv] w (EPost w (edRes pat src)) := by
  obtain ⟨B, off, rfl, hcl⟩ : ∃ B off, p = some ⟨B, off, none⟩ ∧ ∀ j, j < pat.length → w.cell? ⟨B, off + j, none⟩ = some (.int .u8 ((gt pat j).toNat : Int)) := by
    rcases hp with h | ⟨B, off, h, hc⟩
    · rw [h] at h1
      simp at h1
    · exact ⟨B, off, h, hc⟩
  have hB : B < w.heap.size := World.block_lt_of_cell? w _ (hcl 0 (by omega))
  obtain ⟨fill, hfill⟩ : ∃ x, x = gt pat 0 := ⟨_, rfl⟩
  have hc0 := hcl 0 (by omega)
  rw [Nat.add_zero, ← hfill] at hc0
  have hc1 : (w.alloc (.cells #[.slice none 0 0, .int .i64 0, .int .i64 0] 26)).cell? ⟨B, off, none⟩ = some (.int .u8 (fill.toNat : Int)) := ((below_new w _).cell (p := ⟨B, off, none⟩) hB).trans hc0
  obtain ⟨RUN, hRUN⟩ : ∃ x, x = edRun fill (edL src) pat 0 edInit := ⟨_, rfl⟩
  have hhd : pat.headD 0 = fill := by
    rw [hfill]
    cases pat
    · simp at h1
    · rfl
  have hres : edRes pat src = if RUN.1 = 0 then (RUN.2.text, edCC RUN.2, RUN.2.mark, 0) else ([], 0, 0, RUN.1) := by
    unfold edRes
    rw [if_pos ⟨h1, h2⟩, hhd, ← hRUN]
  have HRES := Lib.hid hres
  have HRUN := Lib.hid hRUN
  have HSV := Lib.hid hs.src
  have HCL := Lib.hid hcl
  have HB := Lib.hid hB
  obtain ⟨sp, sc, rfl, _⟩ := hs
  have h2B := Lib.hid (below2 w (.cells #[.slice none 0 0, .int .i64 0, .int .i64 0] 26) (.cells #[.slice sp src.length sc, .bool false, .slice none 0 0, .int .u8 (fill.toNat : Int), .bool false, .bool false, .int .i64 (-1)] 51))
  have hG := Bx.new (w.alloc (.cells #[.slice none 0 0, .int .i64 0, .int .i64 0] 26)) 51 #[.slice sp src.length sc, .bool false, .slice none 0 0, .int .u8 (fill.toNat : Int), .bool false, .bool false, .int .i64 (-1)]
  rw [World.size_alloc] at hG
  have HG := Lib.hid hG
  have hR := (Bx.new w 26 #[.slice none 0 0, .int .i64 0, .int .i64 0]).below (below_new _ (.cells #[.slice sp src.length sc, .bool false, .slice none 0 0, .int .u8 (fill.toNat : Int), .bool false, .bool false, .int .i64 (-1)] 51))
  have HR := Lib.hid hR
  obtain ⟨n, hn⟩ : ∃ n, n = pat.length := ⟨_, rfl⟩
  have HN := Lib.hid hn
  rw [← hn] at h1 h2 ⊢
  have i1 : ¬ ((n : Int) < 1) := by omega
  have i2 : ¬ ((256 : Int) < (n : Int)) := by omega
  have i3 : (0 : Int) < (n : Int) := by omega
  have H12 := Lib.hid (show 1 ≤ n ∧ n ≤ 256 from ⟨h1, h2⟩)
  clear hcl hp hfill hRUN hhd hres hn hB hG hR h1 h2 hc0
  generalize edRes pat src = res at *
  go_enter Try.func12, Try.ntmps12
  go_wp2_with fail
  refine (controls_any _).mono ?_
  rintro e w1 ⟨g, rfl, hg, hm, hb⟩
  have HM := Lib.hid hm
  have HB1 := Lib.hid (bel0 h2B.out hb)
  have HG1 := Lib.hid (HG.out.below hb)
  have HR1 := Lib.hid (HR.out.below hb)
  have HGG : Hid (g ≠ w.heap.size + 1) := Lib.hid (by have := hg; simp at this; omega)
  have hsv1 : Src w1 (w.heap.size + 1) (.slice sp src.length sc) src := (HSV.out.bel HB1.out).up (by omega)
  have hE1 : EdM w1 (w.heap.size + 1) (.slice sp src.length sc) false fill false false (-1) [] := ⟨_, HG1.out, World.ownsRow_nil _ _ _ _⟩
  have hAt0 : EdAt fill (edL src) pat RUN (w.heap.size + 1) w1 0 w1 := ⟨edInit, _, false, src, HRUN.out, rfl, hE1, hsv1, (fun h => by cases h), rfl, BelM.refl _ _⟩
  have HAT0 := Lib.hid hAt0
  clear hm hb hg hsv1 hE1 hAt0 HSV
  go_wp2
  go_loopw [31] (fun i wr => ∃ t : Nat, t ≤ n ∧ i = .int .i64 t ∧ EdAt fill (edL src) pat RUN (w.heap.size + 1) w1 t wr) (fun i _ => n - (intOf i).toNat)
  case atStart => exact ⟨0, Nat.zero_le _, rfl, HAT0.out⟩
  case round =>
    obtain ⟨t, ht, rfl, hAt⟩ := hrel
    obtain ⟨s, sl, r, rem, a1, a2, a3, a4, a5, a6, a7⟩ := hAt
    have A1 := Lib.hid a1
    have A2 := Lib.hid a2
    have A3 := Lib.hid a3
    have A4 := Lib.hid a4
    have A5 := Lib.hid a5
    have A6 := Lib.hid a6
    have A7 := Lib.hid a7
    clear a1 a2 a3 a4 a5 a6 a7
    by_cases hlt : t < n
    · have hcw : wr.cell? ⟨B, off + t, none⟩ = some (.int .u8 ((gt pat t).toNat : Int)) := (A7.out.1.cell (p := ⟨B, off + t, none⟩) (by have := HB.out; show B < w.heap.size + 1; omega)).trans ((HB1.out.cell (p := ⟨B, off + t, none⟩) HB.out).trans (HCL.out t (by rw [← HN.out]; exact hlt)))
      rcases (show gt pat t = 32 ∨ gt pat t = 33 ∨ gt pat t = 34 ∨ (gt pat t ≠ 32 ∧ gt pat t ≠ 33 ∧ gt pat t ≠ 34) by
        by_cases e1 : gt pat t = 32
        · exact .inl e1
        · by_cases e2 : gt pat t = 33
          · exact .inr (.inl e2)
          · by_cases e3 : gt pat t = 34
            · exact .inr (.inr (.inl e3))
            · exact .inr (.inr (.inr ⟨e1, e2, e3⟩))) with hcc | hcc | hcc | hcc
      · have hlk : ∀ W, Mp W g ctlM 3 → (Instr.lookup 52 (.map (some g)) (.int .u8 32) true).run Try.prog W = .ok (.tuple #[.func (.func 28) #[] #[], .bool true]) W := fun W h => look_ctl h 32 (some (0, .func (.func 28) #[] #[])) rfl
        have hl2 := hlk wr (A7.out.2 g ctlM 3 HGG.out HM.out)
        have HCC := Lib.hid hcc
        rw [hcc, show (((32 : UInt8)).toNat : Int) = 32 from rfl] at hcw
        clear hlk hcc
        go_wp2_with fail
        refine (select_any _ sl r fill s.on s.nz s.mark s.text rem wr (by have := A2.out; have := H12.out; omega) A3.out A4.out A5.out).mono ?_
        intro e w2 hq
        have hst := edAt_digit (st := false) (by rw [← HN.out]; exact hlt) HCC.out rfl A1.out A2.out A6.out A7.out hq
        obtain ⟨hb2, hst⟩ := hst
        have HB2 := Lib.hid hb2
        clear hq hb2
        rcases hst with ⟨hz, rfl⟩ | ⟨hz, rfl⟩ | ⟨rfl, hat⟩
        · have HZ := Lib.hid hz
          obtain ⟨⟨r1, r2, r3⟩, q1, q2, q3⟩ := (HR1.out.bel HB2.out.1 (by omega)).three
          clear hz hcw hl2
          go_wp2
          refine bodyPost_ret (v := .tuple #[.agg #[.slice none 0 0, .int .i64 0, .int .i64 0], .int .i64 5]) ?_ rfl ⟨.slice none 0 0, by rw [HRES.out, HZ.out]; rfl, by rw [HRES.out, HZ.out]; exact hold_nil _ _, below_set3 (HB1.out.trans (HB2.out.1.mono (by omega))) (Nat.le_refl _) _ _ _⟩
          rw [results_cell_tmp rfl]
          go_simp
        · have HZ := Lib.hid hz
          obtain ⟨⟨r1, r2, r3⟩, q1, q2, q3⟩ := (HR1.out.bel HB2.out.1 (by omega)).three
          clear hz hcw hl2
          go_wp2
          refine bodyPost_ret (v := .tuple #[.agg #[.slice none 0 0, .int .i64 0, .int .i64 0], .int .i64 7]) ?_ rfl ⟨.slice none 0 0, by rw [HRES.out, HZ.out]; rfl, by rw [HRES.out, HZ.out]; exact hold_nil _ _, below_set3 (HB1.out.trans (HB2.out.1.mono (by omega))) (Nat.le_refl _) _ _ _⟩
          rw [results_cell_tmp rfl]
          go_simp
        · have HAT := Lib.hid hat
          clear hat hcw hl2
          go_wp2
          go_roundw
          case rel => exact ⟨t + 1, by omega, by go_num, HAT.out⟩
          case measure => simp [intOf]; omega
      · have hlk : ∀ W, Mp W g ctlM 3 → (Instr.lookup 52 (.map (some g)) (.int .u8 33) true).run Try.prog W = .ok (.tuple #[.func (.func 29) #[] #[], .bool true]) W := fun W h => look_ctl h 33 (some (1, .func (.func 29) #[] #[])) rfl
        have hl2 := hlk wr (A7.out.2 g ctlM 3 HGG.out HM.out)
        have HCC := Lib.hid hcc
        rw [hcc, show (((33 : UInt8)).toNat : Int) = 33 from rfl] at hcw
        clear hlk hcc
        go_wp2_with fail
        refine (start_any _ sl r fill s.on s.nz s.mark s.text rem wr (by have := A2.out; have := H12.out; omega) A3.out A4.out A5.out).mono ?_
        intro e w2 hq
        have hst := edAt_digit (st := true) (by rw [← HN.out]; exact hlt) HCC.out rfl A1.out A2.out A6.out A7.out hq
        obtain ⟨hb2, hst⟩ := hst
        have HB2 := Lib.hid hb2
        clear hq hb2
        rcases hst with ⟨hz, rfl⟩ | ⟨hz, rfl⟩ | ⟨rfl, hat⟩
        · have HZ := Lib.hid hz
          obtain ⟨⟨r1, r2, r3⟩, q1, q2, q3⟩ := (HR1.out.bel HB2.out.1 (by omega)).three
          clear hz hcw hl2
          go_wp2
          refine bodyPost_ret (v := .tuple #[.agg #[.slice none 0 0, .int .i64 0, .int .i64 0], .int .i64 5]) ?_ rfl ⟨.slice none 0 0, by rw [HRES.out, HZ.out]; rfl, by rw [HRES.out, HZ.out]; exact hold_nil _ _, below_set3 (HB1.out.trans (HB2.out.1.mono (by omega))) (Nat.le_refl _) _ _ _⟩
          rw [results_cell_tmp rfl]
          go_simp
        · have HZ := Lib.hid hz
          obtain ⟨⟨r1, r2, r3⟩, q1, q2, q3⟩ := (HR1.out.bel HB2.out.1 (by omega)).three
          clear hz hcw hl2
          go_wp2
          refine bodyPost_ret (v := .tuple #[.agg #[.slice none 0 0, .int .i64 0, .int .i64 0], .int .i64 7]) ?_ rfl ⟨.slice none 0 0, by rw [HRES.out, HZ.out]; rfl, by rw [HRES.out, HZ.out]; exact hold_nil _ _, below_set3 (HB1.out.trans (HB2.out.1.mono (by omega))) (Nat.le_refl _) _ _ _⟩
          rw [results_cell_tmp rfl]
          go_simp
        · have HAT := Lib.hid hat
          clear hat hcw hl2
          go_wp2
          go_roundw
          case rel => exact ⟨t + 1, by omega, by go_num, HAT.out⟩
          case measure => simp [intOf]; omega
      · have hlk : ∀ W, Mp W g ctlM 3 → (Instr.lookup 52 (.map (some g)) (.int .u8 34) true).run Try.prog W = .ok (.tuple #[.func (.func 30) #[] #[], .bool true]) W := fun W h => look_ctl h 34 (some (2, .func (.func 30) #[] #[])) rfl
        have hl2 := hlk wr (A7.out.2 g ctlM 3 HGG.out HM.out)
        have hst := edAt_step (by rw [← HN.out]; exact hlt) A1.out
        rw [hcc] at hst
        have hst2 : RUN = edRun fill (edL src) (pat.drop (t + 1)) (t + 1) ⟨s.next, false, false, s.mark, s.text ++ [fill]⟩ := hst
        have HST := Lib.hid hst2
        rw [hcc, show (((34 : UInt8)).toNat : Int) = 34 from rfl] at hcw
        clear hlk hcc hst hst2
        go_wp2_with fail
        refine (separate_any _ sl r fill s.on s.nz s.mark s.text wr (by have := A2.out; have := H12.out; omega) A3.out).mono ?_
        rintro e w2 ⟨rfl, hE, hb2⟩
        have hat : EdAt fill (edL src) pat RUN (w.heap.size + 1) w1 (t + 1) w2 := ⟨_, sl, r, rem, HST.out, by show (s.text ++ [fill]).length = t + 1; rw [List.length_append, A2.out]; rfl, hE, A4.out.bel hb2.1, A5.out, A6.out, A7.out.trans hb2⟩
        have HAT := Lib.hid hat
        clear hat hE hb2 hcw hl2
        go_wp2
        go_roundw
        case rel => exact ⟨t + 1, by omega, by go_num, HAT.out⟩
        case measure => simp [intOf]; omega
      · have hst := edAt_step (by rw [← HN.out]; exact hlt) A1.out
        obtain ⟨x, hx⟩ : ∃ x, x = gt pat t := ⟨_, rfl⟩
        rw [← hx] at hcc hst hcw
        have hne : ((x.toNat : Int) == 32) = false ∧ ((x.toNat : Int) == 33) = false ∧ ((x.toNat : Int) == 34) = false := by
          refine ⟨?_, ?_, ?_⟩ <;> simp only [beq_eq_false_iff_ne, ne_eq] <;> intro h
          · exact hcc.1 (UInt8.toNat_inj.1 (by show x.toNat = 32; omega))
          · exact hcc.2.1 (UInt8.toNat_inj.1 (by show x.toNat = 33; omega))
          · exact hcc.2.2 (UInt8.toNat_inj.1 (by show x.toNat = 34; omega))
        have hfn : Instr.findNow (.int .u8) (.int .u8 (x.toNat : Int)) ctlM.toList 0 = some none := by simp [Instr.findNow, Instr.sameNow, ctlM, hne.1, hne.2.1, hne.2.2]
        have hl2 : (Instr.lookup 52 (.map (some g)) (.int .u8 (x.toNat : Int)) true).run Try.prog wr = .ok (.tuple #[.nilFunc, .bool false]) wr := look_ctl (A7.out.2 g ctlM 3 HGG.out HM.out) _ none hfn
        have hst2 : RUN = edRun fill (edL src) (pat.drop (t + 1)) (t + 1) ⟨s.next, s.on, s.nz, s.mark, s.text ++ [if s.on then x else fill]⟩ := by
          have e : edStep fill (edL src) t x s = (0, ⟨s.next, s.on, s.nz, s.mark, s.text ++ [if s.on then x else fill]⟩) := by
            unfold edStep
            rw [if_neg hcc.2.2, if_pos ⟨hcc.1, hcc.2.1⟩]
          rw [e] at hst
          exact hst
        have HST := Lib.hid hst2
        clear hcc hst hst2 hne hfn hx
        go_wp2_with fail
        refine (show_any _ sl r fill s.on s.nz s.mark s.text x wr (by have := A2.out; have := H12.out; omega) A3.out).mono ?_
        rintro e w2 ⟨rfl, hE, hb2⟩
        have hat : EdAt fill (edL src) pat RUN (w.heap.size + 1) w1 (t + 1) w2 := ⟨_, sl, r, rem, HST.out, by show (s.text ++ [_]).length = t + 1; rw [List.length_append, A2.out]; rfl, hE, A4.out.bel hb2.1, A5.out, A6.out, A7.out.trans hb2⟩
        have HAT := Lib.hid hat
        clear hat hE hb2 hcw hl2
        go_wp2
        go_roundw
        case rel => exact ⟨t + 1, by omega, by go_num, HAT.out⟩
        case measure => simp [intOf]; omega
    · obtain rfl : t = n := by omega
      have hrun : RUN = (0, s) := by
        have h := A1.out
        rw [HN.out, List.drop_length] at h
        exact h
      have hres : res = (s.text, edCC s, s.mark, 0) := by
        rw [HRES.out, hrun]
        rfl
      have HV := Lib.hid hres
      obtain ⟨tv, hBx, hown⟩ := A3.out
      have HOW : Hid (Hold wr (w.heap.size + 1 + 1) tv s.text) := Lib.hid hown
      obtain ⟨pv, cv, rfl, _⟩ := HOW.out.full
      have hbd : Below wr.heap.size wr wr.drew := (Below.refl _ _).drew
      have hBd := hBx.below hbd
      have H0 : Hid (Ap2 (w.heap.size + 1) (.slice pv s.text.length cv) (.int .i64 s.mark) wr.drew) := Lib.hid ⟨hBd.cell 2, hBd.cell 6⟩
      have hcd : Calls Try.prog 25 #[.pointer (some ⟨w.heap.size + 1, 0, none⟩)] wr.drew fun e w' => e = .returned (.int .i64 (edCC s : Int)) ∧ wr.drew = w' := condition_any (w.heap.size + 1) sl r fill s.on s.nz s.mark s.text wr.drew (A3.out.bel hbd)
      have HCD := Lib.hid hcd
      have HRD : Hid (∀ W, wr.drew = W → Bx W w.heap.size 26 #[.slice none 0 0, .int .i64 0, .int .i64 0] ∧ Below w.heap.size w W ∧ Hold W (w.heap.size + 1 + 1) (.slice pv s.text.length cv) s.text ∧ Ap2 (w.heap.size + 1) (.slice pv s.text.length cv) (.int .i64 s.mark) W) := Lib.hid (fun W h => by
        subst h
        exact ⟨(HR1.out.bel A7.out.1 (by omega)).below hbd, bel0 (HB1.out.trans (A7.out.1.mono (by omega))) hbd, HOW.out.kept hbd, H0.out⟩)
      clear hrun hres hBx hown hbd hBd hcd
      generalize edCC s = cc at *
      go_wp2
      go_region_held3 (fun W => W.cell? ⟨w.heap.size + 1, 2, none⟩ = some (.slice pv s.text.length cv) ∧ W.cell? ⟨w.heap.size + 1, 6, none⟩ = some (.int .i64 s.mark))
        (first | assumption | exact H0.out | exact Ap2.st (by assumption) (by omega))
        (first | (go_at_call 25; refine (HCD.out).mono ?_; rintro e w5 ⟨rfl, hw5⟩; obtain ⟨hk1, hk2, hk3, hs5⟩ := HRD.out w5 hw5; have HB5 := Lib.hid hk2; have HO5 := Lib.hid hk3; obtain ⟨⟨r1, r2, r3⟩, q1, q2, q3⟩ := hk1.three; clear hk1 hk2 hk3 hw5))
      all_goals go_wp2
      all_goals refine bodyPost_ret (v := .tuple #[.agg #[.slice pv s.text.length cv, .int .i64 (cc : Int), .int .i64 s.mark], .int .i64 0]) ?_ rfl ⟨_, by rw [HV.out]; rfl, by rw [HV.out]; exact Hold.base (Hold.set3 HO5.out (by omega) _ _ _) (by omega), below_set3 HB5.out (Nat.le_refl _) _ _ _⟩
      all_goals rw [results_cell_tmp rfl]
      all_goals go_simp
/-- Edit answers what editing as a function of lists answers. -/
theorem edit_any (pv sv : Value) (pat src : List UInt8) (w : World) (hp : SvB w pv pat) (hs : SvB w sv src) :
    Calls Try.prog 12 #[pv, sv] w (EPost w (edRes pat src)) := by
  obtain ⟨p, c, rfl, hr, _⟩ := hp
  by_cases h : 1 ≤ pat.length ∧ pat.length ≤ 256
  · exact edit_yes p c sv pat src w h.1 h.2 hr hs
  · have hv : edRes pat src = ([], 0, 0, 6) := by unfold edRes; rw [if_neg h]
    rw [hv]
    exact edit_not p pat.length c sv w h

end E
end Go.Proofs.Ytfkenoehoocobaa

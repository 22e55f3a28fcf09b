/- The document's own Edit answers what editing as a function of lists answers. -/
import Derived.Test.YtfkenoehoocobaaEdRefD
import Derived.Deep.CutRange
namespace Go.Proofs.Ytfkenoehoocobaa
open Go.RowKit
set_option linter.unusedVariables false
namespace E

theorem ne8' {x y : UInt8} (h : x ≠ y) : ((x.toNat : Int) == (y.toNat : Int)) = false := by
  simp only [beq_eq_false_iff_ne, ne_eq]
  intro e
  exact h (UInt8.toNat_inj.1 (by omega))
theorem zone8 (dn : Nat) (h : dn ≤ 9) : (240 + (dn : Int)) % 256 = ((UInt8.ofNat (240 + dn)).toNat : Int) := by
  rw [show (UInt8.ofNat (240 + dn)).toNat = 240 + dn from by rw [UInt8.toNat_ofNat']; exact Nat.mod_eq_of_lt (by show 240 + dn < 256; omega)]
  omega
theorem edB_le (x : UInt8) : (edB x).length ≤ 2 := by
  unfold edB
  split
  · simp
  · split <;> simp
theorem edL_le (l : List UInt8) : (edL l).length ≤ 2 * l.length := by
  induction l with
  | nil => simp [edL]
  | cons x l ih =>
    have h := edB_le x
    rw [edL_c, List.length_cons]
    split
    · omega
    · rw [List.length_append]
      omega
theorem edCells_at (L : List ED) (k : Nat) (hk : k < L.length) : (edCells L)[k * 3]? = some (.int .i64 (L[k].n : Int)) ∧ (edCells L)[k * 3 + 1]? = some (.int .i64 (L[k].sign : Int)) ∧ (edCells L)[k * 3 + 2]? = some (.bool L[k].bad) := by
  have e : L = L.take k ++ L[k] :: L.drop (k + 1) := by rw [← List.drop_eq_getElem_cons hk, List.take_append_drop]
  have h1 : (edCells (L.take k)).length = k * 3 := by rw [edCells_len, List.length_take, Nat.min_eq_left (Nat.le_of_lt hk)]
  have h2 : edCells L = edCells (L.take k) ++ (.int .i64 (L[k].n : Int) :: .int .i64 (L[k].sign : Int) :: .bool L[k].bad :: edCells (L.drop (k + 1))) := by
    conv => lhs; rw [e]
    rw [edCells_app]
    rfl
  rw [h2]
  refine ⟨?_, ?_, ?_⟩
  · rw [List.getElem?_append_right (by omega), h1, Nat.sub_self]
    rfl
  · rw [List.getElem?_append_right (by omega), h1, show k * 3 + 1 - k * 3 = 1 by omega]
    rfl
  · rw [List.getElem?_append_right (by omega), h1, show k * 3 + 2 - k * 3 = 2 by omega]
    rfl
/-- The digit at a place, in memory. -/
theorem OwnD.at' {w : World} {b : Nat} {sv : Value} {L : List ED} (h : OwnD w b sv L) (k : Nat) (hk : k < L.length) : ∃ g c, sv = .slice (some ⟨g, 0, none⟩) L.length c ∧ w.cell? ⟨g, k * 3, none⟩ = some (.int .i64 (L[k].n : Int)) ∧ w.cell? ⟨g, k * 3 + 1, none⟩ = some (.int .i64 (L[k].sign : Int)) ∧ w.cell? ⟨g, k * 3 + 2, none⟩ = some (.bool L[k].bad) := by
  have h' := h
  obtain ⟨_, ⟨_, h0⟩ | ⟨g, c, cur, rfl, hrest⟩⟩ := h
  · omega
  · obtain ⟨a1, a2, a3⟩ := edCells_at L k hk
    have hadd : ∀ j, (⟨g, 0, none⟩ : Addr).add j = ⟨g, j, none⟩ := fun j => by unfold Addr.add; split <;> simp_all
    refine ⟨g, c, rfl, ?_, ?_, ?_⟩
    · rw [← hadd]; exact World.ownsRow.cells h' rfl _ _ a1
    · rw [← hadd]; exact World.ownsRow.cells h' rfl _ _ a2
    · rw [← hadd]; exact World.ownsRow.cells h' rfl _ _ a3
theorem OwnD.slice {w : World} {b : Nat} {sv : Value} {L : List ED} (h : OwnD w b sv L) : ∃ p c, sv = .slice p L.length c := by
  obtain ⟨_, ⟨h1, h0⟩ | ⟨g, c, cur, rfl, hrest⟩⟩ := h
  · exact ⟨none, 0, by rw [h1, h0]⟩
  · exact ⟨_, _, rfl⟩
theorem ownD_kept {w w' : World} {t base size n : Nat} {sv : Value} {xs : List Value} (h : w.ownsRow base t size sv n xs) (hb : Below w.heap.size w w') : w'.ownsRow base t size sv n xs := by
  obtain ⟨h0, h1 | ⟨g, cap, cur, hv, hg, hh, hle, hm, hsz, ht⟩⟩ := h
  · exact ⟨h0, .inl h1⟩
  · refine ⟨h0, .inr ⟨g, cap, cur, hv, hg, ?_, hle, hm, hsz, ht⟩⟩
    have hlt : g < w.heap.size := by
      rcases Nat.lt_or_ge g w.heap.size with h' | h'
      · exact h'
      · simp [Array.getElem?_eq_none h'] at hh
    rw [hb.block g hlt]
    exact hh
/-- The result so far, in block G. -/
def RfM (w : World) (G : Nat) (mk : Int) (text : List UInt8) : Prop := ∃ tv, Bx w G 29 #[tv, .int .i64 0, .int .i64 mk] ∧ w.ownsRow (G + 1) 5 1 tv text.length (bsU text)
theorem RfM.bel {w w' : World} {G : Nat} {mk : Int} {text : List UInt8} (h : RfM w G mk text) (hb : Below w.heap.size w w') : RfM w' G mk text := by
  obtain ⟨tv, h1, h2⟩ := h
  exact ⟨tv, h1.below hb, own_kept h2 hb⟩
theorem RfM.mark {w : World} {G : Nat} {mk : Int} {text : List UInt8} (h : RfM w G mk text) (m : Int) : RfM (w.setCell ⟨G, 2, none⟩ (.int .i64 m)) G m text := by
  obtain ⟨tv, h1, h2⟩ := h
  exact ⟨tv, h1.set 2 _, own_set h2 (by omega)⟩
theorem RfM.lt {w : World} {G : Nat} {mk : Int} {text : List UInt8} (h : RfM w G mk text) : G < w.heap.size := by
  obtain ⟨tv, h1, h2⟩ := h
  exact h1.lt
/-- What an append to the text leaves. -/
def ApPost (W : World) (G : Nat) (mk : Int) (text : List UInt8) (x : UInt8) (tv v' : Value) (w1 : World) : Prop := (∃ p c, v' = .slice p (text.length + 1) c) ∧ (w1.cell? ⟨G, 0, none⟩ = some tv ∧ w1.frozen? ⟨G, 0, none⟩ = false) ∧ RfM (w1.setCell ⟨G, 0, none⟩ v') G mk (text ++ [x]) ∧ Below G W (w1.setCell ⟨G, 0, none⟩ v')
theorem RfM.app {W : World} {G : Nat} {mk : Int} {text : List UInt8} {tv : Value} (hB : Bx W G 29 #[tv, .int .i64 0, .int .i64 mk]) (hO : W.ownsRow (G + 1) 5 1 tv text.length (bsU text)) (x : UInt8) (v' : Value) (w1 : World) (h1 : w1.ownsRow (G + 1) 5 1 v' (text.length + 1) (bsU text ++ [.int .u8 (x.toNat : Int)])) (h2 : (W.alloc (.cells #[.int .u8 (x.toNat : Int)] 5)).grownBy w1 tv.ownBlock) : ApPost W G mk text x tv v' w1 := by
  have hne : some G ≠ tv.ownBlock := fun e => by
    have := (hO.lt G e.symm).1
    omega
  have hB1 : Bx w1 G 29 #[tv, .int .i64 0, .int .i64 mk] := ((hB.below (below_new W _)).grown h2 hne)
  have hO1 : w1.ownsRow (G + 1) 5 1 v' (text ++ [x]).length (bsU (text ++ [x])) := by rw [bsU_snoc, List.length_append]; exact h1
  obtain ⟨pv, cv, hv, _⟩ := Hold.full (show Hold w1 (G + 1) v' (text ++ [x]) from hO1)
  refine ⟨⟨pv, cv, by rw [hv, List.length_append]; rfl⟩, ⟨hB1.cell 0, hB1.frozen 0⟩, ⟨v', hB1.set 0 v', own_set hO1 (by omega)⟩, ?_⟩
  refine Below.setCell ?_ (Nat.le_refl G) _
  refine Below.grown ((below_new W _).mono (Nat.le_of_lt hB.lt)) h2 (by have := hB.lt; simp; omega) (fun k hk => ?_)
  have := (hO.lt k hk).1
  omega
/-- Where the document's run stands behind t bytes of the pattern. -/
def RAt (fill : UInt8) (L : List ED) (pat : List UInt8) (RUN : Nat × ES) (G : Nat) (w1 : World) (t : Nat) (nx on so : Value) (W : World) : Prop :=
  ∃ s, RUN = edRun fill L (pat.drop t) t s ∧ s.text.length = t ∧ nx = .int .i64 (s.next : Int) ∧ on = .bool s.on ∧ so = .bool s.nz ∧ s.next ≤ L.length ∧ RfM W G s.mark s.text ∧ Below G w1 W
/-- Where the run stands when a byte's result is known and not yet appended. -/
def RMid (fill : UInt8) (L : List ED) (pat : List UInt8) (RUN : Nat × ES) (G : Nat) (wr : World) (t : Nat) (text : List UInt8) (tv : Value) (nx on so out : Value) (W : World) : Prop :=
  ∃ (k : Nat) (o z : Bool) (mk : Int) (x : UInt8), RUN = edRun fill L (pat.drop (t + 1)) (t + 1) ⟨k, o, z, mk, text ++ [x]⟩ ∧ nx = .int .i64 (k : Int) ∧ on = .bool o ∧ so = .bool z ∧ out = .int .u8 (x.toNat : Int) ∧ k ≤ L.length ∧ Bx W G 29 #[tv, .int .i64 0, .int .i64 mk] ∧ W.ownsRow (G + 1) 5 1 tv text.length (bsU text) ∧ Below G wr W
set_option maxRecDepth 100000 in
theorem redit_not (p : Option Addr) (n c : Nat) (sv : Value) (w : World) (hn : ¬ (1 ≤ n ∧ n ≤ 256)) :
    Calls Try.prog 13 #[.slice p n c, sv] w (EPost w ([], 0, 0, 6)) := by
  have hb1 := below_new w (.cells #[.slice none 0 0, .int .i64 0, .int .i64 0] 29)
  have HB1 := Lib.hid hb1
  clear hb1
  by_cases h0 : n = 0
  · subst h0
    go_enter Try.func13, Try.ntmps13
    go_wp2
    refine bodyPost_ret (v := .tuple #[.agg #[.slice none 0 0, .int .i64 0, .int .i64 0], .int .i64 6]) ?_ rfl ⟨_, rfl, hold_nil _ _, ?_⟩
    · rw [results_cell_tmp rfl]
      go_simp
    · exact HB1.out
  · have h1 : (256 : Int) < (n : Int) := by omega
    have h2 : ¬ ((n : Int) < 1) := by omega
    clear h0 hn
    go_enter Try.func13, Try.ntmps13
    go_wp2
    refine bodyPost_ret (v := .tuple #[.agg #[.slice none 0 0, .int .i64 0, .int .i64 0], .int .i64 6]) ?_ rfl ⟨_, rfl, hold_nil _ _, ?_⟩
    · rw [results_cell_tmp rfl]
      go_simp
    · exact HB1.out
set_option maxRecDepth 100000 in
set_option maxHeartbeats 8000000 in
theorem redit_yes (p : Option Addr) (c : Nat) (sv : Value) (pat src : List UInt8) (w : World) (h1 : 1 ≤ pat.length) (h2 : pat.length ≤ 256) (hl : src.length ≤ 2000) (hp : Rd w p pat) (hs : SvB w sv src) :
    Calls Try.prog 13 #[.slice p pat.length c, sv] w (EPost w (edRes pat src)) := by
  obtain ⟨B, off, rfl, hcl⟩ : ∃ B off, p = some ⟨B, off, none⟩ ∧ ∀ j, j < pat.length → w.cell? ⟨B, off + j, none⟩ = some (.int .u8 ((gt pat j).toNat : Int)) := by
    rcases hp with h | ⟨B, off, h, hc⟩
    · rw [h] at h1
      simp at h1
    · exact ⟨B, off, h, hc⟩
  have hB : B < w.heap.size := World.block_lt_of_cell? w _ (hcl 0 (by omega))
  obtain ⟨fill, hfill⟩ : ∃ x, x = gt pat 0 := ⟨_, rfl⟩
  have hc0 := hcl 0 (by omega)
  rw [Nat.add_zero, ← hfill] at hc0
  obtain ⟨L, hL⟩ : ∃ x, x = edL src := ⟨_, rfl⟩
  obtain ⟨RUN, hRUN⟩ : ∃ x, x = edRun fill L pat 0 edInit := ⟨_, rfl⟩
  have hhd : pat.headD 0 = fill := by
    rw [hfill]
    cases pat
    · simp at h1
    · rfl
  have hres : edRes pat src = if RUN.1 = 0 then (RUN.2.text, edCC RUN.2, RUN.2.mark, 0) else ([], 0, 0, RUN.1) := by
    unfold edRes
    rw [if_pos ⟨h1, h2⟩, hhd, ← hL, ← hRUN]
  have HRES := Lib.hid hres
  have HRUN := Lib.hid hRUN
  have HCL := Lib.hid hcl
  have HB := Lib.hid hB
  have HC0 := Lib.hid hc0
  have hLL : L.length ≤ 4000 := by rw [hL]; have := edL_le src; omega
  have hL9 : edNines L := by rw [hL]; exact edL_nines src
  have HLL := Lib.hid hLL
  have HL9 := Lib.hid hL9
  have hR := Bx.new w 29 #[.slice none 0 0, .int .i64 0, .int .i64 0]
  have HR := Lib.hid hR
  have hdg := fun W (hb : Below w.heap.size w W) => rdigits_any sv src W hl (hs.below hb)
  rw [← hL] at hdg
  have HDG := Lib.hid hdg
  have HW0 := Lib.hid (below_new w (.cells #[.slice none 0 0, .int .i64 0, .int .i64 0] 29))
  obtain ⟨n, hn⟩ : ∃ n, n = pat.length := ⟨_, rfl⟩
  have HN := Lib.hid hn
  rw [← hn] at h1 h2 ⊢
  have i1 : ¬ ((n : Int) < 1) := by omega
  have i2 : ¬ ((256 : Int) < (n : Int)) := by omega
  have i3 : (0 : Int) < (n : Int) := by omega
  have i33 : ¬ ((n : Int) = 0) := by omega
  have H12 := Lib.hid (show 1 ≤ n ∧ n ≤ 256 from ⟨h1, h2⟩)
  clear hcl hp hfill hRUN hhd hres hn hB hR h1 h2 hc0 hs hl hL hdg hLL hL9
  generalize edRes pat src = res at *
  go_enter Try.func13, Try.ntmps13
  go_wp2_with fail
  refine (HDG.out _ HW0.out).mono ?_
  rintro e w1 ⟨dv, rfl, hd, hb⟩
  obtain ⟨W2, hW2⟩ : ∃ W2, W2 = World.alloc w1 (.cells #[.slice none 0 0, .int .i64 0, .int .i64 (-1)] 29) := ⟨_, rfl⟩
  have hb2 : Below w1.heap.size w1 W2 := by rw [hW2]; exact below_new _ _
  have HB1 := Lib.hid (bel0 (bel0 HW0.out hb) hb2)
  have HR1 := Lib.hid ((HR.out.below hb).below hb2)
  have hG1 : Bx W2 w1.heap.size 29 #[.slice none 0 0, .int .i64 0, .int .i64 (-1)] := by rw [hW2]; exact Bx.new _ _ _
  obtain ⟨pd, cd, rfl⟩ := hd.slice
  have hdc : ∀ k (hk : k < L.length), ∃ g, pd = some ⟨g, 0, none⟩ ∧ g < w1.heap.size ∧ w1.cell? ⟨g, k * 3, none⟩ = some (.int .i64 (L[k].n : Int)) ∧ w1.cell? ⟨g, k * 3 + 1, none⟩ = some (.int .i64 (L[k].sign : Int)) ∧ w1.cell? ⟨g, k * 3 + 2, none⟩ = some (.bool L[k].bad) := fun k hk => by
    obtain ⟨g, c, hv, a1, a2, a3⟩ := hd.at' k hk
    obtain ⟨rfl, _, rfl⟩ := Value.slice.inj hv
    exact ⟨g, rfl, World.block_lt_of_cell? w1 _ a1, a1, a2, a3⟩
  have HDC := Lib.hid hdc
  have hGw : w.heap.size + 1 ≤ w1.heap.size := by have := hb.size; simpa using this
  obtain ⟨G, hG⟩ : ∃ G, G = w1.heap.size := ⟨_, rfl⟩
  have HGW : Hid (w.heap.size < G) := Lib.hid (by omega)
  have HPB : Hid (∀ j, j < n → W2.cell? ⟨B, off + j, none⟩ = some (.int .u8 ((gt pat j).toNat : Int))) := Lib.hid (fun j hj => (HB1.out.cell (p := ⟨B, off + j, none⟩) HB.out).trans (HCL.out j (by rw [← HN.out]; exact hj)))
  have HP0 : Hid (W2.cell? ⟨B, off, none⟩ = some (.int .u8 (fill.toNat : Int))) := Lib.hid ((HB1.out.cell (p := ⟨B, off, none⟩) HB.out).trans HC0.out)
  have hdc2 : ∀ k (hk : k < L.length), ∃ g, pd = some ⟨g, 0, none⟩ ∧ g < G ∧ W2.cell? ⟨g, k * 3, none⟩ = some (.int .i64 (L[k].n : Int)) ∧ W2.cell? ⟨g, k * 3 + 1, none⟩ = some (.int .i64 (L[k].sign : Int)) ∧ W2.cell? ⟨g, k * 3 + 2, none⟩ = some (.bool L[k].bad) := fun k hk => by
    obtain ⟨g, e1, e2, a1, a2, a3⟩ := hdc k hk
    exact ⟨g, e1, by omega, keepC a1 hb2, keepC a2 hb2, keepC a3 hb2⟩
  have HD3 := Lib.hid hdc2
  have HAT0 : Hid (RAt fill L pat RUN G W2 0 (.int .i64 0) (.bool false) (.bool false) W2) := Lib.hid ⟨edInit, HRUN.out, rfl, rfl, rfl, rfl, Nat.zero_le _, ⟨_, by rw [hG]; exact hG1, World.ownsRow_nil _ _ _ _⟩, Below.refl _ _⟩
  clear hd hb hb2 hG1 hdc hGw hdc2 HDC HDG HW0 HR HC0 HCL
  go_wp2_with fail
  rw [← hW2]
  rw [← hG]
  clear hW2 hG
  go_wp2
  go_loopw [7, 8, 9, 11] (fun nx on so i wr => ∃ t : Nat, t ≤ n ∧ i = .int .i64 t ∧ RAt fill L pat RUN G W2 t nx on so wr) (fun _ _ _ i _ => n - (intOf i).toNat)
  case atStart => exact ⟨0, Nat.zero_le _, rfl, HAT0.out⟩
  case round =>
    obtain ⟨t, ht, rfl, ⟨nx, on, nz, mk, text⟩, a1, a2, e7, e8, e9, a6, a7, a8⟩ := hrel
    obtain rfl := (show _ = Value.int .i64 (nx : Int) from e7)
    obtain rfl := (show _ = Value.bool on from e8)
    obtain rfl := (show _ = Value.bool nz from e9)
    obtain ⟨tv, hB7, hO7⟩ := (show RfM wr G mk text from a7)
    obtain ⟨pv, cv, rfl, _⟩ := Hold.full (show Hold wr (G + 1) tv text from hO7)
    have A1 := Lib.hid a1
    have A2 := Lib.hid (show text.length = t from a2)
    have A6 := Lib.hid (show nx ≤ L.length from a6)
    have HBX := Lib.hid hB7
    have HO := Lib.hid hO7
    have A8 := Lib.hid a8
    have HGL := Lib.hid hB7.lt
    have hnx : nx ≤ 4000 := Nat.le_trans A6.out HLL.out
    obtain ⟨i0, hi, hz0, hz1, hz2⟩ := info_parts info5
    clear a1 a2 a6 a7 a8 hB7 hO7 e7 e8 e9
    by_cases hlt : t < n
    · have hBG : B < G := Nat.lt_trans HB.out HGW.out
      have hcw : wr.cell? ⟨B, off + t, none⟩ = some (.int .u8 ((gt pat t).toNat : Int)) := (A8.out.cell (p := ⟨B, off + t, none⟩) hBG).trans (HPB.out t hlt)
      have hf0 : wr.cell? ⟨B, off, none⟩ = some (.int .u8 (fill.toNat : Int)) := (A8.out.cell (p := ⟨B, off, none⟩) hBG).trans HP0.out
      have hst := edAt_step (by rw [← HN.out]; exact hlt) A1.out
      clear hBG
      obtain ⟨cp, hcp⟩ : ∃ x, x = gt pat t := ⟨_, rfl⟩
      rw [← hcp] at hcw hst
      have HST := Lib.hid hst
      clear hcp hst
      have HRW := Lib.hid (HR1.out.bel A8.out HGW.out)
      obtain ⟨ca, hca⟩ : ∃ x : Int, x = (cp.toNat : Int) := ⟨_, rfl⟩
      rw [← hca] at hcw
      have HCA := Lib.hid hca
      clear hca
      go_upto_if 41 with fail
      go_cut [7, 8, 9, 13] from 27 to 109 (fun nx' on' so' out' wx => RMid fill L pat RUN G wr t text (.slice pv text.length cv) nx' on' so' out' wx)
      case rest =>
        obtain ⟨k, o, z, mk2, x, g1, rfl, rfl, rfl, rfl, g6, g7, g8, g9⟩ := hcut
        have HB7 := Lib.hid g7
        have HO7 := Lib.hid g8
        have HB9 := Lib.hid g9
        have HGL2 := Lib.hid g7.lt
        have c0 := HB7.out.cell 0
        have HREL : Hid (∀ W, RfM W G mk2 (text ++ [x]) → Below G wr W → RAt fill L pat RUN G W2 (t + 1) (.int .i64 (k : Int)) (.bool o) (.bool z) W) := Lib.hid (fun W h1 h2 => ⟨⟨k, o, z, mk2, text ++ [x]⟩, g1, by show (text ++ [x]).length = t + 1; rw [List.length_append, A2.out]; rfl, rfl, rfl, rfl, g6, h1, A8.out.trans h2⟩)
        clear g1 g6 g7 g8 g9
        go_wp2_with (at_builtin; refine wpList_append_own _ rfl (.tmp 105) (.tmp 107) 22 rfl (G + 1) 5 i0 (.int .u8 0) 1 1 Try.underlying22 hi hz0 hz1 hz2 rfl (by decide) _ text.length (bsU text) rfl (HO7.out.alloc _) ⟨wc.heap.size, 0, none⟩ 1 1 [_] rfl rfl (cellNew _ _ _) (by intro u hu; simp at hu; subst hu; rfl) (by unfold maxLen; have := A2.out; have := H12.out; omega) (by have := A2.out; have := H12.out; omega) (by have := HGL2.out; simp; omega) ?_)
        intro v' w3 hown hgrow hnil
        have hap := RfM.app HB7.out HO7.out x v' w3 hown hgrow
        obtain ⟨⟨pv', cv', rfl⟩, ⟨k0, f0⟩, hrf, hbl⟩ := hap
        have HRF := Lib.hid hrf
        have HBL := Lib.hid (HB9.out.trans hbl)
        clear hown hgrow hnil hrf hbl
        go_wp2
        go_roundw
        case rel => exact ⟨t + 1, by omega, by go_num, HREL.out _ HRF.out HBL.out⟩
        case measure => simp [intOf]; omega
      case first =>
        rcases (show cp = 34 ∨ (cp ≠ 34 ∧ cp ≠ 32 ∧ cp ≠ 33) ∨ (cp = 32 ∨ cp = 33) by
          by_cases e1 : cp = 34
          · exact .inl e1
          · by_cases e2 : cp = 32
            · exact .inr (.inr (.inl e2))
            · by_cases e3 : cp = 33
              · exact .inr (.inr (.inr e3))
              · exact .inr (.inl ⟨e1, e2, e3⟩)) with hcc | hcc | hcc
        · subst hcc
          have hca : ca = 34 := HCA.out
          subst hca
          have hst2 : RUN = edRun fill L (pat.drop (t + 1)) (t + 1) ⟨nx, false, false, mk, text ++ [fill]⟩ := HST.out
          have HST2 := Lib.hid hst2
          clear hst2
          go_wp2_with fail
          go_meet
          exact ⟨nx, false, false, mk, fill, HST2.out, rfl, rfl, rfl, rfl, A6.out, HBX.out, HO.out, Below.refl _ _⟩
        · obtain ⟨n1, n2, n3⟩ := hcc
          have m1 : (ca == 34) = false := by rw [HCA.out]; exact ne8' (y := 34) n1
          have m2 : (ca == 32) = false := by rw [HCA.out]; exact ne8' (y := 32) n2
          have m3 : (ca == 33) = false := by rw [HCA.out]; exact ne8' (y := 33) n3
          have m4 : (ca != 32) = true := by rw [bne, m2]; rfl
          have m5 : (ca != 33) = true := by rw [bne, m3]; rfl
          have hst2 : RUN = edRun fill L (pat.drop (t + 1)) (t + 1) ⟨nx, on, nz, mk, text ++ [if on then cp else fill]⟩ := by
            have e : edStep fill L t cp ⟨nx, on, nz, mk, text⟩ = (0, ⟨nx, on, nz, mk, text ++ [if on then cp else fill]⟩) := by
              unfold edStep
              rw [if_neg n1, if_pos ⟨n2, n3⟩]
            have hst := HST.out
            rw [e] at hst
            exact hst
          have HST2 := Lib.hid hst2
          clear hst2 n1 n2 n3
          cases on
          · go_wp2_with fail
            go_meet
            exact ⟨nx, false, nz, mk, fill, HST2.out, rfl, rfl, rfl, rfl, A6.out, HBX.out, HO.out, Below.refl _ _⟩
          · go_wp2_with fail
            go_meet
            exact ⟨nx, true, nz, mk, cp, HST2.out, rfl, rfl, rfl, by rw [HCA.out], A6.out, HBX.out, HO.out, Below.refl _ _⟩
        · rcases hcc with hcc | hcc
          · have hst0 : (cp == 33) = false := by rw [hcc]; decide
            have hca : ca = 32 := by rw [HCA.out, hcc]; rfl
            subst hca
            have hcc2 : cp = 32 ∨ cp = 33 := by rw [hcc]; decide
            have hst := HST.out
            by_cases hk : nx < L.length
            · obtain ⟨g, rfl, hgG, d1, d2, d3⟩ := HD3.out nx hk
              have b1 := (A8.out.cell (p := ⟨g, nx * 3, none⟩) hgG).trans d1
              have b2 := (A8.out.cell (p := ⟨g, nx * 3 + 1, none⟩) hgG).trans d2
              have b3 := (A8.out.cell (p := ⟨g, nx * 3 + 2, none⟩) hgG).trans d3
              have hdrop : L.drop nx = L[nx] :: L.drop (nx + 1) := List.drop_eq_getElem_cons hk
              have h9 : L[nx].n ≤ 9 := HL9.out _ (List.getElem_mem hk)
              rw [step_some (s := ⟨nx, on, nz, mk, text⟩) hcc2 hdrop] at hst
              clear d1 d2 d3 hdrop
              generalize L[nx] = d at *
              obtain ⟨dn, sg, bad⟩ := d
              have b1 : wr.cell? ⟨g, nx * 3, none⟩ = some (.int .i64 (dn : Int)) := b1
              have b2 : wr.cell? ⟨g, nx * 3 + 1, none⟩ = some (.int .i64 (sg : Int)) := b2
              have b3 : wr.cell? ⟨g, nx * 3 + 2, none⟩ = some (.bool bad) := b3
              have h9 : dn ≤ 9 := h9
              have k1 : ((nx : Int) == (L.length : Int)) = false := by simp only [beq_eq_false_iff_ne, ne_eq]; omega
              have k2 : ¬ ((nx : Int) = (L.length : Int)) := by omega
              have k3 : (nx : Int) < (L.length : Int) := by omega
              have k4 : ¬ (nx = L.length) := by omega
              have HK := Lib.hid hk
              clear hk hgG
              cases bad
              · have hst2 : RUN = edRun fill L (pat.drop (t + 1)) (t + 1) (edOne fill t cp ⟨nx, on, nz, mk, text⟩ ⟨dn, sg, false⟩) := hst
                obtain ⟨bA, hbA⟩ : ∃ b, b = (on || decide (0 < dn)) := ⟨_, rfl⟩
                obtain ⟨bB, hbB⟩ : ∃ b, b = (!on && decide (0 < dn)) := ⟨_, rfl⟩
                obtain ⟨x, hx⟩ : ∃ x, x = (if bA = true then UInt8.ofNat (240 + dn) else fill) := ⟨_, rfl⟩
                obtain ⟨mk2, hmk2⟩ : ∃ x : Int, x = (if bB = true then (t : Int) else mk) := ⟨_, rfl⟩
                have hst3 : RUN = edRun fill L (pat.drop (t + 1)) (t + 1) ⟨nx + 1, (on || decide (0 < dn) || false) && sg != 1, nz || decide (0 < dn), mk2, text ++ [x]⟩ := by
                  rw [hst2, hx, hmk2, hbA, hbB]
                  unfold edOne
                  rw [hst0]
                have HST3 := Lib.hid hst3
                have HXX := Lib.hid hx
                have HMM := Lib.hid hmk2
                have HBA := Lib.hid hbA
                have HBB := Lib.hid hbB
                have hz8 := zone8 dn h9
                have HZ9 : Hid (240 + (dn : Int) = ((UInt8.ofNat (240 + dn)).toNat : Int)) := Lib.hid (by have := zone8 dn h9; omega)
                have HSG : Hid (((sg : Int) != 1) = (sg != 1)) := Lib.hid (by
                  by_cases h : sg = 1
                  · subst h; rfl
                  · have e1 : ((sg : Int) != 1) = true := by simp; omega
                    have e2 : (sg != 1) = true := by simp [h]
                    rw [e1, e2])
                generalize hch : UInt8.ofNat (240 + dn) = ch at *
                have HCH := Lib.hid hch
                obtain ⟨W5, hW5⟩ : ∃ W5, W5 = (wr.alloc (.cells #[.int .i64 (dn : Int), .int .i64 (sg : Int), .bool false] 62)) := ⟨_, rfl⟩
                have hbn : Below wr.heap.size wr W5 := by rw [hW5]; exact below_new _ _
                have HB0 := Lib.hid (HBX.out.below hbn)
                have HO0 := Lib.hid (own_kept HO.out hbn)
                have HBL0 : Hid (Below G wr W5) := Lib.hid (hbn.mono (Nat.le_of_lt HGL.out))
                have hbd : Bx W5 wr.heap.size 62 #[.int .i64 (dn : Int), .int .i64 (sg : Int), .bool false] := by rw [hW5]; exact Bx.new _ _ _
                have HBD := Lib.hid hbd
                have HGD : Hid (G < wr.heap.size) := Lib.hid HGL.out
                have d0 := hbd.cell 0
                have d1 := hbd.cell 1
                have c2 := HB0.out.cell 2
                have f2 := HB0.out.frozen 2
                clear hst hst2 hst3 hst0 hcc hcc2 hch hx hmk2 hbA hbB hbn hbd hf0 hcw
                have KN : Hid (0 < dn ∨ dn = 0) := Lib.hid (by omega)
                go_upto_region 25 with fail
                rw [← hW5]
                clear hW5 b1 b2 b3 k1 k2 k3 k4
                go_cut [69] from 27 to 109 (fun b wx => b = .bool bA ∧ wx = W5)
                case first =>
                  cases on
                  · rcases KN.out with hd | rfl
                    · have hd1 : (0 : Int) < (dn : Int) := by omega
                      have HDP : Hid (decide (0 < dn) = true) := Lib.hid (by simp; omega)
                      clear hd
                      go_wp2_with fail
                      go_meet
                      exact ⟨by rw [HBA.out, HDP.out]; rfl, rfl⟩
                    · go_wp2_with fail
                      go_meet
                      exact ⟨by rw [HBA.out]; rfl, rfl⟩
                  · go_wp2_with fail
                    go_meet
                    exact ⟨by rw [HBA.out]; rfl, rfl⟩
                case rest =>
                  obtain ⟨rfl, rfl⟩ := hcut
                  go_upto_if 69 with fail
                  go_cut [13] from 27 to 109 (fun out' wx => out' = .int .u8 (x.toNat : Int) ∧ wx = wc)
                  case first =>
                    cases bA
                    · go_wp2_with fail
                      go_meet
                      exact ⟨by rw [HXX.out]; rfl, rfl⟩
                    · go_wp2_with fail
                      go_meet
                      exact ⟨by rw [HXX.out]; show _ = Value.int .u8 (ch.toNat : Int); rw [← HZ9.out], rfl⟩
                  case rest =>
                    obtain ⟨rfl, rfl⟩ := hcut
                    clear hz8
                    go_upto_region 27 with fail
                    go_cut [80] from 27 to 109 (fun b wx => b = .bool bB ∧ wx = wc)
                    case first =>
                      cases on
                      · rcases KN.out with hd | rfl
                        · have hd1 : (0 : Int) < (dn : Int) := by omega
                          have HDP : Hid (decide (0 < dn) = true) := Lib.hid (by simp; omega)
                          clear hd
                          go_wp2_with fail
                          go_meet
                          exact ⟨by rw [HBB.out, HDP.out]; rfl, rfl⟩
                        · go_wp2_with fail
                          go_meet
                          exact ⟨by rw [HBB.out]; rfl, rfl⟩
                      · go_wp2_with fail
                        go_meet
                        exact ⟨by rw [HBB.out]; rfl, rfl⟩
                    case rest =>
                      obtain ⟨rfl, rfl⟩ := hcut
                      go_upto_if 80 with fail
                      go_cut [13] from 27 to 109 (fun out' wx => out' = .int .u8 (x.toNat : Int) ∧ Bx wx G 29 #[.slice pv text.length cv, .int .i64 0, .int .i64 mk2] ∧ wx.ownsRow (G + 1) 5 1 (.slice pv text.length cv) text.length (bsU text) ∧ Below G wr wx ∧ Bx wx wr.heap.size 62 #[.int .i64 (dn : Int), .int .i64 (sg : Int), .bool false])
                      case first =>
                        cases bB
                        · go_wp2_with fail
                          go_meet
                          have em : mk2 = mk := by rw [HMM.out]; rfl
                          exact ⟨rfl, by rw [em]; exact HB0.out, HO0.out, HBL0.out, HBD.out⟩
                        · go_wp2_with fail
                          go_meet
                          have em : mk2 = (t : Int) := by rw [HMM.out]; rfl
                          exact ⟨rfl, by rw [em]; exact HB0.out.set 2 _, own_set HO0.out (by omega), HBL0.out.setCell (Nat.le_refl G) _, HBD.out.far (by have := HGD.out; show G ≠ _; omega) _⟩
                      case rest =>
                        obtain ⟨rfl, g1, g2, g3, g4⟩ := hcut
                        have HG1 := Lib.hid g1
                        have HG2 := Lib.hid g2
                        have HG3 := Lib.hid g3
                        have d0 := g4.cell 0
                        have d1 := g4.cell 1
                        clear g1 g2 g3 g4 HB0 HO0 HBL0 HBD c2 f2
                        go_upto_region 29 with fail
                        go_cut [9] from 27 to 109 (fun so' wx => so' = .bool (nz || decide (0 < dn)) ∧ wx = wc)
                        case first =>
                          cases nz
                          · rcases KN.out with hd | rfl
                            · have hd1 : (0 : Int) < (dn : Int) := by omega
                              have HDP : Hid (decide (0 < dn) = true) := Lib.hid (by simp; omega)
                              clear hd
                              go_wp2_with fail
                              go_meet
                              exact ⟨by rw [HDP.out]; rfl, rfl⟩
                            · go_wp2_with fail
                              go_meet
                              exact ⟨rfl, rfl⟩
                          · go_wp2_with fail
                            go_meet
                            exact ⟨rfl, rfl⟩
                        case rest =>
                          obtain ⟨rfl, rfl⟩ := hcut
                          cases on
                          · rcases KN.out with hd | rfl
                            · have hd1 : (0 : Int) < (dn : Int) := by omega
                              have HDP : Hid (decide (0 < dn) = true) := Lib.hid (by simp; omega)
                              clear hd
                              go_wp2_with fail
                              go_meet
                              exact ⟨nx + 1, _, _, mk2, x, HST3.out, by go_num, by rw [HDP.out]; simp [HSG.out], by simp, rfl, HK.out, HG1.out, HG2.out, HG3.out⟩
                            · go_wp2_with fail
                              go_meet
                              exact ⟨nx + 1, _, _, mk2, x, HST3.out, by go_num, by simp, by simp, rfl, HK.out, HG1.out, HG2.out, HG3.out⟩
                          · go_wp2_with fail
                            go_meet
                            exact ⟨nx + 1, _, _, mk2, x, HST3.out, by go_num, by simp [HSG.out], by simp, rfl, HK.out, HG1.out, HG2.out, HG3.out⟩
              · have hz : RUN.1 = 7 := by rw [hst]; simp
                have HZ := Lib.hid hz
                have HRD := Lib.hid (HRW.out.below (below_new wr (.cells #[.int .i64 (dn : Int), .int .i64 (sg : Int), .bool true] 62)))
                have HBZ := Lib.hid (below_set3 (bel0 (HB1.out.trans (A8.out.mono (Nat.le_of_lt HGW.out))) (below_new wr (.cells #[.int .i64 (dn : Int), .int .i64 (sg : Int), .bool true] 62))) (Nat.le_refl w.heap.size) (.slice none 0 0) (.int .i64 0) (.int .i64 0))
                clear hst hz hcc hcc2 hst0 HRW
                obtain ⟨⟨r1, r2, r3⟩, q1, q2, q3⟩ := HRD.out.three
                go_wp2
                refine bodyPost_ret (v := .tuple #[.agg #[.slice none 0 0, .int .i64 0, .int .i64 0], .int .i64 7]) ?_ rfl ⟨.slice none 0 0, by rw [HRES.out, HZ.out]; rfl, by rw [HRES.out, HZ.out]; exact hold_nil _ _, HBZ.out⟩
                rw [results_cell_tmp rfl]
                go_simp
            · have e5 : nx = L.length := by have := A6.out; omega
              have hz : RUN.1 = 5 := by
                rw [hst, step_none (s := ⟨nx, on, nz, mk, text⟩) hcc2 (List.drop_eq_nil_of_le (by show L.length ≤ nx; omega))]
                rw [if_neg (show ¬ ((5, (⟨nx, on, nz, mk, text⟩ : ES)) : Nat × ES).1 = 0 from fun h => by cases h)]
              have HZ := Lib.hid hz
              subst e5
              have HBZ := Lib.hid (below_set3 (HB1.out.trans (A8.out.mono (Nat.le_of_lt HGW.out))) (Nat.le_refl w.heap.size) (.slice none 0 0) (.int .i64 0) (.int .i64 0))
              clear hst hz hcc hcc2 hst0 hk
              obtain ⟨⟨r1, r2, r3⟩, q1, q2, q3⟩ := HRW.out.three
              go_wp2
              refine bodyPost_ret (v := .tuple #[.agg #[.slice none 0 0, .int .i64 0, .int .i64 0], .int .i64 5]) ?_ rfl ⟨.slice none 0 0, by rw [HRES.out, HZ.out]; rfl, by rw [HRES.out, HZ.out]; exact hold_nil _ _, HBZ.out⟩
              rw [results_cell_tmp rfl]
              go_simp
          · have hst0 : (cp == 33) = true := by rw [hcc]; decide
            have hca : ca = 33 := by rw [HCA.out, hcc]; rfl
            subst hca
            have hcc2 : cp = 32 ∨ cp = 33 := by rw [hcc]; decide
            have hst := HST.out
            by_cases hk : nx < L.length
            · obtain ⟨g, rfl, hgG, d1, d2, d3⟩ := HD3.out nx hk
              have b1 := (A8.out.cell (p := ⟨g, nx * 3, none⟩) hgG).trans d1
              have b2 := (A8.out.cell (p := ⟨g, nx * 3 + 1, none⟩) hgG).trans d2
              have b3 := (A8.out.cell (p := ⟨g, nx * 3 + 2, none⟩) hgG).trans d3
              have hdrop : L.drop nx = L[nx] :: L.drop (nx + 1) := List.drop_eq_getElem_cons hk
              have h9 : L[nx].n ≤ 9 := HL9.out _ (List.getElem_mem hk)
              rw [step_some (s := ⟨nx, on, nz, mk, text⟩) hcc2 hdrop] at hst
              clear d1 d2 d3 hdrop
              generalize L[nx] = d at *
              obtain ⟨dn, sg, bad⟩ := d
              have b1 : wr.cell? ⟨g, nx * 3, none⟩ = some (.int .i64 (dn : Int)) := b1
              have b2 : wr.cell? ⟨g, nx * 3 + 1, none⟩ = some (.int .i64 (sg : Int)) := b2
              have b3 : wr.cell? ⟨g, nx * 3 + 2, none⟩ = some (.bool bad) := b3
              have h9 : dn ≤ 9 := h9
              have k1 : ((nx : Int) == (L.length : Int)) = false := by simp only [beq_eq_false_iff_ne, ne_eq]; omega
              have k2 : ¬ ((nx : Int) = (L.length : Int)) := by omega
              have k3 : (nx : Int) < (L.length : Int) := by omega
              have k4 : ¬ (nx = L.length) := by omega
              have HK := Lib.hid hk
              clear hk hgG
              cases bad
              · have hst2 : RUN = edRun fill L (pat.drop (t + 1)) (t + 1) (edOne fill t cp ⟨nx, on, nz, mk, text⟩ ⟨dn, sg, false⟩) := hst
                obtain ⟨bA, hbA⟩ : ∃ b, b = (on || decide (0 < dn)) := ⟨_, rfl⟩
                obtain ⟨bB, hbB⟩ : ∃ b, b = (!on && decide (0 < dn)) := ⟨_, rfl⟩
                obtain ⟨x, hx⟩ : ∃ x, x = (if bA = true then UInt8.ofNat (240 + dn) else fill) := ⟨_, rfl⟩
                obtain ⟨mk2, hmk2⟩ : ∃ x : Int, x = (if bB = true then (t : Int) else mk) := ⟨_, rfl⟩
                have hst3 : RUN = edRun fill L (pat.drop (t + 1)) (t + 1) ⟨nx + 1, (on || decide (0 < dn) || true) && sg != 1, nz || decide (0 < dn), mk2, text ++ [x]⟩ := by
                  rw [hst2, hx, hmk2, hbA, hbB]
                  unfold edOne
                  rw [hst0]
                have HST3 := Lib.hid hst3
                have HXX := Lib.hid hx
                have HMM := Lib.hid hmk2
                have HBA := Lib.hid hbA
                have HBB := Lib.hid hbB
                have hz8 := zone8 dn h9
                have HZ9 : Hid (240 + (dn : Int) = ((UInt8.ofNat (240 + dn)).toNat : Int)) := Lib.hid (by have := zone8 dn h9; omega)
                have HSG : Hid (((sg : Int) != 1) = (sg != 1)) := Lib.hid (by
                  by_cases h : sg = 1
                  · subst h; rfl
                  · have e1 : ((sg : Int) != 1) = true := by simp; omega
                    have e2 : (sg != 1) = true := by simp [h]
                    rw [e1, e2])
                generalize hch : UInt8.ofNat (240 + dn) = ch at *
                have HCH := Lib.hid hch
                obtain ⟨W5, hW5⟩ : ∃ W5, W5 = (wr.alloc (.cells #[.int .i64 (dn : Int), .int .i64 (sg : Int), .bool false] 62)) := ⟨_, rfl⟩
                have hbn : Below wr.heap.size wr W5 := by rw [hW5]; exact below_new _ _
                have HB0 := Lib.hid (HBX.out.below hbn)
                have HO0 := Lib.hid (own_kept HO.out hbn)
                have HBL0 : Hid (Below G wr W5) := Lib.hid (hbn.mono (Nat.le_of_lt HGL.out))
                have hbd : Bx W5 wr.heap.size 62 #[.int .i64 (dn : Int), .int .i64 (sg : Int), .bool false] := by rw [hW5]; exact Bx.new _ _ _
                have HBD := Lib.hid hbd
                have HGD : Hid (G < wr.heap.size) := Lib.hid HGL.out
                have d0 := hbd.cell 0
                have d1 := hbd.cell 1
                have c2 := HB0.out.cell 2
                have f2 := HB0.out.frozen 2
                clear hst hst2 hst3 hst0 hcc hcc2 hch hx hmk2 hbA hbB hbn hbd hf0 hcw
                have KN : Hid (0 < dn ∨ dn = 0) := Lib.hid (by omega)
                go_upto_region 25 with fail
                rw [← hW5]
                clear hW5 b1 b2 b3 k1 k2 k3 k4
                go_cut [69] from 27 to 109 (fun b wx => b = .bool bA ∧ wx = W5)
                case first =>
                  cases on
                  · rcases KN.out with hd | rfl
                    · have hd1 : (0 : Int) < (dn : Int) := by omega
                      have HDP : Hid (decide (0 < dn) = true) := Lib.hid (by simp; omega)
                      clear hd
                      go_wp2_with fail
                      go_meet
                      exact ⟨by rw [HBA.out, HDP.out]; rfl, rfl⟩
                    · go_wp2_with fail
                      go_meet
                      exact ⟨by rw [HBA.out]; rfl, rfl⟩
                  · go_wp2_with fail
                    go_meet
                    exact ⟨by rw [HBA.out]; rfl, rfl⟩
                case rest =>
                  obtain ⟨rfl, rfl⟩ := hcut
                  go_upto_if 69 with fail
                  go_cut [13] from 27 to 109 (fun out' wx => out' = .int .u8 (x.toNat : Int) ∧ wx = wc)
                  case first =>
                    cases bA
                    · go_wp2_with fail
                      go_meet
                      exact ⟨by rw [HXX.out]; rfl, rfl⟩
                    · go_wp2_with fail
                      go_meet
                      exact ⟨by rw [HXX.out]; show _ = Value.int .u8 (ch.toNat : Int); rw [← HZ9.out], rfl⟩
                  case rest =>
                    obtain ⟨rfl, rfl⟩ := hcut
                    clear hz8
                    go_upto_region 27 with fail
                    go_cut [80] from 27 to 109 (fun b wx => b = .bool bB ∧ wx = wc)
                    case first =>
                      cases on
                      · rcases KN.out with hd | rfl
                        · have hd1 : (0 : Int) < (dn : Int) := by omega
                          have HDP : Hid (decide (0 < dn) = true) := Lib.hid (by simp; omega)
                          clear hd
                          go_wp2_with fail
                          go_meet
                          exact ⟨by rw [HBB.out, HDP.out]; rfl, rfl⟩
                        · go_wp2_with fail
                          go_meet
                          exact ⟨by rw [HBB.out]; rfl, rfl⟩
                      · go_wp2_with fail
                        go_meet
                        exact ⟨by rw [HBB.out]; rfl, rfl⟩
                    case rest =>
                      obtain ⟨rfl, rfl⟩ := hcut
                      go_upto_if 80 with fail
                      go_cut [13] from 27 to 109 (fun out' wx => out' = .int .u8 (x.toNat : Int) ∧ Bx wx G 29 #[.slice pv text.length cv, .int .i64 0, .int .i64 mk2] ∧ wx.ownsRow (G + 1) 5 1 (.slice pv text.length cv) text.length (bsU text) ∧ Below G wr wx ∧ Bx wx wr.heap.size 62 #[.int .i64 (dn : Int), .int .i64 (sg : Int), .bool false])
                      case first =>
                        cases bB
                        · go_wp2_with fail
                          go_meet
                          have em : mk2 = mk := by rw [HMM.out]; rfl
                          exact ⟨rfl, by rw [em]; exact HB0.out, HO0.out, HBL0.out, HBD.out⟩
                        · go_wp2_with fail
                          go_meet
                          have em : mk2 = (t : Int) := by rw [HMM.out]; rfl
                          exact ⟨rfl, by rw [em]; exact HB0.out.set 2 _, own_set HO0.out (by omega), HBL0.out.setCell (Nat.le_refl G) _, HBD.out.far (by have := HGD.out; show G ≠ _; omega) _⟩
                      case rest =>
                        obtain ⟨rfl, g1, g2, g3, g4⟩ := hcut
                        have HG1 := Lib.hid g1
                        have HG2 := Lib.hid g2
                        have HG3 := Lib.hid g3
                        have d0 := g4.cell 0
                        have d1 := g4.cell 1
                        clear g1 g2 g3 g4 HB0 HO0 HBL0 HBD c2 f2
                        go_upto_region 29 with fail
                        go_cut [9] from 27 to 109 (fun so' wx => so' = .bool (nz || decide (0 < dn)) ∧ wx = wc)
                        case first =>
                          cases nz
                          · rcases KN.out with hd | rfl
                            · have hd1 : (0 : Int) < (dn : Int) := by omega
                              have HDP : Hid (decide (0 < dn) = true) := Lib.hid (by simp; omega)
                              clear hd
                              go_wp2_with fail
                              go_meet
                              exact ⟨by rw [HDP.out]; rfl, rfl⟩
                            · go_wp2_with fail
                              go_meet
                              exact ⟨rfl, rfl⟩
                          · go_wp2_with fail
                            go_meet
                            exact ⟨rfl, rfl⟩
                        case rest =>
                          obtain ⟨rfl, rfl⟩ := hcut
                          cases on
                          · rcases KN.out with hd | rfl
                            · have hd1 : (0 : Int) < (dn : Int) := by omega
                              have HDP : Hid (decide (0 < dn) = true) := Lib.hid (by simp; omega)
                              clear hd
                              go_wp2_with fail
                              go_meet
                              exact ⟨nx + 1, _, _, mk2, x, HST3.out, by go_num, by rw [HDP.out]; simp [HSG.out], by simp, rfl, HK.out, HG1.out, HG2.out, HG3.out⟩
                            · go_wp2_with fail
                              go_meet
                              exact ⟨nx + 1, _, _, mk2, x, HST3.out, by go_num, by simp [HSG.out], by simp, rfl, HK.out, HG1.out, HG2.out, HG3.out⟩
                          · go_wp2_with fail
                            go_meet
                            exact ⟨nx + 1, _, _, mk2, x, HST3.out, by go_num, by simp [HSG.out], by simp, rfl, HK.out, HG1.out, HG2.out, HG3.out⟩
              · have hz : RUN.1 = 7 := by rw [hst]; simp
                have HZ := Lib.hid hz
                have HRD := Lib.hid (HRW.out.below (below_new wr (.cells #[.int .i64 (dn : Int), .int .i64 (sg : Int), .bool true] 62)))
                have HBZ := Lib.hid (below_set3 (bel0 (HB1.out.trans (A8.out.mono (Nat.le_of_lt HGW.out))) (below_new wr (.cells #[.int .i64 (dn : Int), .int .i64 (sg : Int), .bool true] 62))) (Nat.le_refl w.heap.size) (.slice none 0 0) (.int .i64 0) (.int .i64 0))
                clear hst hz hcc hcc2 hst0 HRW
                obtain ⟨⟨r1, r2, r3⟩, q1, q2, q3⟩ := HRD.out.three
                go_wp2
                refine bodyPost_ret (v := .tuple #[.agg #[.slice none 0 0, .int .i64 0, .int .i64 0], .int .i64 7]) ?_ rfl ⟨.slice none 0 0, by rw [HRES.out, HZ.out]; rfl, by rw [HRES.out, HZ.out]; exact hold_nil _ _, HBZ.out⟩
                rw [results_cell_tmp rfl]
                go_simp
            · have e5 : nx = L.length := by have := A6.out; omega
              have hz : RUN.1 = 5 := by
                rw [hst, step_none (s := ⟨nx, on, nz, mk, text⟩) hcc2 (List.drop_eq_nil_of_le (by show L.length ≤ nx; omega))]
                rw [if_neg (show ¬ ((5, (⟨nx, on, nz, mk, text⟩ : ES)) : Nat × ES).1 = 0 from fun h => by cases h)]
              have HZ := Lib.hid hz
              subst e5
              have HBZ := Lib.hid (below_set3 (HB1.out.trans (A8.out.mono (Nat.le_of_lt HGW.out))) (Nat.le_refl w.heap.size) (.slice none 0 0) (.int .i64 0) (.int .i64 0))
              clear hst hz hcc hcc2 hst0 hk
              obtain ⟨⟨r1, r2, r3⟩, q1, q2, q3⟩ := HRW.out.three
              go_wp2
              refine bodyPost_ret (v := .tuple #[.agg #[.slice none 0 0, .int .i64 0, .int .i64 0], .int .i64 5]) ?_ rfl ⟨.slice none 0 0, by rw [HRES.out, HZ.out]; rfl, by rw [HRES.out, HZ.out]; exact hold_nil _ _, HBZ.out⟩
              rw [results_cell_tmp rfl]
              go_simp
    · obtain rfl : t = n := by omega
      have hrun : RUN = (0, ⟨nx, on, nz, mk, text⟩) := by
        have h := A1.out
        rw [HN.out, List.drop_length] at h
        exact h
      have hres : res = (text, edCC ⟨nx, on, nz, mk, text⟩, mk, 0) := by
        rw [HRES.out, hrun]
        rfl
      have HV := Lib.hid hres
      have HRW := Lib.hid (HR1.out.bel A8.out HGW.out)
      have HBW : Hid (Below w.heap.size w wr) := Lib.hid (HB1.out.trans (A8.out.mono (Nat.le_of_lt HGW.out)))
      have hne : G ≠ w.heap.size := by have := HGW.out; omega
      have HNE := Lib.hid hne
      obtain ⟨⟨c0, c1, c2⟩, f0, f1, f2⟩ := HBX.out.three
      clear hrun hres hne
      cases nz
      · obtain ⟨⟨r1, r2, r3⟩, q1, q2, q3⟩ := HRW.out.three
        go_wp2
        refine bodyPost_ret (v := .tuple #[.agg #[.slice pv text.length cv, .int .i64 0, .int .i64 mk], .int .i64 0]) ?_ rfl ⟨_, by rw [HV.out]; rfl, by rw [HV.out]; exact Hold.base (Hold.set3 (show Hold wr (G + 1) _ text from HO.out) (by have := HGW.out; omega) _ _ _) (by have := HGW.out; omega), below_set3 HBW.out (Nat.le_refl _) _ _ _⟩
        rw [results_cell_tmp rfl]
        go_simp
      · cases on
        · have HG2 : Hid (Bx (wr.setCell ⟨G, 1, none⟩ (.int .i64 2)) G 29 #[.slice pv text.length cv, .int .i64 2, .int .i64 mk]) := Lib.hid (HBX.out.set 1 _)
          obtain ⟨⟨e0, e1, e2⟩, _⟩ := HG2.out.three
          have HRX : Hid (Bx (wr.setCell ⟨G, 1, none⟩ (.int .i64 2)) w.heap.size 29 #[.slice none 0 0, .int .i64 0, .int .i64 0]) := Lib.hid (HRW.out.far HNE.out _)
          obtain ⟨⟨r1, r2, r3⟩, q1, q2, q3⟩ := HRX.out.three
          go_wp2
          refine bodyPost_ret (v := .tuple #[.agg #[.slice pv text.length cv, .int .i64 2, .int .i64 mk], .int .i64 0]) ?_ rfl ⟨_, by rw [HV.out]; rfl, by rw [HV.out]; exact Hold.base (Hold.set3 (show Hold (wr.setCell ⟨G, 1, none⟩ (.int .i64 2)) (G + 1) _ text from own_set HO.out (by omega)) (by have := HGW.out; omega) _ _ _) (by have := HGW.out; omega), below_set3 (HBW.out.setCell (Nat.le_of_lt HGW.out) _) (Nat.le_refl _) _ _ _⟩
          rw [results_cell_tmp rfl]
          go_simp
        · have HG2 : Hid (Bx (wr.setCell ⟨G, 1, none⟩ (.int .i64 1)) G 29 #[.slice pv text.length cv, .int .i64 1, .int .i64 mk]) := Lib.hid (HBX.out.set 1 _)
          obtain ⟨⟨e0, e1, e2⟩, _⟩ := HG2.out.three
          have HRX : Hid (Bx (wr.setCell ⟨G, 1, none⟩ (.int .i64 1)) w.heap.size 29 #[.slice none 0 0, .int .i64 0, .int .i64 0]) := Lib.hid (HRW.out.far HNE.out _)
          obtain ⟨⟨r1, r2, r3⟩, q1, q2, q3⟩ := HRX.out.three
          go_wp2
          refine bodyPost_ret (v := .tuple #[.agg #[.slice pv text.length cv, .int .i64 1, .int .i64 mk], .int .i64 0]) ?_ rfl ⟨_, by rw [HV.out]; rfl, by rw [HV.out]; exact Hold.base (Hold.set3 (show Hold (wr.setCell ⟨G, 1, none⟩ (.int .i64 1)) (G + 1) _ text from own_set HO.out (by omega)) (by have := HGW.out; omega) _ _ _) (by have := HGW.out; omega), below_set3 (HBW.out.setCell (Nat.le_of_lt HGW.out) _) (Nat.le_refl _) _ _ _⟩
          rw [results_cell_tmp rfl]
          go_simp
/-- The document's own Edit answers what editing as a function of lists answers. -/
theorem redit_any (pv sv : Value) (pat src : List UInt8) (w : World) (hl : src.length ≤ 2000) (hp : SvB w pv pat) (hs : SvB w sv src) :
    Calls Try.prog 13 #[pv, sv] w (EPost w (edRes pat src)) := by
  obtain ⟨p, c, rfl, hr, _⟩ := hp
  by_cases h : 1 ≤ pat.length ∧ pat.length ≤ 256
  · exact redit_yes p c sv pat src w h.1 h.2 hl hr hs
  · have hv : edRes pat src = ([], 0, 0, 6) := by unfold edRes; rw [if_neg h]
    rw [hv]
    exact redit_not p pat.length c sv w h

end E
end Go.Proofs.Ytfkenoehoocobaa

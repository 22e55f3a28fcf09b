/- The contract of Decode. -/
import Derived.Test.YtaodghaicmjadaaDoorIsEncode
namespace Go.Proofs.YtaodghaicmjadaaDoor
open Go.RowKit Go.Shelf
set_option linter.unusedVariables false
namespace E
attribute [local go_sem] Oper.semAt_some

def dcStep (wd : Nat) (s : Nat × Ins) (f : Option Nat × Nat) : Nat × Ins := (s.1 - f.2, fs s.2 f.1 ((wd / 2 ^ (s.1 - f.2) % 2 ^ f.2 : Nat) : Int))
/-- The instruction with the operation code and the form whose other bytes are the number wd. -/
def dcQ (op F : Int) (Fn wd : Nat) : Ins := ((fldsT Fn).foldl (dcStep wd) (bitsN (fldsT Fn), ⟨op, F, 0, 0, 0, 0, 0, 0, 0, 0, 0, 0⟩)).2
/-- What Decode answers. -/
def decB (l : List UInt8) : Bool := decide (1 ≤ l.length) && (ixC ((gt l 0).toNat : Int)).isSome && decide (lenO ((gt l 0).toNat : Int) ≤ l.length)
def decQ (l : List UInt8) : Ins := if decB l then dcQ ((gt l 0).toNat : Int) (foO (ixC ((gt l 0).toNat : Int)) : Int) (foO (ixC ((gt l 0).toNat : Int))) (numB ((l.drop 1).take (lenO ((gt l 0).toNat : Int) - 1))) else Ins.zero
def decV (l : List UInt8) : Value := .tuple #[(decQ l).val, .bool (decB l)]
theorem dc_left (wd : Nat) (l : List (Option Nat × Nat)) (s : Nat × Ins) : (l.foldl (dcStep wd) s).1 = s.1 - bitsN l := by
  induction l generalizing s with
  | nil => simp [bitsN]
  | cons f l ih =>
    rw [List.foldl_cons, ih]
    simp only [dcStep, bitsN, List.map_cons, List.sum_cons]
    omega
theorem tot_all : (List.range 97).all (fun k => decide (8 * (lenO (opK k : Int) - 1) = bitsN (fldsT (foK k)))) = true := by decide +kernel
theorem bits_next (F j : Nat) (f : Option Nat × Nat) (h : (fldsT F)[j]? = some f) : bitsN ((fldsT F).take j) + f.2 ≤ bitsN (fldsT F) := by
  obtain ⟨hj, he⟩ := List.getElem?_eq_some_iff.1 h
  have h1 := List.take_append_drop j (fldsT F)
  have h2 : (fldsT F).drop j = f :: (fldsT F).drop (j + 1) := by rw [← he]; exact List.drop_eq_getElem_cons hj
  have e : bitsN (fldsT F) = bitsN ((fldsT F).take j) + bitsN ((fldsT F).drop j) := by
    unfold bitsN
    rw [← List.sum_append, ← List.map_append, h1]
  have e2 : bitsN ((fldsT F).drop j) = f.2 + bitsN ((fldsT F).drop (j + 1)) := by
    rw [h2]
    simp [bitsN]
  omega
theorem results_ct {P : Program} {fn : Func} {p q : Tmp} {t : TypeId} {w : World} {a : Addr} {v v' : Value} {tmps : Array Value} (h : fn.results = #[.cell p t, .tmp q]) (hp : tmps.getD p undef = .pointer (some a)) (hq : tmps.getD q undef = v') (la : (loadVar t a).run P w = .ok v w) : (results fn tmps).run P w = .ok (.tuple #[v, v']) w := by
  subst hq
  have hp' : tmps[p]?.getD undef = .pointer (some a) := by simpa using hp
  simp only [results, h, Sem.run_bind] at *
  simp [hp', asAddr, Result.andThen, la]
theorem vy_set {Pf : List (Addr × Nat) → Prop} {B base g : Nat} {pre : List (Addr × Nat)} {y : Addr × Nat} {W : World} (h : Vy Pf B base pre y W) (hg : g < base) (u : Value) : Vy Pf B base pre y (W.setCell ⟨g, 0, none⟩ u) := by
  obtain ⟨hp, h | ⟨U, h1, h2, h3⟩⟩ := h
  · exact ⟨hp, .inl h⟩
  · exact ⟨hp, .inr ⟨U, h1, h2, h3.other (by omega) u⟩⟩
theorem load_ins {w : World} {g : Nat} {Q : Ins} (h : Bx w g 28 Q.cs) : (loadVar 28 ⟨g, 0, none⟩).run Tryd.prog w = .ok Q.val w :=
  run_loadVar_row w g 28 28 Q.cs (0, 0) _ h Tryd.underlying28 rfl (by kernel_rfl)
theorem bx_zero {w : World} {g : Nat} (h : Bx w g 28 Ins.zero.cs) : w.cell? ⟨g, 0, none⟩ = some (.int .i64 0) ∧ w.cell? ⟨g, 1, none⟩ = some (.int .i64 0) ∧ w.cell? ⟨g, 2, none⟩ = some (.int .i64 0) ∧ w.cell? ⟨g, 3, none⟩ = some (.int .i64 0) ∧ w.cell? ⟨g, 4, none⟩ = some (.int .i64 0) ∧ w.cell? ⟨g, 5, none⟩ = some (.int .i64 0) ∧ w.cell? ⟨g, 6, none⟩ = some (.int .i64 0) ∧ w.cell? ⟨g, 7, none⟩ = some (.int .i64 0) ∧ w.cell? ⟨g, 8, none⟩ = some (.int .i64 0) ∧ w.cell? ⟨g, 9, none⟩ = some (.int .i64 0) ∧ w.cell? ⟨g, 10, none⟩ = some (.int .i64 0) ∧ w.cell? ⟨g, 11, none⟩ = some (.int .i64 0) ∧ w.frozen? ⟨g, 0, none⟩ = false ∧ w.frozen? ⟨g, 1, none⟩ = false ∧ w.frozen? ⟨g, 2, none⟩ = false ∧ w.frozen? ⟨g, 3, none⟩ = false ∧ w.frozen? ⟨g, 4, none⟩ = false ∧ w.frozen? ⟨g, 5, none⟩ = false ∧ w.frozen? ⟨g, 6, none⟩ = false ∧ w.frozen? ⟨g, 7, none⟩ = false ∧ w.frozen? ⟨g, 8, none⟩ = false ∧ w.frozen? ⟨g, 9, none⟩ = false ∧ w.frozen? ⟨g, 10, none⟩ = false ∧ w.frozen? ⟨g, 11, none⟩ = false :=
  ⟨h.cell 0, h.cell 1, h.cell 2, h.cell 3, h.cell 4, h.cell 5, h.cell 6, h.cell 7, h.cell 8, h.cell 9, h.cell 10, h.cell 11, h.frozen 0, h.frozen 1, h.frozen 2, h.frozen 3, h.frozen 4, h.frozen 5, h.frozen 6, h.frozen 7, h.frozen 8, h.frozen 9, h.frozen 10, h.frozen 11⟩
theorem put12_at {W : World} {g : Nat} {t : TypeId} {P : Ins} (h : Bx W g t P.cs) (Q : Ins) : Bx ((((((((((((W.setCell ⟨g, 0, none⟩ (.int .i64 Q.op)).setCell ⟨g, 1, none⟩ (.int .i64 Q.fo)).setCell ⟨g, 2, none⟩ (.int .i64 Q.r1)).setCell ⟨g, 3, none⟩ (.int .i64 Q.r2)).setCell ⟨g, 4, none⟩ (.int .i64 Q.x2)).setCell ⟨g, 5, none⟩ (.int .i64 Q.b1)).setCell ⟨g, 6, none⟩ (.int .i64 Q.d1)).setCell ⟨g, 7, none⟩ (.int .i64 Q.b2)).setCell ⟨g, 8, none⟩ (.int .i64 Q.d2)).setCell ⟨g, 9, none⟩ (.int .i64 Q.l1)).setCell ⟨g, 10, none⟩ (.int .i64 Q.l2)).setCell ⟨g, 11, none⟩ (.int .i64 Q.i2)) g t Q.cs := by
  have h2 := ((((((((((((h.set 0 (.int .i64 Q.op)).set 1 (.int .i64 Q.fo)).set 2 (.int .i64 Q.r1)).set 3 (.int .i64 Q.r2)).set 4 (.int .i64 Q.x2)).set 5 (.int .i64 Q.b1)).set 6 (.int .i64 Q.d1)).set 7 (.int .i64 Q.b2)).set 8 (.int .i64 Q.d2)).set 9 (.int .i64 Q.l1)).set 10 (.int .i64 Q.l2)).set 11 (.int .i64 Q.i2))
  simp only [Ins.cs, List.setIfInBounds_toArray, List.set_cons_zero, List.set_cons_succ] at h2 ⊢
  exact h2
theorem put12_below {w W : World} {B g : Nat} (h : Below B w W) (hg : B ≤ g) (Q : Ins) : Below B w ((((((((((((W.setCell ⟨g, 0, none⟩ (.int .i64 Q.op)).setCell ⟨g, 1, none⟩ (.int .i64 Q.fo)).setCell ⟨g, 2, none⟩ (.int .i64 Q.r1)).setCell ⟨g, 3, none⟩ (.int .i64 Q.r2)).setCell ⟨g, 4, none⟩ (.int .i64 Q.x2)).setCell ⟨g, 5, none⟩ (.int .i64 Q.b1)).setCell ⟨g, 6, none⟩ (.int .i64 Q.d1)).setCell ⟨g, 7, none⟩ (.int .i64 Q.b2)).setCell ⟨g, 8, none⟩ (.int .i64 Q.d2)).setCell ⟨g, 9, none⟩ (.int .i64 Q.l1)).setCell ⟨g, 10, none⟩ (.int .i64 Q.l2)).setCell ⟨g, 11, none⟩ (.int .i64 Q.i2)) :=
  (((((((((((h.setCell (p := ⟨g, 0, none⟩) hg _).setCell (p := ⟨g, 1, none⟩) hg _).setCell (p := ⟨g, 2, none⟩) hg _).setCell (p := ⟨g, 3, none⟩) hg _).setCell (p := ⟨g, 4, none⟩) hg _).setCell (p := ⟨g, 5, none⟩) hg _).setCell (p := ⟨g, 6, none⟩) hg _).setCell (p := ⟨g, 7, none⟩) hg _).setCell (p := ⟨g, 8, none⟩) hg _).setCell (p := ⟨g, 9, none⟩) hg _).setCell (p := ⟨g, 10, none⟩) hg _).setCell (p := ⟨g, 11, none⟩) hg _
theorem put12_keeps (W : World) (g : Nat) (Q : Ins) : KeepsOthers W ((((((((((((W.setCell ⟨g, 0, none⟩ (.int .i64 Q.op)).setCell ⟨g, 1, none⟩ (.int .i64 Q.fo)).setCell ⟨g, 2, none⟩ (.int .i64 Q.r1)).setCell ⟨g, 3, none⟩ (.int .i64 Q.r2)).setCell ⟨g, 4, none⟩ (.int .i64 Q.x2)).setCell ⟨g, 5, none⟩ (.int .i64 Q.b1)).setCell ⟨g, 6, none⟩ (.int .i64 Q.d1)).setCell ⟨g, 7, none⟩ (.int .i64 Q.b2)).setCell ⟨g, 8, none⟩ (.int .i64 Q.d2)).setCell ⟨g, 9, none⟩ (.int .i64 Q.l1)).setCell ⟨g, 10, none⟩ (.int .i64 Q.l2)).setCell ⟨g, 11, none⟩ (.int .i64 Q.i2)) :=
  (((((((((((KeepsOthers.setCell _ _ _).trans (KeepsOthers.setCell _ _ _)).trans (KeepsOthers.setCell _ _ _)).trans (KeepsOthers.setCell _ _ _)).trans (KeepsOthers.setCell _ _ _)).trans (KeepsOthers.setCell _ _ _)).trans (KeepsOthers.setCell _ _ _)).trans (KeepsOthers.setCell _ _ _)).trans (KeepsOthers.setCell _ _ _)).trans (KeepsOthers.setCell _ _ _)).trans (KeepsOthers.setCell _ _ _)).trans (KeepsOthers.setCell _ _ _)
/-- Between two rounds. -/
def DI (R B Wd : Nat) (wd tot : Nat) (Q0 : Ins) (pre : List (Addr × Nat)) (W : World) : Prop :=
  Bx W R 28 Ins.zero.cs ∧ Boxed W Wd 55 (.int .u64 (wd : Int)) ∧ Boxed W (Wd + 1) 3 (.int .i64 ((((pre.map (kd B)).foldl (dcStep wd) (tot, Q0)).1 : Nat) : Int)) ∧ Bx W B 28 ((pre.map (kd B)).foldl (dcStep wd) (tot, Q0)).2.cs
theorem DI.own (R B Wd wd tot : Nat) (Q0 : Ins) : Go.Own (DI R B Wd wd tot Q0) := fun _ X Y row ⟨h1, h2, h3, h4⟩ hg hr => ⟨Bx.ab h1 hg hr, Boxed.ab h2 hg hr, Boxed.ab h3 hg hr, Bx.ab h4 hg hr⟩
set_option maxRecDepth 100000 in
set_option maxHeartbeats 2000000 in
theorem decode_any (p : Option Addr) (c : Nat) (l : List UInt8) (w : World) (hp : Rd w p l) (hcl : l.length ≤ c) (hcm : c ≤ 9223372036854775807) :
    Calls Tryd.prog 20 #[.slice p l.length c] w (New w (decV l)) := by
  refine (callsIn_wide (n := 7)).1 ?_
  have hro : Fence.wide.round = none := rfl
  have bR := Bx.new w 28 Ins.zero.cs
  obtain ⟨w1, hw1⟩ : ∃ w1, w1 = w.alloc (.cells Ins.zero.cs 28) := ⟨_, rfl⟩
  rw [← hw1] at bR
  have hB1 : Below w.heap.size w w1 := by rw [hw1]; exact below_new w _
  by_cases hl : l = []
  · have hd : decB l = false := by rw [hl]; rfl
    have hv : decV l = .tuple #[Ins.zero.val, .bool false] := by unfold decV decQ; rw [hd]; rfl
    have HV := Lib.hid hv
    subst hl
    have HR := Lib.hid bR
    have HB := Lib.hid hB1
    unfold Ins.zero Ins.cs at hw1
    clear hd hv bR hB1 hp
    refine callsIn_of_wp_marks Tryd.func20 rfl trivial ?_ hro
    simp only [Tryd.ntmps20, List.size_toArray, List.length_cons, List.length_nil, Nat.reduceAdd, Nat.reduceSub, Array.replicate_succ, Array.replicate_zero, List.push_toArray, List.append_toArray, List.nil_append, List.cons_append]
    gi_wp2
    rw [← hw1]
    exact ⟨_, results_ct rfl rfl rfl (load_ins HR.out), by rw [HV.out]; rfl, HB.out⟩
  · have hl1 : 1 ≤ l.length := by cases l with | nil => exact absurd rfl hl | cons _ _ => simp
    obtain ⟨Bk, off, hpe, hcell⟩ : ∃ Bk off, p = some ⟨Bk, off, none⟩ ∧ ∀ j, j < l.length → w.cell? ⟨Bk, off + j, none⟩ = some (.int .u8 ((gt l j).toNat : Int)) := by
      rcases hp with h0 | h0
      · exact absurd h0 hl
      · exact h0
    subst hpe
    obtain ⟨x, hx⟩ : ∃ x, x = gt l 0 := ⟨_, rfl⟩
    have cb : w1.cell? ⟨Bk, off, none⟩ = some (.int .u8 (x.toNat : Int)) := by
      have h := hcell 0 hl1
      rw [Nat.add_zero, ← hx] at h
      rw [hw1]
      exact Lib.cell?_alloc_some _ h
    have hx256 := x.toNat_lt
    obtain ⟨F, hF⟩ : ∃ F, F = foO (ixC (x.toNat : Int)) := ⟨_, rfl⟩
    obtain ⟨b, hb⟩ : ∃ b, b = (ixC (x.toNat : Int)).isSome := ⟨_, rfl⟩
    obtain ⟨nn, hnn⟩ : ∃ nn, nn = lenO (x.toNat : Int) := ⟨_, rfl⟩
    have hdB : decB l = (b && decide (nn ≤ l.length)) := by unfold decB; rw [decide_eq_true hl1, Bool.true_and, ← hx, ← hb, ← hnn]
    have hdQ : decQ l = if decB l then dcQ (x.toNat : Int) (F : Int) F (numB ((l.drop 1).take (nn - 1))) else Ins.zero := by unfold decQ; rw [← hx, ← hF, ← hnn]
    have HFm := Lib.hid (form_any (x.toNat : Int) w1)
    unfold formV at HFm
    rw [← hF, ← hb] at HFm
    have HLn := Lib.hid (fun Y => length_any (x.toNat : Int) Y)
    rw [← hnn] at HLn
    have hk : b = true → (1 ≤ F ∧ F ≤ 9) ∧ 8 * (nn - 1) = bitsN (fldsT F) := fun h => by
      rw [hb] at h
      cases e : ixC (x.toNat : Int) with
      | none => rw [e] at h; cases h
      | some k =>
        obtain ⟨hk, hop⟩ := ixC_some e
        refine ⟨by rw [hF, e]; exact fo_in k hk, ?_⟩
        rw [hnn, ← hop, hF, e]
        exact of_decide_eq_true (all97 tot_all hk)
    have hn2 : 2 ≤ nn := by rw [hnn]; exact len_pos (by omega) (by omega)
    have hn6 : nn ≤ 6 := by rw [hnn]; exact len_small _
    have HK := Lib.hid hk
    have HDB := Lib.hid hdB
    have HDQ := Lib.hid hdQ
    have HCELL := Lib.hid hcell
    have HR := Lib.hid bR
    have HB1 := Lib.hid hB1
    have HW1 := Lib.hid hw1
    have HBK := Lib.hid (World.block_lt_of_cell? w _ (hcell 0 hl1))
    unfold Ins.zero Ins.cs at hw1
    obtain ⟨n, hln⟩ : ∃ n, n = l.length := ⟨_, rfl⟩
    rw [← hln] at hcl hl1 ⊢
    have HLN := Lib.hid hln
    have HHX := Lib.hid hx
    clear hp hcell bR hB1 hk hdB hdQ hF hb hnn hln hx
    rw [hw1] at cb
    refine callsIn_of_wp_marks Tryd.func20 rfl trivial ?_ hro
    simp only [Tryd.ntmps20, List.size_toArray, List.length_cons, List.length_nil, Nat.reduceAdd, Nat.reduceSub, Array.replicate_succ, Array.replicate_zero, List.push_toArray, List.append_toArray, List.nil_append, List.cons_append]
    gi_wp2_with fail
    rw [← hw1]
    refine ⟨trivial, (callsIn_wide.2 HFm.out).mono ?_⟩
    rintro e w2 ⟨rfl, hb2⟩
    have bR2 := HR.out.below hb2
    have hB2 := bel0 HB1.out hb2
    have hsz2 : w.heap.size + 1 ≤ w2.heap.size := bR2.lt
    have HR2 := Lib.hid bR2
    have HB2 := Lib.hid hB2
    clear cb hw1 bR2 hB2 hb2
    gi_wp2_with fail
    refine ⟨trivial, (callsIn_wide.2 (HLn.out _)).mono ?_⟩
    rintro e w' ⟨rfl, rfl⟩
    by_cases hok : decB l = true
    · have hbn : b = true ∧ nn ≤ n := by
        have h := HDB.out
        rw [hok] at h
        have h2 := h.symm
        simp only [Bool.and_eq_true, decide_eq_true_eq] at h2
        exact ⟨h2.1, by rw [HLN.out]; exact h2.2⟩
      obtain ⟨rfl, hnn⟩ := hbn
      have HOK := Lib.hid hok
      clear hok
      obtain ⟨⟨hF1, hF9⟩, htot⟩ := HK.out rfl
      obtain ⟨Q0, hQ0⟩ : ∃ Q0, Q0 = (⟨(x.toNat : Int), (F : Int), 0, 0, 0, 0, 0, 0, 0, 0, 0, 0⟩ : Ins) := ⟨_, rfl⟩
      obtain ⟨w3, hw3⟩ : ∃ w3, w3 = w2.alloc (.cells Q0.cs 28) := ⟨_, rfl⟩
      have bB3 : Bx w3 w2.heap.size 28 Q0.cs := by rw [hw3]; exact Bx.new w2 _ _
      have hb3 : Below w2.heap.size w2 w3 := by rw [hw3]; exact below_new w2 _
      obtain ⟨l2, hl2⟩ : ∃ l2, l2 = (l.drop 1).take (nn - 1) := ⟨_, rfl⟩
      have hll : l2.length = nn - 1 := by rw [hl2, List.length_take, List.length_drop, ← HLN.out]; omega
      have hrd : Rd w3 (some ⟨Bk, off + 1, none⟩) l2 := by
        refine .inr ⟨Bk, off + 1, rfl, fun j hj => ?_⟩
        have hB3 := bel0 HB2.out hb3
        have h1 := HCELL.out (1 + j) (by rw [← HLN.out]; omega)
        rw [← hB3.cell (p := ⟨Bk, off + (1 + j), none⟩) HBK.out, ← Nat.add_assoc] at h1
        rw [h1]
        congr 3
        rw [hl2, gt_lt (by rw [← HLN.out]; omega), gt_lt (by rw [← hl2]; exact hj)]
        simp [Nat.add_comm]
      have HNUM := Lib.hid (number_any (some ⟨Bk, off + 1, none⟩) (c - 1) l2 w3 (by omega) hrd)
      rw [hll] at HNUM
      obtain ⟨wd, hwd⟩ : ∃ wd, wd = numB l2 := ⟨_, rfl⟩
      rw [← hwd] at HNUM
      have hwd48 : wd < 281474976710656 := by rw [hwd]; exact numB_lt7 (by omega)
      have HWD := Lib.hid (And.intro hwd (And.intro hl2 hwd48))
      have hw3' := hw3
      rw [hQ0] at hw3'
      unfold Ins.cs at hw3'
      dsimp only at hw3'
      have HW3 := Lib.hid hw3
      have HB3 := Lib.hid bB3
      have HBB := Lib.hid hb3
      have HF := Lib.hid (And.intro hF1 (And.intro hF9 htot))
      have HQ0 := Lib.hid hQ0
      have htI : 8 * ((nn : Int) - 1) = ((bitsN (fldsT F) : Nat) : Int) := by omega
      have HTI := Lib.hid htI
      clear hw3 bB3 hb3 hl2 hll hrd hwd hwd48 hF1 hF9 htot hQ0 htI
      gi_wp2_with fail
      rw [← hw3']
      refine ⟨trivial, (callsIn_wide.2 HNUM.out).mono ?_⟩
      rintro e w' ⟨rfl, rfl⟩
      clear hw3'
      obtain ⟨w4, hw4⟩ : ∃ w4, w4 = (w3.alloc (.cells #[.int .u64 (wd : Int)] 55)).alloc (.cells #[.int .i64 (8 * ((nn : Int) - 1))] 3) := ⟨_, rfl⟩
      have hsz3 : w3.heap.size = w2.heap.size + 1 := by rw [HW3.out]; simp
      have hsz4 : w4.heap.size = w3.heap.size + 1 + 1 := by rw [hw4]; simp
      have hb4 : Below w3.heap.size w3 w4 := by rw [hw4]; exact bel0 (below_new w3 _) (below_new _ _)
      have bW4 : Boxed w4 w3.heap.size 55 (.int .u64 (wd : Int)) := by rw [hw4]; exact (Boxed.new w3 _ _).alloc _
      have bL4 : Boxed w4 (w3.heap.size + 1) 3 (.int .i64 ((bitsN (fldsT F) : Nat) : Int)) := by rw [hw4, ← HTI.out]; exact boxed_new2 w3 _ _ _
      obtain ⟨w5, hw5⟩ : ∃ w5, w5 = w4.alloc (.cells #[.pointer (some ⟨w2.heap.size, 0, none⟩)] 59) := ⟨_, rfl⟩
      have hsz5 : w5.heap.size = w3.heap.size + 1 + 1 + 1 := by rw [hw5]; simp [hsz4]
      have hb5 : Below w4.heap.size w4 w5 := by rw [hw5]; exact below_new w4 _
      have bI5 : Boxed w5 (w3.heap.size + 1 + 1) 59 (.pointer (some ⟨w2.heap.size, 0, none⟩)) := by rw [← hsz4, hw5]; exact Boxed.new w4 _ _
      have hb35 := bel0 hb4 hb5
      have bB5 := HB3.out.below hb35
      have bR5 := HR2.out.below (bel0 HBB.out hb35)
      have bW5 := bW4.kept (grown_of hb5 none) (by simp)
      have bL5 := bL4.kept (grown_of hb5 none) (by simp)
      have hfo : Q0.fo = (F : Int) := by rw [HQ0.out]
      have HT := Lib.hid (fields_tells 6 F w2.heap.size (w3.heap.size + 1 + 1) w5 HF.out.1 HF.out.2.1 (by omega) (by omega) bI5 (by rw [← hfo]; exact (bx_cells bB5).2.1))
      have HI0 := Lib.hid (show DI w.heap.size w2.heap.size w3.heap.size wd (bitsN (fldsT F)) Q0 [] w5 ∧ Below w.heap.size w w5 from ⟨⟨bR5, bW5, bL5, bB5⟩, bel0 HB2.out (bel0 HBB.out hb35)⟩)
      have hgf := Lib.hid (enters_of Tryd.func49 (by kernel_rfl) rfl)
      have HW4 := Lib.hid hw4
      have HW5 := Lib.hid hw5
      have HSZ := Lib.hid (And.intro hsz2 (And.intro hsz3 (And.intro hsz4 hsz5)))
      clear hw4 hsz3 hsz4 hb4 bW4 bL4 hw5 hsz5 hb5 bI5 hb35 bB5 bR5 bW5 bL5 hfo
      gi_wp2_with fail
      rw [← HW4.out]
      refine ⟨trivial, (callsIn_wide.2 (fieldsV_any _ _)).mono ?_⟩
      rintro e w' ⟨rfl, rfl⟩
      rw [← HW5.out, HSZ.out.2.2.1]
      gi_wp2_with fail
      refine wpIn_told (gf := 49) (lb := #[.pointer (some ⟨w3.heap.size + 1 + 1, 0, none⟩)]) rfl hgf.out HT.out (fun _ => rfl) (fun pre x W l o o' => vy_put pre x W l o o') (fun x A B C h k => h.trans k) (fun x W l o o' => kb_put W l o o') (fun xs W l o o' _ _ h => h)
        (fun pre W => DI w.heap.size w2.heap.size w3.heap.size wd (bitsN (fldsT F)) Q0 pre W ∧ Below w.heap.size w W)
        (fun pre W => False)
        (OwnFrom.and (Own.from (DI.own _ _ _ _ _ _) _) (ownFrom_below (Nat.le_refl _) (by have := HSZ.out; omega)))
        (fun _ _ _ _ h _ _ => h)
        HI0.out
        (fun y => { tmps := #[.slice (some ⟨Bk, off, none⟩) n c, undef, .pointer (some ⟨w.heap.size, 0, none⟩), .bool false, .int .i64 (x.toNat : Int), .int .i64 (F : Int), .bool true, .int .i64 (nn : Int), .pointer (some ⟨w2.heap.size, 0, none⟩), .pointer (some ⟨w3.heap.size, 0, none⟩), .pointer (some ⟨w3.heap.size + 1, 0, none⟩), .pointer (some y.1), .int .i64 (y.2 : Int), .slice (some ⟨Bk, off, none⟩) n c, .int .i64 (n : Int), .bool false, undef, .slice (some ⟨Bk, off, none⟩) n c, .pointer (some ⟨Bk, off, none⟩), .int .u8 (x.toNat : Int), .int .i64 (x.toNat : Int), .tuple #[.int .i64 (F : Int), .bool true], .int .i64 (x.toNat : Int), .tuple #[.int .i64 (F : Int), .bool true], .int .i64 (F : Int), .bool true, .int .i64 (x.toNat : Int), .int .i64 (nn : Int), .bool true, .bool false, .bool false, .slice (some ⟨Bk, off, none⟩) n c, .int .i64 (n : Int), .int .i64 (nn : Int), .bool false, .bool false, undef, .int .i64 (x.toNat : Int), .int .i64 (F : Int), .agg #[.int .i64 (x.toNat : Int), .int .i64 (F : Int), .int .i64 0, .int .i64 0, .int .i64 0, .int .i64 0, .int .i64 0, .int .i64 0, .int .i64 0, .int .i64 0, .int .i64 0, .int .i64 0], .slice (some ⟨Bk, off, none⟩) n c, .int .i64 (nn : Int), .slice (some ⟨Bk, off + 1, none⟩) (nn - 1) (c - 1), .int .u64 (wd : Int), .int .i64 (nn : Int), .int .i64 ((nn : Int) - 1), .int .i64 (8 * ((nn : Int) - 1)), .func (.func 49) #[] #[.pointer (some ⟨w3.heap.size + 1 + 1, 0, none⟩)], .pointer (some y.1), .int .i64 (y.2 : Int), undef, undef, undef, undef, undef, undef, undef, undef, undef, undef, undef, undef, undef, undef], defers := [] }) ?assign ?body ?done ?stop
      case assign =>
        intro l y W K hK
        unfold encY
        gi_wp2
        exact hK
      case body =>
        rintro lp pre y W hv ⟨⟨bR, bW, bL, bB⟩, hB⟩
        have hpf : PfF F w2.heap.size (pre ++ [y]) := hv.1
        have hbt := pf_bits hpf
        obtain ⟨hn1, hn2', hn3⟩ := pf_next hpf
        have hnx := bits_next F pre.length _ hn2'
        have hlf := dc_left wd (pre.map (kd w2.heap.size)) (bitsN (fldsT F), Q0)
        rw [hn3] at hlf
        obtain ⟨s, hs⟩ : ∃ s, s = (pre.map (kd w2.heap.size)).foldl (dcStep wd) (bitsN (fldsT F), Q0) := ⟨_, rfl⟩
        rw [← hs] at bL bB
        rw [← hn3, ← hs] at hlf
        have hkb : (kd w2.heap.size y).2 = y.2 := rfl
        rw [hkb] at hnx
        have h40 : bitsN (fldsT F) ≤ 40 := by have := bits_take F (fldsT F).length; rwa [List.take_length] at this
        obtain ⟨q, hq⟩ : ∃ q, s.1 = q + y.2 := ⟨s.1 - y.2, by rw [hlf]; dsimp only; rw [hn3]; omega⟩
        have hq40 : q ≤ 40 := by rw [hlf] at hq; dsimp only at hq; omega
        have hstep : ((pre ++ [y]).map (kd w2.heap.size)).foldl (dcStep wd) (bitsN (fldsT F), Q0) = (q, fs s.2 (kd w2.heap.size y).1 ((wd / 2 ^ q % 2 ^ y.2 : Nat) : Int)) := by
          rw [List.map_append, List.foldl_append, ← hs]
          show dcStep wd s (kd w2.heap.size y) = _
          unfold dcStep
          rw [hkb, hq, Nat.add_sub_cancel]
        have hLB : w3.heap.size + 1 ≠ w2.heap.size := by have := HSZ.out; omega
        have hLb : w3.heap.size + 1 < w5.heap.size := by have := HSZ.out; omega
        have bB1 : Bx (W.setCell ⟨w3.heap.size + 1, 0, none⟩ (.int .i64 (q : Int))).drew w2.heap.size 28 s.2.cs := Bx.ab (bB.far (p := ⟨w3.heap.size + 1, 0, none⟩) hLB _) (grown_drewN _ 1 none) (fun r e => by cases (e : none = some r))
        have hv1 := vy_drew (vy_set hv (by have := HSZ.out; omega) (.int .i64 (q : Int)))
        obtain ⟨_, cy, fy, hset, hne, _, hkset, hlt⟩ := vy_cell (Bi := w3.heap.size + 1 + 1) hv1 (by have := HSZ.out; omega) bB1
        obtain ⟨z, hz⟩ : ∃ z, z = fv s.2 (kd w2.heap.size y).1 := ⟨_, rfl⟩
        rw [← hz] at cy
        have hLy := hne (w3.heap.size + 1) hLB hLb
        have hWy := hne w3.heap.size (by have := HSZ.out; omega) (by have := HSZ.out; omega)
        have hRy := hne w.heap.size (by have := HSZ.out; omega) (by have := HSZ.out; omega)
        have hab := vy_above hv (n := w.heap.size) (by have := HSZ.out; omega) (by have := HSZ.out; omega)
        obtain ⟨p2, bt⟩ := y
        have cW := bW.cell
        have cL := bL.cell
        have fL := bL.frozen
        rw [hq] at cL
        obtain ⟨t, ht⟩ : ∃ t, t = wd / 2 ^ q := ⟨_, rfl⟩
        have htI : (wd : Int) / 2 ^ q = (t : Int) := by rw [ht]; push_cast; rfl
        have ht48 : t < 281474976710656 := by rw [ht]; exact Nat.lt_of_le_of_lt (Nat.div_le_self _ _) HWD.out.2.2
        have HST := Lib.hid hstep
        have HDR := Lib.hid (And.intro bR bW)
        have HBL := Lib.hid bL
        have HB := Lib.hid hB
        have HSET := Lib.hid hset
        have HKR := Lib.hid (kb_box (Bi := w3.heap.size + 1 + 1) (base := w5.heap.size) (b := p2.block) W (w3.heap.size + 1) (.int .i64 (q : Int)) hLb (by omega))
        have HKS := Lib.hid hkset
        have HNE := Lib.hid (And.intro hLy (And.intro hWy (And.intro hRy hab)))
        have HTT := Lib.hid (And.intro ht ht48)
        have cy1 : (W.setCell ⟨w3.heap.size + 1, 0, none⟩ (.int .i64 (q : Int))).cell? p2 = some (.int .i64 z) := by rw [← cell_drew_own]; exact cy
        have fy1 : (W.setCell ⟨w3.heap.size + 1, 0, none⟩ (.int .i64 (q : Int))).frozen? p2 = false := by rw [← frozen_drew_own]; exact fy
        have hqI : (q : Int) ≤ 40 := by omega
        have htb : (t : Int) < 281474976710656 := by omega
        dsimp only at hbt
        clear hv hv1 bR bW bL bB hB hpf hn1 hn2' hn3 hnx hlf hs hkb h40 hq hq40 hstep hLB hLb bB1 cy fy hset hne hkset hlt hz hLy hWy hRy ht ht48 hab
        rcases hbt with rfl | rfl | rfl
        · have hand := and_mask t 4 (by omega) (by decide)
          have hand2 : bits .and .u64 (t : Int) 15 = ((t % 16 : Nat) : Int) := hand
          have e5 : IntKind.u64.wrap 16 = 16 := by decide
          have e6 : IntKind.u64.wrap 15 = 15 := by decide
          have e8 : IntKind.i64.wrap ((t : Int) % 16) = (t : Int) % 16 := IntWalk.i64_in _ (by omega)
          have cL2 : W.cell? ⟨w3.heap.size + 1, 0, none⟩ = some (.int .i64 ((q : Int) + 4)) := by rw [cL]; push_cast; rfl
          clear hand cL
          gi_wp2_with fail
          refine round_of_any (by kernel_rfl) (by kernel_rfl) ?_
          show wpAny _ _ _ _ 11 #[false, false, false, false, false, false, false, false, false, false, false] _ _
          refine wpAny_take (i := 0) (oi := { dst := some 53, op := Go.Op.move (Go.Operand.tmp 11), type := 60, pos := "isa.go:56", after := #[], guard := none }) (v := .pointer (some p2)) rfl (by kernel_rfl) (by kernel_rfl) (by kernel_rfl) (fun _ _ _ h => h) (Or.inl ⟨by rfl, fun w => by go_simp⟩) ?_
          try simp only [Act.put, List.setIfInBounds_toArray, List.set_cons_zero, List.set_cons_succ]
          refine wpAny_take (i := 4) (oi := { dst := some 57, op := Go.Op.move (Go.Operand.tmp 12), type := 3, pos := "isa.go:56", after := #[], guard := none }) (v := .int .i64 4) rfl (by kernel_rfl) (by kernel_rfl) (by kernel_rfl) (fun _ _ _ h => h) (Or.inl ⟨by rfl, fun w => by go_simp⟩) ?_
          try simp only [Act.put, List.setIfInBounds_toArray, List.set_cons_zero, List.set_cons_succ]
          refine wpAny_take (i := 5) (oi := { dst := some 58, op := Go.Op.binOp Go.BinOp.shl 55 (Go.Operand.const (Go.Value.int Go.IntKind.u64 1)) (Go.Operand.tmp 57) 3, type := 55, pos := "isa.go:56", after := #[{ on := 4, ground := Go.Ground.data }], guard := none }) (v := .int .u64 16) rfl (by kernel_rfl) (by kernel_rfl) (by kernel_rfl) (fun _ _ _ h => h) (Or.inl ⟨by rfl, fun w => by go_simp⟩) ?_
          try simp only [Act.put, List.setIfInBounds_toArray, List.set_cons_zero, List.set_cons_succ]
          refine wpAny_take (i := 6) (oi := { dst := some 59, op := Go.Op.binOp Go.BinOp.sub 55 (Go.Operand.tmp 58) (Go.Operand.const (Go.Value.int Go.IntKind.u64 1)) 55, type := 55, pos := "isa.go:56", after := #[{ on := 5, ground := Go.Ground.data }], guard := none }) (v := .int .u64 15) rfl (by kernel_rfl) (by kernel_rfl) (by kernel_rfl) (fun _ _ _ h => h) (Or.inl ⟨by rfl, fun w => by go_simp⟩) ?_
          try simp only [Act.put, List.setIfInBounds_toArray, List.set_cons_zero, List.set_cons_succ]
          refine wpAny_ready (rs := [1, 2]) (by kernel_rfl) (by simp) ?_
          refine AllReady.cons (o := { dst := some 54, op := Go.Op.load 55 (Go.Operand.tmp 9), type := 55, pos := "isa.go:56", after := #[], guard := none }) rfl (fun K hK => ?_) (AllReady.cons (o := { dst := some 55, op := Go.Op.load 3 (Go.Operand.tmp 10), type := 3, pos := "isa.go:56", after := #[], guard := none }) rfl (fun K hK => ?_) AllReady.nil)
          · go_simp
            refine hK _ _ ?_
            clear hK K
            refine wpAny_ready (rs := [2]) (by kernel_rfl) (by simp) ?_
            refine AllReady.cons (o := { dst := some 55, op := Go.Op.load 3 (Go.Operand.tmp 10), type := 3, pos := "isa.go:56", after := #[], guard := none }) rfl (fun K hK => ?_) AllReady.nil
            go_simp
            refine hK _ _ ?_
            clear hK K
            refine wpAny_take (i := 3) (oi := { dst := some 56, op := Go.Op.binOp Go.BinOp.shr 55 (Go.Operand.tmp 54) (Go.Operand.tmp 55) 3, type := 55, pos := "isa.go:56", after := #[{ on := 1, ground := Go.Ground.data }, { on := 2, ground := Go.Ground.data }], guard := none }) (v := .int .u64 (t : Int)) rfl (by kernel_rfl) (by kernel_rfl) (by kernel_rfl) (fun _ _ _ h => h) (Or.inl ⟨by rfl, fun w => by go_simp⟩) ?_
            try simp only [Act.put, List.setIfInBounds_toArray, List.set_cons_zero, List.set_cons_succ]
            refine wpAny_take (i := 7) (oi := { dst := some 60, op := Go.Op.binOp Go.BinOp.and 55 (Go.Operand.tmp 56) (Go.Operand.tmp 59) 55, type := 55, pos := "isa.go:56", after := #[{ on := 3, ground := Go.Ground.data }, { on := 6, ground := Go.Ground.data }], guard := none }) (v := .int .u64 ((t % 16 : Nat) : Int)) rfl (by kernel_rfl) (by kernel_rfl) (by kernel_rfl) (fun _ _ _ h => h) (Or.inl ⟨by rfl, fun w => by go_simp⟩) ?_
            try simp only [Act.put, List.setIfInBounds_toArray, List.set_cons_zero, List.set_cons_succ]
            refine wpAny_take (i := 8) (oi := { dst := some 61, op := Go.Op.convert 55 3 (Go.Operand.tmp 60), type := 3, pos := "isa.go:56", after := #[{ on := 7, ground := Go.Ground.data }], guard := none }) (v := .int .i64 ((t % 16 : Nat) : Int)) rfl (by kernel_rfl) (by kernel_rfl) (by kernel_rfl) (fun _ _ _ h => h) (Or.inl ⟨by rfl, fun w => by go_simp⟩) ?_
            try simp only [Act.put, List.setIfInBounds_toArray, List.set_cons_zero, List.set_cons_succ]
            refine wpAny_take (i := 9) (oi := { dst := some 62, op := Go.Op.nilCheck (Go.Operand.tmp 53), type := 0, pos := "isa.go:56", after := #[{ on := 0, ground := Go.Ground.data }, { on := 0, ground := Go.Ground.phase }, { on := 1, ground := Go.Ground.phase }, { on := 2, ground := Go.Ground.phase }, { on := 3, ground := Go.Ground.phase }, { on := 4, ground := Go.Ground.phase }, { on := 5, ground := Go.Ground.phase }, { on := 6, ground := Go.Ground.phase }, { on := 7, ground := Go.Ground.phase }, { on := 8, ground := Go.Ground.phase }], guard := none }) (v := .pointer (some p2)) rfl (by kernel_rfl) (by kernel_rfl) (by kernel_rfl) (fun _ _ _ h => h) (Or.inl ⟨by rfl, fun w => by go_simp⟩) ?_
            try simp only [Act.put, List.setIfInBounds_toArray, List.set_cons_zero, List.set_cons_succ]
            refine wpAny_ready (rs := [10]) (by kernel_rfl) (by simp) ?_
            refine AllReady.cons (o := { dst := none, op := Go.Op.store 3 (Go.Operand.tmp 62) (Go.Operand.tmp 61), type := 0, pos := "isa.go:56", after := #[{ on := 9, ground := Go.Ground.data }, { on := 8, ground := Go.Ground.data }, { on := 0, ground := Go.Ground.phase }, { on := 1, ground := Go.Ground.phase }, { on := 2, ground := Go.Ground.phase }, { on := 3, ground := Go.Ground.phase }, { on := 4, ground := Go.Ground.phase }, { on := 5, ground := Go.Ground.phase }, { on := 6, ground := Go.Ground.phase }, { on := 7, ground := Go.Ground.phase }, { on := 8, ground := Go.Ground.phase }], guard := none }) rfl (fun K hK => ?_) AllReady.nil
            go_simp
            refine hK _ _ ?_
            clear hK K
            refine wpAny_done (by kernel_rfl) ?_ _
            refine onlyN_normal ?_
            gi_wp2
            exact ⟨(((KeepsOthers.setCell _ _ _).trans (KeepsOthers.drew _)).trans (KeepsOthers.setCell _ _ _)).from _, HKR.out.trans (kb_drew (HKS.out _)), ⟨(HDR.out.1.far (p := ⟨w3.heap.size + 1, 0, none⟩) (by have := HSZ.out; show w3.heap.size + 1 ≠ w.heap.size; omega) _).far (p := p2) (fun h => HNE.out.2.2.1 h.symm) _, Boxed.apart (HDR.out.2.other (by omega) _) (p := p2) (fun h => HNE.out.2.1 h.symm) _, by rw [HST.out]; exact Boxed.apart (HBL.out.set _) (p := p2) (fun h => HNE.out.1 h.symm) _, by rw [HST.out]; have h := HSET.out ((t % 16 : Nat) : Int); rw [HTT.out.1] at h ⊢; exact h⟩, ((HB.out.setCell (p := ⟨w3.heap.size + 1, 0, none⟩) (by have := HSZ.out; show w.heap.size ≤ w3.heap.size + 1; omega) _).drew).setCell (p := p2) HNE.out.2.2.2 _⟩
          · go_simp
            refine hK _ _ ?_
            clear hK K
            refine wpAny_ready (rs := [1]) (by kernel_rfl) (by simp) ?_
            refine AllReady.cons (o := { dst := some 54, op := Go.Op.load 55 (Go.Operand.tmp 9), type := 55, pos := "isa.go:56", after := #[], guard := none }) rfl (fun K hK => ?_) AllReady.nil
            go_simp
            refine hK _ _ ?_
            clear hK K
            refine wpAny_take (i := 3) (oi := { dst := some 56, op := Go.Op.binOp Go.BinOp.shr 55 (Go.Operand.tmp 54) (Go.Operand.tmp 55) 3, type := 55, pos := "isa.go:56", after := #[{ on := 1, ground := Go.Ground.data }, { on := 2, ground := Go.Ground.data }], guard := none }) (v := .int .u64 (t : Int)) rfl (by kernel_rfl) (by kernel_rfl) (by kernel_rfl) (fun _ _ _ h => h) (Or.inl ⟨by rfl, fun w => by go_simp⟩) ?_
            try simp only [Act.put, List.setIfInBounds_toArray, List.set_cons_zero, List.set_cons_succ]
            refine wpAny_take (i := 7) (oi := { dst := some 60, op := Go.Op.binOp Go.BinOp.and 55 (Go.Operand.tmp 56) (Go.Operand.tmp 59) 55, type := 55, pos := "isa.go:56", after := #[{ on := 3, ground := Go.Ground.data }, { on := 6, ground := Go.Ground.data }], guard := none }) (v := .int .u64 ((t % 16 : Nat) : Int)) rfl (by kernel_rfl) (by kernel_rfl) (by kernel_rfl) (fun _ _ _ h => h) (Or.inl ⟨by rfl, fun w => by go_simp⟩) ?_
            try simp only [Act.put, List.setIfInBounds_toArray, List.set_cons_zero, List.set_cons_succ]
            refine wpAny_take (i := 8) (oi := { dst := some 61, op := Go.Op.convert 55 3 (Go.Operand.tmp 60), type := 3, pos := "isa.go:56", after := #[{ on := 7, ground := Go.Ground.data }], guard := none }) (v := .int .i64 ((t % 16 : Nat) : Int)) rfl (by kernel_rfl) (by kernel_rfl) (by kernel_rfl) (fun _ _ _ h => h) (Or.inl ⟨by rfl, fun w => by go_simp⟩) ?_
            try simp only [Act.put, List.setIfInBounds_toArray, List.set_cons_zero, List.set_cons_succ]
            refine wpAny_take (i := 9) (oi := { dst := some 62, op := Go.Op.nilCheck (Go.Operand.tmp 53), type := 0, pos := "isa.go:56", after := #[{ on := 0, ground := Go.Ground.data }, { on := 0, ground := Go.Ground.phase }, { on := 1, ground := Go.Ground.phase }, { on := 2, ground := Go.Ground.phase }, { on := 3, ground := Go.Ground.phase }, { on := 4, ground := Go.Ground.phase }, { on := 5, ground := Go.Ground.phase }, { on := 6, ground := Go.Ground.phase }, { on := 7, ground := Go.Ground.phase }, { on := 8, ground := Go.Ground.phase }], guard := none }) (v := .pointer (some p2)) rfl (by kernel_rfl) (by kernel_rfl) (by kernel_rfl) (fun _ _ _ h => h) (Or.inl ⟨by rfl, fun w => by go_simp⟩) ?_
            try simp only [Act.put, List.setIfInBounds_toArray, List.set_cons_zero, List.set_cons_succ]
            refine wpAny_ready (rs := [10]) (by kernel_rfl) (by simp) ?_
            refine AllReady.cons (o := { dst := none, op := Go.Op.store 3 (Go.Operand.tmp 62) (Go.Operand.tmp 61), type := 0, pos := "isa.go:56", after := #[{ on := 9, ground := Go.Ground.data }, { on := 8, ground := Go.Ground.data }, { on := 0, ground := Go.Ground.phase }, { on := 1, ground := Go.Ground.phase }, { on := 2, ground := Go.Ground.phase }, { on := 3, ground := Go.Ground.phase }, { on := 4, ground := Go.Ground.phase }, { on := 5, ground := Go.Ground.phase }, { on := 6, ground := Go.Ground.phase }, { on := 7, ground := Go.Ground.phase }, { on := 8, ground := Go.Ground.phase }], guard := none }) rfl (fun K hK => ?_) AllReady.nil
            go_simp
            refine hK _ _ ?_
            clear hK K
            refine wpAny_done (by kernel_rfl) ?_ _
            refine onlyN_normal ?_
            gi_wp2
            exact ⟨(((KeepsOthers.setCell _ _ _).trans (KeepsOthers.drew _)).trans (KeepsOthers.setCell _ _ _)).from _, HKR.out.trans (kb_drew (HKS.out _)), ⟨(HDR.out.1.far (p := ⟨w3.heap.size + 1, 0, none⟩) (by have := HSZ.out; show w3.heap.size + 1 ≠ w.heap.size; omega) _).far (p := p2) (fun h => HNE.out.2.2.1 h.symm) _, Boxed.apart (HDR.out.2.other (by omega) _) (p := p2) (fun h => HNE.out.2.1 h.symm) _, by rw [HST.out]; exact Boxed.apart (HBL.out.set _) (p := p2) (fun h => HNE.out.1 h.symm) _, by rw [HST.out]; have h := HSET.out ((t % 16 : Nat) : Int); rw [HTT.out.1] at h ⊢; exact h⟩, ((HB.out.setCell (p := ⟨w3.heap.size + 1, 0, none⟩) (by have := HSZ.out; show w.heap.size ≤ w3.heap.size + 1; omega) _).drew).setCell (p := p2) HNE.out.2.2.2 _⟩
        · have hand := and_mask t 8 (by omega) (by decide)
          have hand2 : bits .and .u64 (t : Int) 255 = ((t % 256 : Nat) : Int) := hand
          have e5 : IntKind.u64.wrap 256 = 256 := by decide
          have e6 : IntKind.u64.wrap 255 = 255 := by decide
          have e8 : IntKind.i64.wrap ((t : Int) % 256) = (t : Int) % 256 := IntWalk.i64_in _ (by omega)
          have cL2 : W.cell? ⟨w3.heap.size + 1, 0, none⟩ = some (.int .i64 ((q : Int) + 8)) := by rw [cL]; push_cast; rfl
          clear hand cL
          gi_wp2_with fail
          refine round_of_any (by kernel_rfl) (by kernel_rfl) ?_
          show wpAny _ _ _ _ 11 #[false, false, false, false, false, false, false, false, false, false, false] _ _
          refine wpAny_take (i := 0) (oi := { dst := some 53, op := Go.Op.move (Go.Operand.tmp 11), type := 60, pos := "isa.go:56", after := #[], guard := none }) (v := .pointer (some p2)) rfl (by kernel_rfl) (by kernel_rfl) (by kernel_rfl) (fun _ _ _ h => h) (Or.inl ⟨by rfl, fun w => by go_simp⟩) ?_
          try simp only [Act.put, List.setIfInBounds_toArray, List.set_cons_zero, List.set_cons_succ]
          refine wpAny_take (i := 4) (oi := { dst := some 57, op := Go.Op.move (Go.Operand.tmp 12), type := 3, pos := "isa.go:56", after := #[], guard := none }) (v := .int .i64 8) rfl (by kernel_rfl) (by kernel_rfl) (by kernel_rfl) (fun _ _ _ h => h) (Or.inl ⟨by rfl, fun w => by go_simp⟩) ?_
          try simp only [Act.put, List.setIfInBounds_toArray, List.set_cons_zero, List.set_cons_succ]
          refine wpAny_take (i := 5) (oi := { dst := some 58, op := Go.Op.binOp Go.BinOp.shl 55 (Go.Operand.const (Go.Value.int Go.IntKind.u64 1)) (Go.Operand.tmp 57) 3, type := 55, pos := "isa.go:56", after := #[{ on := 4, ground := Go.Ground.data }], guard := none }) (v := .int .u64 256) rfl (by kernel_rfl) (by kernel_rfl) (by kernel_rfl) (fun _ _ _ h => h) (Or.inl ⟨by rfl, fun w => by go_simp⟩) ?_
          try simp only [Act.put, List.setIfInBounds_toArray, List.set_cons_zero, List.set_cons_succ]
          refine wpAny_take (i := 6) (oi := { dst := some 59, op := Go.Op.binOp Go.BinOp.sub 55 (Go.Operand.tmp 58) (Go.Operand.const (Go.Value.int Go.IntKind.u64 1)) 55, type := 55, pos := "isa.go:56", after := #[{ on := 5, ground := Go.Ground.data }], guard := none }) (v := .int .u64 255) rfl (by kernel_rfl) (by kernel_rfl) (by kernel_rfl) (fun _ _ _ h => h) (Or.inl ⟨by rfl, fun w => by go_simp⟩) ?_
          try simp only [Act.put, List.setIfInBounds_toArray, List.set_cons_zero, List.set_cons_succ]
          refine wpAny_ready (rs := [1, 2]) (by kernel_rfl) (by simp) ?_
          refine AllReady.cons (o := { dst := some 54, op := Go.Op.load 55 (Go.Operand.tmp 9), type := 55, pos := "isa.go:56", after := #[], guard := none }) rfl (fun K hK => ?_) (AllReady.cons (o := { dst := some 55, op := Go.Op.load 3 (Go.Operand.tmp 10), type := 3, pos := "isa.go:56", after := #[], guard := none }) rfl (fun K hK => ?_) AllReady.nil)
          · go_simp
            refine hK _ _ ?_
            clear hK K
            refine wpAny_ready (rs := [2]) (by kernel_rfl) (by simp) ?_
            refine AllReady.cons (o := { dst := some 55, op := Go.Op.load 3 (Go.Operand.tmp 10), type := 3, pos := "isa.go:56", after := #[], guard := none }) rfl (fun K hK => ?_) AllReady.nil
            go_simp
            refine hK _ _ ?_
            clear hK K
            refine wpAny_take (i := 3) (oi := { dst := some 56, op := Go.Op.binOp Go.BinOp.shr 55 (Go.Operand.tmp 54) (Go.Operand.tmp 55) 3, type := 55, pos := "isa.go:56", after := #[{ on := 1, ground := Go.Ground.data }, { on := 2, ground := Go.Ground.data }], guard := none }) (v := .int .u64 (t : Int)) rfl (by kernel_rfl) (by kernel_rfl) (by kernel_rfl) (fun _ _ _ h => h) (Or.inl ⟨by rfl, fun w => by go_simp⟩) ?_
            try simp only [Act.put, List.setIfInBounds_toArray, List.set_cons_zero, List.set_cons_succ]
            refine wpAny_take (i := 7) (oi := { dst := some 60, op := Go.Op.binOp Go.BinOp.and 55 (Go.Operand.tmp 56) (Go.Operand.tmp 59) 55, type := 55, pos := "isa.go:56", after := #[{ on := 3, ground := Go.Ground.data }, { on := 6, ground := Go.Ground.data }], guard := none }) (v := .int .u64 ((t % 256 : Nat) : Int)) rfl (by kernel_rfl) (by kernel_rfl) (by kernel_rfl) (fun _ _ _ h => h) (Or.inl ⟨by rfl, fun w => by go_simp⟩) ?_
            try simp only [Act.put, List.setIfInBounds_toArray, List.set_cons_zero, List.set_cons_succ]
            refine wpAny_take (i := 8) (oi := { dst := some 61, op := Go.Op.convert 55 3 (Go.Operand.tmp 60), type := 3, pos := "isa.go:56", after := #[{ on := 7, ground := Go.Ground.data }], guard := none }) (v := .int .i64 ((t % 256 : Nat) : Int)) rfl (by kernel_rfl) (by kernel_rfl) (by kernel_rfl) (fun _ _ _ h => h) (Or.inl ⟨by rfl, fun w => by go_simp⟩) ?_
            try simp only [Act.put, List.setIfInBounds_toArray, List.set_cons_zero, List.set_cons_succ]
            refine wpAny_take (i := 9) (oi := { dst := some 62, op := Go.Op.nilCheck (Go.Operand.tmp 53), type := 0, pos := "isa.go:56", after := #[{ on := 0, ground := Go.Ground.data }, { on := 0, ground := Go.Ground.phase }, { on := 1, ground := Go.Ground.phase }, { on := 2, ground := Go.Ground.phase }, { on := 3, ground := Go.Ground.phase }, { on := 4, ground := Go.Ground.phase }, { on := 5, ground := Go.Ground.phase }, { on := 6, ground := Go.Ground.phase }, { on := 7, ground := Go.Ground.phase }, { on := 8, ground := Go.Ground.phase }], guard := none }) (v := .pointer (some p2)) rfl (by kernel_rfl) (by kernel_rfl) (by kernel_rfl) (fun _ _ _ h => h) (Or.inl ⟨by rfl, fun w => by go_simp⟩) ?_
            try simp only [Act.put, List.setIfInBounds_toArray, List.set_cons_zero, List.set_cons_succ]
            refine wpAny_ready (rs := [10]) (by kernel_rfl) (by simp) ?_
            refine AllReady.cons (o := { dst := none, op := Go.Op.store 3 (Go.Operand.tmp 62) (Go.Operand.tmp 61), type := 0, pos := "isa.go:56", after := #[{ on := 9, ground := Go.Ground.data }, { on := 8, ground := Go.Ground.data }, { on := 0, ground := Go.Ground.phase }, { on := 1, ground := Go.Ground.phase }, { on := 2, ground := Go.Ground.phase }, { on := 3, ground := Go.Ground.phase }, { on := 4, ground := Go.Ground.phase }, { on := 5, ground := Go.Ground.phase }, { on := 6, ground := Go.Ground.phase }, { on := 7, ground := Go.Ground.phase }, { on := 8, ground := Go.Ground.phase }], guard := none }) rfl (fun K hK => ?_) AllReady.nil
            go_simp
            refine hK _ _ ?_
            clear hK K
            refine wpAny_done (by kernel_rfl) ?_ _
            refine onlyN_normal ?_
            gi_wp2
            exact ⟨(((KeepsOthers.setCell _ _ _).trans (KeepsOthers.drew _)).trans (KeepsOthers.setCell _ _ _)).from _, HKR.out.trans (kb_drew (HKS.out _)), ⟨(HDR.out.1.far (p := ⟨w3.heap.size + 1, 0, none⟩) (by have := HSZ.out; show w3.heap.size + 1 ≠ w.heap.size; omega) _).far (p := p2) (fun h => HNE.out.2.2.1 h.symm) _, Boxed.apart (HDR.out.2.other (by omega) _) (p := p2) (fun h => HNE.out.2.1 h.symm) _, by rw [HST.out]; exact Boxed.apart (HBL.out.set _) (p := p2) (fun h => HNE.out.1 h.symm) _, by rw [HST.out]; have h := HSET.out ((t % 256 : Nat) : Int); rw [HTT.out.1] at h ⊢; exact h⟩, ((HB.out.setCell (p := ⟨w3.heap.size + 1, 0, none⟩) (by have := HSZ.out; show w.heap.size ≤ w3.heap.size + 1; omega) _).drew).setCell (p := p2) HNE.out.2.2.2 _⟩
          · go_simp
            refine hK _ _ ?_
            clear hK K
            refine wpAny_ready (rs := [1]) (by kernel_rfl) (by simp) ?_
            refine AllReady.cons (o := { dst := some 54, op := Go.Op.load 55 (Go.Operand.tmp 9), type := 55, pos := "isa.go:56", after := #[], guard := none }) rfl (fun K hK => ?_) AllReady.nil
            go_simp
            refine hK _ _ ?_
            clear hK K
            refine wpAny_take (i := 3) (oi := { dst := some 56, op := Go.Op.binOp Go.BinOp.shr 55 (Go.Operand.tmp 54) (Go.Operand.tmp 55) 3, type := 55, pos := "isa.go:56", after := #[{ on := 1, ground := Go.Ground.data }, { on := 2, ground := Go.Ground.data }], guard := none }) (v := .int .u64 (t : Int)) rfl (by kernel_rfl) (by kernel_rfl) (by kernel_rfl) (fun _ _ _ h => h) (Or.inl ⟨by rfl, fun w => by go_simp⟩) ?_
            try simp only [Act.put, List.setIfInBounds_toArray, List.set_cons_zero, List.set_cons_succ]
            refine wpAny_take (i := 7) (oi := { dst := some 60, op := Go.Op.binOp Go.BinOp.and 55 (Go.Operand.tmp 56) (Go.Operand.tmp 59) 55, type := 55, pos := "isa.go:56", after := #[{ on := 3, ground := Go.Ground.data }, { on := 6, ground := Go.Ground.data }], guard := none }) (v := .int .u64 ((t % 256 : Nat) : Int)) rfl (by kernel_rfl) (by kernel_rfl) (by kernel_rfl) (fun _ _ _ h => h) (Or.inl ⟨by rfl, fun w => by go_simp⟩) ?_
            try simp only [Act.put, List.setIfInBounds_toArray, List.set_cons_zero, List.set_cons_succ]
            refine wpAny_take (i := 8) (oi := { dst := some 61, op := Go.Op.convert 55 3 (Go.Operand.tmp 60), type := 3, pos := "isa.go:56", after := #[{ on := 7, ground := Go.Ground.data }], guard := none }) (v := .int .i64 ((t % 256 : Nat) : Int)) rfl (by kernel_rfl) (by kernel_rfl) (by kernel_rfl) (fun _ _ _ h => h) (Or.inl ⟨by rfl, fun w => by go_simp⟩) ?_
            try simp only [Act.put, List.setIfInBounds_toArray, List.set_cons_zero, List.set_cons_succ]
            refine wpAny_take (i := 9) (oi := { dst := some 62, op := Go.Op.nilCheck (Go.Operand.tmp 53), type := 0, pos := "isa.go:56", after := #[{ on := 0, ground := Go.Ground.data }, { on := 0, ground := Go.Ground.phase }, { on := 1, ground := Go.Ground.phase }, { on := 2, ground := Go.Ground.phase }, { on := 3, ground := Go.Ground.phase }, { on := 4, ground := Go.Ground.phase }, { on := 5, ground := Go.Ground.phase }, { on := 6, ground := Go.Ground.phase }, { on := 7, ground := Go.Ground.phase }, { on := 8, ground := Go.Ground.phase }], guard := none }) (v := .pointer (some p2)) rfl (by kernel_rfl) (by kernel_rfl) (by kernel_rfl) (fun _ _ _ h => h) (Or.inl ⟨by rfl, fun w => by go_simp⟩) ?_
            try simp only [Act.put, List.setIfInBounds_toArray, List.set_cons_zero, List.set_cons_succ]
            refine wpAny_ready (rs := [10]) (by kernel_rfl) (by simp) ?_
            refine AllReady.cons (o := { dst := none, op := Go.Op.store 3 (Go.Operand.tmp 62) (Go.Operand.tmp 61), type := 0, pos := "isa.go:56", after := #[{ on := 9, ground := Go.Ground.data }, { on := 8, ground := Go.Ground.data }, { on := 0, ground := Go.Ground.phase }, { on := 1, ground := Go.Ground.phase }, { on := 2, ground := Go.Ground.phase }, { on := 3, ground := Go.Ground.phase }, { on := 4, ground := Go.Ground.phase }, { on := 5, ground := Go.Ground.phase }, { on := 6, ground := Go.Ground.phase }, { on := 7, ground := Go.Ground.phase }, { on := 8, ground := Go.Ground.phase }], guard := none }) rfl (fun K hK => ?_) AllReady.nil
            go_simp
            refine hK _ _ ?_
            clear hK K
            refine wpAny_done (by kernel_rfl) ?_ _
            refine onlyN_normal ?_
            gi_wp2
            exact ⟨(((KeepsOthers.setCell _ _ _).trans (KeepsOthers.drew _)).trans (KeepsOthers.setCell _ _ _)).from _, HKR.out.trans (kb_drew (HKS.out _)), ⟨(HDR.out.1.far (p := ⟨w3.heap.size + 1, 0, none⟩) (by have := HSZ.out; show w3.heap.size + 1 ≠ w.heap.size; omega) _).far (p := p2) (fun h => HNE.out.2.2.1 h.symm) _, Boxed.apart (HDR.out.2.other (by omega) _) (p := p2) (fun h => HNE.out.2.1 h.symm) _, by rw [HST.out]; exact Boxed.apart (HBL.out.set _) (p := p2) (fun h => HNE.out.1 h.symm) _, by rw [HST.out]; have h := HSET.out ((t % 256 : Nat) : Int); rw [HTT.out.1] at h ⊢; exact h⟩, ((HB.out.setCell (p := ⟨w3.heap.size + 1, 0, none⟩) (by have := HSZ.out; show w.heap.size ≤ w3.heap.size + 1; omega) _).drew).setCell (p := p2) HNE.out.2.2.2 _⟩
        · have hand := and_mask t 12 (by omega) (by decide)
          have hand2 : bits .and .u64 (t : Int) 4095 = ((t % 4096 : Nat) : Int) := hand
          have e5 : IntKind.u64.wrap 4096 = 4096 := by decide
          have e6 : IntKind.u64.wrap 4095 = 4095 := by decide
          have e8 : IntKind.i64.wrap ((t : Int) % 4096) = (t : Int) % 4096 := IntWalk.i64_in _ (by omega)
          have cL2 : W.cell? ⟨w3.heap.size + 1, 0, none⟩ = some (.int .i64 ((q : Int) + 12)) := by rw [cL]; push_cast; rfl
          clear hand cL
          gi_wp2_with fail
          refine round_of_any (by kernel_rfl) (by kernel_rfl) ?_
          show wpAny _ _ _ _ 11 #[false, false, false, false, false, false, false, false, false, false, false] _ _
          refine wpAny_take (i := 0) (oi := { dst := some 53, op := Go.Op.move (Go.Operand.tmp 11), type := 60, pos := "isa.go:56", after := #[], guard := none }) (v := .pointer (some p2)) rfl (by kernel_rfl) (by kernel_rfl) (by kernel_rfl) (fun _ _ _ h => h) (Or.inl ⟨by rfl, fun w => by go_simp⟩) ?_
          try simp only [Act.put, List.setIfInBounds_toArray, List.set_cons_zero, List.set_cons_succ]
          refine wpAny_take (i := 4) (oi := { dst := some 57, op := Go.Op.move (Go.Operand.tmp 12), type := 3, pos := "isa.go:56", after := #[], guard := none }) (v := .int .i64 12) rfl (by kernel_rfl) (by kernel_rfl) (by kernel_rfl) (fun _ _ _ h => h) (Or.inl ⟨by rfl, fun w => by go_simp⟩) ?_
          try simp only [Act.put, List.setIfInBounds_toArray, List.set_cons_zero, List.set_cons_succ]
          refine wpAny_take (i := 5) (oi := { dst := some 58, op := Go.Op.binOp Go.BinOp.shl 55 (Go.Operand.const (Go.Value.int Go.IntKind.u64 1)) (Go.Operand.tmp 57) 3, type := 55, pos := "isa.go:56", after := #[{ on := 4, ground := Go.Ground.data }], guard := none }) (v := .int .u64 4096) rfl (by kernel_rfl) (by kernel_rfl) (by kernel_rfl) (fun _ _ _ h => h) (Or.inl ⟨by rfl, fun w => by go_simp⟩) ?_
          try simp only [Act.put, List.setIfInBounds_toArray, List.set_cons_zero, List.set_cons_succ]
          refine wpAny_take (i := 6) (oi := { dst := some 59, op := Go.Op.binOp Go.BinOp.sub 55 (Go.Operand.tmp 58) (Go.Operand.const (Go.Value.int Go.IntKind.u64 1)) 55, type := 55, pos := "isa.go:56", after := #[{ on := 5, ground := Go.Ground.data }], guard := none }) (v := .int .u64 4095) rfl (by kernel_rfl) (by kernel_rfl) (by kernel_rfl) (fun _ _ _ h => h) (Or.inl ⟨by rfl, fun w => by go_simp⟩) ?_
          try simp only [Act.put, List.setIfInBounds_toArray, List.set_cons_zero, List.set_cons_succ]
          refine wpAny_ready (rs := [1, 2]) (by kernel_rfl) (by simp) ?_
          refine AllReady.cons (o := { dst := some 54, op := Go.Op.load 55 (Go.Operand.tmp 9), type := 55, pos := "isa.go:56", after := #[], guard := none }) rfl (fun K hK => ?_) (AllReady.cons (o := { dst := some 55, op := Go.Op.load 3 (Go.Operand.tmp 10), type := 3, pos := "isa.go:56", after := #[], guard := none }) rfl (fun K hK => ?_) AllReady.nil)
          · go_simp
            refine hK _ _ ?_
            clear hK K
            refine wpAny_ready (rs := [2]) (by kernel_rfl) (by simp) ?_
            refine AllReady.cons (o := { dst := some 55, op := Go.Op.load 3 (Go.Operand.tmp 10), type := 3, pos := "isa.go:56", after := #[], guard := none }) rfl (fun K hK => ?_) AllReady.nil
            go_simp
            refine hK _ _ ?_
            clear hK K
            refine wpAny_take (i := 3) (oi := { dst := some 56, op := Go.Op.binOp Go.BinOp.shr 55 (Go.Operand.tmp 54) (Go.Operand.tmp 55) 3, type := 55, pos := "isa.go:56", after := #[{ on := 1, ground := Go.Ground.data }, { on := 2, ground := Go.Ground.data }], guard := none }) (v := .int .u64 (t : Int)) rfl (by kernel_rfl) (by kernel_rfl) (by kernel_rfl) (fun _ _ _ h => h) (Or.inl ⟨by rfl, fun w => by go_simp⟩) ?_
            try simp only [Act.put, List.setIfInBounds_toArray, List.set_cons_zero, List.set_cons_succ]
            refine wpAny_take (i := 7) (oi := { dst := some 60, op := Go.Op.binOp Go.BinOp.and 55 (Go.Operand.tmp 56) (Go.Operand.tmp 59) 55, type := 55, pos := "isa.go:56", after := #[{ on := 3, ground := Go.Ground.data }, { on := 6, ground := Go.Ground.data }], guard := none }) (v := .int .u64 ((t % 4096 : Nat) : Int)) rfl (by kernel_rfl) (by kernel_rfl) (by kernel_rfl) (fun _ _ _ h => h) (Or.inl ⟨by rfl, fun w => by go_simp⟩) ?_
            try simp only [Act.put, List.setIfInBounds_toArray, List.set_cons_zero, List.set_cons_succ]
            refine wpAny_take (i := 8) (oi := { dst := some 61, op := Go.Op.convert 55 3 (Go.Operand.tmp 60), type := 3, pos := "isa.go:56", after := #[{ on := 7, ground := Go.Ground.data }], guard := none }) (v := .int .i64 ((t % 4096 : Nat) : Int)) rfl (by kernel_rfl) (by kernel_rfl) (by kernel_rfl) (fun _ _ _ h => h) (Or.inl ⟨by rfl, fun w => by go_simp⟩) ?_
            try simp only [Act.put, List.setIfInBounds_toArray, List.set_cons_zero, List.set_cons_succ]
            refine wpAny_take (i := 9) (oi := { dst := some 62, op := Go.Op.nilCheck (Go.Operand.tmp 53), type := 0, pos := "isa.go:56", after := #[{ on := 0, ground := Go.Ground.data }, { on := 0, ground := Go.Ground.phase }, { on := 1, ground := Go.Ground.phase }, { on := 2, ground := Go.Ground.phase }, { on := 3, ground := Go.Ground.phase }, { on := 4, ground := Go.Ground.phase }, { on := 5, ground := Go.Ground.phase }, { on := 6, ground := Go.Ground.phase }, { on := 7, ground := Go.Ground.phase }, { on := 8, ground := Go.Ground.phase }], guard := none }) (v := .pointer (some p2)) rfl (by kernel_rfl) (by kernel_rfl) (by kernel_rfl) (fun _ _ _ h => h) (Or.inl ⟨by rfl, fun w => by go_simp⟩) ?_
            try simp only [Act.put, List.setIfInBounds_toArray, List.set_cons_zero, List.set_cons_succ]
            refine wpAny_ready (rs := [10]) (by kernel_rfl) (by simp) ?_
            refine AllReady.cons (o := { dst := none, op := Go.Op.store 3 (Go.Operand.tmp 62) (Go.Operand.tmp 61), type := 0, pos := "isa.go:56", after := #[{ on := 9, ground := Go.Ground.data }, { on := 8, ground := Go.Ground.data }, { on := 0, ground := Go.Ground.phase }, { on := 1, ground := Go.Ground.phase }, { on := 2, ground := Go.Ground.phase }, { on := 3, ground := Go.Ground.phase }, { on := 4, ground := Go.Ground.phase }, { on := 5, ground := Go.Ground.phase }, { on := 6, ground := Go.Ground.phase }, { on := 7, ground := Go.Ground.phase }, { on := 8, ground := Go.Ground.phase }], guard := none }) rfl (fun K hK => ?_) AllReady.nil
            go_simp
            refine hK _ _ ?_
            clear hK K
            refine wpAny_done (by kernel_rfl) ?_ _
            refine onlyN_normal ?_
            gi_wp2
            exact ⟨(((KeepsOthers.setCell _ _ _).trans (KeepsOthers.drew _)).trans (KeepsOthers.setCell _ _ _)).from _, HKR.out.trans (kb_drew (HKS.out _)), ⟨(HDR.out.1.far (p := ⟨w3.heap.size + 1, 0, none⟩) (by have := HSZ.out; show w3.heap.size + 1 ≠ w.heap.size; omega) _).far (p := p2) (fun h => HNE.out.2.2.1 h.symm) _, Boxed.apart (HDR.out.2.other (by omega) _) (p := p2) (fun h => HNE.out.2.1 h.symm) _, by rw [HST.out]; exact Boxed.apart (HBL.out.set _) (p := p2) (fun h => HNE.out.1 h.symm) _, by rw [HST.out]; have h := HSET.out ((t % 4096 : Nat) : Int); rw [HTT.out.1] at h ⊢; exact h⟩, ((HB.out.setCell (p := ⟨w3.heap.size + 1, 0, none⟩) (by have := HSZ.out; show w.heap.size ≤ w3.heap.size + 1; omega) _).drew).setCell (p := p2) HNE.out.2.2.2 _⟩
          · go_simp
            refine hK _ _ ?_
            clear hK K
            refine wpAny_ready (rs := [1]) (by kernel_rfl) (by simp) ?_
            refine AllReady.cons (o := { dst := some 54, op := Go.Op.load 55 (Go.Operand.tmp 9), type := 55, pos := "isa.go:56", after := #[], guard := none }) rfl (fun K hK => ?_) AllReady.nil
            go_simp
            refine hK _ _ ?_
            clear hK K
            refine wpAny_take (i := 3) (oi := { dst := some 56, op := Go.Op.binOp Go.BinOp.shr 55 (Go.Operand.tmp 54) (Go.Operand.tmp 55) 3, type := 55, pos := "isa.go:56", after := #[{ on := 1, ground := Go.Ground.data }, { on := 2, ground := Go.Ground.data }], guard := none }) (v := .int .u64 (t : Int)) rfl (by kernel_rfl) (by kernel_rfl) (by kernel_rfl) (fun _ _ _ h => h) (Or.inl ⟨by rfl, fun w => by go_simp⟩) ?_
            try simp only [Act.put, List.setIfInBounds_toArray, List.set_cons_zero, List.set_cons_succ]
            refine wpAny_take (i := 7) (oi := { dst := some 60, op := Go.Op.binOp Go.BinOp.and 55 (Go.Operand.tmp 56) (Go.Operand.tmp 59) 55, type := 55, pos := "isa.go:56", after := #[{ on := 3, ground := Go.Ground.data }, { on := 6, ground := Go.Ground.data }], guard := none }) (v := .int .u64 ((t % 4096 : Nat) : Int)) rfl (by kernel_rfl) (by kernel_rfl) (by kernel_rfl) (fun _ _ _ h => h) (Or.inl ⟨by rfl, fun w => by go_simp⟩) ?_
            try simp only [Act.put, List.setIfInBounds_toArray, List.set_cons_zero, List.set_cons_succ]
            refine wpAny_take (i := 8) (oi := { dst := some 61, op := Go.Op.convert 55 3 (Go.Operand.tmp 60), type := 3, pos := "isa.go:56", after := #[{ on := 7, ground := Go.Ground.data }], guard := none }) (v := .int .i64 ((t % 4096 : Nat) : Int)) rfl (by kernel_rfl) (by kernel_rfl) (by kernel_rfl) (fun _ _ _ h => h) (Or.inl ⟨by rfl, fun w => by go_simp⟩) ?_
            try simp only [Act.put, List.setIfInBounds_toArray, List.set_cons_zero, List.set_cons_succ]
            refine wpAny_take (i := 9) (oi := { dst := some 62, op := Go.Op.nilCheck (Go.Operand.tmp 53), type := 0, pos := "isa.go:56", after := #[{ on := 0, ground := Go.Ground.data }, { on := 0, ground := Go.Ground.phase }, { on := 1, ground := Go.Ground.phase }, { on := 2, ground := Go.Ground.phase }, { on := 3, ground := Go.Ground.phase }, { on := 4, ground := Go.Ground.phase }, { on := 5, ground := Go.Ground.phase }, { on := 6, ground := Go.Ground.phase }, { on := 7, ground := Go.Ground.phase }, { on := 8, ground := Go.Ground.phase }], guard := none }) (v := .pointer (some p2)) rfl (by kernel_rfl) (by kernel_rfl) (by kernel_rfl) (fun _ _ _ h => h) (Or.inl ⟨by rfl, fun w => by go_simp⟩) ?_
            try simp only [Act.put, List.setIfInBounds_toArray, List.set_cons_zero, List.set_cons_succ]
            refine wpAny_ready (rs := [10]) (by kernel_rfl) (by simp) ?_
            refine AllReady.cons (o := { dst := none, op := Go.Op.store 3 (Go.Operand.tmp 62) (Go.Operand.tmp 61), type := 0, pos := "isa.go:56", after := #[{ on := 9, ground := Go.Ground.data }, { on := 8, ground := Go.Ground.data }, { on := 0, ground := Go.Ground.phase }, { on := 1, ground := Go.Ground.phase }, { on := 2, ground := Go.Ground.phase }, { on := 3, ground := Go.Ground.phase }, { on := 4, ground := Go.Ground.phase }, { on := 5, ground := Go.Ground.phase }, { on := 6, ground := Go.Ground.phase }, { on := 7, ground := Go.Ground.phase }, { on := 8, ground := Go.Ground.phase }], guard := none }) rfl (fun K hK => ?_) AllReady.nil
            go_simp
            refine hK _ _ ?_
            clear hK K
            refine wpAny_done (by kernel_rfl) ?_ _
            refine onlyN_normal ?_
            gi_wp2
            exact ⟨(((KeepsOthers.setCell _ _ _).trans (KeepsOthers.drew _)).trans (KeepsOthers.setCell _ _ _)).from _, HKR.out.trans (kb_drew (HKS.out _)), ⟨(HDR.out.1.far (p := ⟨w3.heap.size + 1, 0, none⟩) (by have := HSZ.out; show w3.heap.size + 1 ≠ w.heap.size; omega) _).far (p := p2) (fun h => HNE.out.2.2.1 h.symm) _, Boxed.apart (HDR.out.2.other (by omega) _) (p := p2) (fun h => HNE.out.2.1 h.symm) _, by rw [HST.out]; exact Boxed.apart (HBL.out.set _) (p := p2) (fun h => HNE.out.1 h.symm) _, by rw [HST.out]; have h := HSET.out ((t % 4096 : Nat) : Int); rw [HTT.out.1] at h ⊢; exact h⟩, ((HB.out.setCell (p := ⟨w3.heap.size + 1, 0, none⟩) (by have := HSZ.out; show w.heap.size ≤ w3.heap.size + 1; omega) _).drew).setCell (p := p2) HNE.out.2.2.2 _⟩
      case done =>
        rintro D ys W hD ⟨U, hU, rfl⟩ ⟨⟨bR, bW, bL, bB⟩, hB⟩ hK
        rw [kd_adr F (show U ≠ w2.heap.size by have := HSZ.out; omega)] at bB
        obtain ⟨Q2, hQ2⟩ : ∃ Q2, Q2 = ((fldsT F).foldl (dcStep wd) (bitsN (fldsT F), Q0)).2 := ⟨_, rfl⟩
        rw [← hQ2] at bB
        have hv : decV l = .tuple #[Q2.val, .bool true] := by
          unfold decV
          rw [HDQ.out, HOK.out, if_pos rfl, ← HWD.out.2.1, ← HWD.out.1]
          unfold dcQ
          rw [← HQ0.out, ← hQ2]
        obtain ⟨d0, d1, d2, d3, d4, d5, d6, d7, d8, d9, d10, d11⟩ := bx_cells bB
        obtain ⟨z0, z1, z2, z3, z4, z5, z6, z7, z8, z9, z10, z11, f0, f1, f2, f3, f4, f5, f6, f7, f8, f9, f10, f11⟩ := bx_zero bR
        have HV := Lib.hid hv
        have HR9 := Lib.hid (put12_at bR Q2)
        have HK9 := Lib.hid ((put12_keeps W w.heap.size Q2).same D _ hK rfl)
        have HB9 := Lib.hid (put12_below hB (Nat.le_refl _) Q2)
        have HDD := Lib.hid (show w.heap.size ≤ D by have := HSZ.out; omega)
        clear bR bW bL bB hB hK hQ2 hv
        gi_wp2
        refine ⟨by simp, .inl ⟨_, _, rfl, run_takeDeferred HK9.out, ?_⟩⟩
        refine ⟨_, results_ct rfl rfl rfl (load_ins (Bx.ab HR9.out (grownBy_putObj' _ D (.deferred none)) (fun r e => by cases e; exact ⟨_, HK9.out, rfl⟩))), by rw [HV.out]; rfl, ?_⟩
        exact HB9.out.trans (belowK_b (w := w) (Nat.le_refl _) _ D _ _ HDD.out HK9.out rfl rfl)
      case stop =>
        rintro D pre W hD h
        exact h.elim
    · have hv : decV l = .tuple #[Ins.zero.val, .bool false] := by
        have h0 : decB l = false := by simpa using hok
        unfold decV decQ
        rw [h0]
        rfl
      have HV := Lib.hid hv
      obtain ⟨z0, z1, z2, z3, z4, z5, z6, z7, z8, z9, z10, z11, f0, f1, f2, f3, f4, f5, f6, f7, f8, f9, f10, f11⟩ := bx_zero HR2.out
      have hbn : b = false ∨ ¬ nn ≤ n := by
        cases b with
        | false => exact .inl rfl
        | true =>
          refine .inr fun h => hok ?_
          rw [HDB.out, ← HLN.out, Bool.true_and]
          exact decide_eq_true h
      clear hok hv
      rcases hbn with rfl | hlt
      · gi_wp2
        exact ⟨_, results_ct rfl rfl rfl (load_ins (put12_at HR2.out Ins.zero)), by rw [HV.out]; rfl, put12_below HB2.out (Nat.le_refl _) Ins.zero⟩
      · cases b with
        | false =>
          gi_wp2
          exact ⟨_, results_ct rfl rfl rfl (load_ins (put12_at HR2.out Ins.zero)), by rw [HV.out]; rfl, put12_below HB2.out (Nat.le_refl _) Ins.zero⟩
        | true =>
          have hltI : (n : Int) < (nn : Int) := by omega
          gi_wp2
          exact ⟨_, results_ct rfl rfl rfl (load_ins (put12_at HR2.out Ins.zero)), by rw [HV.out]; rfl, put12_below HB2.out (Nat.le_refl _) Ins.zero⟩

end E
end Go.Proofs.YtaodghaicmjadaaDoor

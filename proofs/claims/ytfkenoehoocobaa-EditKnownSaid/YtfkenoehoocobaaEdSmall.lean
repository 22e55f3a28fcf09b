/- The program's editor in memory: what show, begin, separate and condition do with it; the map of the control bytes. -/
import Derived.Test.YtfkenoehoocobaaEdBase
namespace Go.Proofs.Ytfkenoehoocobaa
open Go.RowKit
set_option linter.unusedVariables false
namespace E

/-- The map of the control bytes. -/
def ctlM : Array MapEntry := #[⟨.int .u8 32, .func (.func 28) #[] #[], 0⟩, ⟨.int .u8 33, .func (.func 29) #[] #[], 1⟩, ⟨.int .u8 34, .func (.func 30) #[] #[], 2⟩]
theorem controls_any (w : World) : Calls Try.prog 23 #[] w (fun e w' => ∃ g, e = .returned (.map (some g)) ∧ w.heap.size ≤ g ∧ Mp w' g ctlM 3 ∧ Below w.heap.size w w') := by
  have hmm := @run_makeMap Try.prog
  have m0 : Mp (w.alloc (.map #[] 0)) w.heap.size #[] 0 := (MapKept.heap_alloc w _).1
  have e1 := ins_new m0 32 (.func (.func 28) #[] #[]) rfl
  have m1 := mpPut_at m0.lt (#[].push ⟨.int .u8 (32 : Nat), .func (.func 28) #[] #[], 0⟩) (0 + 1)
  have b1 := mpPut_below (o := .map (#[].push ⟨.int .u8 (32 : Nat), .func (.func 28) #[] #[], 0⟩) (0 + 1)) (below_new w (.map #[] 0)) (Nat.le_refl _)
  generalize mpPut (w.alloc (.map #[] 0)) w.heap.size (.map (#[].push ⟨.int .u8 (32 : Nat), .func (.func 28) #[] #[], 0⟩) (0 + 1)) = w1 at *
  have e2 := ins_new m1 33 (.func (.func 29) #[] #[]) rfl
  have m2 := mpPut_at m1.lt ((#[].push ⟨.int .u8 (32 : Nat), .func (.func 28) #[] #[], 0⟩).push ⟨.int .u8 (33 : Nat), .func (.func 29) #[] #[], 0 + 1⟩) (0 + 1 + 1)
  have b2 := mpPut_below (o := .map ((#[].push ⟨.int .u8 (32 : Nat), .func (.func 28) #[] #[], 0⟩).push ⟨.int .u8 (33 : Nat), .func (.func 29) #[] #[], 0 + 1⟩) (0 + 1 + 1)) b1 (Nat.le_refl _)
  generalize mpPut w1 w.heap.size (.map ((#[].push ⟨.int .u8 (32 : Nat), .func (.func 28) #[] #[], 0⟩).push ⟨.int .u8 (33 : Nat), .func (.func 29) #[] #[], 0 + 1⟩) (0 + 1 + 1)) = w2 at *
  have e3 := ins_new m2 34 (.func (.func 30) #[] #[]) rfl
  have m3 := mpPut_at m2.lt (((#[].push ⟨.int .u8 (32 : Nat), .func (.func 28) #[] #[], 0⟩).push ⟨.int .u8 (33 : Nat), .func (.func 29) #[] #[], 0 + 1⟩).push ⟨.int .u8 (34 : Nat), .func (.func 30) #[] #[], 0 + 1 + 1⟩) (0 + 1 + 1 + 1)
  have b3 := mpPut_below (o := .map (((#[].push ⟨.int .u8 (32 : Nat), .func (.func 28) #[] #[], 0⟩).push ⟨.int .u8 (33 : Nat), .func (.func 29) #[] #[], 0 + 1⟩).push ⟨.int .u8 (34 : Nat), .func (.func 30) #[] #[], 0 + 1 + 1⟩) (0 + 1 + 1 + 1)) b2 (Nat.le_refl _)
  generalize mpPut w2 w.heap.size (.map (((#[].push ⟨.int .u8 (32 : Nat), .func (.func 28) #[] #[], 0⟩).push ⟨.int .u8 (33 : Nat), .func (.func 29) #[] #[], 0 + 1⟩).push ⟨.int .u8 (34 : Nat), .func (.func 30) #[] #[], 0 + 1 + 1⟩) (0 + 1 + 1 + 1)) = w3 at *
  have M3 : Hid (Mp w3 w.heap.size ctlM 3) := Lib.hid m3
  have B3 := Lib.hid b3
  rw [show (((32 : Nat)) : Int) = 32 from rfl] at e1
  rw [show (((33 : Nat)) : Int) = 33 from rfl] at e2
  rw [show (((34 : Nat)) : Int) = 34 from rfl] at e3
  clear m0 m1 m2 m3 b1 b2 b3
  go_enter Try.func23, Try.ntmps23
  go_wp2
  go_ret
  exact ⟨_, rfl, Nat.le_refl _, M3.out, B3.out⟩
theorem look_ctl {w : World} {g : Nat} (h : Mp w g ctlM 3) (k : Int) (r : Option (Nat × Value)) (hr : Instr.findNow (.int .u8) (.int .u8 k) ctlM.toList 0 = some r) :
    (Instr.lookup 52 (.map (some g)) (.int .u8 k) true).run Try.prog w = .ok (.tuple #[(r.map (·.2)).getD .nilFunc, .bool r.isSome]) w := by
  have h1 := MapKept.run_getObj_map (P := Try.prog) h
  have h2 := MapKept.run_findKey (P := Try.prog) (w := w) Try.underlying5 hr
  have h4 : (Instr.checkKey ctlM.isEmpty 10000 5 (.int .u8 k)).run Try.prog w = .ok () w := by
    unfold Instr.checkKey
    simp only [Sem.run_bind, run_underlying Try.underlying5, Result.andThen]
    rfl
  have h5 : ∀ w, (zeroValue 55).run Try.prog w = .ok .nilFunc w := fun w => by kernel_rfl
  cases r with
  | none => simp [Instr.lookup, run_underlying Try.underlying52, Result.andThen, h1, h4, h2, h5]
  | some x =>
    obtain ⟨i, v⟩ := x
    simp [Instr.lookup, run_underlying Try.underlying52, Result.andThen, h1, h4, h2]

/-! ### The editor -/

/-- The editor as it lies in block G. -/
def EdM (w : World) (G : Nat) (sl : Value) (r : Bool) (fill : UInt8) (on nz : Bool) (mk : Int) (text : List UInt8) : Prop :=
  ∃ tv, Bx w G 51 #[sl, .bool r, tv, .int .u8 (fill.toNat : Int), .bool on, .bool nz, .int .i64 mk] ∧ w.ownsRow (G + 1) 5 1 tv text.length (bsU text)
theorem Bx.seven {w : World} {g : Nat} {t : TypeId} {a b c d e f h : Value} (hB : Bx w g t #[a, b, c, d, e, f, h]) : (w.cell? ⟨g, 0, none⟩ = some a ∧ w.cell? ⟨g, 1, none⟩ = some b ∧ w.cell? ⟨g, 2, none⟩ = some c ∧ w.cell? ⟨g, 3, none⟩ = some d ∧ w.cell? ⟨g, 4, none⟩ = some e ∧ w.cell? ⟨g, 5, none⟩ = some f ∧ w.cell? ⟨g, 6, none⟩ = some h) ∧ ∀ i, w.frozen? ⟨g, i, none⟩ = false :=
  ⟨⟨hB.cell 0, hB.cell 1, hB.cell 2, hB.cell 3, hB.cell 4, hB.cell 5, hB.cell 6⟩, fun i => hB.frozen i⟩
theorem own_set {w : World} {g i base n : Nat} {u sv : Value} {xs : List Value} (h : w.ownsRow base 5 1 sv n xs) (hg : g < base) : (w.setCell ⟨g, i, none⟩ u).ownsRow base 5 1 sv n xs := ownsRow_setCell_below h hg u
/-- What a method of an editor in block G leaves: what lies below G, and each map. -/
def BelM (G : Nat) (w w' : World) : Prop := Below G w w' ∧ ∀ g es c, g ≠ G → Mp w g es c → Mp w' g es c
theorem BelM.refl (G : Nat) (w : World) : BelM G w w := ⟨Below.refl _ _, fun _ _ _ _ h => h⟩
theorem BelM.trans {G : Nat} {a b c : World} (h : BelM G a b) (k : BelM G b c) : BelM G a c := ⟨h.1.trans k.1, fun g es n hg hm => k.2 g es n hg (h.2 g es n hg hm)⟩
theorem BelM.set {G i : Nat} {w W : World} (h : BelM G w W) (u : Value) : BelM G w (W.setCell ⟨G, i, none⟩ u) :=
  ⟨h.1.setCell (Nat.le_refl G) u, fun g es n hg hm => (Below.heap_setCell W ⟨G, i, none⟩ u g hg).trans (h.2 g es n hg hm)⟩
theorem BelM.bel {G : Nat} {w w' : World} (hb : Below w.heap.size w w') (hg : G ≤ w.heap.size) : BelM G w w' := ⟨hb.mono hg, fun g es n _ hm => hm.below hb⟩
/-- What a method without results leaves of the editor. -/
def MPost (w : World) (G : Nat) (sl : Value) (r : Bool) (fill : UInt8) (on nz : Bool) (mk : Int) (text : List UInt8) (e : Ending) (w' : World) : Prop := e = .returned (.tuple #[]) ∧ EdM w' G sl r fill on nz mk text ∧ BelM G w w'
set_option maxRecDepth 100000 in
theorem show_any (G : Nat) (sl : Value) (r : Bool) (fill : UInt8) (on nz : Bool) (mk : Int) (text : List UInt8) (b : UInt8) (w : World) (hl : text.length ≤ 1000) (h : EdM w G sl r fill on nz mk text) :
    Calls Try.prog 24 #[.pointer (some ⟨G, 0, none⟩), .int .u8 (b.toNat : Int)] w (MPost w G sl r fill on nz mk (text ++ [if on then b else fill])) := by
  obtain ⟨tv, hB, hO⟩ := h
  obtain ⟨⟨c0, c1, c2, c3, c4, c5, c6⟩, fz⟩ := hB.seven
  have f2 := fz 2
  have HB := Lib.hid hB
  have HO := Lib.hid hO
  have HL := Lib.hid hl
  have HG := Lib.hid hB.lt
  obtain ⟨i0, hi, hz0, hz1, hz2⟩ := info_parts info5
  clear hB hO fz hl
  have fin : ∀ (x : UInt8) (v' : Value) (w1 : World), w1.ownsRow (G + 1) 5 1 v' (text.length + 1) (bsU text ++ [.int .u8 (x.toNat : Int)]) → (w.alloc (.cells #[.int .u8 (x.toNat : Int)] 5)).grownBy w1 tv.ownBlock → (∃ p c, v' = .slice p (text.length + 1) c) ∧ (w1.cell? ⟨G, 2, none⟩ = some tv ∧ w1.frozen? ⟨G, 2, none⟩ = false) ∧ MPost w G sl r fill on nz mk (text ++ [x]) (.returned (.tuple #[])) (w1.setCell ⟨G, 2, none⟩ v') := fun x v' w1 h1 h2 => by
    have hne : some G ≠ tv.ownBlock := fun e => by
      have := (HO.out.lt G e.symm).1
      omega
    have hB1 : Bx w1 G 51 #[sl, .bool r, tv, .int .u8 (fill.toNat : Int), .bool on, .bool nz, .int .i64 mk] := ((HB.out.below (below_new w _)).grown h2 hne)
    have hO1 : w1.ownsRow (G + 1) 5 1 v' (text ++ [x]).length (bsU (text ++ [x])) := by rw [bsU_snoc, List.length_append]; exact h1
    obtain ⟨pv, cv, hv, _⟩ := Hold.full (show Hold w1 (G + 1) v' (text ++ [x]) from hO1)
    refine ⟨⟨pv, cv, by rw [hv, List.length_append]; rfl⟩, ⟨hB1.cell 2, hB1.frozen 2⟩, rfl, ⟨v', hB1.set 2 v', own_set hO1 (by omega)⟩, ?_⟩
    refine BelM.set ⟨?_, fun g es n hg hm => ?_⟩ _
    · refine Below.grown ((below_new w _).mono (Nat.le_of_lt HG.out)) h2 (by have := HG.out; simp; omega) (fun k hk => ?_)
      have := (HO.out.lt k hk).1
      omega
    · have hm1 := hm.below (below_new w (.cells #[.int .u8 (x.toNat : Int)] 5))
      refine (h2.block g hm1.lt (fun hk => ?_)).trans hm1
      rcases HO.out.2 with ⟨e, _⟩ | ⟨g', cap, cur, e, _, hgg, _⟩
      · rw [e] at hk
        cases hk
      · rw [e] at hk
        obtain rfl : g = g' := by simpa [Value.ownBlock] using hk
        have hm' : w.heap[g]? = some (.map es n) := hm
        rw [hgg] at hm'
        cases hm'
  have FIN := Lib.hid fin
  clear fin
  cases on
  · go_enter Try.func24, Try.ntmps24
    go_wp2_with (at_builtin; refine wpList_append_own _ rfl (.tmp 17) (.tmp 19) 22 rfl (G + 1) 5 i0 (.int .u8 0) 1 1 Try.underlying22 hi hz0 hz1 hz2 rfl (by decide) tv text.length (bsU text) rfl (HO.out.alloc _) ⟨w.heap.size, 0, none⟩ 1 1 [_] rfl rfl (cellNew _ _ _) (by intro u hu; simp at hu; subst hu; rfl) (by unfold maxLen; have := HL.out; omega) (by have := HL.out; omega) (by have := HG.out; simp; omega) ?_)
    intro v' w1 hown hgrow hnil
    obtain ⟨⟨pv, cv, rfl⟩, ⟨k2, k3⟩, hfin⟩ := FIN.out fill v' w1 hown hgrow
    have HF := Lib.hid hfin
    clear hown hgrow hnil hfin
    go_wp2
    (try simp only [Exit.inBlock, Exit.then])
    first | (refine bodyPost_ret (results_none rfl _ _ _) rfl ?_) | (refine bodyPost_end (results_none rfl _ _ _) rfl ?_)
    exact HF.out
  · go_enter Try.func24, Try.ntmps24
    go_wp2_with (at_builtin; refine wpList_append_own _ rfl (.tmp 17) (.tmp 19) 22 rfl (G + 1) 5 i0 (.int .u8 0) 1 1 Try.underlying22 hi hz0 hz1 hz2 rfl (by decide) tv text.length (bsU text) rfl (HO.out.alloc _) ⟨w.heap.size, 0, none⟩ 1 1 [_] rfl rfl (cellNew _ _ _) (by intro u hu; simp at hu; subst hu; rfl) (by unfold maxLen; have := HL.out; omega) (by have := HL.out; omega) (by have := HG.out; simp; omega) ?_)
    intro v' w1 hown hgrow hnil
    obtain ⟨⟨pv, cv, rfl⟩, ⟨k2, k3⟩, hfin⟩ := FIN.out b v' w1 hown hgrow
    have HF := Lib.hid hfin
    clear hown hgrow hnil hfin
    go_wp2
    (try simp only [Exit.inBlock, Exit.then])
    first | (refine bodyPost_ret (results_none rfl _ _ _) rfl ?_) | (refine bodyPost_end (results_none rfl _ _ _) rfl ?_)
    exact HF.out
set_option maxRecDepth 100000 in
theorem condition_any (G : Nat) (sl : Value) (r : Bool) (fill : UInt8) (on nz : Bool) (mk : Int) (text : List UInt8) (w : World) (h : EdM w G sl r fill on nz mk text) :
    Calls Try.prog 25 #[.pointer (some ⟨G, 0, none⟩)] w fun e w' => e = .returned (.int .i64 ((if nz then (if on then 1 else 2) else 0 : Nat) : Int)) ∧ w = w' := by
  obtain ⟨tv, hB, hO⟩ := h
  obtain ⟨⟨c0, c1, c2, c3, c4, c5, c6⟩, fz⟩ := hB.seven
  clear hB hO fz
  cases nz <;> cases on
  all_goals
    go_enter Try.func25, Try.ntmps25
    go_wp2
    go_ret
    exact ⟨rfl, rfl⟩
theorem isPlus_any (x : Nat) (w : World) : Calls Try.prog 35 #[.int .u8 (x : Int)] w fun e w' => e = .returned (.bool (decide (x ≠ 11 ∧ x ≠ 13))) ∧ w = w' := by
  by_cases h1 : x = 11
  · subst h1
    go_enter Try.func35, Try.ntmps35
    go_wp2
    go_ret
    exact ⟨by simp, rfl⟩
  · by_cases h2 : x = 13
    · subst h2
      go_enter Try.func35, Try.ntmps35
      go_wp2
      go_ret
      exact ⟨by simp, rfl⟩
    · have e1 : ((x : Int) == 11) = false := by simp; omega
      have e2 : ((x : Int) == 13) = false := by simp; omega
      have e3 : ((x : Int) != 11) = true := by simp; omega
      have e4 : ((x : Int) != 13) = true := by simp; omega
      have hv : decide (x ≠ 11 ∧ x ≠ 13) = true := by simp [h1, h2]
      rw [hv]
      clear h1 h2 hv
      go_enter Try.func35, Try.ntmps35
      go_wp2
      go_ret
      exact ⟨by simp, rfl⟩
set_option maxRecDepth 100000 in
theorem begin_any (G : Nat) (sl : Value) (r : Bool) (fill : UInt8) (on nz : Bool) (mk : Int) (text : List UInt8) (w : World) (h : EdM w G sl r fill on nz mk text) :
    Calls Try.prog 33 #[.pointer (some ⟨G, 0, none⟩)] w (MPost w G sl r fill true true (if on then mk else (text.length : Int)) text) := by
  obtain ⟨tv, hB, hO⟩ := h
  obtain ⟨⟨c0, c1, c2, c3, c4, c5, c6⟩, fz⟩ := hB.seven
  have f4 := fz 4
  have f5 := fz 5
  have f6 := fz 6
  obtain ⟨pt, ct, htv⟩ : ∃ p c, tv = .slice p text.length c := by
    obtain ⟨p, c, h, _⟩ := Hold.full (show Hold w (G + 1) tv text from hO)
    exact ⟨p, c, h⟩
  subst htv
  have HB := Lib.hid hB
  have HO := Lib.hid hO
  clear hB hO fz
  cases on
  · go_enter Try.func33, Try.ntmps33
    go_wp2
    (try simp only [Exit.inBlock, Exit.then])
    first | (refine bodyPost_ret (results_none rfl _ _ _) rfl ?_) | (refine bodyPost_end (results_none rfl _ _ _) rfl ?_)
    exact ⟨rfl, ⟨_, ((HB.out.set 6 _).set 4 _).set 5 _, own_set (own_set (own_set HO.out (by omega)) (by omega)) (by omega)⟩, (((BelM.refl G w).set _).set _).set _⟩
  · go_enter Try.func33, Try.ntmps33
    go_wp2
    (try simp only [Exit.inBlock, Exit.then])
    first | (refine bodyPost_ret (results_none rfl _ _ _) rfl ?_) | (refine bodyPost_end (results_none rfl _ _ _) rfl ?_)
    exact ⟨rfl, ⟨_, (HB.out.set 4 _).set 5 _, own_set (own_set HO.out (by omega)) (by omega)⟩, ((BelM.refl G w).set _).set _⟩
set_option maxRecDepth 100000 in
theorem separate_any (G : Nat) (sl : Value) (r : Bool) (fill : UInt8) (on nz : Bool) (mk : Int) (text : List UInt8) (w : World) (hl : text.length ≤ 1000) (h : EdM w G sl r fill on nz mk text) :
    Calls Try.prog 30 #[.pointer (some ⟨G, 0, none⟩)] w (fun e w' => e = .returned (.int .i64 0) ∧ EdM w' G sl r fill false false mk (text ++ [fill]) ∧ BelM G w w') := by
  obtain ⟨tv, hB, hO⟩ := h
  obtain ⟨⟨c0, c1, c2, c3, c4, c5, c6⟩, fz⟩ := hB.seven
  have f4 := fz 4
  have f5 := fz 5
  have H1 : Hid (EdM ((w.setCell ⟨G, 4, none⟩ (.bool false)).setCell ⟨G, 5, none⟩ (.bool false)) G sl r fill false false mk text) := Lib.hid ⟨tv, (hB.set 4 _).set 5 _, own_set (own_set hO (by omega)) (by omega)⟩
  have H2 : Hid (BelM G w ((w.setCell ⟨G, 4, none⟩ (.bool false)).setCell ⟨G, 5, none⟩ (.bool false))) := Lib.hid (((BelM.refl G w).set _).set _)
  have HS := Lib.hid (fun W (h : EdM W G sl r fill false false mk text) => show_any G sl r fill false false mk text fill W hl h)
  clear hB hO fz hl
  go_enter Try.func30, Try.ntmps30
  go_wp2_with fail
  refine (HS.out _ H1.out).mono ?_
  rintro e w1 ⟨rfl, hE, hb⟩
  have HE := Lib.hid hE
  have HB2 := Lib.hid (H2.out.trans hb)
  clear hE hb
  go_wp2
  go_ret
  exact ⟨rfl, HE.out, HB2.out⟩

end E
end Go.Proofs.Ytfkenoehoocobaa

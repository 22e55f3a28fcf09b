/- The contract of build: a field of a format out of whatever digits an iterator yields. -/
import Derived.RangeFuncNested
import Derived.RangeFuncBound
import Derived.RangeFuncCalls
import Derived.RangeFuncLeaves
import Derived.Shelf.Abstract
import Derived.Shelf.RegionOpen
import Derived.WalkKit
import Derived.OwnWalkIn
import Derived.TacticsInMore
import Derived.LoopNIn
import Derived.LoopIn
import Derived.Laws.EntriesVeiled
import Derived.Test.YtlpekknhaaddcaaDoorPkIter
import Derived.Test.YtlpekknhaaddcaaDoorPkRep
namespace Go.Proofs.YtlpekknhaaddcaaDoor
open Go.RowKit Go.Shelf
set_option linter.unusedVariables false
namespace E
attribute [local go_sem] Oper.semAt_some

/-- A layout that lies in a block. -/
def LayB (w : World) (D sp la st : Nat) (em : UInt8) : Prop := w.heap[D]? = some (.cells #[.int .i64 (sp : Int), .int .i64 (la : Int), .int .i64 (st : Int), .int .u8 (em.toNat : Int)] 98 (0, 0))
theorem layB_new (w : World) (sp la st : Nat) (em : UInt8) : LayB (w.alloc (.cells #[.int .i64 (sp : Int), .int .i64 (la : Int), .int .i64 (st : Int), .int .u8 (em.toNat : Int)] 98)) w.heap.size sp la st em := World.alloc_heap_new w _
theorem LayB.lt {w : World} {D sp la st : Nat} {em : UInt8} (h : LayB w D sp la st em) : D < w.heap.size := (Array.getElem?_eq_some_iff.1 h).1
theorem LayB.kept {w w' : World} {row : Option Nat} {D sp la st : Nat} {em : UInt8} (h : LayB w D sp la st em) (hg : w.grownBy w' row) (hne : some D ≠ row) : LayB w' D sp la st em := (hg.block D h.lt hne).trans h
theorem LayB.alloc {w : World} {D sp la st : Nat} {em : UInt8} (h : LayB w D sp la st em) (o : Obj) : LayB (w.alloc o) D sp la st em := h.kept (World.grownBy_alloc w o none) (by simp)
theorem LayB.cells {w : World} {D sp la st : Nat} {em : UInt8} (h : LayB w D sp la st em) : w.cell? ⟨D, 0, none⟩ = some (.int .i64 (sp : Int)) ∧ w.cell? ⟨D, 1, none⟩ = some (.int .i64 (la : Int)) ∧ w.cell? ⟨D, 2, none⟩ = some (.int .i64 (st : Int)) ∧ w.cell? ⟨D, 3, none⟩ = some (.int .u8 (em.toNat : Int)) := by
  have h' : w.heap[D]? = _ := h
  refine ⟨?_, ?_, ?_, ?_⟩ <;> simp [World.cell?, h']
theorem cell_one (w : World) (v : Value) (t : TypeId) {n : Nat} (hn : n = w.heap.size) : (w.alloc (.cells #[v] t)).cell? ⟨n, 0, none⟩ = some v := by
  subst hn
  simp [go_sem]
theorem run_loadVar_one {P : Program} {w : World} {a : Addr} {ty : TypeId} {d : TypeDesc} {v : Value} (hc : w.cell? a = some v) (hu : P.underlying ty = some d) (hd : (match d with | .struct _ | .array _ _ => true | _ => false) = false) :
    (loadVar ty a).run P w = .ok v w := by
  have hagg : (isAgg ty).run P w = .ok false w := by
    unfold isAgg
    rw [Sem.run_bind, run_underlying hu w]
    cases d <;> simp_all
  simp [loadVar, Sem.run_bind, hagg, Result.andThen, go_sem, hc]
theorem results_cell2 {P : Program} {fn : Func} {p q : Tmp} {t u : TypeId} {d f : TypeDesc} {w : World} {a b : Addr} {v x : Value} {tmps : Array Value} (h : fn.results = #[.cell p t, .cell q u])
    (hp : tmps.getD p undef = .pointer (some a)) (hq : tmps.getD q undef = .pointer (some b)) (ha : w.cell? a = some v) (hb : w.cell? b = some x)
    (ht : P.underlying t = some d) (hd : (match d with | .struct _ | .array _ _ => true | _ => false) = false) (hu : P.underlying u = some f) (hf : (match f with | .struct _ | .array _ _ => true | _ => false) = false) :
    (results fn tmps).run P w = .ok (.tuple #[v, x]) w := by
  have hp' : tmps[p]?.getD undef = .pointer (some a) := by simpa using hp
  have hq' : tmps[q]?.getD undef = .pointer (some b) := by simpa using hq
  simp [results, h, hp', hq', asAddr, Sem.run_bind, Result.andThen, run_loadVar_one ha ht hd, run_loadVar_one hb hu hf]
theorem not_row {W : World} {B : Nat} {o : Obj} {row : Option Nat} (hB : W.heap[B]? = some o) (hc : o.isCells = true) (hrow : ∀ r, row = some r → ∃ o : Obj, W.heap[r]? = some o ∧ o.isCells = false) : some B ≠ row := fun e => by
  obtain ⟨o', ho, hn⟩ := hrow B e.symm
  rw [hB] at ho
  cases ho
  rw [hc] at hn
  cases hn
theorem Boxed.ab {W W' : World} {B : Nat} {t : TypeId} {v : Value} {row : Option Nat} (h : Boxed W B t v) (hg : W.grownBy W' row) (hrow : ∀ r, row = some r → ∃ o : Obj, W.heap[r]? = some o ∧ o.isCells = false) : Boxed W' B t v :=
  h.kept hg (not_row h rfl hrow)
theorem Blk.ab {W W' : World} {base g : Nat} {l : List UInt8} {row : Option Nat} (h : Blk W base g l) (hg : W.grownBy W' row) (hrow : ∀ r, row = some r → ∃ o : Obj, W.heap[r]? = some o ∧ o.isCells = false) : Blk W' base g l := by
  obtain ⟨_, cur, hh, _⟩ := id h
  exact h.kept hg (not_row hh rfl hrow)
/-- Between two rounds: pre has been written. -/
def BI (D B2 B3 n la st : Nat) (L1 : List UInt8) (pre : List (Fin 16)) (W : World) : Prop :=
  Boxed W (D + 1) 22 (.slice (some ⟨D + 4, 0, none⟩) n n) ∧ Boxed W (D + 2) 4 (.bool false) ∧ Boxed W B2 22 (.slice (some ⟨D + 4, 0, none⟩) n n) ∧ Boxed W (B2 + 1) 3 (.int .i64 (st : Int)) ∧
    Boxed W (B2 + 2) 3 (.int .i64 ((la + st * pre.length : Nat) : Int)) ∧
    Boxed W B3 118 (.func (.func 112) #[] #[.pointer (some ⟨B2 + 2, 0, none⟩), .pointer (some ⟨B2, 0, none⟩), .pointer (some ⟨B2 + 1, 0, none⟩)]) ∧
    Blk W D (D + 4) (wr L1 la st pre) ∧ ∀ j, j < pre.length → la + st * j < 2 * n
theorem BI.own (D B2 B3 n la st : Nat) (L1 : List UInt8) : Go.Own (BI D B2 B3 n la st L1) := fun s X Y row ⟨h1, h2, h3, h4, h5, h6, h7, h8⟩ hg hr =>
  ⟨Boxed.ab h1 hg hr, Boxed.ab h2 hg hr, Boxed.ab h3 hg hr, Boxed.ab h4 hg hr, Boxed.ab h5 hg hr, Boxed.ab h6 hg hr, Blk.ab h7 hg hr, h8⟩
/-- A round has left: there was no place. -/
def BX (D n la st : Nat) (L1 : List UInt8) (c : Code) (pre : List (Fin 16)) (W : World) : Prop :=
  c = .ret ∧ Boxed W (D + 1) 22 (.slice (some ⟨D + 4, 0, none⟩) n n) ∧ Boxed W (D + 2) 4 (.bool true) ∧ ∃ pre0 x, pre = pre0 ++ [x] ∧ Blk W D (D + 4) (wr L1 la st pre0) ∧ (∀ j, j < pre0.length → la + st * j < 2 * n) ∧ 2 * n ≤ la + st * pre0.length
theorem BX.own (D n la st : Nat) (L1 : List UInt8) (c : Code) : Go.Own (BX D n la st L1 c) := fun s X Y row ⟨h0, h1, h2, p, x, hp, h3, h4⟩ hg hr =>
  ⟨h0, Boxed.ab h1 hg hr, Boxed.ab h2 hg hr, p, x, hp, Blk.ab h3 hg hr, h4⟩
/-- What build leaves. -/
def BuildPost (w : World) (n K sp la st : Nat) (em : UInt8) (s : Fin 16) (ds : List (Fin 16)) (e : Ending) (w' : World) : Prop :=
  ∃ g, e = .returned (.tuple #[.slice (some ⟨g, 0, none⟩) n n, .bool (decide (K < ds.length))]) ∧ Blk w' w.heap.size g (outL n sp la st em s ds) ∧ Below w.heap.size w w'
set_option maxRecDepth 100000 in
set_option maxHeartbeats 2000000 in
theorem build_any (gf : Nat) (lb : Array Value) (hgf : ∀ args w, (callFunc gf args).run Tryd.prog w = .ok (.enter gf args) w) (n K sp la st : Nat) (em : UInt8) (s : Fin 16) (ds : List (Fin 16)) (w : World) (N : Nat)
    (hn : 1 ≤ n) (hn2 : n ≤ 16) (hst : st ≤ 2) (hst1 : 1 ≤ st) (hla : la ≤ 4) (hsp : sp < 2 * n) (hne : ∀ j, sp ≠ la + st * j) (hK : ∀ i, i < K ↔ la + st * i < 2 * n)
    (hseq : ∀ m, 1 ≤ m → SeqStopsK Fence.wide m Tryd.prog gf lb encD (Below w.heap.size) (fun ys => ys = ds) (fun pre => pre <+: ds) N w) :
    Calls Tryd.prog 99 #[layV sp la st em, .int .u8 (s.val : Int), .func (.func gf) #[] lb, .int .i64 (n : Int)] w (BuildPost w n K sp la st em s ds) := by
  refine (callsIn_wide (n := 5)).1 ?_
  have hro : Fence.wide.round = none := rfl
  have HQ := Lib.hid hseq
  have HG := Lib.hid hgf
  have HK := Lib.hid hK
  have HNE := Lib.hid hne
  clear hseq hgf hK hne
  unfold layV
  refine callsIn_of_wp_marks Tryd.func99 rfl trivial ?_ hro
  simp only [Tryd.ntmps99, List.size_toArray, List.length_cons, List.length_nil, Nat.reduceAdd, Nat.reduceSub, Array.replicate_succ, Array.replicate_zero, List.push_toArray, List.append_toArray, List.nil_append, List.cons_append]
  gi_wp2_with fail
  refine ⟨trivial, (callsIn_wide.2 (repeat_any em _ n _ (by omega) (by omega) (cell_one _ _ _ (by simp)))).mono ?_⟩
  rintro e w1 ⟨rfl, hbk, hb1⟩
  rw [List.length_replicate]
  simp only [World.size_alloc] at hbk hb1 ⊢
  have bL : LayB w1 w.heap.size sp la st em := (hb1.block w.heap.size (by omega)).trans ((((layB_new w sp la st em).alloc _).alloc _).alloc _)
  have bB : Boxed w1 (w.heap.size + 1) 22 (.slice none 0 0) := (hb1.block _ (by omega)).trans (((boxed_new2 w _ _ _).alloc _).alloc _)
  have bO : Boxed w1 (w.heap.size + 2) 4 (.bool false) := (hb1.block _ (by omega)).trans ((boxed_new3 w _ _ _ _).alloc _)
  have hbw : Below w.heap.size w w1 := by
    refine Below.trans ?_ (hb1.mono (by omega))
    exact ((((Below.refl _ w).alloc (Nat.le_refl _) _).alloc (by simp) _).alloc (by simp; omega) _).alloc (by simp; omega) _
  have hblk : Blk w1 w.heap.size (w.heap.size + 4) (List.replicate n em) := hbk.base' (by omega)
  clear hbk hb1
  have c1 := bB.cell
  have f1 := bB.frozen
  have hg1 := grownBy_setCell' w1 (w.heap.size + 1) (.slice (some ⟨w.heap.size + 4, 0, none⟩) n n)
  have bL2 := bL.kept hg1 (by simp)
  have bB2 := bB.set (.slice (some ⟨w.heap.size + 4, 0, none⟩) n n)
  have bO2 := bO.kept hg1 (by simp)
  have hbk2 := hblk.kept hg1 (by simp)
  have hbw2 := hbw.setCell (p := ⟨w.heap.size + 1, 0, none⟩) (by simp) (.slice (some ⟨w.heap.size + 4, 0, none⟩) n n)
  have HL := Lib.hid bL2
  have HB := Lib.hid bB2
  have HO := Lib.hid bO2
  have HR := Lib.hid hbk2
  have HBW := Lib.hid hbw2
  obtain ⟨hc0, hc1, hc2, hc3⟩ := bL2.cells
  clear bL bB bO hbw hblk hg1 bL2 bB2 bO2 hbk2 hbw2
  have hsd := Lib.hid (setDigit_any (w.heap.size + 4) n sp w.heap.size (List.replicate n em) s _ (by simp; omega) (by simpa using hsp) HR.out)
  rw [List.length_replicate] at hsd
  gi_wp2_with fail
  refine ⟨trivial, (callsIn_wide.2 hsd.out).mono ?_⟩
  rintro e w2 hp
  obtain ⟨hb2, hg2⟩ := hp.hold (by simpa using hsp) HR.out
  obtain ⟨⟨v, rfl⟩, _⟩ := hp
  have bL3 := HL.out.kept hg2 (by simp)
  have bB3 := HB.out.kept hg2 (by simp)
  have bO3 := HO.out.kept hg2 (by simp)
  have hbw3 := HBW.out.grown hg2 HBW.out.size (fun j ej => by cases ej; omega)
  clear HL HB HO HR HBW hsd hg2 hc0 hc1 hc2 hc3 c1 f1
  obtain ⟨L1, hL1⟩ : ∃ L, L = setD (List.replicate n em) sp s := ⟨_, rfl⟩
  have hlen : L1.length = n := by rw [hL1, setD_len]; simp
  rw [← hL1] at hb2
  obtain ⟨hc0, hc1, hc2, hc3⟩ := bL3.cells
  have c1 := bB3.cell
  have f1 := bB3.frozen
  have HLen := Lib.hid hlen
  have HL1 := Lib.hid hL1
  have HB := Lib.hid bB3
  have HO := Lib.hid bO3
  have HR := Lib.hid hb2
  have HBW := Lib.hid hbw3
  clear bL3 bB3 bO3 hb2 hbw3 hL1 hlen
  gi_wp2_with fail
  refine ⟨trivial, (callsIn_wide.2 (writer_any _ _ _ _ _ _)).mono ?_⟩
  rintro e w3 ⟨rfl, bx0, bx1, bx2, hg3, hsz⟩
  have bB4 := HB.out.kept hg3 (by simp)
  have bO4 := HO.out.kept hg3 (by simp)
  have hb4 := HR.out.kept hg3 (by simp)
  have hbw4 := HBW.out.grown hg3 HBW.out.size (fun j ej => by cases ej)
  have hbsz := HR.out.lt
  clear hg3 HB HO HR HBW hc0 hc1 hc2 hc3 c1 f1
  obtain ⟨B2, hB2⟩ : ∃ B, w2.heap.size = B := ⟨_, rfl⟩
  unfold writerF
  rw [hB2] at bx0 bx1 bx2 hsz hbsz ⊢
  have bf := Boxed.new w3 118 (.func (.func 112) #[] #[.pointer (some ⟨B2 + 2, 0, none⟩), .pointer (some ⟨B2, 0, none⟩), .pointer (some ⟨B2 + 1, 0, none⟩)])
  have HSZ := Lib.hid hsz
  clear hsz
  gi_wp2_with fail
  have hbw5 := hbw4.alloc hbw4.size (.cells #[.func (.func 112) #[] #[.pointer (some ⟨B2 + 2, 0, none⟩), .pointer (some ⟨B2, 0, none⟩), .pointer (some ⟨B2 + 1, 0, none⟩)]] 118)
  have hbi : BI w.heap.size B2 w3.heap.size n la st L1 [] _ := ⟨bB4.alloc _, bO4.alloc _, bx0.alloc _, bx1.alloc _, by simpa using bx2.alloc _, bf, hb4.kept (World.grownBy_alloc w3 _ none) (by simp), fun j hj => by simp at hj⟩
  have hsz4 := hbw4.size
  clear bB4 bO4 bx0 bx1 bx2 bf hb4 hbw4
  refine wpIn_rangeFunc_ownG hro (by omega) (gf := gf) (lb := lb) rfl trivial HG.out
    (HQ.out _ (by omega)) belowK_t (belowK_b (by simp; omega)) hbw5 (fun _ => rfl)
    (fun pre W => BI w.heap.size B2 w3.heap.size n la st L1 pre W ∧ Below w.heap.size w W)
    (fun c pre W => BX w.heap.size n la st L1 c pre W ∧ Below w.heap.size w W)
    (OwnFrom.and (Own.from (BI.own _ _ _ _ _ _ _) _) (ownFrom_below (Nat.le_refl _) (by simp; omega)))
    (fun c => OwnFrom.and (Own.from (BX.own _ _ _ _ _ c) _) (ownFrom_below (Nat.le_refl _) (by simp; omega)))
    ⟨hbi, hbw5⟩
    (fun x => { tmps := #[.agg #[.int .i64 (sp : Int), .int .i64 (la : Int), .int .i64 (st : Int), .int .u8 (em.toNat : Int)], .int .u8 (s.val : Int), .func (.func gf) #[] lb, .int .i64 (n : Int),
        .pointer (some ⟨w.heap.size, 0, none⟩), undef, undef, undef, .pointer (some ⟨w.heap.size + 1, 0, none⟩), .pointer (some ⟨w.heap.size + 1 + 1, 0, none⟩), .pointer (some ⟨w3.heap.size, 0, none⟩), .int .u8 (x.val : Int),
        .pointer (some ⟨w.heap.size, 3, none⟩), .int .u8 (em.toNat : Int), .slice (some ⟨w.heap.size + 1 + 1 + 1, 0, none⟩) 1 1, .int .i64 (n : Int), .slice (some ⟨w.heap.size + 1 + 1 + 1 + 1, 0, none⟩) n n,
        .slice (some ⟨w.heap.size + 1 + 1 + 1 + 1, 0, none⟩) n n, .pointer (some ⟨w.heap.size, 0, none⟩), .int .i64 (sp : Int), .int .u8 (s.val : Int), v, .slice (some ⟨w.heap.size + 4, 0, none⟩) n n,
        .pointer (some ⟨w.heap.size, 1, none⟩), .int .i64 (la : Int), .pointer (some ⟨w.heap.size, 2, none⟩), .int .i64 (st : Int),
        .func (.func 112) #[] #[.pointer (some ⟨B2 + 2, 0, none⟩), .pointer (some ⟨B2, 0, none⟩), .pointer (some ⟨B2 + 1, 0, none⟩)],
        .func (.func gf) #[] lb, .int .u8 (x.val : Int), undef, undef, undef, undef, undef, undef], defers := [] }) ?assign ?body ?done ?stop
  case assign =>
    intro l x W K hK
    unfold encD
    gi_wp2
    exact hK
  case body =>
    rintro l pre x W ⟨hI, hB⟩ hlt
    obtain ⟨h1, h2, h3, h4, h5, h6, h7, h8⟩ := hI
    have cf := h6.cell
    have hwl : (wr L1 la st pre).length = n := by rw [wr_len]; exact HLen.out
    have hfit : la + st * pre.length ≤ 40 := by
      cases hp : pre.length with
      | zero => simp; omega
      | succ m =>
        have := h8 m (by omega)
        rw [Nat.mul_succ]; omega
    have hput := put_any (B2 + 2) B2 (B2 + 1) (w.heap.size + 4) n w.heap.size (la + st * pre.length) st (wr L1 la st pre) x W (by omega) (by omega) (by omega) h5 (by rw [hwl]; exact h3) h4 h7 (by omega) (by omega)
    have HP := Lib.hid hput
    have H1 := Lib.hid h1
    have H2 := Lib.hid h2
    have HI := Lib.hid (show BI w.heap.size B2 w3.heap.size n la st L1 pre W from ⟨h1, h2, h3, h4, h5, h6, h7, h8⟩)
    have HB := Lib.hid hB
    clear hput h1 h2 h3 h4 h5 h6 h7 h8 hB
    dsimp only
    gi_wp2_with fail
    refine ⟨trivial, (CallsIn.inRound l (callsIn_wide.2 HP.out)).mono ?_⟩
    rintro e W' (⟨hno, rfl, rfl⟩ | ⟨hlt2, rfl, q1, q2, q3, q4, q5⟩)
    · have c1 := H1.out.cell
      have f1 := H1.out.frozen
      have c2 := H2.out.cell
      have f2 := H2.out.frozen
      gi_wp2
      obtain ⟨h1, h2, h3, h4, h5, h6, h7, h8⟩ := HI.out
      have k1 := grownBy_setCell' W (w.heap.size + 1) (.slice (some ⟨w.heap.size + 4, 0, none⟩) n n)
      have k2 := grownBy_setCell' (W.setCell ⟨w.heap.size + 1, 0, none⟩ (.slice (some ⟨w.heap.size + 4, 0, none⟩) n n)) (w.heap.size + 2) (.bool true)
      refine ⟨((KeepsOthers.setCell _ _ _).trans (KeepsOthers.setCell _ _ _)).from _, ⟨rfl, (h1.set _).kept k2 (by simp), (h2.kept k1 (by simp)).set _, pre, x, rfl, (h7.kept k1 (by simp)).kept k2 (by simp), h8, by rw [← hwl]; exact hno⟩, ?_⟩
      exact (HB.out.setCell (p := ⟨w.heap.size + 1, 0, none⟩) (by simp) _).setCell (p := ⟨w.heap.size + 2, 0, none⟩) (by simp) _
    · gi_wp2
      obtain ⟨h1, h2, h3, h4, h5, h6, h7, h8⟩ := HI.out
      have e1 : la + st * (pre ++ [x]).length = la + st * pre.length + st := by rw [List.length_append, List.length_singleton, Nat.mul_succ]; omega
      refine ⟨q4.from _, q5, ⟨q3 _ _ _ (by decide) (by omega) h1, q3 _ _ _ (by decide) (by omega) h2, q3 _ _ _ (by decide) (by omega) h3, q3 _ _ _ (by decide) (by omega) h4, by rw [e1]; exact q1,
        q3 _ _ _ (by decide) (by rw [HSZ.out]; omega) h6, by rw [wr_snoc]; exact q2, fun j hj => ?_⟩, HB.out.trans q5⟩
      rcases Nat.lt_or_ge j pre.length with h | h
      · exact h8 j h
      · rw [List.length_append, List.length_singleton] at hj
        obtain rfl : j = pre.length := by omega
        omega
  case done =>
    rintro D ys W hD rfl ⟨hI, hB⟩ hK
    obtain ⟨h1, h2, h3, h4, h5, h6, h7, h8⟩ := hI
    have c1 := h1.cell
    have f1 := h1.frozen
    have c2 := h2.cell
    have f2 := h2.frozen
    gi_wp2
    have k1 := grownBy_setCell' W (w.heap.size + 1) (.slice (some ⟨w.heap.size + 4, 0, none⟩) n n)
    have k2 := grownBy_setCell' (W.setCell ⟨w.heap.size + 1, 0, none⟩ (.slice (some ⟨w.heap.size + 4, 0, none⟩) n n)) (w.heap.size + 2) (.bool false)
    have b1 := (h1.set (.slice (some ⟨w.heap.size + 4, 0, none⟩) n n)).kept k2 (by simp)
    have b2 := (h2.kept k1 (by simp)).set (.bool false)
    have b3 := (h7.kept k1 (by simp)).kept k2 (by simp)
    have hK2 := ((KeepsOthers.setCell W ⟨w.heap.size + 1, 0, none⟩ (.slice (some ⟨w.heap.size + 4, 0, none⟩) n n)).trans (KeepsOthers.setCell _ ⟨w.heap.size + 2, 0, none⟩ (.bool false))).same D _ hK rfl
    have hB2 := (hB.setCell (p := ⟨w.heap.size + 1, 0, none⟩) (by simp) (.slice (some ⟨w.heap.size + 4, 0, none⟩) n n)).setCell (p := ⟨w.heap.size + 2, 0, none⟩) (by simp) (.bool false)
    have hnr : ∀ r, some D = some r → ∃ o : Obj, ((W.setCell ⟨w.heap.size + 1, 0, none⟩ (.slice (some ⟨w.heap.size + 4, 0, none⟩) n n)).setCell ⟨w.heap.size + 2, 0, none⟩ (.bool false)).heap[r]? = some o ∧ o.isCells = false := fun r e => by cases e; exact ⟨_, hK2, rfl⟩
    have b1' := Boxed.ab b1 (grownBy_putObj' _ D (.deferred none)) hnr
    have b2' := Boxed.ab b2 (grownBy_putObj' _ D (.deferred none)) hnr
    have b3' := Blk.ab b3 (grownBy_putObj' _ D (.deferred none)) hnr
    refine ⟨by simp, .inl ⟨_, _, rfl, run_takeDeferred hK2, ?_⟩⟩
    refine ⟨_, results_cell2 rfl rfl rfl b1'.cell b2'.cell Tryd.underlying22 rfl Tryd.underlying4 rfl, w.heap.size + 4, ?_, ?_, hB2.trans (belowK_b (w := w) (Nat.le_refl _) _ D _ _ (by simp at hD; omega) hK2 rfl rfl)⟩
    · have hle : ys.length ≤ K := by
        rcases Nat.lt_or_ge K ys.length with h | h
        · exact absurd ((HK.out K).2 (h8 K h)) (Nat.lt_irrefl _)
        · exact h
      rw [decide_eq_false (by omega)]
    · have := wr_out n sp la st em s ys ys.length hst1 hsp HNE.out (Nat.le_refl _) h8 (.inl rfl)
      rw [List.take_length, ← HL1.out] at this
      rw [this] at b3'
      exact b3'
  case stop =>
    rintro D c pre W hD hp ⟨hX, hB⟩ hK
    obtain ⟨rfl, h1, h2, pre0, x, rfl, h3, h4, h5⟩ := hX
    gi_wp2
    have hnr : ∀ r, some D = some r → ∃ o : Obj, W.heap[r]? = some o ∧ o.isCells = false := fun r e => by cases e; exact ⟨_, hK, rfl⟩
    have b1' := Boxed.ab h1 (grownBy_putObj' _ D (.deferred none)) hnr
    have b2' := Boxed.ab h2 (grownBy_putObj' _ D (.deferred none)) hnr
    have b3' := Blk.ab h3 (grownBy_putObj' _ D (.deferred none)) hnr
    refine ⟨by simp, .inl ⟨_, _, rfl, run_takeDeferred hK, ?_⟩⟩
    refine ⟨_, results_cell2 rfl rfl rfl b1'.cell b2'.cell Tryd.underlying22 rfl Tryd.underlying4 rfl, w.heap.size + 4, ?_, ?_, hB.trans (belowK_b (w := w) (Nat.le_refl _) _ D _ _ (by simp at hD; omega) hK rfl rfl)⟩
    all_goals have hpl := hp.length_le
    all_goals rw [List.length_append, List.length_singleton] at hpl
    · have hle : K ≤ pre0.length := by
        rcases Nat.lt_or_ge pre0.length K with h | h
        · have := (HK.out pre0.length).1 h
          omega
        · exact h
      rw [decide_eq_true (by omega)]
    · have e1 : pre0 = ds.take pre0.length := by
        obtain ⟨t, ht⟩ := hp
        rw [← ht]
        simp
      have := wr_out n sp la st em s ds pre0.length hst1 hsp HNE.out (by omega) h4 (.inr h5)
      rw [← e1, ← HL1.out] at this
      rw [this] at b3'
      exact b3'

end E
end Go.Proofs.YtlpekknhaaddcaaDoor

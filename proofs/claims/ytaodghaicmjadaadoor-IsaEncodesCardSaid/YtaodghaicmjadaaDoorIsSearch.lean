/- The search in the table. -/
import Derived.Test.YtaodghaicmjadaaDoorIsRows
import Derived.Test.YtaodghaicmjadaaDoorIsRound
import Derived.IntWalk
namespace Go.Proofs.YtaodghaicmjadaaDoor
open Go.RowKit Go.Shelf
set_option linter.unusedVariables false
namespace E
attribute [local go_sem] Oper.semAt_some

def encR (k : Nat) : Array Value := #[.string (rowS k)]
theorem rows_stops (n : Nat) (hn : 1 ≤ n) (n₀ : Nat) (w : World) : SeqStopsK Fence.wide n Tryd.prog 58 #[] encR (Below n₀) (fun ys => ys = List.range 97) (fun pre => pre <+: List.range 97) 97 w :=
  fun l J Jx W _ _ _ hY h0 => rows_in n hn l n₀ J Jx hY W h0
theorem rowsV_any (w : World) : Calls Tryd.prog 47 #[] w fun e w' => e = .returned (.func (.func 58) #[] #[]) ∧ w = w' := by
  go_enter Tryd.func47, Tryd.ntmps47
  go_wp2
  go_ret
  exact ⟨rfl, rfl⟩
theorem grown_of {w w' : World} (h : Below w.heap.size w w') (row : Option Nat) : w.grownBy w' row := ⟨h.os, h.tape, h.output, h.size, fun k hk _ => h.block k hk⟩
theorem grown_drewN (w : World) (m : Nat) (row : Option Nat) : w.grownBy (w.drewN m) row := grown_of (belowDraw w m) row
theorem keeps_drewN (W : World) (m : Nat) : KeepsOthers W (W.drewN m) := KeepsOthers.of_grownBy (grown_drewN W m none) (fun j o e => by cases (e : none = some j))
theorem not_row {W : World} {B : Nat} {o : Obj} {row : Option Nat} (hB : W.heap[B]? = some o) (hc : o.isCells = true) (hrow : ∀ r, row = some r → ∃ o : Obj, W.heap[r]? = some o ∧ o.isCells = false) : some B ≠ row := fun e => by
  obtain ⟨o', ho, hn⟩ := hrow B e.symm
  rw [hB] at ho
  cases ho
  rw [hc] at hn
  cases hn
theorem Boxed.ab {W W' : World} {B : Nat} {t : TypeId} {v : Value} {row : Option Nat} (h : Boxed W B t v) (hg : W.grownBy W' row) (hrow : ∀ r, row = some r → ∃ o : Obj, W.heap[r]? = some o ∧ o.isCells = false) : Boxed W' B t v :=
  h.kept hg (not_row h rfl hrow)
theorem boxed_new2 (w : World) (o : Obj) (t : TypeId) (v : Value) : Boxed ((w.alloc o).alloc (.cells #[v] t)) (w.heap.size + 1) t v := by
  have := Boxed.new (w.alloc o) t v
  rwa [World.size_alloc] at this
theorem boxed_new3 (w : World) (o o2 : Obj) (t : TypeId) (v : Value) : Boxed (((w.alloc o).alloc o2).alloc (.cells #[v] t)) (w.heap.size + 1 + 1) t v := by
  have := Boxed.new ((w.alloc o).alloc o2) t v
  rwa [World.size_alloc, World.size_alloc] at this
theorem boxed_new4 (w : World) (o o2 o3 : Obj) (t : TypeId) (v : Value) : Boxed ((((w.alloc o).alloc o2).alloc o3).alloc (.cells #[v] t)) (w.heap.size + 1 + 1 + 1) t v := by
  have := Boxed.new (((w.alloc o).alloc o2).alloc o3) t v
  rwa [World.size_alloc, World.size_alloc, World.size_alloc] at this
theorem run_loadVar_one {P : Program} {w : World} {a : Addr} {ty : TypeId} {d : TypeDesc} {v : Value} (hc : w.cell? a = some v) (hu : P.underlying ty = some d) (hd : (match d with | .struct _ | .array _ _ => true | _ => false) = false) :
    (loadVar ty a).run P w = .ok v w := by
  have hagg : (isAgg ty).run P w = .ok false w := by
    unfold isAgg
    rw [Sem.run_bind, run_underlying hu w]
    cases d <;> simp_all
  simp [loadVar, Sem.run_bind, hagg, Result.andThen, go_sem, hc]
theorem results_two {P : Program} {fn : Func} {p q : Tmp} {t u : TypeId} {w : World} {a b : Addr} {v v' : Value} {tmps : Array Value} (h : fn.results = #[.cell p t, .cell q u])
    (hp : tmps.getD p undef = .pointer (some a)) (hq : tmps.getD q undef = .pointer (some b)) (la : (loadVar t a).run P w = .ok v w) (lb : (loadVar u b).run P w = .ok v' w) :
    (results fn tmps).run P w = .ok (.tuple #[v, v']) w := by
  have hp' : tmps[p]?.getD undef = .pointer (some a) := by simpa using hp
  have hq' : tmps[q]?.getD undef = .pointer (some b) := by simpa using hq
  simp only [results, h, Sem.run_bind] at *
  simp [hp', hq', asAddr, Sem.run_bind, Result.andThen, la, lb]

/-- Between two rounds. -/
def SI (B p : Nat) (s : ByteArray) (l : List UInt8) (pre : List Nat) (W : World) : Prop :=
  Boxed W B 3 (.int .i64 (p : Int)) ∧ Boxed W (B + 1) 9 (.string s) ∧ Boxed W (B + 1 + 1) 47 (.string ⟨#[]⟩) ∧ Boxed W (B + 1 + 1 + 1) 4 (.bool false) ∧ pre.all (fun k => !mtR p l k) = true
theorem SI.own (B p : Nat) (s : ByteArray) (l : List UInt8) : Go.Own (SI B p s l) := fun _ X Y row ⟨h1, h2, h3, h4, h5⟩ hg hr => ⟨Boxed.ab h1 hg hr, Boxed.ab h2 hg hr, Boxed.ab h3 hg hr, Boxed.ab h4 hg hr, h5⟩
theorem SI.drewN {B p : Nat} {s : ByteArray} {l : List UInt8} {pre : List Nat} {W : World} (h : SI B p s l pre W) (m : Nat) : SI B p s l pre (W.drewN m) :=
  SI.own B p s l pre W _ none h (grown_drewN W m _) (fun r e => by cases e)
/-- A round has left: the row is found. -/
def SX (B p : Nat) (l : List UInt8) (c : Code) (pre : List Nat) (W : World) : Prop :=
  c = .ret ∧ ∃ q x, pre = q ++ [x] ∧ q.all (fun k => !mtR p l k) = true ∧ mtR p l x = true ∧ Boxed W (B + 1 + 1) 47 (.string (rowS x)) ∧ Boxed W (B + 1 + 1 + 1) 4 (.bool true)
theorem SX.own (B p : Nat) (l : List UInt8) (c : Code) : Go.Own (SX B p l c) := fun _ X Y row ⟨h1, q, x, h2, h3, h4, h5, h6⟩ hg hr => ⟨h1, q, x, h2, h3, h4, Boxed.ab h5 hg hr, Boxed.ab h6 hg hr⟩
theorem find_stop {mt : Nat → Bool} {q : List Nat} {x : Nat} (hp : q ++ [x] <+: List.range 97) (h : q.all (fun k => !mt k) = true) (hx : mt x = true) : (List.range 97).find? mt = some x := by
  obtain ⟨t, ht⟩ := hp
  rw [← ht, List.append_assoc, List.find?_append]
  have h1 : q.find? mt = none := List.find?_eq_none.2 fun k hk => by
    have := List.all_eq_true.1 h k hk
    simpa using this
  rw [h1]
  simp [hx]
theorem find_all {mt : Nat → Bool} (h : (List.range 97).all (fun k => !mt k) = true) : (List.range 97).find? mt = none :=
  List.find?_eq_none.2 fun k hk => by
    have := List.all_eq_true.1 h k hk
    simpa using this
theorem mt_at {p : Nat} {l : List UInt8} {k : Nat} (hp : p + l.length ≤ 12) : mtR p l k = true ↔ ∀ j, j < l.length → gt (rowL k) (p + j) = gt l j := by
  unfold mtR
  rw [beq_iff_eq]
  have hr := row_len k
  constructor
  · intro h j hj
    have e : gt l j = gt (List.take l.length (List.drop p (rowL k))) j := by rw [h]
    rw [e]
    unfold gt
    simp only [List.getD_eq_getElem?_getD]
    rw [List.getElem?_take, if_pos hj, List.getElem?_drop]
  · intro h
    refine List.ext_getElem (by rw [List.length_take, List.length_drop]; omega) fun j h1 h2 => ?_
    have h3 := h j h2
    rw [gt_lt h2, gt_lt (by omega)] at h3
    rw [← h3, List.getElem_take, List.getElem_drop]
/-- What the search answers. -/
def srV (o : Option Nat) : Value := .tuple #[.string ⟨(rowO o).toArray⟩, .bool o.isSome]
set_option maxRecDepth 100000 in
set_option maxHeartbeats 1000000 in
theorem search_any (p : Nat) (s : ByteArray) (l : List UInt8) (w : World) (hs : s.data.toList = l) (hp : p + l.length ≤ 12) :
    Calls Tryd.prog 48 #[.int .i64 (p : Int), .string s] w (New w (srV (ixR p l))) := by
  refine (callsIn_wide (n := 5)).1 ?_
  have hro : Fence.wide.round = none := rfl
  have hsz : s.size = l.length := by rw [← hs]; rfl
  have hat : ∀ k (h : k < s.size), s[k] = gt l k := fun k h => by rw [← hs]; exact str_at s k h
  have HAT := Lib.hid hat
  have HSZ := Lib.hid hsz
  have hp12 : p + s.size ≤ 12 := by omega
  have HP := Lib.hid hp
  have hgf := Lib.hid (enters_of Tryd.func58 (by kernel_rfl) rfl)
  clear hs hp hat hsz
  have bP := (((Boxed.new w 3 (.int .i64 (p : Int))).alloc (.cells #[.string s] 9)).alloc (.cells #[.string ⟨#[]⟩] 47)).alloc (.cells #[.bool false] 4)
  have bT := ((boxed_new2 w (.cells #[.int .i64 (p : Int)] 3) 9 (.string s)).alloc (.cells #[.string ⟨#[]⟩] 47)).alloc (.cells #[.bool false] 4)
  have bR := (boxed_new3 w (.cells #[.int .i64 (p : Int)] 3) (.cells #[.string s] 9) 47 (.string ⟨#[]⟩)).alloc (.cells #[.bool false] 4)
  have bO := boxed_new4 w (.cells #[.int .i64 (p : Int)] 3) (.cells #[.string s] 9) (.cells #[.string ⟨#[]⟩] 47) 4 (.bool false)
  obtain ⟨w4, hw4⟩ : ∃ w4, w4 = (((w.alloc (.cells #[.int .i64 (p : Int)] 3)).alloc (.cells #[.string s] 9)).alloc (.cells #[.string ⟨#[]⟩] 47)).alloc (.cells #[.bool false] 4) := ⟨_, rfl⟩
  have hB0 : Below w.heap.size w w4 := by
    rw [hw4]
    exact (((below_new w _).alloc (by simp) _).alloc (by simp; omega) _).alloc (by simp; omega) _
  rw [← hw4] at bP bT bR bO
  have HB0 := Lib.hid hB0
  have HW4 := Lib.hid hw4
  have HI0 := Lib.hid (show SI w.heap.size p s l [] w4 from ⟨bP, bT, bR, bO, rfl⟩)
  have hszW : w.heap.size ≤ w4.heap.size := hB0.size
  clear bP bT bR bO hB0 hw4
  refine callsIn_of_wp_marks Tryd.func48 rfl trivial ?_ hro
  simp only [Tryd.ntmps48, List.size_toArray, List.length_cons, List.length_nil, Nat.reduceAdd, Nat.reduceSub, Array.replicate_succ, Array.replicate_zero, List.push_toArray, List.append_toArray, List.nil_append, List.cons_append]
  gi_wp2_with fail
  rw [← HW4.out]
  refine scope_in ?_
  refine wpIn_seq (wpIn_label ?_)
  gi_wp2_with fail
  refine ⟨trivial, (callsIn_wide.2 (rowsV_any _)).mono ?_⟩
  rintro e w' ⟨rfl, rfl⟩
  gi_wp2_with fail
  refine wpIn_rangeFunc_ownG hro (by omega) (gf := 58) (lb := #[]) rfl trivial hgf.out
    (rows_stops (5 - 1) (by omega) w.heap.size w4) belowK_t (belowK_b hszW) (Below.refl _ w4) (fun _ => rfl)
    (fun pre W => SI w.heap.size p s l pre W ∧ Below w.heap.size w W)
    (fun cd pre W => SX w.heap.size p l cd pre W ∧ Below w.heap.size w W)
    (OwnFrom.and (Own.from (SI.own _ _ _ _) _) (ownFrom_below (Nat.le_refl _) hszW))
    (fun cd => OwnFrom.and (Own.from (SX.own _ _ _ cd) _) (ownFrom_below (Nat.le_refl _) hszW))
    ⟨HI0.out, HB0.out⟩
    (fun k => { tmps := #[.int .i64 (p : Int), .string s, .pointer (some ⟨w.heap.size, 0, none⟩), .pointer (some ⟨w.heap.size + 1, 0, none⟩), .pointer (some ⟨w.heap.size + 1 + 1, 0, none⟩), .pointer (some ⟨w.heap.size + 1 + 1 + 1, 0, none⟩), .string (rowS k), undef, .func (.func 58) #[] #[], .string (rowS k), undef, undef, undef, undef, undef, undef, undef, undef, undef, undef, undef, undef, undef, undef, undef, undef], defers := [] }) ?assign ?body ?done ?stop
  case assign =>
    intro l b W K hK
    unfold encR
    gi_wp2
    exact hK
  case body =>
    rintro lp pre x W ⟨hsi, hB⟩ hlt
    have c0 := hsi.1.cell
    have c1 := hsi.2.1.cell
    have HSI := Lib.hid hsi
    have HB := Lib.hid hB
    clear hsi hB
    have hxs := rowS_size x
    gi_wp2
    gi_loopw [12] (fun i wr => ∃ j : Nat, j ≤ s.size ∧ i = .int .i64 (j : Int) ∧ (∃ m, wr = W.drewN m) ∧ (∀ t, t < j → gt (rowL x) (p + t) = gt l t)) (fun i _ => s.size - (intOf i).toNat)
    case atStart => exact ⟨0, Nat.zero_le _, rfl, ⟨0, rfl⟩, fun t ht => by omega⟩
    case round =>
      obtain ⟨j, hj, rfl, ⟨m, rfl⟩, hall⟩ := hrel
      have HA := Lib.hid hall
      clear hall
      by_cases hjl : j < s.size
      · have hjI : (j : Int) < (s.size : Int) := by omega
        have h12 : (p : Int) + (j : Int) < 12 := by omega
        have e1 : IntKind.i64.wrap ((p : Int) + (j : Int)) = (p : Int) + (j : Int) := IntWalk.i64_in _ (by omega)
        have e2 : ((p : Int) + (j : Int)).toNat = p + j := by omega
        have e0 : 0 ≤ (p : Int) + (j : Int) := by omega
        have r1 : ∀ h : p + j < (rowS x).size, (rowS x)[p + j] = gt (rowL x) (p + j) := fun h => rowS_at x (p + j) h
        have r2 : ∀ h : j < s.size, s[j] = gt l j := fun h => HAT.out j h
        have hS : (W.drewN m).drew.cell? ⟨w.heap.size, 0, none⟩ = some (.int .i64 (p : Int)) ∧ (W.drewN m).drew.cell? ⟨w.heap.size + 1, 0, none⟩ = some (.string s) := ⟨by simpa using c0, by simpa using c1⟩
        gi_wp2_with fail
        refine round_of_held (fun Y => Y.cell? ⟨w.heap.size, 0, none⟩ = some (.int .i64 (p : Int)) ∧ Y.cell? ⟨w.heap.size + 1, 0, none⟩ = some (.string s)) (by kernel_rfl) (by kernel_rfl) ?_
        show wpAnyH _ _ _ _ _ 9 #[false, false, false, false, false, false, false, false, false] _ _
        refine wpAnyH_take (i := 0) (oi := { dst := some 15, op := Go.Op.move (Go.Operand.tmp 6), type := 47, pos := "table.go:122", after := #[], guard := none }) (v := .string (rowS x)) rfl (by kernel_rfl) (by kernel_rfl) (by kernel_rfl) (fun _ _ _ h => h) (Or.inl ⟨by rfl, fun W hSw => by (try dsimp only at hSw); go_simp⟩) hS ?_
        try simp only [Act.put, List.setIfInBounds_toArray, List.set_cons_zero, List.set_cons_succ]
        refine wpAnyH_take (i := 1) (oi := { dst := some 16, op := Go.Op.load 3 (Go.Operand.tmp 2), type := 3, pos := "table.go:122", after := #[], guard := none }) (v := .int .i64 (p : Int)) rfl (by kernel_rfl) (by kernel_rfl) (by kernel_rfl) (fun _ _ _ h => h) (Or.inl ⟨by rfl, fun W hSw => by (try dsimp only at hSw); go_simp⟩) hS ?_
        try simp only [Act.put, List.setIfInBounds_toArray, List.set_cons_zero, List.set_cons_succ]
        refine wpAnyH_take (i := 2) (oi := { dst := some 17, op := Go.Op.move (Go.Operand.tmp 7), type := 3, pos := "table.go:122", after := #[], guard := none }) (v := .int .i64 (j : Int)) rfl (by kernel_rfl) (by kernel_rfl) (by kernel_rfl) (fun _ _ _ h => h) (Or.inl ⟨by rfl, fun W hSw => by (try dsimp only at hSw); go_simp⟩) hS ?_
        try simp only [Act.put, List.setIfInBounds_toArray, List.set_cons_zero, List.set_cons_succ]
        refine wpAnyH_take (i := 3) (oi := { dst := some 18, op := Go.Op.binOp Go.BinOp.add 3 (Go.Operand.tmp 16) (Go.Operand.tmp 17) 3, type := 3, pos := "table.go:122", after := #[{ on := 1, ground := Go.Ground.data }, { on := 2, ground := Go.Ground.data }], guard := none }) (v := .int .i64 (IntKind.i64.wrap ((p : Int) + (j : Int)))) rfl (by kernel_rfl) (by kernel_rfl) (by kernel_rfl) (fun _ _ _ h => h) (Or.inl ⟨by rfl, fun W hSw => by (try dsimp only at hSw); go_simp⟩) hS ?_
        try simp only [Act.put, List.setIfInBounds_toArray, List.set_cons_zero, List.set_cons_succ]
        refine wpAnyH_take (i := 4) (oi := { dst := some 19, op := Go.Op.index 47 (Go.Operand.tmp 15) (Go.Operand.tmp 18), type := 5, pos := "table.go:122", after := #[{ on := 0, ground := Go.Ground.data }, { on := 3, ground := Go.Ground.data }], guard := none }) (v := .int .u8 ((gt (rowL x) (p + j)).toNat : Int)) rfl (by kernel_rfl) (by kernel_rfl) (by kernel_rfl) (fun _ _ _ h => h) (Or.inl ⟨by rfl, fun W hSw => by (try dsimp only at hSw); go_simp⟩) hS ?_
        try simp only [Act.put, List.setIfInBounds_toArray, List.set_cons_zero, List.set_cons_succ]
        refine wpAnyH_take (i := 5) (oi := { dst := some 20, op := Go.Op.load 9 (Go.Operand.tmp 3), type := 9, pos := "table.go:122", after := #[], guard := none }) (v := .string s) rfl (by kernel_rfl) (by kernel_rfl) (by kernel_rfl) (fun _ _ _ h => h) (Or.inl ⟨by rfl, fun W hSw => by (try dsimp only at hSw); go_simp⟩) hS ?_
        try simp only [Act.put, List.setIfInBounds_toArray, List.set_cons_zero, List.set_cons_succ]
        refine wpAnyH_take (i := 6) (oi := { dst := some 21, op := Go.Op.move (Go.Operand.tmp 7), type := 3, pos := "table.go:122", after := #[], guard := none }) (v := .int .i64 (j : Int)) rfl (by kernel_rfl) (by kernel_rfl) (by kernel_rfl) (fun _ _ _ h => h) (Or.inl ⟨by rfl, fun W hSw => by (try dsimp only at hSw); go_simp⟩) hS ?_
        try simp only [Act.put, List.setIfInBounds_toArray, List.set_cons_zero, List.set_cons_succ]
        refine wpAnyH_take (i := 7) (oi := { dst := some 22, op := Go.Op.index 9 (Go.Operand.tmp 20) (Go.Operand.tmp 21), type := 5, pos := "table.go:122", after := #[{ on := 5, ground := Go.Ground.data }, { on := 6, ground := Go.Ground.data }], guard := none }) (v := .int .u8 ((gt l j).toNat : Int)) rfl (by kernel_rfl) (by kernel_rfl) (by kernel_rfl) (fun _ _ _ h => h) (Or.inl ⟨by rfl, fun W hSw => by (try dsimp only at hSw); go_simp⟩) hS ?_
        try simp only [Act.put, List.setIfInBounds_toArray, List.set_cons_zero, List.set_cons_succ]
        refine wpAnyH_take (i := 8) (oi := { dst := some 23, op := Go.Op.binOp Go.BinOp.neq 5 (Go.Operand.tmp 19) (Go.Operand.tmp 22) 5, type := 4, pos := "table.go:122", after := #[{ on := 4, ground := Go.Ground.data }, { on := 7, ground := Go.Ground.data }], guard := none }) (v := .bool ((((gt (rowL x) (p + j)).toNat : Int)) != ((gt l j).toNat : Int))) rfl (by kernel_rfl) (by kernel_rfl) (by kernel_rfl) (fun _ _ _ h => h) (Or.inl ⟨by rfl, fun W hSw => by (try dsimp only at hSw); go_simp⟩) hS ?_
        try simp only [Act.put, List.setIfInBounds_toArray, List.set_cons_zero, List.set_cons_succ]
        refine wpAnyH_done (by kernel_rfl) ?_ _
        refine onlyN_normal ?_
        have hS2 := hS
        clear hS r1 r2 e0 e1 e2
        by_cases hb : gt (rowL x) (p + j) = gt l j
        · have hbI : ((((gt (rowL x) (p + j)).toNat : Int)) != ((gt l j).toNat : Int)) = false := by rw [hb]; simp
          have HB1 := Lib.hid hb
          clear hb hS2
          gi_wp2
          go_roundw
          case rel => exact ⟨j + 1, by omega, by go_num, ⟨m + 1, rfl⟩, fun t ht => by
            rcases Nat.lt_succ_iff_lt_or_eq.1 ht with h | h
            · exact HA.out t h
            · subst h; exact HB1.out⟩
          case measure => simp [intOf]; omega
        · have hbI : ((((gt (rowL x) (p + j)).toNat : Int)) != ((gt l j).toNat : Int)) = true := by
            rw [bne_iff_ne]
            intro h
            exact hb (UInt8.toNat_inj.1 (by omega))
          have HB1 := Lib.hid hb
          clear hb hS2
          have hend : SI w.heap.size p s l (pre ++ [x]) (W.drewN (m + 1)) := by
            have h := SI.drewN HSI.out (m + 1)
            refine ⟨h.1, h.2.1, h.2.2.1, h.2.2.2.1, ?_⟩
            rw [List.all_append, HSI.out.2.2.2.2]
            have hno : mtR p l x = false := by
              cases e : mtR p l x with
              | false => rfl
              | true => exact absurd ((mt_at HP.out).1 e j (by rw [← HSZ.out]; exact hjl)) HB1.out
            simp [hno]
          have HE := Lib.hid hend
          clear hend
          gi_wp2
          exact ⟨(keeps_drewN W (m + 1)).from _, (belowDraw W (m + 1)).mono HB.out.size, HE.out, bel0 HB.out (belowDraw W (m + 1))⟩
      · obtain rfl : j = s.size := by omega
        have bb := SI.drewN HSI.out m
        have bR := bb.2.2.1
        have bO := bb.2.2.2.1
        have bO2 := bO.other (B' := w.heap.size + 1 + 1) (by omega) (.string (rowS x))
        have cR := bR.cell
        have fR := bR.frozen
        have cO := bO2.cell
        have fO := bO2.frozen
        have hBm := bel0 HB.out (belowDraw W m)
        have HBM := Lib.hid hBm
        have HBR := Lib.hid bR
        have HBO := Lib.hid bO2
        clear bb bR bO bO2 hBm
        gi_wp2
        refine ⟨(((keeps_drewN W m).trans (KeepsOthers.setCell _ _ _)).trans (KeepsOthers.setCell _ _ _)).from _, ⟨rfl, pre, x, rfl, HSI.out.2.2.2.2, (mt_at HP.out).2 (fun t ht => HA.out t (by rw [HSZ.out]; exact ht)), (HBR.out.set _).other (by omega) _, HBO.out.set _⟩, (HBM.out.setCell (p := ⟨w.heap.size + 1 + 1, 0, none⟩) (by simp; omega) _).setCell (p := ⟨w.heap.size + 1 + 1 + 1, 0, none⟩) (by simp; omega) _⟩
  case done =>
    rintro D ys W hD rfl ⟨hsi, hB⟩ hK
    have hno := find_all hsi.2.2.2.2
    have bR := hsi.2.2.1
    have bO := hsi.2.2.2.1
    have bO2 := bO.other (B' := w.heap.size + 1 + 1) (by omega) (.string ⟨#[]⟩)
    have cR := bR.cell
    have fR := bR.frozen
    have cO := bO2.cell
    have fO := bO2.frozen
    have HB := Lib.hid hB
    have HBR := Lib.hid bR
    have HBO := Lib.hid bO2
    have HK := Lib.hid hK
    have HNO := Lib.hid hno
    clear hsi bR bO bO2 hB hK hno
    gi_wp2
    rw [Exit.noGoto_ret]
    have hK2 := ((KeepsOthers.setCell W ⟨w.heap.size + 1 + 1, 0, none⟩ (.string ⟨#[]⟩)).trans (KeepsOthers.setCell _ ⟨w.heap.size + 1 + 1 + 1, 0, none⟩ (.bool false))).same D _ HK.out rfl
    have hnr : ∀ r, some D = some r → ∃ o : Obj, ((W.setCell ⟨w.heap.size + 1 + 1, 0, none⟩ (.string ⟨#[]⟩)).setCell ⟨w.heap.size + 1 + 1 + 1, 0, none⟩ (.bool false)).heap[r]? = some o ∧ o.isCells = false := fun r e => by cases e; exact ⟨_, hK2, rfl⟩
    have b1 := Boxed.ab ((HBR.out.set (.string ⟨#[]⟩)).other (by omega) (.bool false)) (grownBy_putObj' _ D (.deferred none)) hnr
    have b2 := Boxed.ab (HBO.out.set (.bool false)) (grownBy_putObj' _ D (.deferred none)) hnr
    refine ⟨by simp, .inl ⟨_, _, rfl, run_takeDeferred hK2, ?_⟩⟩
    refine ⟨_, results_two rfl rfl rfl (run_loadVar_one b1.cell Tryd.underlying47 rfl) (run_loadVar_one b2.cell Tryd.underlying4 rfl), ?_, ((HB.out.setCell (p := ⟨w.heap.size + 1 + 1, 0, none⟩) (by simp; omega) _).setCell (p := ⟨w.heap.size + 1 + 1 + 1, 0, none⟩) (by simp; omega) _).trans (belowK_b (w := w) (Nat.le_refl _) _ D _ _ (by omega) hK2 rfl rfl)⟩
    rw [show ixR p l = none from HNO.out]
    rfl
  case stop =>
    rintro D cd pre W hD hp ⟨⟨rfl, q, x, rfl, hq, hx, bR, bO⟩, hB⟩ hK
    have hfd := find_stop hp hq hx
    have HB := Lib.hid hB
    have HBR := Lib.hid bR
    have HBO := Lib.hid bO
    have HK := Lib.hid hK
    have HFD := Lib.hid hfd
    clear bR bO hB hK hfd hp hq hx
    gi_wp2
    rw [Exit.noGoto_ret]
    have hK2 := HK.out
    have hnr : ∀ r, some D = some r → ∃ o : Obj, W.heap[r]? = some o ∧ o.isCells = false := fun r e => by cases e; exact ⟨_, hK2, rfl⟩
    have b1 := Boxed.ab HBR.out (grownBy_putObj' _ D (.deferred none)) hnr
    have b2 := Boxed.ab HBO.out (grownBy_putObj' _ D (.deferred none)) hnr
    refine ⟨by simp, .inl ⟨_, _, rfl, run_takeDeferred hK2, ?_⟩⟩
    refine ⟨_, results_two rfl rfl rfl (run_loadVar_one b1.cell Tryd.underlying47 rfl) (run_loadVar_one b2.cell Tryd.underlying4 rfl), ?_, HB.out.trans (belowK_b (w := w) (Nat.le_refl _) _ D _ _ (by omega) hK2 rfl rfl)⟩
    rw [show ixR p l = some x from HFD.out]
    rfl

end E
end Go.Proofs.YtaodghaicmjadaaDoor

/- What the range-function of a storage yields; the code of an access. -/
import Derived.Test.YtbcncohjjnmdcaaGreatDoorRows
import Derived.Laws.EntriesVeiled
import Derived.LoopIn
import Derived.LoopNIn
import Derived.OwnWalkIn
import Derived.RegionIn
import Derived.TacticsInMore
import Derived.Test.YtbcncohjjnmdcaaGreatDoorStA
namespace Go.Proofs.YtbcncohjjnmdcaaGreatDoor
open Go.RowKit Go.Shelf
set_option linter.unusedVariables false
namespace E
attribute [local go_sem] Oper.semAt_some

/-- What is yielded. -/
def encB (b : Bool) : Array Value := #[.bool b]
theorem yor {e : Ending} {A B : Prop} (h : (e = .returned (.bool true) ∧ A) ∨ (e = .returned (.bool false) ∧ B)) : ∃ v, e = .returned (.bool v) ∧ ((v = true ∧ A) ∨ (v = false ∧ B)) := by
  rcases h with ⟨h1, h2⟩ | ⟨h1, h2⟩
  · exact ⟨true, h1, .inl ⟨rfl, h2⟩⟩
  · exact ⟨false, h1, .inr ⟨rfl, h2⟩⟩
theorem run_loadVar_one {P : Program} {w : World} {a : Addr} {ty : TypeId} {d : TypeDesc} {v : Value} (hc : w.cell? a = some v) (hu : P.underlying ty = some d) (hd : (match d with | .struct _ | .array _ _ => true | _ => false) = false) :
    (loadVar ty a).run P w = .ok v w := by
  have hagg : (isAgg ty).run P w = .ok false w := by
    unfold isAgg
    rw [Sem.run_bind, run_underlying hu w]
    cases d <;> simp_all
  simp [loadVar, Sem.run_bind, hagg, Result.andThen, go_sem, hc]
theorem results_cell1 {P : Program} {fn : Func} {p : Tmp} {t : TypeId} {d : TypeDesc} {w : World} {a : Addr} {v : Value} {tmps : Array Value} (h : fn.results = #[.cell p t])
    (hp : tmps.getD p undef = .pointer (some a)) (ha : w.cell? a = some v)
    (ht : P.underlying t = some d) (hd : (match d with | .struct _ | .array _ _ => true | _ => false) = false) :
    (results fn tmps).run P w = .ok v w := by
  have hp' : tmps[p]?.getD undef = .pointer (some a) := by simpa using hp
  simp [results, h, hp', asAddr, run_loadVar_one ha ht hd]
theorem not_row {W : World} {B : Nat} {o : Obj} {row : Option Nat} (hB : W.heap[B]? = some o) (hc : o.isCells = true) (hrow : ∀ r, row = some r → ∃ o : Obj, W.heap[r]? = some o ∧ o.isCells = false) : some B ≠ row := fun e => by
  obtain ⟨o', ho, hn⟩ := hrow B e.symm
  rw [hB] at ho
  cases ho
  rw [hc] at hn
  cases hn
theorem Boxed.ab {W W' : World} {B : Nat} {t : TypeId} {v : Value} {row : Option Nat} (h : Boxed W B t v) (hg : W.grownBy W' row) (hrow : ∀ r, row = some r → ∃ o : Obj, W.heap[r]? = some o ∧ o.isCells = false) : Boxed W' B t v :=
  h.kept hg (not_row h rfl hrow)
/-- Between two rounds. -/
def RI (D : Nat) (pre : List Bool) (W : World) : Prop := Boxed W D 3 (.int .i64 0) ∧ pre.all id = true
theorem RI.own (D : Nat) : Go.Own (RI D) := fun s X Y row ⟨h1, h2⟩ hg hr => ⟨Boxed.ab h1 hg hr, h2⟩
/-- A round has left: a block is refused. -/
def RX (D : Nat) (c : Code) (pre : List Bool) (W : World) : Prop := c = .ret ∧ Boxed W D 3 (.int .i64 4) ∧ pre.all id = false
theorem RX.own (D : Nat) (c : Code) : Go.Own (RX D c) := fun s X Y row ⟨h1, h2, h3⟩ hg hr => ⟨h1, Boxed.ab h2 hg hr, h3⟩
theorem boxed_new2 (w : World) (o : Obj) (t : TypeId) (v : Value) : Boxed ((w.alloc o).alloc (.cells #[v] t)) (w.heap.size + 1) t v := by
  have := Boxed.new (w.alloc o) t v
  rwa [World.size_alloc] at this
theorem boxed_new3 (w : World) (o o2 : Obj) (t : TypeId) (v : Value) : Boxed (((w.alloc o).alloc o2).alloc (.cells #[v] t)) (w.heap.size + 1 + 1) t v := by
  have := Boxed.new ((w.alloc o).alloc o2) t v
  rwa [World.size_alloc, World.size_alloc] at this
theorem boxed_new4 (w : World) (o o2 o3 : Obj) (t : TypeId) (v : Value) : Boxed ((((w.alloc o).alloc o2).alloc o3).alloc (.cells #[v] t)) (w.heap.size + 1 + 1 + 1) t v := by
  have := Boxed.new (((w.alloc o).alloc o2).alloc o3) t v
  rwa [World.size_alloc, World.size_alloc, World.size_alloc] at this
theorem grants_any (a x k mf : Nat) (lb : Array Value) (w : World) : Calls Tryz.prog 90 #[.pointer (some ⟨a, 0, none⟩), .int .i64 (x : Int), .int .i64 (k : Int), .func (.func mf) #[] lb] w fun e w' =>
    ∃ Bs Ba Bn Bm, e = .returned (.func (.func 148) #[] #[.pointer (some ⟨Ba, 0, none⟩), .pointer (some ⟨Bn, 0, none⟩), .pointer (some ⟨Bm, 0, none⟩), .pointer (some ⟨Bs, 0, none⟩)]) ∧ Boxed w' Ba 3 (.int .i64 (x : Int)) ∧ Boxed w' Bn 3 (.int .i64 (k : Int)) ∧ Boxed w' Bm 88 (.func (.func mf) #[] lb) ∧ Boxed w' Bs 37 (.pointer (some ⟨a, 0, none⟩)) ∧ Below w.heap.size w w' := by
  go_enter Tryz.func90, Tryz.ntmps90
  go_wp2
  go_ret
  refine ⟨_, _, _, _, rfl, ?_, ?_, ?_, ?_, ?_⟩
  · exact ((boxed_new2 w _ _ _).alloc _).alloc _
  · exact (boxed_new3 w _ _ _ _).alloc _
  · exact boxed_new4 w _ _ _ _ _
  · exact (((Boxed.new _ _ _).alloc _).alloc _).alloc _
  · exact bel0 (bel0 (bel0 (below_new w _) (below_new _ _)) (below_new _ _)) (below_new _ _)
set_option maxRecDepth 100000 in
set_option maxHeartbeats 2000000 in
theorem grantsS_in (F : Fence) (hF : F = Fence.wide) (n : Nat) (hro : F.round = none) (hn : 1 ≤ n) (l Ba Bn Bm Bs n₀ K : Nat) (x k : Nat) (a g h nn m : Nat) (bs ks : List UInt8) (key : Int) (J Jx : List Bool → World → Prop)
    (hnum : ks.length = m ∧ nn = m * 2048 ∧ m ≤ 32) (hxk : x + k ≤ nn) (hA : ∀ s X Y, J s X → X.grownBy Y none → J s Y)
    (hY : ∀ pre b W, J pre W → pre.length < blkN x k → YieldAt F (n - 1) Tryz.prog l (encB b) W fun e W' =>
      (e = .returned (.bool true) ∧ J (pre ++ [b]) W' ∧ Below n₀ W W') ∨ (e = .returned (.bool false) ∧ Jx (pre ++ [b]) W'))
    (W : World) (hWn : n₀ ≤ W.heap.size) (h1 : Ba < n₀) (h2 : Bn < n₀) (h3 : Bm < n₀) (h4 : Bs < n₀) (ba : Boxed W Ba 3 (.int .i64 (x : Int))) (bn : Boxed W Bn 3 (.int .i64 (k : Int))) (bm : Boxed W Bm 88 (storesV K)) (bp : Boxed W Bs 37 (.pointer (some ⟨a, 0, none⟩)))
    (hkey : ∀ W', Below n₀ W W' → Boxed W' K 3 (.int .i64 key)) (hs : ∀ W', Below n₀ W W' → Sto W' a g h nn m bs ks) (h0 : J [] W) :
    CallsIn F n Tryz.prog 148 #[.func (.yield l) #[] #[], .pointer (some ⟨Ba, 0, none⟩), .pointer (some ⟨Bn, 0, none⟩), .pointer (some ⟨Bm, 0, none⟩), .pointer (some ⟨Bs, 0, none⟩)] W fun e W' => (∃ v, e = .returned v) ∧
      ((∃ ys, ys = grL (stP key) ks x (blkN x k) ∧ J ys W') ∨ (∃ pre, pre <+: grL (stP key) ks x (blkN x k) ∧ Jx pre W')) := by
  subst hF
  have hmx : Tryz.prog.follows .mixedOrders = true := by kernel_rfl
  have hlt1 : ∀ i, atB x i < x + k ↔ i < blkN x k := atB_lt x k
  obtain ⟨N, hN⟩ : ∃ N, N = blkN x k := ⟨_, rfl⟩
  rw [← hN] at hlt1 hY ⊢
  have HL := Lib.hid hlt1
  have HKEY := Lib.hid hkey
  have HS := Lib.hid hs
  have HA := Lib.hid hA
  have HY := Lib.hid hY
  have HNUM := Lib.hid hnum
  have HXK := Lib.hid hxk
  have HN := Lib.hid hN
  have ca := ba.cell
  have HJ0 := Lib.hid h0
  have hex : wrap64 ((x : Int) + (k : Int)) = ((x + k : Nat) : Int) := by unfold wrap64; omega
  obtain ⟨T, hT⟩ : ∃ T, T = x + k := ⟨_, rfl⟩
  rw [← hT] at hex HL
  have HT := Lib.hid hT
  unfold storesV at bm
  clear hlt1 hkey hs hA hY hnum hxk hN h0 hT
  refine callsIn_of_wp Tryz.func148 rfl trivial ?_ hro
  simp only [Tryz.ntmps148, List.size_toArray, List.length_cons, List.length_nil, Nat.reduceAdd, Nat.reduceSub, Array.replicate_succ, Array.replicate_zero, List.push_toArray, List.append_toArray, List.nil_append, List.cons_append]
  gi_wp2
  gi_loopw [6, 7] (fun i _ wr => ∃ j : Nat, j ≤ N ∧ i = .int .i64 ((atB x j : Nat) : Int) ∧ Below n₀ W wr ∧ J (grL (stP key) ks x j) wr) (fun i _ _ => T + 131072 - (intOf i).toNat)
  case atStart =>
    exact ⟨0, Nat.zero_le _, rfl, Below.refl _ _, HJ0.out⟩
  case round =>
    obtain ⟨j, hj, rfl, hbk, hJ⟩ := hrel
    have ca1 := (hbk.cell (p := ⟨Ba, 0, none⟩) h1).trans ba.cell
    have cn1 := (hbk.cell (p := ⟨Bn, 0, none⟩) h2).trans bn.cell
    by_cases hlt : j < N
    · have hat := (HL.out j).2 hlt
      obtain ⟨q, hq⟩ : ∃ q, q = atB x j := ⟨_, rfl⟩
      obtain ⟨b, hb⟩ : ∃ b, b = x / 2048 + j := ⟨_, rfl⟩
      have hqd : q / 2048 = b := by rw [hq, hb]; exact atB_div x j
      rw [← hq] at hat ⊢
      have hqT : (q : Int) < (T : Int) := by omega
      have hbm : b < m := by have := HNUM.out; have := HXK.out; have := HT.out; omega
      have HBL := Lib.hid (fun W => blockOf_any q W (by have := HNUM.out; have := HXK.out; have := HT.out; omega))
      rw [hqd] at HBL
      have st1 := HS.out wr hbk
      have cm1 := (hbk.cell (p := ⟨Bm, 0, none⟩) h3).trans bm.cell
      have cs1 := (hbk.cell (p := ⟨Bs, 0, none⟩) h4).trans bp.cell
      have cc1 := st1.c1
      have cl1 := st1.lock b hbm
      have HB := Lib.hid hbk
      have HJ := Lib.hid hJ
      have HMAY := Lib.hid (fun W' (hb : Below n₀ W W') => stores_any K key (gt ks b) W' (HKEY.out _ hb))
      have HST := Lib.hid st1
      have HQ := Lib.hid (And.intro hq (And.intro hb hqd))
      have hbm' : ((b : Int)) < (m : Int) := by omega
      obtain ⟨r, hr⟩ : ∃ r, r = stP key (gt ks b) := ⟨_, rfl⟩
      have HR := Lib.hid hr
      rw [← hr] at HMAY
      have hD : Below n₀ W wr.drew := hbk.drew
      have HD := Lib.hid hD
      clear hq hb hqd hbk hJ st1 hat hr hD
      gi_wp2_with (refine ⟨trivial, ?_⟩; gi_at_call 41; refine (callsIn_wide.2 (HBL.out _)).mono ?_; rintro e w' ⟨rfl, rfl⟩)
      gi_region_with (first
        | (refine ⟨trivial, ?_⟩; gi_at_call 91; refine (callsIn_wide.2 (HMAY.out _ HD.out)).mono ?_; rintro e w1 ⟨rfl, hb1⟩; have HB1 := Lib.hid (bel0 (Below.refl _ wr).drew hb1); clear hb1; obtain ⟨fn2, tmps2, assign2, body2, hy, hR⟩ := HY.out (grL (stP key) ks x j) r w1 (HA.out _ _ _ HJ.out (grown_of HB1.out none)) (by rw [grL_len]; exact hlt); unfold encB at hy; have HRR := Lib.hid hR; clear hR)
        | (refine HRR.out.mono ?_; rintro e W3 hor; obtain ⟨v, rfl, hv⟩ := yor hor; have HV := Lib.hid hv; clear hv hor))
      all_goals
        have HG := Lib.hid (show grL (stP key) ks x (j + 1) = grL (stP key) ks x j ++ [r] by rw [grL_succ, HR.out, HQ.out.2.1])
        have HAT := Lib.hid (show atB x (j + 1) = (b + 1) * 2048 by rw [atB_next, HQ.out.2.1])
        have HB2 := Lib.hid (HB.out.trans (HB1.out.mono (Nat.le_trans hWn HB.out.size)))
        have hb32 : b ≤ 32 := by have := HNUM.out; omega
        rcases HV.out with ⟨rfl, hJ3, hk3⟩ | ⟨rfl, hJx3⟩
        · have HJ3 := Lib.hid hJ3
          have HB3 := Lib.hid (HB2.out.trans hk3)
          have hqb : q < (b + 1) * 2048 := by have := HQ.out.2.2; omega
          clear HV hJ3 hk3 HB2
          gi_wp2
          go_roundw
          case rel => exact ⟨j + 1, hlt, by rw [HAT.out]; push_cast; try rfl, HB3.out, by rw [HG.out]; exact HJ3.out⟩
          case measure => simp [intOf]; omega
        · have HJ3 := Lib.hid hJx3
          clear HV hJx3
          gi_wp2
          refine bodyPost_ret (results_none rfl _ _ _) rfl ?_
          exact ⟨⟨_, rfl⟩, .inr ⟨grL (stP key) ks x j ++ [r], by rw [← HG.out]; exact grL_pre _ _ _ _ _ hlt, HJ3.out⟩⟩
    · obtain rfl : j = N := by omega
      have hat := (not_congr (HL.out j)).2 hlt
      have HJ := Lib.hid hJ
      obtain ⟨q, hq⟩ : ∃ q, q = atB x j := ⟨_, rfl⟩
      rw [← hq] at hat ⊢
      have hqT : ¬ (q : Int) < (T : Int) := by omega
      clear hJ hq
      gi_wp2
      go_end0
      first | exact ⟨⟨_, rfl⟩, .inl ⟨_, rfl, HJ.out⟩⟩ | exact ⟨⟨_, rfl⟩, .inl HJ.out⟩
set_option maxRecDepth 100000 in
set_option maxHeartbeats 2000000 in
theorem grantsF_in (F : Fence) (hF : F = Fence.wide) (n : Nat) (hro : F.round = none) (hn : 1 ≤ n) (l Ba Bn Bm Bs n₀ K L : Nat) (x k : Nat) (a g h nn m : Nat) (bs ks : List UInt8) (key : Int) (J Jx : List Bool → World → Prop)
    (hnum : ks.length = m ∧ nn = m * 2048 ∧ m ≤ 32) (hxk : x + k ≤ nn) (hA : ∀ s X Y, J s X → X.grownBy Y none → J s Y)
    (hY : ∀ pre b W, J pre W → pre.length < blkN x k → YieldAt F (n - 1) Tryz.prog l (encB b) W fun e W' =>
      (e = .returned (.bool true) ∧ J (pre ++ [b]) W' ∧ Below n₀ W W') ∨ (e = .returned (.bool false) ∧ Jx (pre ++ [b]) W'))
    (W : World) (hWn : n₀ ≤ W.heap.size) (h1 : Ba < n₀) (h2 : Bn < n₀) (h3 : Bm < n₀) (h4 : Bs < n₀) (ba : Boxed W Ba 3 (.int .i64 (x : Int))) (bn : Boxed W Bn 3 (.int .i64 (k : Int))) (bm : Boxed W Bm 88 (fetchesV L)) (bp : Boxed W Bs 37 (.pointer (some ⟨a, 0, none⟩)))
    (hkey : ∀ W', Below n₀ W W' → Boxed W' K 3 (.int .i64 key) ∧ Boxed W' L 88 (storesV K)) (hs : ∀ W', Below n₀ W W' → Sto W' a g h nn m bs ks) (h0 : J [] W) :
    CallsIn F n Tryz.prog 148 #[.func (.yield l) #[] #[], .pointer (some ⟨Ba, 0, none⟩), .pointer (some ⟨Bn, 0, none⟩), .pointer (some ⟨Bm, 0, none⟩), .pointer (some ⟨Bs, 0, none⟩)] W fun e W' => (∃ v, e = .returned v) ∧
      ((∃ ys, ys = grL (ftP key) ks x (blkN x k) ∧ J ys W') ∨ (∃ pre, pre <+: grL (ftP key) ks x (blkN x k) ∧ Jx pre W')) := by
  subst hF
  have hmx : Tryz.prog.follows .mixedOrders = true := by kernel_rfl
  have hlt1 : ∀ i, atB x i < x + k ↔ i < blkN x k := atB_lt x k
  obtain ⟨N, hN⟩ : ∃ N, N = blkN x k := ⟨_, rfl⟩
  rw [← hN] at hlt1 hY ⊢
  have HL := Lib.hid hlt1
  have HKEY := Lib.hid hkey
  have HS := Lib.hid hs
  have HA := Lib.hid hA
  have HY := Lib.hid hY
  have HNUM := Lib.hid hnum
  have HXK := Lib.hid hxk
  have HN := Lib.hid hN
  have ca := ba.cell
  have HJ0 := Lib.hid h0
  have hex : wrap64 ((x : Int) + (k : Int)) = ((x + k : Nat) : Int) := by unfold wrap64; omega
  obtain ⟨T, hT⟩ : ∃ T, T = x + k := ⟨_, rfl⟩
  rw [← hT] at hex HL
  have HT := Lib.hid hT
  unfold fetchesV at bm
  clear hlt1 hkey hs hA hY hnum hxk hN h0 hT
  refine callsIn_of_wp Tryz.func148 rfl trivial ?_ hro
  simp only [Tryz.ntmps148, List.size_toArray, List.length_cons, List.length_nil, Nat.reduceAdd, Nat.reduceSub, Array.replicate_succ, Array.replicate_zero, List.push_toArray, List.append_toArray, List.nil_append, List.cons_append]
  gi_wp2
  gi_loopw [6, 7] (fun i _ wr => ∃ j : Nat, j ≤ N ∧ i = .int .i64 ((atB x j : Nat) : Int) ∧ Below n₀ W wr ∧ J (grL (ftP key) ks x j) wr) (fun i _ _ => T + 131072 - (intOf i).toNat)
  case atStart =>
    exact ⟨0, Nat.zero_le _, rfl, Below.refl _ _, HJ0.out⟩
  case round =>
    obtain ⟨j, hj, rfl, hbk, hJ⟩ := hrel
    have ca1 := (hbk.cell (p := ⟨Ba, 0, none⟩) h1).trans ba.cell
    have cn1 := (hbk.cell (p := ⟨Bn, 0, none⟩) h2).trans bn.cell
    by_cases hlt : j < N
    · have hat := (HL.out j).2 hlt
      obtain ⟨q, hq⟩ : ∃ q, q = atB x j := ⟨_, rfl⟩
      obtain ⟨b, hb⟩ : ∃ b, b = x / 2048 + j := ⟨_, rfl⟩
      have hqd : q / 2048 = b := by rw [hq, hb]; exact atB_div x j
      rw [← hq] at hat ⊢
      have hqT : (q : Int) < (T : Int) := by omega
      have hbm : b < m := by have := HNUM.out; have := HXK.out; have := HT.out; omega
      have HBL := Lib.hid (fun W => blockOf_any q W (by have := HNUM.out; have := HXK.out; have := HT.out; omega))
      rw [hqd] at HBL
      have st1 := HS.out wr hbk
      have cm1 := (hbk.cell (p := ⟨Bm, 0, none⟩) h3).trans bm.cell
      have cs1 := (hbk.cell (p := ⟨Bs, 0, none⟩) h4).trans bp.cell
      have cc1 := st1.c1
      have cl1 := st1.lock b hbm
      have HB := Lib.hid hbk
      have HJ := Lib.hid hJ
      have HMAY := Lib.hid (fun W' (hb : Below n₀ W W') => fetches_any L K key (gt ks b) W' (HKEY.out _ hb).1 (HKEY.out _ hb).2)
      have HST := Lib.hid st1
      have HQ := Lib.hid (And.intro hq (And.intro hb hqd))
      have hbm' : ((b : Int)) < (m : Int) := by omega
      obtain ⟨r, hr⟩ : ∃ r, r = ftP key (gt ks b) := ⟨_, rfl⟩
      have HR := Lib.hid hr
      rw [← hr] at HMAY
      have hD : Below n₀ W wr.drew := hbk.drew
      have HD := Lib.hid hD
      clear hq hb hqd hbk hJ st1 hat hr hD
      gi_wp2_with (refine ⟨trivial, ?_⟩; gi_at_call 41; refine (callsIn_wide.2 (HBL.out _)).mono ?_; rintro e w' ⟨rfl, rfl⟩)
      gi_region_with (first
        | (refine ⟨trivial, ?_⟩; gi_at_call 204; refine (callsIn_wide.2 (HMAY.out _ HD.out)).mono ?_; rintro e w1 ⟨rfl, hb1⟩; have HB1 := Lib.hid (bel0 (Below.refl _ wr).drew hb1); clear hb1; obtain ⟨fn2, tmps2, assign2, body2, hy, hR⟩ := HY.out (grL (ftP key) ks x j) r w1 (HA.out _ _ _ HJ.out (grown_of HB1.out none)) (by rw [grL_len]; exact hlt); unfold encB at hy; have HRR := Lib.hid hR; clear hR)
        | (refine HRR.out.mono ?_; rintro e W3 hor; obtain ⟨v, rfl, hv⟩ := yor hor; have HV := Lib.hid hv; clear hv hor))
      all_goals
        have HG := Lib.hid (show grL (ftP key) ks x (j + 1) = grL (ftP key) ks x j ++ [r] by rw [grL_succ, HR.out, HQ.out.2.1])
        have HAT := Lib.hid (show atB x (j + 1) = (b + 1) * 2048 by rw [atB_next, HQ.out.2.1])
        have HB2 := Lib.hid (HB.out.trans (HB1.out.mono (Nat.le_trans hWn HB.out.size)))
        have hb32 : b ≤ 32 := by have := HNUM.out; omega
        rcases HV.out with ⟨rfl, hJ3, hk3⟩ | ⟨rfl, hJx3⟩
        · have HJ3 := Lib.hid hJ3
          have HB3 := Lib.hid (HB2.out.trans hk3)
          have hqb : q < (b + 1) * 2048 := by have := HQ.out.2.2; omega
          clear HV hJ3 hk3 HB2
          gi_wp2
          go_roundw
          case rel => exact ⟨j + 1, hlt, by rw [HAT.out]; push_cast; try rfl, HB3.out, by rw [HG.out]; exact HJ3.out⟩
          case measure => simp [intOf]; omega
        · have HJ3 := Lib.hid hJx3
          clear HV hJx3
          gi_wp2
          refine bodyPost_ret (results_none rfl _ _ _) rfl ?_
          exact ⟨⟨_, rfl⟩, .inr ⟨grL (ftP key) ks x j ++ [r], by rw [← HG.out]; exact grL_pre _ _ _ _ _ hlt, HJ3.out⟩⟩
    · obtain rfl : j = N := by omega
      have hat := (not_congr (HL.out j)).2 hlt
      have HJ := Lib.hid hJ
      obtain ⟨q, hq⟩ : ∃ q, q = atB x j := ⟨_, rfl⟩
      rw [← hq] at hat ⊢
      have hqT : ¬ (q : Int) < (T : Int) := by omega
      clear hJ hq
      gi_wp2
      go_end0
      first | exact ⟨⟨_, rfl⟩, .inl ⟨_, rfl, HJ.out⟩⟩ | exact ⟨⟨_, rfl⟩, .inl HJ.out⟩

theorem grantsS_stops (n : Nat) (hn : 1 ≤ n) (Ba Bn Bm Bs K : Nat) (x k : Nat) (a g h nn m : Nat) (bs ks : List UInt8) (key : Int) (w : World) (hxk : x + k ≤ nn)
    (ba : Boxed w Ba 3 (.int .i64 (x : Int))) (bn : Boxed w Bn 3 (.int .i64 (k : Int))) (bm : Boxed w Bm 88 (storesV K)) (bp : Boxed w Bs 37 (.pointer (some ⟨a, 0, none⟩)))
    (hkey : Boxed w K 3 (.int .i64 key)) (hs : Sto w a g h nn m bs ks) :
    SeqStopsK Fence.wide n Tryz.prog 148 #[.pointer (some ⟨Ba, 0, none⟩), .pointer (some ⟨Bn, 0, none⟩), .pointer (some ⟨Bm, 0, none⟩), .pointer (some ⟨Bs, 0, none⟩)] encB (Below w.heap.size) (fun ys => ys = grL (stP key) ks x (blkN x k)) (fun pre => pre <+: grL (stP key) ks x (blkN x k)) (blkN x k) w := fun l J Jx W hW hAJ _ hY h0 =>
  grantsS_in Fence.wide rfl n rfl hn l Ba Bn Bm Bs w.heap.size K x k a g h nn m bs ks key J Jx ⟨hs.nums.2.1, hs.nums.2.2.1, hs.nums.2.2.2.2⟩ hxk (fun s X Y h1 h2 => hAJ s X Y none h1 h2 (fun r e => by cases e)) hY W hW.size ba.lt bn.lt bm.lt bp.lt
    (ba.kept (grown_of hW none) (by simp)) (bn.kept (grown_of hW none) (by simp)) (bm.kept (grown_of hW none) (by simp)) (bp.kept (grown_of hW none) (by simp)) (fun W' hb => (hkey.kept (grown_of (hW.trans hb) none) (by simp))) (fun W' hb => hs.below (hW.trans hb)) h0

theorem grantsF_stops (n : Nat) (hn : 1 ≤ n) (Ba Bn Bm Bs K L : Nat) (x k : Nat) (a g h nn m : Nat) (bs ks : List UInt8) (key : Int) (w : World) (hxk : x + k ≤ nn)
    (ba : Boxed w Ba 3 (.int .i64 (x : Int))) (bn : Boxed w Bn 3 (.int .i64 (k : Int))) (bm : Boxed w Bm 88 (fetchesV L)) (bp : Boxed w Bs 37 (.pointer (some ⟨a, 0, none⟩)))
    (hkey : Boxed w K 3 (.int .i64 key) ∧ Boxed w L 88 (storesV K)) (hs : Sto w a g h nn m bs ks) :
    SeqStopsK Fence.wide n Tryz.prog 148 #[.pointer (some ⟨Ba, 0, none⟩), .pointer (some ⟨Bn, 0, none⟩), .pointer (some ⟨Bm, 0, none⟩), .pointer (some ⟨Bs, 0, none⟩)] encB (Below w.heap.size) (fun ys => ys = grL (ftP key) ks x (blkN x k)) (fun pre => pre <+: grL (ftP key) ks x (blkN x k)) (blkN x k) w := fun l J Jx W hW hAJ _ hY h0 =>
  grantsF_in Fence.wide rfl n rfl hn l Ba Bn Bm Bs w.heap.size K L x k a g h nn m bs ks key J Jx ⟨hs.nums.2.1, hs.nums.2.2.1, hs.nums.2.2.2.2⟩ hxk (fun s X Y h1 h2 => hAJ s X Y none h1 h2 (fun r e => by cases e)) hY W hW.size ba.lt bn.lt bm.lt bp.lt
    (ba.kept (grown_of hW none) (by simp)) (bn.kept (grown_of hW none) (by simp)) (bm.kept (grown_of hW none) (by simp)) (bp.kept (grown_of hW none) (by simp)) (fun W' hb => ⟨hkey.1.kept (grown_of (hW.trans hb) none) (by simp), hkey.2.kept (grown_of (hW.trans hb) none) (by simp)⟩) (fun W' hb => hs.below (hW.trans hb)) h0

end E
end Go.Proofs.YtbcncohjjnmdcaaGreatDoor

/- The program: Exec. -/
import Derived.Test.YtbcncohjjnmdcaaGreatDoorRows
import Derived.Deep.WholeRow
import Derived.Laws.Rows
import Derived.Laws.Tables
import Derived.Test.YtbcncohjjnmdcaaGreatDoorGnPerf
import Derived.Test.YtbcncohjjnmdcaaGreatDoorIsCheck
namespace Go.Proofs.YtbcncohjjnmdcaaGreatDoor
namespace E
end E
open Go.RowKit Go.Shelf E
set_option linter.unusedVariables false
namespace M

theorem results_cct {P : Program} {fn : Func} {p q r : Tmp} {t u : TypeId} {w : World} {a b : Addr} {v v' v'' : Value} {tmps : Array Value} (h : fn.results = #[.cell p t, .cell q u, .tmp r]) (hp : tmps.getD p undef = .pointer (some a)) (hq : tmps.getD q undef = .pointer (some b)) (hr : tmps.getD r undef = v'') (la : (loadVar t a).run P w = .ok v w) (lb : (loadVar u b).run P w = .ok v' w) : (results fn tmps).run P w = .ok (.tuple #[v, v', v'']) w := by
  subst hr
  have hp' : tmps[p]?.getD undef = .pointer (some a) := by simpa using hp
  have hq' : tmps[q]?.getD undef = .pointer (some b) := by simpa using hq
  simp only [results, h, Sem.run_bind] at *
  simp [hp', hq', asAddr, Result.andThen, la, lb]
theorem load_regs {w : World} {B : Nat} {R : Nat → Int} (h : Bx w B 28 (regA R)) : (loadVar 28 ⟨B, 0, none⟩).run Tryz.prog w = .ok (.agg (regA R)) w := run_loadVar_row w B _ _ _ _ _ h Tryz.underlying28 rfl (by kernel_rfl)
theorem load_psw {w : World} {B : Nat} {p : Psw} (h : Bx w B 30 (pswA p)) : (loadVar 30 ⟨B, 0, none⟩).run Tryz.prog w = .ok (.agg (pswA p)) w := run_loadVar_row w B _ _ _ _ _ h Tryz.underlying30 rfl (by kernel_rfl)
theorem load_ins {w : World} {B : Nat} {Q : Ins} (h : Bx w B 25 Q.cs) : (loadVar 25 ⟨B, 0, none⟩).run Tryz.prog w = .ok Q.val w := run_loadVar_row w B _ _ _ _ _ h Tryz.underlying25 rfl (by kernel_rfl)
theorem exec_load {P : Program} {o : Oper} {a : Act} {w : World} {v : Value} (t : TypeId) (x : Operand) (hop : o.op = Op.load t x) (ad : Addr) (hp : a.eval x = .pointer (some ad)) (hl : (loadVar t ad).run P w = .ok v w) : (execOp a.eval o).run P w = .ok (.value v) w := by
  simp [execOp, hop, hp, Instr.loadAt, Instr.sureAddr, hl, Result.andThen]
theorem op_store {P : Program} {o : Oper} {a : Act} {w w' : World} {K : Act → World → Prop} {Q : Exit → Act → World → Prop} (t : TypeId) (x y : Operand) (hop : o.op = Op.store t x y) (ad : Addr) (hp : a.eval x = .pointer (some ad)) (v : Value) (hv : a.eval y = v) (hs : (storeVar t ad v).run P w = .ok () w') (hK : K (a.put o.dst undef) w') : Oper.wp P o a w K Q := by
  unfold Oper.wp
  simp [execOp, hop, hp, hv, Instr.storeAt, Instr.sureAddr, hs, Result.andThen]
  exact hK
/-- What Exec returns. -/
def refA (R : Nat → Int) (p : Psw) (c : Int) : Value := .tuple #[.agg (regA R), .agg (pswA p), .int .i64 c]
/-- Blocks of registers, of a status word: what holds in the last region of Exec; two blocks for the results. -/
def XS (l : List Nat) (B1 B2 B3 B4 : Nat) (R : Nat → Int) (p : Psw) (w0 W : World) : Prop := Kp w0 W l ∧ Bx W B1 28 (regA R) ∧ Bx W B2 30 (pswA p) ∧ (∃ x : Array Value, x.size = 16 ∧ Bx W B3 28 x) ∧ (∃ x : Array Value, x.size = 10 ∧ Bx W B4 30 x)
theorem bx_row3 {w : World} {g : Nat} {t : TypeId} {cs : Array Value} (h : Bx w g t cs) (cs' : Array Value) : Bx (w.setRow g cs') g t cs' := setRow_heap w g _ _ t _ h
theorem bx_row2 {w : World} {g k : Nat} {t : TypeId} {cs : Array Value} (h : Bx w g t cs) (hk : g ≠ k) (cs' : Array Value) : Bx (w.setRow k cs') g t cs := (setRow_other w k g _ hk).trans h
theorem kp_row {w0 W : World} {l : List Nat} (h : Kp w0 W l) {g : Nat} (hg : w0.heap.size ≤ g) (cs : Array Value) : Kp w0 (W.setRow g cs) l := ⟨h.os, h.tape, h.output, by simpa [World.setRow] using h.size, fun k hk hn => (setRow_other W g k _ (by omega)).trans (h.block k hk hn)⟩
theorem kp_nil {w0 W : World} (h : Kp w0 W []) : Below w0.heap.size w0 W := ⟨h.os, h.tape, h.output, h.size, fun k hk => h.block k hk (by simp)⟩
theorem XS.reg {l : List Nat} {B1 B2 B3 B4 : Nat} {R : Nat → Int} {p : Psw} {w0 W : World} (h : XS l B1 B2 B3 B4 R p w0 W) (h1 : B1 ≠ B3) (hB : w0.heap.size ≤ B3) (R' : Nat → Int) : XS l B1 B2 B3 B4 R p w0 (W.setRow B3 (regA R')) := by
  obtain ⟨a, b, c, ⟨x, hx, d⟩, ⟨y, hy, e⟩⟩ := h
  have n1 : B2 ≠ B3 := Row.ne c.row d.row (by decide)
  have n2 : B4 ≠ B3 := Row.ne e.row d.row (by decide)
  exact ⟨kp_row a hB _, bx_row2 b h1 _, bx_row2 c n1 _, ⟨regA R', rfl, bx_row3 d _⟩, ⟨y, hy, bx_row2 e n2 _⟩⟩
theorem XS.psw {l : List Nat} {B1 B2 B3 B4 : Nat} {R : Nat → Int} {p : Psw} {w0 W : World} (h : XS l B1 B2 B3 B4 R p w0 W) (h1 : B2 ≠ B4) (hB : w0.heap.size ≤ B4) (p' : Psw) : XS l B1 B2 B3 B4 R p w0 (W.setRow B4 (pswA p')) := by
  obtain ⟨a, b, c, ⟨x, hx, d⟩, ⟨y, hy, e⟩⟩ := h
  have n1 : B1 ≠ B4 := Row.ne b.row e.row (by decide)
  have n2 : B3 ≠ B4 := Row.ne d.row e.row (by decide)
  exact ⟨kp_row a hB _, bx_row2 b n1 _, bx_row2 c h1 _, ⟨x, hx, bx_row2 d n2 _⟩, ⟨pswA p', rfl, bx_row3 e _⟩⟩
theorem store_regs {w : World} {B : Nat} {x : Array Value} (h : Bx w B 28 x) (hx : x.size = 16) (R : Nat → Int) : (storeVar 28 ⟨B, 0, none⟩ (.agg (regA R))).run Tryz.prog w = .ok () (w.setRow B (regA R)) := run_storeVar_row w B _ _ x _ h (by kernel_rfl) hx (by simp [regA, Value.oneCell'])
theorem store_psw {w : World} {B : Nat} {x : Array Value} (h : Bx w B 30 x) (hx : x.size = 10) (p : Psw) : (storeVar 30 ⟨B, 0, none⟩ (.agg (pswA p))).run Tryz.prog w = .ok () (w.setRow B (pswA p)) := run_storeVar_row w B _ _ x _ h (by kernel_rfl) hx (by simp [pswA, Value.oneCell'])
theorem XS.drew {l : List Nat} {B1 B2 B3 B4 : Nat} {R : Nat → Int} {p : Psw} {w0 W : World} (h : XS l B1 B2 B3 B4 R p w0 W) : XS l B1 B2 B3 B4 R p w0 W.drew := by
  obtain ⟨a, b, c, ⟨x, hx, d⟩, ⟨y, hy, e⟩⟩ := h
  exact ⟨a.trans (kp_drew _ _), b.below (bel_drew _), c.below (bel_drew _), ⟨x, hx, d.below (bel_drew _)⟩, ⟨y, hy, e.below (bel_drew _)⟩⟩
theorem XS.below {l : List Nat} {B1 B2 B3 B4 : Nat} {R : Nat → Int} {p : Psw} {w0 W W' : World} (h : XS l B1 B2 B3 B4 R p w0 W) (hb : Below W.heap.size W W') : XS l B1 B2 B3 B4 R p w0 W' := by
  obtain ⟨a, b, c, ⟨x, hx, d⟩, ⟨y, hy, e⟩⟩ := h
  exact ⟨a.trans (Kp.bel hb), b.below hb, c.below hb, ⟨x, hx, d.below hb⟩, ⟨y, hy, e.below hb⟩⟩
/-- The boxes that Exec begins with. -/
def exW (w : World) (Q : Ins) (R : Nat → Int) (p : Psw) : World := ((((w.alloc (.cells Q.cs 25)).alloc (.cells (regA R) 28)).alloc (.cells (pswA p) 30)).alloc (.cells #[.int .u32 0, .int .u32 0, .int .u32 0, .int .u32 0, .int .u32 0, .int .u32 0, .int .u32 0, .int .u32 0, .int .u32 0, .int .u32 0, .int .u32 0, .int .u32 0, .int .u32 0, .int .u32 0, .int .u32 0, .int .u32 0] 28)).alloc (.cells #[.int .i64 0, .int .i64 0, .bool false, .bool false, .bool false, .int .i64 0, .int .i64 0, .int .i64 0, .int .i64 0, .int .i64 0] 30)
theorem exW_facts (w : World) (Q : Ins) (R : Nat → Int) (p : Psw) : Below w.heap.size w (exW w Q R p) ∧ (exW w Q R p).heap.size = w.heap.size + 1 + 1 + 1 + 1 + 1 ∧ Bx (exW w Q R p) w.heap.size 25 Q.cs ∧ XS [] (w.heap.size + 1) (w.heap.size + 1 + 1) (w.heap.size + 1 + 1 + 1) (w.heap.size + 1 + 1 + 1 + 1) R p w (exW w Q R p) := by
  have b1 : Bx (w.alloc (.cells Q.cs 25)) w.heap.size 25 Q.cs := Bx.new _ _ _
  obtain ⟨w1, hw1⟩ : ∃ w1, w1 = w.alloc (.cells Q.cs 25) := ⟨_, rfl⟩
  have s1 : w1.heap.size = w.heap.size + 1 := by rw [hw1]; simp
  have k1 : Below w.heap.size w w1 := by rw [hw1]; exact below_new _ _
  have b2 := Bx.new w1 28 (regA R)
  obtain ⟨w2, hw2⟩ : ∃ w2, w2 = w1.alloc (.cells (regA R) 28) := ⟨_, rfl⟩
  have s2 : w2.heap.size = w.heap.size + 1 + 1 := by rw [hw2]; simp [s1]
  have k2 : Below w1.heap.size w1 w2 := by rw [hw2]; exact below_new _ _
  have b3 := Bx.new w2 30 (pswA p)
  obtain ⟨w3, hw3⟩ : ∃ w3, w3 = w2.alloc (.cells (pswA p) 30) := ⟨_, rfl⟩
  have s3 : w3.heap.size = w.heap.size + 1 + 1 + 1 := by rw [hw3]; simp [s2]
  have k3 : Below w2.heap.size w2 w3 := by rw [hw3]; exact below_new _ _
  have b4 := Bx.new w3 28 #[.int .u32 0, .int .u32 0, .int .u32 0, .int .u32 0, .int .u32 0, .int .u32 0, .int .u32 0, .int .u32 0, .int .u32 0, .int .u32 0, .int .u32 0, .int .u32 0, .int .u32 0, .int .u32 0, .int .u32 0, .int .u32 0]
  obtain ⟨w4, hw4⟩ : ∃ w4, w4 = w3.alloc (.cells #[.int .u32 0, .int .u32 0, .int .u32 0, .int .u32 0, .int .u32 0, .int .u32 0, .int .u32 0, .int .u32 0, .int .u32 0, .int .u32 0, .int .u32 0, .int .u32 0, .int .u32 0, .int .u32 0, .int .u32 0, .int .u32 0] 28) := ⟨_, rfl⟩
  have s4 : w4.heap.size = w.heap.size + 1 + 1 + 1 + 1 := by rw [hw4]; simp [s3]
  have k4 : Below w3.heap.size w3 w4 := by rw [hw4]; exact below_new _ _
  have b5 := Bx.new w4 30 #[.int .i64 0, .int .i64 0, .bool false, .bool false, .bool false, .int .i64 0, .int .i64 0, .int .i64 0, .int .i64 0, .int .i64 0]
  obtain ⟨w5, hw5⟩ : ∃ w5, w5 = w4.alloc (.cells #[.int .i64 0, .int .i64 0, .bool false, .bool false, .bool false, .int .i64 0, .int .i64 0, .int .i64 0, .int .i64 0, .int .i64 0] 30) := ⟨_, rfl⟩
  have s5 : w5.heap.size = w.heap.size + 1 + 1 + 1 + 1 + 1 := by rw [hw5]; simp [s4]
  have k5 : Below w4.heap.size w4 w5 := by rw [hw5]; exact below_new _ _
  rw [← hw1] at b1
  rw [← hw2, s1] at b2
  rw [← hw3, s2] at b3
  rw [← hw4, s3] at b4
  rw [← hw5, s4] at b5
  have e : exW w Q R p = w5 := by unfold exW; rw [← hw1, ← hw2, ← hw3, ← hw4, ← hw5]
  rw [e]
  exact ⟨bel0 (bel0 (bel0 (bel0 k1 k2) k3) k4) k5, s5, (((b1.below k2).below k3).below k4).below k5, Kp.bel (bel0 (bel0 (bel0 (bel0 k1 k2) k3) k4) k5), ((b2.below k3).below k4).below k5, (b3.below k4).below k5, ⟨_, rfl, b4.below k5⟩, ⟨_, rfl, b5⟩⟩
set_option maxRecDepth 100000 in
theorem knows_yes (x : Int) (f : Nat) (w : World) (hact : ∀ X, Calls Tryz.prog 28 #[.int .i64 x] X fun e X' => e = .returned (fnV f) ∧ X = X') : Calls Tryz.prog 11 #[.int .i64 x] w fun e w' => e = .returned (.bool true) ∧ w = w' := by
  have HA := Lib.hid (hact w)
  clear hact
  unfold fnV at HA
  have hne : ∀ w, (binOp .neq 64 (.func (.func f) #[] #[]) .nilFunc).run Tryz.prog w = .ok (.bool true) w := fun w => by kernel_rfl
  go_enter Tryz.func11, Tryz.ntmps11
  go_wp2_with fail
  refine HA.out.mono ?_
  rintro e w1 ⟨rfl, rfl⟩
  go_wp2
  go_ret
  exact ⟨rfl, rfl⟩
set_option maxRecDepth 100000 in
theorem knows_no (x : Int) (w : World) (hact : ∀ X, Calls Tryz.prog 28 #[.int .i64 x] X fun e X' => e = .returned .nilFunc ∧ X = X') : Calls Tryz.prog 11 #[.int .i64 x] w fun e w' => e = .returned (.bool false) ∧ w = w' := by
  have HA := Lib.hid (hact w)
  clear hact
  have hne : ∀ w, (binOp .neq 64 .nilFunc .nilFunc).run Tryz.prog w = .ok (.bool false) w := fun w => by kernel_rfl
  go_enter Tryz.func11, Tryz.ntmps11
  go_wp2_with fail
  refine HA.out.mono ?_
  rintro e w1 ⟨rfl, rfl⟩
  go_wp2
  go_ret
  exact ⟨rfl, rfl⟩
set_option maxRecDepth 100000 in
set_option maxHeartbeats 1000000 in
theorem exec_unknown (Q : Ins) (R : Nat → Int) (p : Psw) (a : Addr) (w : World) (hk : ∀ X, Calls Tryz.prog 11 #[.int .i64 Q.op] X fun e X' => e = .returned (.bool false) ∧ X = X') : Calls Tryz.prog 15 #[Q.val, .agg (regA R), .agg (pswA p), .pointer (some a)] w (New w (refA R p 1)) := by
  have HFX := Lib.hid (exW_facts w Q R p)
  have hexw : exW w Q R p = ((((w.alloc (.cells #[.int .i64 Q.op, .int .i64 Q.fo, .int .i64 Q.r1, .int .i64 Q.r2, .int .i64 Q.x2, .int .i64 Q.b1, .int .i64 Q.d1, .int .i64 Q.b2, .int .i64 Q.d2, .int .i64 Q.l1, .int .i64 Q.l2, .int .i64 Q.i2] 25)).alloc (.cells #[.int .u32 (R 0), .int .u32 (R 1), .int .u32 (R 2), .int .u32 (R 3), .int .u32 (R 4), .int .u32 (R 5), .int .u32 (R 6), .int .u32 (R 7), .int .u32 (R 8), .int .u32 (R 9), .int .u32 (R 10), .int .u32 (R 11), .int .u32 (R 12), .int .u32 (R 13), .int .u32 (R 14), .int .u32 (R 15)] 28)).alloc (.cells #[.int .i64 p.m, .int .i64 p.k, .bool p.ma, .bool p.wa, .bool p.pr, .int .i64 p.co, .int .i64 p.il, .int .i64 p.cc, .int .i64 p.pg, .int .i64 p.ad] 30)).alloc (.cells #[.int .u32 0, .int .u32 0, .int .u32 0, .int .u32 0, .int .u32 0, .int .u32 0, .int .u32 0, .int .u32 0, .int .u32 0, .int .u32 0, .int .u32 0, .int .u32 0, .int .u32 0, .int .u32 0, .int .u32 0, .int .u32 0] 28)).alloc (.cells #[.int .i64 0, .int .i64 0, .bool false, .bool false, .bool false, .int .i64 0, .int .i64 0, .int .i64 0, .int .i64 0, .int .i64 0] 30) := rfl
  have HEX := Lib.hid hexw
  clear hexw
  have HK := Lib.hid hk
  obtain ⟨i0, i1, i2, i3, i4, i5, i6, i7, i8, i9, i10, i11⟩ := bx_cells HFX.out.2.2.1
  rw [HEX.out] at i0
  clear hk i1 i2 i3 i4 i5 i6 i7 i8 i9 i10 i11
  unfold Ins.val regA pswA
  go_enter Tryz.func15, Tryz.ntmps15
  go_wp2_with fail
  rw [← HEX.out]
  refine (HK.out _).mono ?_
  rintro e w6 ⟨rfl, rfl⟩
  have HS := Lib.hid HFX.out.2.2.2
  clear i0
  generalize exW w Q R p = w5 at HS ⊢
  clear HFX HEX HK
  go_wp2_with fail
  obtain ⟨B1, hB1⟩ : ∃ B1, B1 = w.heap.size + 1 := ⟨_, rfl⟩
  obtain ⟨B2, hB2⟩ : ∃ B2, B2 = w.heap.size + 1 + 1 := ⟨_, rfl⟩
  obtain ⟨B3, hB3⟩ : ∃ B3, B3 = w.heap.size + 1 + 1 + 1 := ⟨_, rfl⟩
  obtain ⟨B4, hB4⟩ : ∃ B4, B4 = w.heap.size + 1 + 1 + 1 + 1 := ⟨_, rfl⟩
  have hge1 : w.heap.size ≤ w.heap.size + 1 + 1 + 1 := by omega
  have hge2 : w.heap.size ≤ w.heap.size + 1 + 1 + 1 + 1 := by omega
  have hne1 : w.heap.size + 1 ≠ w.heap.size + 1 + 1 + 1 := by omega
  have hne2 : w.heap.size + 1 + 1 ≠ w.heap.size + 1 + 1 + 1 + 1 := by omega
  rw [← hB4, ← hB3, ← hB2, ← hB1] at HS
  rw [← hB4, ← hB3, ← hB2, ← hB1]
  rw [← hB3, ← hB1] at hne1
  rw [← hB4, ← hB2] at hne2
  rw [← hB3] at hge1
  rw [← hB4] at hge2
  have HGE := Lib.hid (And.intro hge1 hge2)
  have HNE := Lib.hid (And.intro hne1 hne2)
  clear hB1 hB2 hB3 hB4 hge1 hge2 hne1 hne2
  refine wp_region_held_drew (S := XS [] B1 B2 B3 B4 R p w) (by kernel_rfl) (HS.out.drew) (fun k0 => ?_)
  show wpAnyH _ _ _ _ _ 5 #[false, false, false, false, false] _ _
  refine wpAnyH_take (i := 0) (oi := ⟨some 31, _, _, _, _, _⟩) (v := .agg (regA R)) rfl (by kernel_rfl) (by kernel_rfl) (by kernel_rfl) (fun _ _ _ h => h) (Or.inl ⟨by rfl, fun W hSw => exec_load _ _ rfl _ rfl (load_regs hSw.2.1)⟩) k0 ?_
  try simp only [Act.put, List.setIfInBounds_toArray, List.set_cons_zero, List.set_cons_succ]
  refine wpAnyH_take (i := 1) (oi := ⟨some 32, _, _, _, _, _⟩) (v := .agg (pswA p)) rfl (by kernel_rfl) (by kernel_rfl) (by kernel_rfl) (fun _ _ _ h => h) (Or.inl ⟨by rfl, fun W hSw => exec_load _ _ rfl _ rfl (load_psw hSw.2.2.1)⟩) k0 ?_
  try simp only [Act.put, List.setIfInBounds_toArray, List.set_cons_zero, List.set_cons_succ]
  refine wpAnyH_ready (rs := [2]) (by kernel_rfl) (by simp) ?_
  refine AllReadyH.cons (o := ⟨none, _, _, _, _, _⟩) rfl (fun K hK => ?_) AllReadyH.nil
  obtain ⟨xr, hxr, hbr⟩ := k0.2.2.2.1
  have HR3 := Lib.hid (bx_row3 hbr (regA R))
  rw [if_pos (by rfl)]
  refine op_store _ _ _ rfl _ rfl _ rfl (store_regs hbr hxr R) ?_
  clear hbr hxr xr
  refine hK.out _ _ (XS.reg k0 HNE.out.1 HGE.out.1 R) (fun k1 => ?_)
  clear hK K
  try simp only [List.setIfInBounds_toArray, List.set_cons_zero, List.set_cons_succ]
  refine wpAnyH_ready (rs := [3]) (by kernel_rfl) (by simp) ?_
  refine AllReadyH.cons (o := ⟨none, _, _, _, _, _⟩) rfl (fun K hK => ?_) AllReadyH.nil
  obtain ⟨xr, hxr, hbr⟩ := k1.2.2.2.2
  have HR4 := Lib.hid (bx_row3 hbr (pswA p))
  have HR5 := Lib.hid (bx_row2 HR3.out (Row.ne HR3.out.row hbr.row (by decide)) (pswA p))
  rw [if_pos (by rfl)]
  refine op_store _ _ _ rfl _ rfl _ rfl (store_psw hbr hxr p) ?_
  clear hbr hxr xr
  refine hK.out _ _ (XS.psw k1 HNE.out.2 HGE.out.2 p) (fun k2 => ?_)
  clear hK K
  try simp only [List.setIfInBounds_toArray, List.set_cons_zero, List.set_cons_succ]
  refine wpAnyH_take (i := 4) (oi := ⟨some 10, _, _, _, _, _⟩) (v := .int .i64 1) rfl (by kernel_rfl) (by kernel_rfl) (by kernel_rfl) (fun _ _ _ h => h) (Or.inl ⟨by rfl, fun W hSw => by (try dsimp only at hSw); go_simp⟩) k2 ?_
  try simp only [Act.put, List.setIfInBounds_toArray, List.set_cons_zero, List.set_cons_succ]
  refine wpAnyH_done (by kernel_rfl) ?_ _
  refine id ?_
  go_wp2
  refine bodyPost_ret (results_cct rfl rfl rfl rfl (load_regs HR5.out) (load_psw HR4.out)) rfl ?_
  exact ⟨rfl, kp_nil k2.1⟩
set_option maxRecDepth 100000 in
set_option maxHeartbeats 1000000 in
theorem exec_check (Q : Ins) (R : Nat → Int) (p : Psw) (a : Addr) (C : Int) (hC : C ≠ 0) (w : World) (hk : ∀ X, Calls Tryz.prog 11 #[.int .i64 Q.op] X fun e X' => e = .returned (.bool true) ∧ X = X') (hc : chkV Q = C) : Calls Tryz.prog 15 #[Q.val, .agg (regA R), .agg (pswA p), .pointer (some a)] w (New w (refA R p 1)) := by
  have HFX := Lib.hid (exW_facts w Q R p)
  have hexw : exW w Q R p = ((((w.alloc (.cells #[.int .i64 Q.op, .int .i64 Q.fo, .int .i64 Q.r1, .int .i64 Q.r2, .int .i64 Q.x2, .int .i64 Q.b1, .int .i64 Q.d1, .int .i64 Q.b2, .int .i64 Q.d2, .int .i64 Q.l1, .int .i64 Q.l2, .int .i64 Q.i2] 25)).alloc (.cells #[.int .u32 (R 0), .int .u32 (R 1), .int .u32 (R 2), .int .u32 (R 3), .int .u32 (R 4), .int .u32 (R 5), .int .u32 (R 6), .int .u32 (R 7), .int .u32 (R 8), .int .u32 (R 9), .int .u32 (R 10), .int .u32 (R 11), .int .u32 (R 12), .int .u32 (R 13), .int .u32 (R 14), .int .u32 (R 15)] 28)).alloc (.cells #[.int .i64 p.m, .int .i64 p.k, .bool p.ma, .bool p.wa, .bool p.pr, .int .i64 p.co, .int .i64 p.il, .int .i64 p.cc, .int .i64 p.pg, .int .i64 p.ad] 30)).alloc (.cells #[.int .u32 0, .int .u32 0, .int .u32 0, .int .u32 0, .int .u32 0, .int .u32 0, .int .u32 0, .int .u32 0, .int .u32 0, .int .u32 0, .int .u32 0, .int .u32 0, .int .u32 0, .int .u32 0, .int .u32 0, .int .u32 0] 28)).alloc (.cells #[.int .i64 0, .int .i64 0, .bool false, .bool false, .bool false, .int .i64 0, .int .i64 0, .int .i64 0, .int .i64 0, .int .i64 0] 30) := rfl
  have HEX := Lib.hid hexw
  clear hexw
  have HK := Lib.hid hk
  have hck := check_any Q (exW w Q R p)
  rw [hc] at hck
  have HCK := Lib.hid hck
  have hCb : (C == 0) = false := by simpa using hC
  have hCn : (C != 0) = true := by simpa using hC
  obtain ⟨i0, i1, i2, i3, i4, i5, i6, i7, i8, i9, i10, i11⟩ := bx_cells HFX.out.2.2.1
  rw [HEX.out] at i0 i1 i2 i3 i4 i5 i6 i7 i8 i9 i10 i11
  clear hk hck hc hC
  unfold Ins.val at HCK
  unfold Ins.val regA pswA
  go_enter Tryz.func15, Tryz.ntmps15
  go_wp2_with fail
  refine (HK.out _).mono ?_
  rintro e w6 ⟨rfl, rfl⟩
  go_wp2_with fail
  rw [← HEX.out]
  clear i0 i1 i2 i3 i4 i5 i6 i7 i8 i9 i10 i11
  refine HCK.out.mono ?_
  rintro e w6 ⟨rfl, hb⟩
  have HS := Lib.hid (XS.below HFX.out.2.2.2 hb)
  clear hb HFX HEX HK HCK
  go_wp2_with fail
  obtain ⟨B1, hB1⟩ : ∃ B1, B1 = w.heap.size + 1 := ⟨_, rfl⟩
  obtain ⟨B2, hB2⟩ : ∃ B2, B2 = w.heap.size + 1 + 1 := ⟨_, rfl⟩
  obtain ⟨B3, hB3⟩ : ∃ B3, B3 = w.heap.size + 1 + 1 + 1 := ⟨_, rfl⟩
  obtain ⟨B4, hB4⟩ : ∃ B4, B4 = w.heap.size + 1 + 1 + 1 + 1 := ⟨_, rfl⟩
  have hge1 : w.heap.size ≤ w.heap.size + 1 + 1 + 1 := by omega
  have hge2 : w.heap.size ≤ w.heap.size + 1 + 1 + 1 + 1 := by omega
  have hne1 : w.heap.size + 1 ≠ w.heap.size + 1 + 1 + 1 := by omega
  have hne2 : w.heap.size + 1 + 1 ≠ w.heap.size + 1 + 1 + 1 + 1 := by omega
  rw [← hB4, ← hB3, ← hB2, ← hB1] at HS
  rw [← hB4, ← hB3, ← hB2, ← hB1]
  rw [← hB3, ← hB1] at hne1
  rw [← hB4, ← hB2] at hne2
  rw [← hB3] at hge1
  rw [← hB4] at hge2
  have HGE := Lib.hid (And.intro hge1 hge2)
  have HNE := Lib.hid (And.intro hne1 hne2)
  clear hB1 hB2 hB3 hB4 hge1 hge2 hne1 hne2
  refine wp_region_held_drew (S := XS [] B1 B2 B3 B4 R p w) (by kernel_rfl) (HS.out.drew) (fun k0 => ?_)
  show wpAnyH _ _ _ _ _ 5 #[false, false, false, false, false] _ _
  refine wpAnyH_take (i := 0) (oi := ⟨some 31, _, _, _, _, _⟩) (v := .agg (regA R)) rfl (by kernel_rfl) (by kernel_rfl) (by kernel_rfl) (fun _ _ _ h => h) (Or.inl ⟨by rfl, fun W hSw => exec_load _ _ rfl _ rfl (load_regs hSw.2.1)⟩) k0 ?_
  try simp only [Act.put, List.setIfInBounds_toArray, List.set_cons_zero, List.set_cons_succ]
  refine wpAnyH_take (i := 1) (oi := ⟨some 32, _, _, _, _, _⟩) (v := .agg (pswA p)) rfl (by kernel_rfl) (by kernel_rfl) (by kernel_rfl) (fun _ _ _ h => h) (Or.inl ⟨by rfl, fun W hSw => exec_load _ _ rfl _ rfl (load_psw hSw.2.2.1)⟩) k0 ?_
  try simp only [Act.put, List.setIfInBounds_toArray, List.set_cons_zero, List.set_cons_succ]
  refine wpAnyH_ready (rs := [2]) (by kernel_rfl) (by simp) ?_
  refine AllReadyH.cons (o := ⟨none, _, _, _, _, _⟩) rfl (fun K hK => ?_) AllReadyH.nil
  obtain ⟨xr, hxr, hbr⟩ := k0.2.2.2.1
  have HR3 := Lib.hid (bx_row3 hbr (regA R))
  rw [if_pos (by rfl)]
  refine op_store _ _ _ rfl _ rfl _ rfl (store_regs hbr hxr R) ?_
  clear hbr hxr xr
  refine hK.out _ _ (XS.reg k0 HNE.out.1 HGE.out.1 R) (fun k1 => ?_)
  clear hK K
  try simp only [List.setIfInBounds_toArray, List.set_cons_zero, List.set_cons_succ]
  refine wpAnyH_ready (rs := [3]) (by kernel_rfl) (by simp) ?_
  refine AllReadyH.cons (o := ⟨none, _, _, _, _, _⟩) rfl (fun K hK => ?_) AllReadyH.nil
  obtain ⟨xr, hxr, hbr⟩ := k1.2.2.2.2
  have HR4 := Lib.hid (bx_row3 hbr (pswA p))
  have HR5 := Lib.hid (bx_row2 HR3.out (Row.ne HR3.out.row hbr.row (by decide)) (pswA p))
  rw [if_pos (by rfl)]
  refine op_store _ _ _ rfl _ rfl _ rfl (store_psw hbr hxr p) ?_
  clear hbr hxr xr
  refine hK.out _ _ (XS.psw k1 HNE.out.2 HGE.out.2 p) (fun k2 => ?_)
  clear hK K
  try simp only [List.setIfInBounds_toArray, List.set_cons_zero, List.set_cons_succ]
  refine wpAnyH_take (i := 4) (oi := ⟨some 10, _, _, _, _, _⟩) (v := .int .i64 1) rfl (by kernel_rfl) (by kernel_rfl) (by kernel_rfl) (fun _ _ _ h => h) (Or.inl ⟨by rfl, fun W hSw => by (try dsimp only at hSw); go_simp⟩) k2 ?_
  try simp only [Act.put, List.setIfInBounds_toArray, List.set_cons_zero, List.set_cons_succ]
  refine wpAnyH_done (by kernel_rfl) ?_ _
  refine id ?_
  go_wp2
  refine bodyPost_ret (results_cct rfl rfl rfl rfl (load_regs HR5.out) (load_psw HR4.out)) rfl ?_
  exact ⟨rfl, kp_nil k2.1⟩
set_option maxRecDepth 100000 in
set_option maxHeartbeats 1000000 in
theorem exec_status (Q : Ins) (R : Nat → Int) (p : Psw) (a : Addr) (w : World) (hk : ∀ X, Calls Tryz.prog 11 #[.int .i64 Q.op] X fun e X' => e = .returned (.bool true) ∧ X = X') (hc : chkV Q = 0) (ho : okB p = false) : Calls Tryz.prog 15 #[Q.val, .agg (regA R), .agg (pswA p), .pointer (some a)] w (New w (refA R p 1)) := by
  have HFX := Lib.hid (exW_facts w Q R p)
  have hexw : exW w Q R p = ((((w.alloc (.cells #[.int .i64 Q.op, .int .i64 Q.fo, .int .i64 Q.r1, .int .i64 Q.r2, .int .i64 Q.x2, .int .i64 Q.b1, .int .i64 Q.d1, .int .i64 Q.b2, .int .i64 Q.d2, .int .i64 Q.l1, .int .i64 Q.l2, .int .i64 Q.i2] 25)).alloc (.cells #[.int .u32 (R 0), .int .u32 (R 1), .int .u32 (R 2), .int .u32 (R 3), .int .u32 (R 4), .int .u32 (R 5), .int .u32 (R 6), .int .u32 (R 7), .int .u32 (R 8), .int .u32 (R 9), .int .u32 (R 10), .int .u32 (R 11), .int .u32 (R 12), .int .u32 (R 13), .int .u32 (R 14), .int .u32 (R 15)] 28)).alloc (.cells #[.int .i64 p.m, .int .i64 p.k, .bool p.ma, .bool p.wa, .bool p.pr, .int .i64 p.co, .int .i64 p.il, .int .i64 p.cc, .int .i64 p.pg, .int .i64 p.ad] 30)).alloc (.cells #[.int .u32 0, .int .u32 0, .int .u32 0, .int .u32 0, .int .u32 0, .int .u32 0, .int .u32 0, .int .u32 0, .int .u32 0, .int .u32 0, .int .u32 0, .int .u32 0, .int .u32 0, .int .u32 0, .int .u32 0, .int .u32 0] 28)).alloc (.cells #[.int .i64 0, .int .i64 0, .bool false, .bool false, .bool false, .int .i64 0, .int .i64 0, .int .i64 0, .int .i64 0, .int .i64 0] 30) := rfl
  have HEX := Lib.hid hexw
  clear hexw
  have HK := Lib.hid hk
  have hck := check_any Q (exW w Q R p)
  rw [hc] at hck
  have HCK := Lib.hid hck
  have HV := Lib.hid (fun X => valid_any p X)
  rw [ho] at HV
  obtain ⟨i0, i1, i2, i3, i4, i5, i6, i7, i8, i9, i10, i11⟩ := bx_cells HFX.out.2.2.1
  rw [HEX.out] at i0 i1 i2 i3 i4 i5 i6 i7 i8 i9 i10 i11
  clear hk hck hc ho
  unfold Ins.val at HCK
  unfold Ins.val regA pswA
  go_enter Tryz.func15, Tryz.ntmps15
  go_wp2_with fail
  refine (HK.out _).mono ?_
  rintro e w6 ⟨rfl, rfl⟩
  go_wp2_with fail
  rw [← HEX.out]
  clear i0 i1 i2 i3 i4 i5 i6 i7 i8 i9 i10 i11
  refine HCK.out.mono ?_
  rintro e w6 ⟨rfl, hb⟩
  have HX6 := Lib.hid (XS.below HFX.out.2.2.2 hb)
  obtain ⟨j0, j1, j2, j3, j4, j5, j6, j7, j8, j9⟩ := cells_of HX6.out.2.2.1
  clear hb HFX HEX HK HCK
  go_wp2_with fail
  clear j0 j1 j2 j3 j4 j5 j6 j7 j8 j9
  refine (HV.out _).mono ?_
  rintro e w7 ⟨rfl, hb⟩
  have HS := Lib.hid (XS.below HX6.out hb)
  clear hb HX6 HV
  go_wp2_with fail
  obtain ⟨B1, hB1⟩ : ∃ B1, B1 = w.heap.size + 1 := ⟨_, rfl⟩
  obtain ⟨B2, hB2⟩ : ∃ B2, B2 = w.heap.size + 1 + 1 := ⟨_, rfl⟩
  obtain ⟨B3, hB3⟩ : ∃ B3, B3 = w.heap.size + 1 + 1 + 1 := ⟨_, rfl⟩
  obtain ⟨B4, hB4⟩ : ∃ B4, B4 = w.heap.size + 1 + 1 + 1 + 1 := ⟨_, rfl⟩
  have hge1 : w.heap.size ≤ w.heap.size + 1 + 1 + 1 := by omega
  have hge2 : w.heap.size ≤ w.heap.size + 1 + 1 + 1 + 1 := by omega
  have hne1 : w.heap.size + 1 ≠ w.heap.size + 1 + 1 + 1 := by omega
  have hne2 : w.heap.size + 1 + 1 ≠ w.heap.size + 1 + 1 + 1 + 1 := by omega
  rw [← hB4, ← hB3, ← hB2, ← hB1] at HS
  rw [← hB4, ← hB3, ← hB2, ← hB1]
  rw [← hB3, ← hB1] at hne1
  rw [← hB4, ← hB2] at hne2
  rw [← hB3] at hge1
  rw [← hB4] at hge2
  have HGE := Lib.hid (And.intro hge1 hge2)
  have HNE := Lib.hid (And.intro hne1 hne2)
  clear hB1 hB2 hB3 hB4 hge1 hge2 hne1 hne2
  refine wp_region_held_drew (S := XS [] B1 B2 B3 B4 R p w) (by kernel_rfl) (HS.out.drew) (fun k0 => ?_)
  show wpAnyH _ _ _ _ _ 5 #[false, false, false, false, false] _ _
  refine wpAnyH_take (i := 0) (oi := ⟨some 31, _, _, _, _, _⟩) (v := .agg (regA R)) rfl (by kernel_rfl) (by kernel_rfl) (by kernel_rfl) (fun _ _ _ h => h) (Or.inl ⟨by rfl, fun W hSw => exec_load _ _ rfl _ rfl (load_regs hSw.2.1)⟩) k0 ?_
  try simp only [Act.put, List.setIfInBounds_toArray, List.set_cons_zero, List.set_cons_succ]
  refine wpAnyH_take (i := 1) (oi := ⟨some 32, _, _, _, _, _⟩) (v := .agg (pswA p)) rfl (by kernel_rfl) (by kernel_rfl) (by kernel_rfl) (fun _ _ _ h => h) (Or.inl ⟨by rfl, fun W hSw => exec_load _ _ rfl _ rfl (load_psw hSw.2.2.1)⟩) k0 ?_
  try simp only [Act.put, List.setIfInBounds_toArray, List.set_cons_zero, List.set_cons_succ]
  refine wpAnyH_ready (rs := [2]) (by kernel_rfl) (by simp) ?_
  refine AllReadyH.cons (o := ⟨none, _, _, _, _, _⟩) rfl (fun K hK => ?_) AllReadyH.nil
  obtain ⟨xr, hxr, hbr⟩ := k0.2.2.2.1
  have HR3 := Lib.hid (bx_row3 hbr (regA R))
  rw [if_pos (by rfl)]
  refine op_store _ _ _ rfl _ rfl _ rfl (store_regs hbr hxr R) ?_
  clear hbr hxr xr
  refine hK.out _ _ (XS.reg k0 HNE.out.1 HGE.out.1 R) (fun k1 => ?_)
  clear hK K
  try simp only [List.setIfInBounds_toArray, List.set_cons_zero, List.set_cons_succ]
  refine wpAnyH_ready (rs := [3]) (by kernel_rfl) (by simp) ?_
  refine AllReadyH.cons (o := ⟨none, _, _, _, _, _⟩) rfl (fun K hK => ?_) AllReadyH.nil
  obtain ⟨xr, hxr, hbr⟩ := k1.2.2.2.2
  have HR4 := Lib.hid (bx_row3 hbr (pswA p))
  have HR5 := Lib.hid (bx_row2 HR3.out (Row.ne HR3.out.row hbr.row (by decide)) (pswA p))
  rw [if_pos (by rfl)]
  refine op_store _ _ _ rfl _ rfl _ rfl (store_psw hbr hxr p) ?_
  clear hbr hxr xr
  refine hK.out _ _ (XS.psw k1 HNE.out.2 HGE.out.2 p) (fun k2 => ?_)
  clear hK K
  try simp only [List.setIfInBounds_toArray, List.set_cons_zero, List.set_cons_succ]
  refine wpAnyH_take (i := 4) (oi := ⟨some 10, _, _, _, _, _⟩) (v := .int .i64 1) rfl (by kernel_rfl) (by kernel_rfl) (by kernel_rfl) (fun _ _ _ h => h) (Or.inl ⟨by rfl, fun W hSw => by (try dsimp only at hSw); go_simp⟩) k2 ?_
  try simp only [Act.put, List.setIfInBounds_toArray, List.set_cons_zero, List.set_cons_succ]
  refine wpAnyH_done (by kernel_rfl) ?_ _
  refine id ?_
  go_wp2
  refine bodyPost_ret (results_cct rfl rfl rfl rfl (load_regs HR5.out) (load_psw HR4.out)) rfl ?_
  exact ⟨rfl, kp_nil k2.1⟩

end M
end Go.Proofs.YtbcncohjjnmdcaaGreatDoor
namespace Go.Proofs.YtbcncohjjnmdcaaGreatDoor
namespace E
end E
open Go.RowKit Go.Shelf E
set_option linter.unusedVariables false
namespace M

/-- What Exec leaves. -/
def ExPost (w : World) (A g h n m : Nat) (R : Nat → Int) (p : Psw) (bs ks : List UInt8) (o : Out) (e : Ending) (w' : World) : Prop :=
  match o with
  | .stop c => e = .returned (refA R p c) ∧ Sto w' A g h n m bs ks ∧ Kp w w' [g]
  | .go R' p' c' bs' => e = .returned (refA R' p' c') ∧ Sto w' A g h n m bs' ks ∧ Kp w w' [g]
theorem range_of {w : World} {E A : Nat} {q : Qn} {R : Nat → Int} {p : Psw} {c : Int} (h : Ex w E A q R p c) (o : Nat) (cs : Array Value) (hc : ∀ j, j < cs.size → (exA A q R p c)[o + j]? = cs[j]?) : w.rangeAt E o cs.toList := fun j v hv => by
  have hj : j < cs.size := by
    rw [Array.getElem?_toList] at hv
    exact (Array.getElem?_eq_some_iff.1 hv).1
  rw [Bx.cell h, hc j hj, ← Array.getElem?_toList]
  exact hv
theorem load_regs_ex {w : World} {E A : Nat} {q : Qn} {R : Nat → Int} {p : Psw} {c : Int} (h : Ex w E A q R p c) : (loadVar 28 ⟨E, 12, none⟩).run Tryz.prog w = .ok (.agg (regA R)) w := by
  have hr := range_of h 12 (regA R) (fun j hj => by
    have h16 : j < 16 := hj
    rcases lt16 h16 with rfl | rfl | rfl | rfl | rfl | rfl | rfl | rfl | rfl | rfl | rfl | rfl | rfl | rfl | rfl | rfl <;> rfl)
  exact run_loadVar_mid w E 12 _ _ _ hr Tryz.underlying28 rfl (by kernel_rfl)
theorem load_psw_ex {w : World} {E A : Nat} {q : Qn} {R : Nat → Int} {p : Psw} {c : Int} (h : Ex w E A q R p c) : (loadVar 30 ⟨E, 28, none⟩).run Tryz.prog w = .ok (.agg (pswA p)) w := by
  have hr := range_of h 28 (pswA p) (fun j hj => by
    have h10 : j < 10 := hj
    rcases (by omega : j = 0 ∨ j = 1 ∨ j = 2 ∨ j = 3 ∨ j = 4 ∨ j = 5 ∨ j = 6 ∨ j = 7 ∨ j = 8 ∨ j = 9) with rfl | rfl | rfl | rfl | rfl | rfl | rfl | rfl | rfl | rfl <;> rfl)
  exact run_loadVar_mid w E 28 _ _ _ hr Tryz.underlying30 rfl (by kernel_rfl)
theorem sto_row {w : World} {A g h n m : Nat} {bs ks : List UInt8} (hs : Sto w A g h n m bs ks) (B : Nat) (cs : Array Value) (hB : B ≠ A ∧ B ≠ g ∧ B ≠ h) : Sto (w.setRow B cs) A g h n m bs ks := by
  refine ⟨bx_row2 hs.1 (fun e => hB.1 e.symm) _, ?_, ?_, hs.2.2.2⟩
  · obtain ⟨cur, a1, a2⟩ := hs.2.1
    exact ⟨cur, (setRow_other w B g _ (fun e => hB.2.1 e.symm)).trans a1, a2⟩
  · obtain ⟨cur, a1, a2⟩ := hs.2.2.1
    exact ⟨cur, (setRow_other w B h _ (fun e => hB.2.2 e.symm)).trans a1, a2⟩
theorem wpList_val {P : Program} {ops : Array Oper} {Q : Exit → Act → World → Prop} {a : Act} {w w' : World} {rest : List Oper} {o : Oper} {v : Value} (hgd : o.guard = none) (hx : (execOp a.eval o).run P w = .ok (.value v) w') (h : wpList P ops Q rest (a.put o.dst v) w') : wpList P ops Q (o :: rest) a w := by
  simp only [wpList, Region.wanted, hgd]
  exact .inl (by unfold Oper.wp; rw [hx]; exact h)
theorem wpList_skp {P : Program} {ops : Array Oper} {Q : Exit → Act → World → Prop} {a : Act} {w w' : World} {rest : List Oper} {o : Oper} (hgd : o.guard = none) (hx : (execOp a.eval o).run P w = .ok .skip w') (h : wpList P ops Q rest (a.put o.dst undef) w') : wpList P ops Q (o :: rest) a w := by
  simp only [wpList, Region.wanted, hgd]
  exact .inl (by unfold Oper.wp; rw [hx]; exact h)
theorem wpList_load {P : Program} {ops : Array Oper} {Q : Exit → Act → World → Prop} {a : Act} {w : World} {rest : List Oper} {o : Oper} {v : Value} (hgd : o.guard = none) (t : TypeId) (x : Operand) (hop : o.op = Op.load t x) (ad : Addr) (hp : a.eval x = .pointer (some ad)) (hl : (loadVar t ad).run P w = .ok v w) (h : wpList P ops Q rest (a.put o.dst v) w) : wpList P ops Q (o :: rest) a w :=
  wpList_val hgd (exec_load t x hop ad hp hl) h
theorem build_run (q : Qn) (R : Nat → Int) (p : Psw) (A : Nat) (w : World) : (Instr.build 76 #[(0, q.ins.val), (1, .agg (regA R)), (2, .agg (pswA p)), (3, .pointer (some ⟨A, 0, none⟩))]).run Tryz.prog w = .ok (.agg (exA A q R p 0)) w := by kernel_rfl
theorem exec_build {o : Oper} {a : Act} {w : World} (q : Qn) (R : Nat → Int) (p : Psw) (A : Nat) (hop : o.op = Op.build 76 #[(0, .tmp 33), (1, .tmp 34), (2, .tmp 35), (3, .tmp 36)]) (h0 : a.eval (.tmp 33) = q.ins.val) (h1 : a.eval (.tmp 34) = .agg (regA R)) (h2 : a.eval (.tmp 35) = .agg (pswA p)) (h3 : a.eval (.tmp 36) = .pointer (some ⟨A, 0, none⟩)) : (execOp a.eval o).run Tryz.prog w = .ok (.value (.agg (exA A q R p 0))) w := by
  have e := build_run q R p A w
  simp [execOp, hop, h0, h1, h2, h3, e, Result.andThen]
def exZ : Array Value := #[.int .i64 0, .int .i64 0, .int .i64 0, .int .i64 0, .int .i64 0, .int .i64 0, .int .i64 0, .int .i64 0, .int .i64 0, .int .i64 0, .int .i64 0, .int .i64 0, .int .u32 0, .int .u32 0, .int .u32 0, .int .u32 0, .int .u32 0, .int .u32 0, .int .u32 0, .int .u32 0, .int .u32 0, .int .u32 0, .int .u32 0, .int .u32 0, .int .u32 0, .int .u32 0, .int .u32 0, .int .u32 0, .int .i64 0, .int .i64 0, .bool false, .bool false, .bool false, .int .i64 0, .int .i64 0, .int .i64 0, .int .i64 0, .int .i64 0, .pointer none, .int .i64 0]
theorem alloc_run (w : World) : (Instr.alloc 76 true (.tuple #[])).run Tryz.prog w = .ok (.pointer (some ⟨w.heap.size, 0, none⟩)) (w.alloc (.cells exZ 76)) := by kernel_rfl
theorem exec_alloc {o : Oper} {a : Act} {w : World} (hop : o.op = Op.alloc 76) : (execOp a.eval o).run Tryz.prog w = .ok (.value (.pointer (some ⟨w.heap.size, 0, none⟩))) (w.alloc (.cells exZ 76)) := by
  simp [execOp, hop, alloc_run, Result.andThen]
theorem ex_one (A : Nat) (q : Qn) (R : Nat → Int) (p : Psw) (c : Int) : (exA A q R p c).all (·.oneCell') = true := by simp [exA, Value.oneCell']
theorem exec_store {o : Oper} {a : Act} {w : World} {q : Qn} {R : Nat → Int} {p : Psw} {A : Nat} (hop : o.op = Op.store 76 (.tmp 11) (.tmp 37)) (h0 : a.eval (.tmp 11) = .pointer (some ⟨w.heap.size, 0, none⟩)) (h1 : a.eval (.tmp 37) = .agg (exA A q R p 0)) : (execOp a.eval o).run Tryz.prog (w.alloc (.cells exZ 76)) = .ok .skip (w.alloc (.cells (exA A q R p 0) 76)) := by
  have e := run_storeVar_new (P := Tryz.prog) w 76 exZ (exA A q R p 0) (by kernel_rfl) rfl (ex_one A q R p 0)
  simp [execOp, hop, h0, h1, Instr.storeAt, Instr.sureAddr, e, Result.andThen]
set_option maxRecDepth 100000 in
set_option maxHeartbeats 2000000 in
theorem exec_main (q : Qn) (R : Nat → Int) (p : Psw) (A g h n m : Nat) (bs ks : List UInt8) (f : Nat) (o : Out) (w : World) (hs : Sto w A g h n m bs ks) (hg : Sg w)
    (hoz : ∀ C, o = .stop C → C ≠ 0) (hf : Go.Proofs.Enters Tryz.prog f) (hc : chkV q.ins = 0) (ho : okB p = true)
    (hact : ∀ X, Calls Tryz.prog 28 #[.int .i64 (q.op : Int)] X fun e X' => e = .returned (fnV f) ∧ X = X')
    (hA : ∀ E X, Sg X → Ex X E A q R p 0 → Sto X A g h n m bs ks → Calls Tryz.prog f #[.pointer (some ⟨E, 0, none⟩)] X (ActPost X E A g h n m q bs ks o)) :
    Calls Tryz.prog 15 #[q.ins.val, .agg (regA R), .agg (pswA p), .pointer (some ⟨A, 0, none⟩)] w (ExPost w A g h n m R p bs ks o) := by
  obtain ⟨Q, hQ⟩ : ∃ Q, Q = q.ins := ⟨_, rfl⟩
  have hk := fun X => knows_yes Q.op f X (by rw [hQ]; exact hact)
  rw [← hQ] at hc ⊢
  have HQ := Lib.hid hQ
  clear hQ
  have HFX := Lib.hid (exW_facts w Q R p)
  have hexw : exW w Q R p = ((((w.alloc (.cells #[.int .i64 Q.op, .int .i64 Q.fo, .int .i64 Q.r1, .int .i64 Q.r2, .int .i64 Q.x2, .int .i64 Q.b1, .int .i64 Q.d1, .int .i64 Q.b2, .int .i64 Q.d2, .int .i64 Q.l1, .int .i64 Q.l2, .int .i64 Q.i2] 25)).alloc (.cells #[.int .u32 (R 0), .int .u32 (R 1), .int .u32 (R 2), .int .u32 (R 3), .int .u32 (R 4), .int .u32 (R 5), .int .u32 (R 6), .int .u32 (R 7), .int .u32 (R 8), .int .u32 (R 9), .int .u32 (R 10), .int .u32 (R 11), .int .u32 (R 12), .int .u32 (R 13), .int .u32 (R 14), .int .u32 (R 15)] 28)).alloc (.cells #[.int .i64 p.m, .int .i64 p.k, .bool p.ma, .bool p.wa, .bool p.pr, .int .i64 p.co, .int .i64 p.il, .int .i64 p.cc, .int .i64 p.pg, .int .i64 p.ad] 30)).alloc (.cells #[.int .u32 0, .int .u32 0, .int .u32 0, .int .u32 0, .int .u32 0, .int .u32 0, .int .u32 0, .int .u32 0, .int .u32 0, .int .u32 0, .int .u32 0, .int .u32 0, .int .u32 0, .int .u32 0, .int .u32 0, .int .u32 0] 28)).alloc (.cells #[.int .i64 0, .int .i64 0, .bool false, .bool false, .bool false, .int .i64 0, .int .i64 0, .int .i64 0, .int .i64 0, .int .i64 0] 30) := rfl
  have HEX := Lib.hid hexw
  clear hexw
  have HK := Lib.hid hk
  have hck := check_any Q (exW w Q R p)
  rw [hc] at hck
  have HCK := Lib.hid hck
  have HV := Lib.hid (fun X => valid_any p X)
  rw [ho] at HV
  obtain ⟨i0, i1, i2, i3, i4, i5, i6, i7, i8, i9, i10, i11⟩ := bx_cells HFX.out.2.2.1
  rw [HEX.out] at i0 i1 i2 i3 i4 i5 i6 i7 i8 i9 i10 i11
  have HC := Lib.hid hoz
  clear hk hck hc ho hoz
  unfold Ins.val at HCK
  unfold Ins.val
  have e1 : Value.agg (regA R) = .agg #[.int .u32 (R 0), .int .u32 (R 1), .int .u32 (R 2), .int .u32 (R 3), .int .u32 (R 4), .int .u32 (R 5), .int .u32 (R 6), .int .u32 (R 7), .int .u32 (R 8), .int .u32 (R 9), .int .u32 (R 10), .int .u32 (R 11), .int .u32 (R 12), .int .u32 (R 13), .int .u32 (R 14), .int .u32 (R 15)] := rfl
  have e2 : Value.agg (pswA p) = .agg #[.int .i64 p.m, .int .i64 p.k, .bool p.ma, .bool p.wa, .bool p.pr, .int .i64 p.co, .int .i64 p.il, .int .i64 p.cc, .int .i64 p.pg, .int .i64 p.ad] := rfl
  rw [e1, e2]
  clear e1 e2
  go_enter Tryz.func15, Tryz.ntmps15
  go_wp2_with fail
  refine (HK.out _).mono ?_
  rintro e w6 ⟨rfl, rfl⟩
  go_wp2_with fail
  rw [← HEX.out]
  clear i0 i1 i2 i3 i4 i5 i6 i7 i8 i9 i10 i11
  refine HCK.out.mono ?_
  rintro e w6 ⟨rfl, hb⟩
  have HX6 := Lib.hid (XS.below HFX.out.2.2.2 hb)
  have HI6 := Lib.hid (HFX.out.2.2.1.below hb)
  obtain ⟨j0, j1, j2, j3, j4, j5, j6, j7, j8, j9⟩ := cells_of HX6.out.2.2.1
  clear hb HFX HEX HK HCK
  go_wp2_with fail
  clear j0 j1 j2 j3 j4 j5 j6 j7 j8 j9
  refine (HV.out _).mono ?_
  rintro e w7 ⟨rfl, hb⟩
  have HS := Lib.hid (XS.below HX6.out hb)
  have HI := Lib.hid (HI6.out.below hb)
  clear hb HX6 HV HI6
  have hQ := HQ.out
  subst hQ
  go_wp2_with (first | (refine wpList_load rfl 25 _ rfl _ rfl (load_ins HI.out) ?_) | (refine wpList_load rfl 28 _ rfl _ rfl (load_regs HS.out.2.1) ?_) | (refine wpList_load rfl 30 _ rfl _ rfl (load_psw HS.out.2.2.1) ?_) | (refine wpList_val rfl (exec_build q R p A rfl rfl rfl rfl rfl) ?_) | (refine wpList_val rfl (exec_alloc rfl) ?_) | (refine wpList_skp rfl (exec_store rfl rfl rfl) ?_))
  obtain ⟨E, hE⟩ : ∃ E, E = w7.heap.size := ⟨_, rfl⟩
  obtain ⟨w8, hw8⟩ : ∃ w8, w8 = w7.alloc (.cells (exA A q R p 0) 76) := ⟨_, rfl⟩
  have b78 : Below w7.heap.size w7 w8 := by rw [hw8]; exact below_new _ _
  have hx8 : Ex w8 E A q R p 0 := by rw [hw8, hE]; exact Bx.new w7 _ _
  have b07 : Below w.heap.size w w7 := kp_nil HS.out.1
  have hs8 : Sto w8 A g h n m bs ks := (hs.below b07).below b78
  have HP := Lib.hid (perform_any E A q R p 0 g h n m bs ks f o w8 hx8 hs8 ((hg.below b07).below b78) hf hact (fun X hgX hX hsX => hA E X hgX hX hsX))
  have hEl : w7.heap.size ≤ E := by omega
  have hgl := hs.2.1.lt
  have HXS : Hid (∀ w9, Kp w8 w9 [E, g] → XS [g] (w.heap.size + 1) (w.heap.size + 1 + 1) (w.heap.size + 1 + 1 + 1) (w.heap.size + 1 + 1 + 1 + 1) R p w w9) := Lib.hid (fun w9 hk => by
    have hb8 := XS.below HS.out b78
    obtain ⟨a0, a1, a2, ⟨x, hx, a3⟩, ⟨y, hy, a4⟩⟩ := hb8
    obtain ⟨c0, c1, c2, ⟨x', hx', c3⟩, ⟨y', hy', c4⟩⟩ := HS.out
    have d1 := Bx.lt c1
    have d2 := Bx.lt c2
    have d3 := Bx.lt c3
    have d4 := Bx.lt c4
    have ks : Kp w w9 [g] := ⟨hk.os.trans a0.os, hk.tape.trans a0.tape, hk.output.trans a0.output, Nat.le_trans a0.size hk.size, fun b hb hn => (hk.block b (Nat.lt_of_lt_of_le hb a0.size) (by
      have e1 := b07.size
      have e2 : b ≠ E := by omega
      simp at hn
      simp [e2, hn])).trans (a0.block b hb (by simp))⟩
    exact ⟨ks, a1.kp hk (by simp; omega), a2.kp hk (by simp; omega), ⟨x, hx, a3.kp hk (by simp; omega)⟩, ⟨y, hy, a4.kp hk (by simp; omega)⟩⟩)
  have HGL := Lib.hid (And.intro hs.1.lt (And.intro hgl hs.2.2.1.lt))
  rw [← hE, ← hw8]
  clear HS HI HQ hw8 b78 hx8 b07 hs8 hs hg hf hact hA hEl hgl hE
  obtain ⟨B1, hB1⟩ : ∃ B1, B1 = w.heap.size + 1 := ⟨_, rfl⟩
  obtain ⟨B2, hB2⟩ : ∃ B2, B2 = w.heap.size + 1 + 1 := ⟨_, rfl⟩
  obtain ⟨B3, hB3⟩ : ∃ B3, B3 = w.heap.size + 1 + 1 + 1 := ⟨_, rfl⟩
  obtain ⟨B4, hB4⟩ : ∃ B4, B4 = w.heap.size + 1 + 1 + 1 + 1 := ⟨_, rfl⟩
  have hge1 : w.heap.size ≤ w.heap.size + 1 + 1 + 1 := by omega
  have hge2 : w.heap.size ≤ w.heap.size + 1 + 1 + 1 + 1 := by omega
  have hne1 : w.heap.size + 1 ≠ w.heap.size + 1 + 1 + 1 := by omega
  have hne2 : w.heap.size + 1 + 1 ≠ w.heap.size + 1 + 1 + 1 + 1 := by omega
  rw [← hB4, ← hB3, ← hB2, ← hB1] at HXS
  rw [← hB4, ← hB3, ← hB2, ← hB1]
  rw [← hB3, ← hB1] at hne1
  rw [← hB4, ← hB2] at hne2
  rw [← hB3] at hge1
  rw [← hB4] at hge2
  have HGE := Lib.hid (And.intro hge1 hge2)
  have HNE := Lib.hid (And.intro hne1 hne2)
  have hb3 : B3 ≠ A ∧ B3 ≠ g ∧ B3 ≠ h := by rw [hB3]; have := HGL.out; exact ⟨by omega, by omega, by omega⟩
  have hb4 : B4 ≠ A ∧ B4 ≠ g ∧ B4 ≠ h := by rw [hB4]; have := HGL.out; exact ⟨by omega, by omega, by omega⟩
  have HBG := Lib.hid (And.intro hb3 hb4)
  clear hb3 hb4 HGL
  clear hB1 hB2 hB3 hB4 hge1 hge2 hne1 hne2
  refine HP.out.mono ?_
  clear HP
  cases o with
  | stop C =>
    rintro e w9 ⟨rfl, hs9, hk9⟩
    have hCz := HC.out C rfl
    have hCb : (C == 0) = false := by simpa using hCz
    have hCn : (C != 0) = true := by simpa using hCz
    have HS := Lib.hid (HXS.out w9 hk9)
    have HST := Lib.hid hs9
    clear hk9 hs9 HXS hCz HC
    go_wp2_with fail
    refine wp_region_held_drew (S := XS [g] B1 B2 B3 B4 R p w) (by kernel_rfl) (HS.out.drew) (fun k0 => ?_)
    show wpAnyH _ _ _ _ _ 6 #[false, false, false, false, false, false] _ _
    refine wpAnyH_take (i := 0) (oi := ⟨some 41, _, _, _, _, _⟩) (v := .agg (regA R)) rfl (by kernel_rfl) (by kernel_rfl) (by kernel_rfl) (fun _ _ _ h => h) (Or.inl ⟨by rfl, fun W hSw => exec_load _ _ rfl _ rfl (load_regs hSw.2.1)⟩) k0 ?_
    try simp only [Act.put, List.setIfInBounds_toArray, List.set_cons_zero, List.set_cons_succ]
    refine wpAnyH_take (i := 1) (oi := ⟨some 42, _, _, _, _, _⟩) (v := .agg (pswA p)) rfl (by kernel_rfl) (by kernel_rfl) (by kernel_rfl) (fun _ _ _ h => h) (Or.inl ⟨by rfl, fun W hSw => exec_load _ _ rfl _ rfl (load_psw hSw.2.2.1)⟩) k0 ?_
    try simp only [Act.put, List.setIfInBounds_toArray, List.set_cons_zero, List.set_cons_succ]
    refine wpAnyH_take (i := 2) (oi := ⟨some 43, _, _, _, _, _⟩) (v := .int .i64 C) rfl (by kernel_rfl) (by kernel_rfl) (by kernel_rfl) (fun _ _ _ h => h) (Or.inl ⟨by rfl, fun W hSw => by (try dsimp only at hSw); go_simp⟩) k0 ?_
    try simp only [Act.put, List.setIfInBounds_toArray, List.set_cons_zero, List.set_cons_succ]
    refine wpAnyH_ready (rs := [3]) (by kernel_rfl) (by simp) ?_
    refine AllReadyH.cons (o := ⟨none, _, _, _, _, _⟩) rfl (fun K hK => ?_) AllReadyH.nil
    obtain ⟨xr, hxr, hbr⟩ := k0.2.2.2.1
    have HR3 := Lib.hid (bx_row3 hbr (regA R))
    rw [if_pos (by rfl)]
    refine op_store _ _ _ rfl _ rfl _ rfl (store_regs hbr hxr R) ?_
    clear hbr hxr xr
    refine hK.out _ _ (XS.reg k0 HNE.out.1 HGE.out.1 R) (fun k1 => ?_)
    clear hK K
    try simp only [List.setIfInBounds_toArray, List.set_cons_zero, List.set_cons_succ]
    refine wpAnyH_ready (rs := [4]) (by kernel_rfl) (by simp) ?_
    refine AllReadyH.cons (o := ⟨none, _, _, _, _, _⟩) rfl (fun K hK => ?_) AllReadyH.nil
    obtain ⟨xr, hxr, hbr⟩ := k1.2.2.2.2
    have HR4 := Lib.hid (bx_row3 hbr (pswA p))
    have HR5 := Lib.hid (bx_row2 HR3.out (Row.ne HR3.out.row hbr.row (by decide)) (pswA p))
    rw [if_pos (by rfl)]
    refine op_store _ _ _ rfl _ rfl _ rfl (store_psw hbr hxr p) ?_
    clear hbr hxr xr
    refine hK.out _ _ (XS.psw k1 HNE.out.2 HGE.out.2 p) (fun k2 => ?_)
    clear hK K
    try simp only [List.setIfInBounds_toArray, List.set_cons_zero, List.set_cons_succ]
    refine wpAnyH_take (i := 5) (oi := ⟨some 10, _, _, _, _, _⟩) (v := .int .i64 C) rfl (by kernel_rfl) (by kernel_rfl) (by kernel_rfl) (fun _ _ _ h => h) (Or.inl ⟨by rfl, fun W hSw => by (try dsimp only at hSw); go_simp⟩) k2 ?_
    try simp only [Act.put, List.setIfInBounds_toArray, List.set_cons_zero, List.set_cons_succ]
    refine wpAnyH_done (by kernel_rfl) ?_ _
    refine id ?_
    go_wp2
    refine bodyPost_ret (results_cct rfl rfl rfl rfl (load_regs HR5.out) (load_psw HR4.out)) rfl ?_
    have hs11 := sto_row (sto_row (HST.out.below (bel_drew _)) B3 (regA R) HBG.out.1) B4 (pswA p) HBG.out.2
    exact ⟨rfl, hs11, k2.1⟩
  | go R' p' c' bs' =>
    rintro e w9 ⟨rfl, hx9, hs9, hk9⟩
    have HS := Lib.hid (And.intro (HXS.out w9 hk9) hx9)
    have HST := Lib.hid hs9
    clear hk9 hs9 hx9 HXS HC
    go_wp2_with fail
    refine wp_region_held_drew (S := fun W => XS [g] B1 B2 B3 B4 R p w W ∧ Ex W E A q R' p' c') (by kernel_rfl) ⟨HS.out.1.drew, HS.out.2.drew⟩ (fun k0 => ?_)
    show wpAnyH _ _ _ _ _ 9 #[false, false, false, false, false, false, false, false, false] _ _
    refine wpAnyH_take (i := 0) (oi := ⟨some 44, _, _, _, _, _⟩) (v := .pointer (some ⟨E, 12, none⟩)) rfl (by kernel_rfl) (by kernel_rfl) (by kernel_rfl) (fun _ _ _ h => h) (Or.inl ⟨by rfl, fun W hSw => by (try dsimp only at hSw); go_simp⟩) k0 ?_
    try simp only [Act.put, List.setIfInBounds_toArray, List.set_cons_zero, List.set_cons_succ]
    refine wpAnyH_take (i := 1) (oi := ⟨some 45, _, _, _, _, _⟩) (v := .agg (regA R')) rfl (by kernel_rfl) (by kernel_rfl) (by kernel_rfl) (fun _ _ _ h => h) (Or.inl ⟨by rfl, fun W hSw => exec_load _ _ rfl _ rfl (load_regs_ex hSw.2)⟩) k0 ?_
    try simp only [Act.put, List.setIfInBounds_toArray, List.set_cons_zero, List.set_cons_succ]
    refine wpAnyH_take (i := 2) (oi := ⟨some 46, _, _, _, _, _⟩) (v := .pointer (some ⟨E, 28, none⟩)) rfl (by kernel_rfl) (by kernel_rfl) (by kernel_rfl) (fun _ _ _ h => h) (Or.inl ⟨by rfl, fun W hSw => by (try dsimp only at hSw); go_simp⟩) k0 ?_
    try simp only [Act.put, List.setIfInBounds_toArray, List.set_cons_zero, List.set_cons_succ]
    refine wpAnyH_take (i := 3) (oi := ⟨some 47, _, _, _, _, _⟩) (v := .agg (pswA p')) rfl (by kernel_rfl) (by kernel_rfl) (by kernel_rfl) (fun _ _ _ h => h) (Or.inl ⟨by rfl, fun W hSw => exec_load _ _ rfl _ rfl (load_psw_ex hSw.2)⟩) k0 ?_
    try simp only [Act.put, List.setIfInBounds_toArray, List.set_cons_zero, List.set_cons_succ]
    refine wpAnyH_take (i := 4) (oi := ⟨some 48, _, _, _, _, _⟩) (v := .pointer (some ⟨E, 39, none⟩)) rfl (by kernel_rfl) (by kernel_rfl) (by kernel_rfl) (fun _ _ _ h => h) (Or.inl ⟨by rfl, fun W hSw => by (try dsimp only at hSw); go_simp⟩) k0 ?_
    try simp only [Act.put, List.setIfInBounds_toArray, List.set_cons_zero, List.set_cons_succ]
    refine wpAnyH_take (i := 5) (oi := ⟨some 49, _, _, _, _, _⟩) (v := .int .i64 c') rfl (by kernel_rfl) (by kernel_rfl) (by kernel_rfl) (fun _ _ _ h => h) (Or.inl ⟨by rfl, fun W hSw => by have cq := Ex.cd hSw.2; clear hSw; go_simp⟩) k0 ?_
    try simp only [Act.put, List.setIfInBounds_toArray, List.set_cons_zero, List.set_cons_succ]
    refine wpAnyH_ready (rs := [6]) (by kernel_rfl) (by simp) ?_
    refine AllReadyH.cons (o := ⟨none, _, _, _, _, _⟩) rfl (fun K hK => ?_) AllReadyH.nil
    obtain ⟨xr, hxr, hbr⟩ := k0.1.2.2.2.1
    have HR3 := Lib.hid (bx_row3 hbr (regA R'))
    rw [if_pos (by rfl)]
    refine op_store _ _ _ rfl _ rfl _ rfl (store_regs hbr hxr R') ?_
    have k3 := bx_row2 k0.2 (Row.ne (Bx.row k0.2) hbr.row (by decide)) (regA R')
    clear hbr hxr xr
    refine hK.out _ _ ⟨XS.reg k0.1 HNE.out.1 HGE.out.1 R', k3⟩ (fun k1 => ?_)
    clear k3
    clear hK K
    try simp only [List.setIfInBounds_toArray, List.set_cons_zero, List.set_cons_succ]
    refine wpAnyH_ready (rs := [7]) (by kernel_rfl) (by simp) ?_
    refine AllReadyH.cons (o := ⟨none, _, _, _, _, _⟩) rfl (fun K hK => ?_) AllReadyH.nil
    obtain ⟨xr, hxr, hbr⟩ := k1.1.2.2.2.2
    have HR4 := Lib.hid (bx_row3 hbr (pswA p'))
    have HR5 := Lib.hid (bx_row2 HR3.out (Row.ne HR3.out.row hbr.row (by decide)) (pswA p'))
    rw [if_pos (by rfl)]
    refine op_store _ _ _ rfl _ rfl _ rfl (store_psw hbr hxr p') ?_
    have k3 := bx_row2 k1.2 (Row.ne (Bx.row k1.2) hbr.row (by decide)) (pswA p')
    clear hbr hxr xr
    refine hK.out _ _ ⟨XS.psw k1.1 HNE.out.2 HGE.out.2 p', k3⟩ (fun k2 => ?_)
    clear k3
    clear hK K
    try simp only [List.setIfInBounds_toArray, List.set_cons_zero, List.set_cons_succ]
    refine wpAnyH_take (i := 8) (oi := ⟨some 10, _, _, _, _, _⟩) (v := .int .i64 c') rfl (by kernel_rfl) (by kernel_rfl) (by kernel_rfl) (fun _ _ _ h => h) (Or.inl ⟨by rfl, fun W hSw => by (try dsimp only at hSw); go_simp⟩) k2 ?_
    try simp only [Act.put, List.setIfInBounds_toArray, List.set_cons_zero, List.set_cons_succ]
    refine wpAnyH_done (by kernel_rfl) ?_ _
    refine id ?_
    go_wp2
    refine bodyPost_ret (results_cct rfl rfl rfl rfl (load_regs HR5.out) (load_psw HR4.out)) rfl ?_
    have hs11 := sto_row (sto_row (HST.out.below (bel_drew _)) B3 (regA R') HBG.out.1) B4 (pswA p') HBG.out.2
    exact ⟨rfl, hs11, k2.1.1⟩

end M
end Go.Proofs.YtbcncohjjnmdcaaGreatDoor

/- Fields of words, and their sums. -/
import Derived.Test.YtbcncohjjnmdcaaGreatDoorRows
import Derived.Test.YtbcncohjjnmdcaaGreatDoorDpWorks
namespace Go.Proofs.YtbcncohjjnmdcaaGreatDoor
namespace E
end E
open Go.RowKit Go.Shelf E
set_option linter.unusedVariables false
namespace M

/-- A word as a signed number. -/
def sV (v : Nat) : Int := if v < 2147483648 then (v : Int) else (v : Int) - 4294967296
theorem sub_put {l b : List UInt8} {a : Nat} (h : a + b.length ≤ l.length) : E.subL (E.putL l a b) a b.length = b := by
  unfold E.subL E.putL
  have e : (l.take a).length = a := by rw [List.length_take]; omega
  rw [List.drop_append_of_le_length (by omega), List.drop_of_length_le (by omega), List.nil_append, List.take_append_of_le_length (by omega), List.take_length]
theorem put_len {l b : List UInt8} {a : Nat} (h : a + b.length ≤ l.length) : (E.putL l a b).length = l.length := by
  unfold E.putL
  rw [List.length_append, List.length_append, List.length_take, List.length_drop]
  omega
/-- CVD, CVB and AP with the key 0. -/
theorem cvd_out (q : Qn) (R : Nat → Int) (bs : List UInt8) (d : Nat) (hd : adT q R = d) (h8 : d % 8 = 0) (hl : d + 8 ≤ 2048) : cvdO q R (⟨0, 0, false, false, false, 0, 0, 0, 0, 0⟩ : Psw) 2048 bs (List.replicate 1 0) = .go R (⟨0, 0, false, false, false, 0, 0, 0, 0, 0⟩ : Psw) 0 (E.putL bs d (fbL (R q.r1).toNat)) := by
  unfold cvdO alC putO stC
  rw [hd, if_pos h8, thenO_go _ rfl, fbL_len, thenO_go]
  exact code_zero stP_zero hl
theorem runs_78' (q : Qn) (R : Nat → Int) (p : Psw) (n : Nat) (bs ks : List UInt8) (hR : RegOk R) (hq : QOk q) (hop : q.op = 78) (o : Out) (ho : cvdO q R p n bs ks = o) : Runs q R p n bs ks o := ho ▸ runs_78 q R p n bs ks hR hq hop
theorem cvd_any (i d : Int) (w : World) : Calls Tryz.prog 25 #[.int .i64 i, .int .i64 d] w (New w (.agg #[.int .i64 78, .int .i64 2, .int .i64 i, .int .i64 0, .int .i64 0, .int .i64 0, .int .i64 0, .int .i64 0, .int .i64 d, .int .i64 0, .int .i64 0, .int .i64 0])) := by
  go_enter Tryz.func25, Tryz.ntmps25
  go_wp2
  refine bodyPost_ret (results_cell_row rfl _ _ w.heap.size _ _ _ _ rfl (heap_alloc_new w _) Tryz.underlying25 rfl (by kernel_rfl)) rfl ?_
  exact ⟨rfl, below_new _ _⟩
end M
end Go.Proofs.YtbcncohjjnmdcaaGreatDoor
namespace Go.Proofs.YtbcncohjjnmdcaaGreatDoor
namespace E
end E
open Go.RowKit Go.Shelf E
set_option linter.unusedVariables false
namespace M

/-- The registers, the status word and the code that Exec returns. -/
def outR (R : Nat → Int) (p : Psw) : Out → (Nat → Int) × Psw × Int
  | .stop C => (R, p, C)
  | .go R' p' c _ => (R', p', c)
/-- The bytes that Exec leaves. -/
def outB (bs : List UInt8) : Out → List UInt8
  | .stop _ => bs
  | .go _ _ _ b => b
theorem ex_out {w : World} {A g h n m : Nat} {R : Nat → Int} {p : Psw} {bs ks : List UInt8} {o : Out} {e : Ending} {w' : World} (hp : ExPost w A g h n m R p bs ks o e w') : e = .returned (refA (outR R p o).1 (outR R p o).2.1 (outR R p o).2.2) ∧ Sto w' A g h n m (outB bs o) ks ∧ Kp w w' [g] := by
  cases o with
  | stop C => exact hp
  | go R' p' c b => exact hp
/-- What holds in the last region: the results lie in blocks. -/
def XR (l : List Nat) (B6 B9 B10 : Nat) (R : Nat → Int) (p : Psw) (A g h n m : Nat) (bs ks : List UInt8) (w0 W : World) : Prop := Kp w0 W l ∧ Bx W B9 28 (regA R) ∧ Bx W B10 30 (pswA p) ∧ (∃ x : Array Value, x.size = 16 ∧ Bx W B6 28 x) ∧ Sto W A g h n m bs ks
theorem results_ctt {P : Program} {fn : Func} {p q r : Tmp} {t : TypeId} {w : World} {a : Addr} {v v' v'' : Value} {tmps : Array Value} (h : fn.results = #[.cell p t, .tmp q, .tmp r]) (hp : tmps.getD p undef = .pointer (some a)) (hq : tmps.getD q undef = v') (hr : tmps.getD r undef = v'') (la : (loadVar t a).run P w = .ok v w) : (results fn tmps).run P w = .ok (.tuple #[v, v', v'']) w := by
  subst hq hr
  have hp' : tmps[p]?.getD undef = .pointer (some a) := by simpa using hp
  simp only [results, h, Sem.run_bind] at *
  simp [hp', asAddr, Result.andThen, la]
theorem XR.drew {l : List Nat} {B6 B9 B10 : Nat} {R : Nat → Int} {p : Psw} {A g h n m : Nat} {bs ks : List UInt8} {w0 W : World} (k : XR l B6 B9 B10 R p A g h n m bs ks w0 W) : XR l B6 B9 B10 R p A g h n m bs ks w0 W.drew := by
  obtain ⟨a, b, c, ⟨x, hx, d⟩, e⟩ := k
  exact ⟨a.trans (kp_drew _ _), b.below (bel_drew _), c.below (bel_drew _), ⟨x, hx, d.below (bel_drew _)⟩, e.below (bel_drew _)⟩
theorem XR.reg {l : List Nat} {B6 B9 B10 : Nat} {R : Nat → Int} {p : Psw} {A g h n m : Nat} {bs ks : List UInt8} {w0 W : World} (k : XR l B6 B9 B10 R p A g h n m bs ks w0 W) (h1 : B9 ≠ B6) (hB : w0.heap.size ≤ B6) (h2 : B6 ≠ A ∧ B6 ≠ g ∧ B6 ≠ h) (R' : Nat → Int) : XR l B6 B9 B10 R p A g h n m bs ks w0 (W.setRow B6 (regA R')) := by
  obtain ⟨a, b, c, ⟨x, hx, d⟩, e⟩ := k
  have n1 : B10 ≠ B6 := Row.ne c.row d.row (by decide)
  exact ⟨kp_row a hB _, bx_row2 b h1 _, bx_row2 c n1 _, ⟨regA R', rfl, bx_row3 d _⟩, sto_row e B6 _ h2⟩
set_option maxRecDepth 100000 in
set_option maxHeartbeats 4000000 in
theorem xec_post {q : Qn} {R : Nat → Int} {A g h n m : Nat} {bs ks : List UInt8} {o : Out} {w : World} (hs : Sto w A g h n m bs ks) (hg : Sg w) (hc : chkV q.ins = 0) (hr : Runs q R (⟨0, 0, false, false, false, 0, 0, 0, 0, 0⟩ : Psw) n bs ks o) : Calls Tryz.prog 24 #[q.ins.val, .agg (regA R), .pointer (some ⟨A, 0, none⟩)] w fun e w' => e = .returned (.tuple #[.agg (regA (outR R (⟨0, 0, false, false, false, 0, 0, 0, 0, 0⟩ : Psw) o).1), .int .i64 (outR R (⟨0, 0, false, false, false, 0, 0, 0, 0, 0⟩ : Psw) o).2.1.cc, .int .i64 (outR R (⟨0, 0, false, false, false, 0, 0, 0, 0, 0⟩ : Psw) o).2.2]) ∧ Sto w' A g h n m (outB bs o) ks ∧ Kp w w' [g] := by
  have HE : Hid (∀ W, Below w.heap.size w W → Calls Tryz.prog 15 #[.agg #[.int .i64 (q.op : Int), .int .i64 (q.fo : Int), .int .i64 (q.r1 : Int), .int .i64 (q.r2 : Int), .int .i64 (q.x2 : Int), .int .i64 (q.b1 : Int), .int .i64 (q.d1 : Int), .int .i64 (q.b2 : Int), .int .i64 (q.d2 : Int), .int .i64 (q.l1 : Int), .int .i64 (q.l2 : Int), .int .i64 (q.i2 : Int)], .agg #[.int .u32 (R 0), .int .u32 (R 1), .int .u32 (R 2), .int .u32 (R 3), .int .u32 (R 4), .int .u32 (R 5), .int .u32 (R 6), .int .u32 (R 7), .int .u32 (R 8), .int .u32 (R 9), .int .u32 (R 10), .int .u32 (R 11), .int .u32 (R 12), .int .u32 (R 13), .int .u32 (R 14), .int .u32 (R 15)], .agg #[.int .i64 0, .int .i64 0, .bool false, .bool false, .bool false, .int .i64 0, .int .i64 0, .int .i64 0, .int .i64 0, .int .i64 0], .pointer (some ⟨A, 0, none⟩)] W fun e w' => e = .returned (refA (outR R (⟨0, 0, false, false, false, 0, 0, 0, 0, 0⟩ : Psw) o).1 (outR R (⟨0, 0, false, false, false, 0, 0, 0, 0, 0⟩ : Psw) o).2.1 (outR R (⟨0, 0, false, false, false, 0, 0, 0, 0, 0⟩ : Psw) o).2.2) ∧ Sto w' A g h n m (outB bs o) ks ∧ Kp W w' [g]) := Lib.hid (fun W hb => (exec_of (p := (⟨0, 0, false, false, false, 0, 0, 0, 0, 0⟩ : Psw)) (hs.below hb) (hg.below hb) hc (by kernel_rfl) hr).mono (fun e w' hp => ex_out hp))
  have hlt := hs.2.1.lt
  have HLT := Lib.hid (And.intro hs.1.lt (And.intro hs.2.1.lt hs.2.2.1.lt))
  have h0 : Bx (((w.alloc (.cells #[.int .i64 (q.op : Int), .int .i64 (q.fo : Int), .int .i64 (q.r1 : Int), .int .i64 (q.r2 : Int), .int .i64 (q.x2 : Int), .int .i64 (q.b1 : Int), .int .i64 (q.d1 : Int), .int .i64 (q.b2 : Int), .int .i64 (q.d2 : Int), .int .i64 (q.l1 : Int), .int .i64 (q.l2 : Int), .int .i64 (q.i2 : Int)] 25)).alloc (.cells #[.int .u32 (R 0), .int .u32 (R 1), .int .u32 (R 2), .int .u32 (R 3), .int .u32 (R 4), .int .u32 (R 5), .int .u32 (R 6), .int .u32 (R 7), .int .u32 (R 8), .int .u32 (R 9), .int .u32 (R 10), .int .u32 (R 11), .int .u32 (R 12), .int .u32 (R 13), .int .u32 (R 14), .int .u32 (R 15)] 28)).alloc (.cells #[.int .u32 0, .int .u32 0, .int .u32 0, .int .u32 0, .int .u32 0, .int .u32 0, .int .u32 0, .int .u32 0, .int .u32 0, .int .u32 0, .int .u32 0, .int .u32 0, .int .u32 0, .int .u32 0, .int .u32 0, .int .u32 0] 28)) w.heap.size 25 #[.int .i64 (q.op : Int), .int .i64 (q.fo : Int), .int .i64 (q.r1 : Int), .int .i64 (q.r2 : Int), .int .i64 (q.x2 : Int), .int .i64 (q.b1 : Int), .int .i64 (q.d1 : Int), .int .i64 (q.b2 : Int), .int .i64 (q.d2 : Int), .int .i64 (q.l1 : Int), .int .i64 (q.l2 : Int), .int .i64 (q.i2 : Int)] := (Bx.new w _ _).below (bel0 (below_new _ _) (below_new _ _))
  have h1 : Bx (((w.alloc (.cells #[.int .i64 (q.op : Int), .int .i64 (q.fo : Int), .int .i64 (q.r1 : Int), .int .i64 (q.r2 : Int), .int .i64 (q.x2 : Int), .int .i64 (q.b1 : Int), .int .i64 (q.d1 : Int), .int .i64 (q.b2 : Int), .int .i64 (q.d2 : Int), .int .i64 (q.l1 : Int), .int .i64 (q.l2 : Int), .int .i64 (q.i2 : Int)] 25)).alloc (.cells #[.int .u32 (R 0), .int .u32 (R 1), .int .u32 (R 2), .int .u32 (R 3), .int .u32 (R 4), .int .u32 (R 5), .int .u32 (R 6), .int .u32 (R 7), .int .u32 (R 8), .int .u32 (R 9), .int .u32 (R 10), .int .u32 (R 11), .int .u32 (R 12), .int .u32 (R 13), .int .u32 (R 14), .int .u32 (R 15)] 28)).alloc (.cells #[.int .u32 0, .int .u32 0, .int .u32 0, .int .u32 0, .int .u32 0, .int .u32 0, .int .u32 0, .int .u32 0, .int .u32 0, .int .u32 0, .int .u32 0, .int .u32 0, .int .u32 0, .int .u32 0, .int .u32 0, .int .u32 0] 28)) (w.heap.size + 1) 28 #[.int .u32 (R 0), .int .u32 (R 1), .int .u32 (R 2), .int .u32 (R 3), .int .u32 (R 4), .int .u32 (R 5), .int .u32 (R 6), .int .u32 (R 7), .int .u32 (R 8), .int .u32 (R 9), .int .u32 (R 10), .int .u32 (R 11), .int .u32 (R 12), .int .u32 (R 13), .int .u32 (R 14), .int .u32 (R 15)] := by
    have h2 := (Bx.new (w.alloc (.cells #[.int .i64 (q.op : Int), .int .i64 (q.fo : Int), .int .i64 (q.r1 : Int), .int .i64 (q.r2 : Int), .int .i64 (q.x2 : Int), .int .i64 (q.b1 : Int), .int .i64 (q.d1 : Int), .int .i64 (q.b2 : Int), .int .i64 (q.d2 : Int), .int .i64 (q.l1 : Int), .int .i64 (q.l2 : Int), .int .i64 (q.i2 : Int)] 25)) 28 #[.int .u32 (R 0), .int .u32 (R 1), .int .u32 (R 2), .int .u32 (R 3), .int .u32 (R 4), .int .u32 (R 5), .int .u32 (R 6), .int .u32 (R 7), .int .u32 (R 8), .int .u32 (R 9), .int .u32 (R 10), .int .u32 (R 11), .int .u32 (R 12), .int .u32 (R 13), .int .u32 (R 14), .int .u32 (R 15)]).below (below_new _ (.cells #[.int .u32 0, .int .u32 0, .int .u32 0, .int .u32 0, .int .u32 0, .int .u32 0, .int .u32 0, .int .u32 0, .int .u32 0, .int .u32 0, .int .u32 0, .int .u32 0, .int .u32 0, .int .u32 0, .int .u32 0, .int .u32 0] 28))
    simpa using h2
  have h2 : Bx (((w.alloc (.cells #[.int .i64 (q.op : Int), .int .i64 (q.fo : Int), .int .i64 (q.r1 : Int), .int .i64 (q.r2 : Int), .int .i64 (q.x2 : Int), .int .i64 (q.b1 : Int), .int .i64 (q.d1 : Int), .int .i64 (q.b2 : Int), .int .i64 (q.d2 : Int), .int .i64 (q.l1 : Int), .int .i64 (q.l2 : Int), .int .i64 (q.i2 : Int)] 25)).alloc (.cells #[.int .u32 (R 0), .int .u32 (R 1), .int .u32 (R 2), .int .u32 (R 3), .int .u32 (R 4), .int .u32 (R 5), .int .u32 (R 6), .int .u32 (R 7), .int .u32 (R 8), .int .u32 (R 9), .int .u32 (R 10), .int .u32 (R 11), .int .u32 (R 12), .int .u32 (R 13), .int .u32 (R 14), .int .u32 (R 15)] 28)).alloc (.cells #[.int .u32 0, .int .u32 0, .int .u32 0, .int .u32 0, .int .u32 0, .int .u32 0, .int .u32 0, .int .u32 0, .int .u32 0, .int .u32 0, .int .u32 0, .int .u32 0, .int .u32 0, .int .u32 0, .int .u32 0, .int .u32 0] 28)) (w.heap.size + 1 + 1) 28 #[.int .u32 0, .int .u32 0, .int .u32 0, .int .u32 0, .int .u32 0, .int .u32 0, .int .u32 0, .int .u32 0, .int .u32 0, .int .u32 0, .int .u32 0, .int .u32 0, .int .u32 0, .int .u32 0, .int .u32 0, .int .u32 0] := by
    have h2 := Bx.new ((w.alloc (.cells #[.int .i64 (q.op : Int), .int .i64 (q.fo : Int), .int .i64 (q.r1 : Int), .int .i64 (q.r2 : Int), .int .i64 (q.x2 : Int), .int .i64 (q.b1 : Int), .int .i64 (q.d1 : Int), .int .i64 (q.b2 : Int), .int .i64 (q.d2 : Int), .int .i64 (q.l1 : Int), .int .i64 (q.l2 : Int), .int .i64 (q.i2 : Int)] 25)).alloc (.cells #[.int .u32 (R 0), .int .u32 (R 1), .int .u32 (R 2), .int .u32 (R 3), .int .u32 (R 4), .int .u32 (R 5), .int .u32 (R 6), .int .u32 (R 7), .int .u32 (R 8), .int .u32 (R 9), .int .u32 (R 10), .int .u32 (R 11), .int .u32 (R 12), .int .u32 (R 13), .int .u32 (R 14), .int .u32 (R 15)] 28)) 28 #[.int .u32 0, .int .u32 0, .int .u32 0, .int .u32 0, .int .u32 0, .int .u32 0, .int .u32 0, .int .u32 0, .int .u32 0, .int .u32 0, .int .u32 0, .int .u32 0, .int .u32 0, .int .u32 0, .int .u32 0, .int .u32 0]
    simpa using h2
  have HB0 : Hid (Below w.heap.size w (((w.alloc (.cells #[.int .i64 (q.op : Int), .int .i64 (q.fo : Int), .int .i64 (q.r1 : Int), .int .i64 (q.r2 : Int), .int .i64 (q.x2 : Int), .int .i64 (q.b1 : Int), .int .i64 (q.d1 : Int), .int .i64 (q.b2 : Int), .int .i64 (q.d2 : Int), .int .i64 (q.l1 : Int), .int .i64 (q.l2 : Int), .int .i64 (q.i2 : Int)] 25)).alloc (.cells #[.int .u32 (R 0), .int .u32 (R 1), .int .u32 (R 2), .int .u32 (R 3), .int .u32 (R 4), .int .u32 (R 5), .int .u32 (R 6), .int .u32 (R 7), .int .u32 (R 8), .int .u32 (R 9), .int .u32 (R 10), .int .u32 (R 11), .int .u32 (R 12), .int .u32 (R 13), .int .u32 (R 14), .int .u32 (R 15)] 28)).alloc (.cells #[.int .u32 0, .int .u32 0, .int .u32 0, .int .u32 0, .int .u32 0, .int .u32 0, .int .u32 0, .int .u32 0, .int .u32 0, .int .u32 0, .int .u32 0, .int .u32 0, .int .u32 0, .int .u32 0, .int .u32 0, .int .u32 0] 28))) := Lib.hid (bel0 (bel0 (below_new _ _) (below_new _ _)) (below_new _ _))
  have HI := Lib.hid h0
  have HR := Lib.hid h1
  have HZ := Lib.hid h2
  have LI := Lib.hid (run_loadVar_row (P := Tryz.prog) _ w.heap.size _ 25 _ _ _ h0 Tryz.underlying25 rfl (by kernel_rfl))
  have LR := Lib.hid (run_loadVar_row (P := Tryz.prog) _ (w.heap.size + 1) _ 28 _ _ _ h1 Tryz.underlying28 rfl (by kernel_rfl))
  clear h0 h1 h2 hs hg hc hr
  obtain ⟨R', hR'⟩ : ∃ r, r = (outR R (⟨0, 0, false, false, false, 0, 0, 0, 0, 0⟩ : Psw) o).1 := ⟨_, rfl⟩
  obtain ⟨p', hp'⟩ : ∃ r, r = (outR R (⟨0, 0, false, false, false, 0, 0, 0, 0, 0⟩ : Psw) o).2.1 := ⟨_, rfl⟩
  obtain ⟨c', hc'⟩ : ∃ r, r = (outR R (⟨0, 0, false, false, false, 0, 0, 0, 0, 0⟩ : Psw) o).2.2 := ⟨_, rfl⟩
  rw [← hR', ← hp', ← hc'] at HE ⊢
  generalize outB bs o = bs' at HE ⊢
  clear hR' hp' hc'
  have e1 : q.ins.val = .agg #[.int .i64 (q.op : Int), .int .i64 (q.fo : Int), .int .i64 (q.r1 : Int), .int .i64 (q.r2 : Int), .int .i64 (q.x2 : Int), .int .i64 (q.b1 : Int), .int .i64 (q.d1 : Int), .int .i64 (q.b2 : Int), .int .i64 (q.d2 : Int), .int .i64 (q.l1 : Int), .int .i64 (q.l2 : Int), .int .i64 (q.i2 : Int)] := rfl
  have e2 : Value.agg (regA R) = .agg #[.int .u32 (R 0), .int .u32 (R 1), .int .u32 (R 2), .int .u32 (R 3), .int .u32 (R 4), .int .u32 (R 5), .int .u32 (R 6), .int .u32 (R 7), .int .u32 (R 8), .int .u32 (R 9), .int .u32 (R 10), .int .u32 (R 11), .int .u32 (R 12), .int .u32 (R 13), .int .u32 (R 14), .int .u32 (R 15)] := rfl
  rw [e1, e2]
  clear e1 e2
  unfold refA at HE
  have e3 : Value.agg (regA R') = .agg #[.int .u32 (R' 0), .int .u32 (R' 1), .int .u32 (R' 2), .int .u32 (R' 3), .int .u32 (R' 4), .int .u32 (R' 5), .int .u32 (R' 6), .int .u32 (R' 7), .int .u32 (R' 8), .int .u32 (R' 9), .int .u32 (R' 10), .int .u32 (R' 11), .int .u32 (R' 12), .int .u32 (R' 13), .int .u32 (R' 14), .int .u32 (R' 15)] := rfl
  have e4 : Value.agg (pswA p') = .agg #[.int .i64 p'.m, .int .i64 p'.k, .bool p'.ma, .bool p'.wa, .bool p'.pr, .int .i64 p'.co, .int .i64 p'.il, .int .i64 p'.cc, .int .i64 p'.pg, .int .i64 p'.ad] := rfl
  rw [e3, e4] at HE
  go_enter Tryz.func24, Tryz.ntmps24
  go_wp2_with (first | (refine wpList_valW (by rfl) (exec_load 25 _ rfl ⟨w.heap.size, 0, none⟩ rfl LI.out) ?_) | (refine wpList_valW (by rfl) (exec_load 28 _ rfl ⟨w.heap.size + 1, 0, none⟩ rfl LR.out) ?_))
  refine (HE.out _ HB0.out).mono ?_
  rintro e w4 ⟨rfl, hst, hk⟩
  go_wp2_with fail
  obtain ⟨B9, hB9⟩ : ∃ b, b = w4.heap.size := ⟨_, rfl⟩
  obtain ⟨B6, hB6⟩ : ∃ b, b = w.heap.size + 1 + 1 := ⟨_, rfl⟩
  obtain ⟨Y0, hY0⟩ : ∃ y, y = w4.alloc (.cells #[.int .u32 (R' 0), .int .u32 (R' 1), .int .u32 (R' 2), .int .u32 (R' 3), .int .u32 (R' 4), .int .u32 (R' 5), .int .u32 (R' 6), .int .u32 (R' 7), .int .u32 (R' 8), .int .u32 (R' 9), .int .u32 (R' 10), .int .u32 (R' 11), .int .u32 (R' 12), .int .u32 (R' 13), .int .u32 (R' 14), .int .u32 (R' 15)] 28) := ⟨_, rfl⟩
  obtain ⟨Y, hY⟩ : ∃ y, y = Y0.alloc (.cells #[.int .i64 p'.m, .int .i64 p'.k, .bool p'.ma, .bool p'.wa, .bool p'.pr, .int .i64 p'.co, .int .i64 p'.il, .int .i64 p'.cc, .int .i64 p'.pg, .int .i64 p'.ad] 30) := ⟨_, rfl⟩
  have s0 : Y0.heap.size = B9 + 1 := by rw [hY0, hB9]; simp
  have b0 : Below w4.heap.size w4 Y0 := by rw [hY0]; exact below_new _ _
  have b1 : Below Y0.heap.size Y0 Y := by rw [hY]; exact below_new _ _
  have k9 : Bx Y B9 28 (regA R') := (show Bx Y0 B9 28 (regA R') by rw [hY0, hB9]; exact Bx.new w4 _ _).below b1
  have k10 : Bx Y (B9 + 1) 30 (pswA p') := by rw [hY, ← s0]; exact Bx.new Y0 _ _
  have hz := HZ.out
  rw [← hB6] at hz
  have z1 := hk.size
  have z2 := hz.lt
  have z3 : B9 ≠ B6 := by omega
  have z4 := hlt
  have k6 : Bx Y B6 28 #[.int .u32 0, .int .u32 0, .int .u32 0, .int .u32 0, .int .u32 0, .int .u32 0, .int .u32 0, .int .u32 0, .int .u32 0, .int .u32 0, .int .u32 0, .int .u32 0, .int .u32 0, .int .u32 0, .int .u32 0, .int .u32 0] := ((hz.kp hk (by simp; omega)).below b0).below b1
  have kk : Kp w Y [g] := ((Kp.bel HB0.out).trans hk).trans (Kp.bel (bel0 b0 b1))
  have S0 := Lib.hid (show XR [g] B6 B9 (B9 + 1) R' p' A g h n m bs' ks w Y from ⟨kk, k9, k10, ⟨_, rfl, k6⟩, (hst.below b0).below b1⟩)
  have HN := Lib.hid (And.intro z3 (And.intro (show w.heap.size ≤ B6 by omega) (show B6 ≠ A ∧ B6 ≠ g ∧ B6 ≠ h by have := HLT.out; omega)))
  rw [← hY0, ← hY, ← hB6, ← hB9]
  clear hY hY0 hB9 hB6 s0 b0 b1 k9 k10 hz z1 z2 z3 z4 k6 kk hst hk HZ HI HR LI LR HB0 HE HLT hlt
  refine wp_region_held_drew (S := XR [g] B6 B9 (B9 + 1) R' p' A g h n m bs' ks w) (by kernel_rfl) (S0.out.drew) (fun k0 => ?_)
  show wpAnyH _ _ _ _ _ 7 #[false, false, false, false, false, false, false] _ _
  refine wpAnyH_take (i := 0) (oi := ⟨some 21, _, _, _, _, _⟩) (v := .agg (regA R')) rfl (by kernel_rfl) (by kernel_rfl) (by kernel_rfl) (fun _ _ _ h => h) (Or.inl ⟨by rfl, fun W hSw => exec_load _ _ rfl _ rfl (load_regs hSw.2.1)⟩) k0 ?_
  try simp only [Act.put, List.setIfInBounds_toArray, List.set_cons_zero, List.set_cons_succ]
  refine wpAnyH_take (i := 1) (oi := ⟨some 22, _, _, _, _, _⟩) (v := .pointer (some ⟨B9 + 1, 7, none⟩)) rfl (by kernel_rfl) (by kernel_rfl) (by kernel_rfl) (fun _ _ _ h => h) (Or.inl ⟨by rfl, fun W hSw => by (try dsimp only at hSw); go_simp⟩) k0 ?_
  try simp only [Act.put, List.setIfInBounds_toArray, List.set_cons_zero, List.set_cons_succ]
  refine wpAnyH_take (i := 2) (oi := ⟨some 23, _, _, _, _, _⟩) (v := .int .i64 p'.cc) rfl (by kernel_rfl) (by kernel_rfl) (by kernel_rfl) (fun _ _ _ h => h) (Or.inl ⟨by rfl, fun W hSw => by have cq : W.cell? ⟨B9 + 1, 7, none⟩ = some (.int .i64 p'.cc) := hSw.2.2.1.cell 7; clear hSw; go_simp⟩) k0 ?_
  try simp only [Act.put, List.setIfInBounds_toArray, List.set_cons_zero, List.set_cons_succ]
  refine wpAnyH_take (i := 3) (oi := ⟨some 24, _, _, _, _, _⟩) (v := .int .i64 c') rfl (by kernel_rfl) (by kernel_rfl) (by kernel_rfl) (fun _ _ _ h => h) (Or.inl ⟨by rfl, fun W hSw => by (try dsimp only at hSw); go_simp⟩) k0 ?_
  try simp only [Act.put, List.setIfInBounds_toArray, List.set_cons_zero, List.set_cons_succ]
  refine wpAnyH_ready (rs := [4]) (by kernel_rfl) (by simp) ?_
  refine AllReadyH.cons (o := ⟨none, _, _, _, _, _⟩) rfl (fun K hK => ?_) AllReadyH.nil
  obtain ⟨xr, hxr, hbr⟩ := k0.2.2.2.1
  have HR3 := Lib.hid (bx_row3 hbr (regA R'))
  rw [if_pos (by rfl)]
  refine op_store _ _ _ rfl _ rfl _ rfl (store_regs hbr hxr R') ?_
  clear hbr hxr xr
  refine hK.out _ _ (XR.reg k0 HN.out.1 HN.out.2.1 HN.out.2.2 R') (fun k1 => ?_)
  clear hK K
  try simp only [List.setIfInBounds_toArray, List.set_cons_zero, List.set_cons_succ]
  refine wpAnyH_take (i := 5) (oi := ⟨some 7, _, _, _, _, _⟩) (v := .int .i64 p'.cc) rfl (by kernel_rfl) (by kernel_rfl) (by kernel_rfl) (fun _ _ _ h => h) (Or.inl ⟨by rfl, fun W hSw => by (try dsimp only at hSw); go_simp⟩) k1 ?_
  try simp only [Act.put, List.setIfInBounds_toArray, List.set_cons_zero, List.set_cons_succ]
  refine wpAnyH_take (i := 6) (oi := ⟨some 8, _, _, _, _, _⟩) (v := .int .i64 c') rfl (by kernel_rfl) (by kernel_rfl) (by kernel_rfl) (fun _ _ _ h => h) (Or.inl ⟨by rfl, fun W hSw => by (try dsimp only at hSw); go_simp⟩) k1 ?_
  try simp only [Act.put, List.setIfInBounds_toArray, List.set_cons_zero, List.set_cons_succ]
  refine wpAnyH_done (by kernel_rfl) ?_ _
  refine id ?_
  go_wp2
  refine bodyPost_ret (results_ctt rfl rfl rfl rfl (load_regs HR3.out)) rfl ?_
  exact ⟨rfl, k1.2.2.2.2, k1.1⟩

end M
end Go.Proofs.YtbcncohjjnmdcaaGreatDoor

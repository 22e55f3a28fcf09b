/- An instruction, the registers and the status word as numbers; the block of an execution. -/
import Derived.Test.YtbcncohjjnmdcaaGreatDoorRows
import Derived.Recover
import Derived.StillTailTactics
import Derived.WalkLawsBesides
import Derived.Test.YtbcncohjjnmdcaaGreatDoorIsIns
import Derived.Test.YtbcncohjjnmdcaaGreatDoorPkC
import Derived.Test.YtbcncohjjnmdcaaGreatDoorPsA
namespace Go.Proofs.YtbcncohjjnmdcaaGreatDoor
open Go.RowKit Go.Shelf
set_option linter.unusedVariables false
namespace E

/-- Nothing that lay has turned but the blocks named. -/
structure Kp (w w' : World) (l : List Nat) : Prop where
  os : w'.os = w.os
  tape : w'.tape = w.tape
  output : w'.output = w.output
  size : w.heap.size ≤ w'.heap.size
  block : ∀ k, k < w.heap.size → k ∉ l → w'.heap[k]? = w.heap[k]?
theorem Kp.refl (w : World) (l : List Nat) : Kp w w l := ⟨rfl, rfl, rfl, Nat.le_refl _, fun _ _ _ => rfl⟩
theorem Kp.trans {w w1 w2 : World} {l : List Nat} (h : Kp w w1 l) (k : Kp w1 w2 l) : Kp w w2 l := ⟨k.os.trans h.os, k.tape.trans h.tape, k.output.trans h.output, Nat.le_trans h.size k.size, fun b hb hn => (k.block b (Nat.lt_of_lt_of_le hb h.size) hn).trans (h.block b hb hn)⟩
theorem Kp.of {w w' : World} {g : Nat} {l : List Nat} (h : w.grownBy w' (some g)) (hg : g ∈ l) : Kp w w' l := ⟨h.os, h.tape, h.output, h.size, fun k hk hn => h.block k hk (fun e => hn (by cases e; exact hg))⟩
theorem Kp.bel {w w' : World} {l : List Nat} (h : Below w.heap.size w w') : Kp w w' l := ⟨h.os, h.tape, h.output, h.size, fun k hk _ => h.block k hk⟩
theorem Kp.below {w0 w w' : World} {l : List Nat} (h : Below w0.heap.size w0 w) (k : Kp w w' l) (hl : ∀ b, b ∈ l → w0.heap.size ≤ b) : Below w0.heap.size w0 w' := ⟨k.os.trans h.os, k.tape.trans h.tape, k.output.trans h.output, Nat.le_trans h.size k.size, fun b hb => (k.block b (Nat.lt_of_lt_of_le hb h.size) (fun hm => by have := hl b hm; omega)).trans (h.block b hb)⟩
theorem Row.kp {w w' : World} {l : List Nat} {g : Nat} {t : TypeId} {xs : List Value} {c : Nat} (h : Row w g t xs c) (k : Kp w w' l) (hn : g ∉ l) : Row w' g t xs c := by
  have hl := h.lt
  obtain ⟨cur, h1, h2⟩ := h
  exact ⟨cur, (k.block g hl hn).trans h1, h2⟩
theorem Bx.kp {w w' : World} {l : List Nat} {g : Nat} {t : TypeId} {cs : Array Value} (h : Bx w g t cs) (k : Kp w w' l) (hn : g ∉ l) : Bx w' g t cs := (k.block g h.lt hn).trans h
theorem Sto.kp {w w' : World} {l : List Nat} {a g h n m : Nat} {bs ks : List UInt8} (s : Sto w a g h n m bs ks) (k : Kp w w' l) (h1 : a ∉ l) (h2 : g ∉ l) (h3 : h ∉ l) : Sto w' a g h n m bs ks := ⟨s.1.kp k h1, s.2.1.kp k h2, s.2.2.1.kp k h3, s.2.2.2⟩
theorem Rfs.kp {w w' : World} {l : List Nat} {a g h n m c d : Nat} {bs ks : List UInt8} (s : Rfs w a g h n m c d bs ks) (k : Kp w w' l) (h1 : a ∉ l) (h2 : g ∉ l) (h3 : h ∉ l) : Rfs w' a g h n m c d bs ks := ⟨s.1.kp k h1, s.2.1.kp k h2, s.2.2.1.kp k h3, s.2.2.2⟩

end E
namespace M
open E

theorem results_tt {P : Program} {fn : Func} {p q : Tmp} {w : World} {v v' : Value} {tmps : Array Value} (h : fn.results = #[.tmp p, .tmp q]) (hp : tmps.getD p undef = v) (hq : tmps.getD q undef = v') : (results fn tmps).run P w = .ok (.tuple #[v, v']) w := by
  subst hp hq
  simp [results, h, go_sem]
/-- An instruction whose fields are natural numbers. -/
structure Qn where
  op : Nat
  fo : Nat
  r1 : Nat
  r2 : Nat
  x2 : Nat
  b1 : Nat
  d1 : Nat
  b2 : Nat
  d2 : Nat
  l1 : Nat
  l2 : Nat
  i2 : Nat
def Qn.ins (q : Qn) : Ins := ⟨q.op, q.fo, q.r1, q.r2, q.x2, q.b1, q.d1, q.b2, q.d2, q.l1, q.l2, q.i2⟩
/-- The registers with one set. -/
def upd (R : Nat → Int) (i : Nat) (v : Int) : Nat → Int := fun j => if j = i then v else R j
theorem upd_same (R : Nat → Int) (i : Nat) (v : Int) : upd R i v i = v := if_pos rfl
theorem upd_ne (R : Nat → Int) {i j : Nat} (v : Int) (h : j ≠ i) : upd R i v j = R j := if_neg h
/-- Every register holds a word. -/
def RegOk (R : Nat → Int) : Prop := ∀ n, 0 ≤ R n ∧ R n < 4294967296
theorem RegOk.upd {R : Nat → Int} (h : RegOk R) {i : Nat} {v : Int} (h0 : 0 ≤ v) (h1 : v < 4294967296) : RegOk (upd R i v) := fun n => by
  unfold M.upd
  split
  · exact ⟨h0, h1⟩
  · exact h n
def regA (R : Nat → Int) : Array Value := #[.int .u32 (R 0), .int .u32 (R 1), .int .u32 (R 2), .int .u32 (R 3), .int .u32 (R 4), .int .u32 (R 5), .int .u32 (R 6), .int .u32 (R 7), .int .u32 (R 8), .int .u32 (R 9), .int .u32 (R 10), .int .u32 (R 11), .int .u32 (R 12), .int .u32 (R 13), .int .u32 (R 14), .int .u32 (R 15)]
def pswA (p : Psw) : Array Value := #[.int .i64 p.m, .int .i64 p.k, .bool p.ma, .bool p.wa, .bool p.pr, .int .i64 p.co, .int .i64 p.il, .int .i64 p.cc, .int .i64 p.pg, .int .i64 p.ad]
/-- The cells of an execution. -/
def exA (A : Nat) (q : Qn) (R : Nat → Int) (p : Psw) (c : Int) : Array Value := #[.int .i64 (q.op : Int), .int .i64 (q.fo : Int), .int .i64 (q.r1 : Int), .int .i64 (q.r2 : Int), .int .i64 (q.x2 : Int), .int .i64 (q.b1 : Int), .int .i64 (q.d1 : Int), .int .i64 (q.b2 : Int), .int .i64 (q.d2 : Int), .int .i64 (q.l1 : Int), .int .i64 (q.l2 : Int), .int .i64 (q.i2 : Int), .int .u32 (R 0), .int .u32 (R 1), .int .u32 (R 2), .int .u32 (R 3), .int .u32 (R 4), .int .u32 (R 5), .int .u32 (R 6), .int .u32 (R 7), .int .u32 (R 8), .int .u32 (R 9), .int .u32 (R 10), .int .u32 (R 11), .int .u32 (R 12), .int .u32 (R 13), .int .u32 (R 14), .int .u32 (R 15), .int .i64 p.m, .int .i64 p.k, .bool p.ma, .bool p.wa, .bool p.pr, .int .i64 p.co, .int .i64 p.il, .int .i64 p.cc, .int .i64 p.pg, .int .i64 p.ad, .pointer (some ⟨A, 0, none⟩), .int .i64 c]
def Ex (w : World) (E A : Nat) (q : Qn) (R : Nat → Int) (p : Psw) (c : Int) : Prop := Bx w E 76 (exA A q R p c)
section
variable {w : World} {E A : Nat} {q : Qn} {R : Nat → Int} {p : Psw} {c : Int}
theorem Ex.op (h : Ex w E A q R p c) : w.cell? ⟨E, 0, none⟩ = some (.int .i64 (q.op : Int)) := h.cell 0
theorem Ex.fo (h : Ex w E A q R p c) : w.cell? ⟨E, 1, none⟩ = some (.int .i64 (q.fo : Int)) := h.cell 1
theorem Ex.r1 (h : Ex w E A q R p c) : w.cell? ⟨E, 2, none⟩ = some (.int .i64 (q.r1 : Int)) := h.cell 2
theorem Ex.r2 (h : Ex w E A q R p c) : w.cell? ⟨E, 3, none⟩ = some (.int .i64 (q.r2 : Int)) := h.cell 3
theorem Ex.x2 (h : Ex w E A q R p c) : w.cell? ⟨E, 4, none⟩ = some (.int .i64 (q.x2 : Int)) := h.cell 4
theorem Ex.b1 (h : Ex w E A q R p c) : w.cell? ⟨E, 5, none⟩ = some (.int .i64 (q.b1 : Int)) := h.cell 5
theorem Ex.d1 (h : Ex w E A q R p c) : w.cell? ⟨E, 6, none⟩ = some (.int .i64 (q.d1 : Int)) := h.cell 6
theorem Ex.b2 (h : Ex w E A q R p c) : w.cell? ⟨E, 7, none⟩ = some (.int .i64 (q.b2 : Int)) := h.cell 7
theorem Ex.d2 (h : Ex w E A q R p c) : w.cell? ⟨E, 8, none⟩ = some (.int .i64 (q.d2 : Int)) := h.cell 8
theorem Ex.l1 (h : Ex w E A q R p c) : w.cell? ⟨E, 9, none⟩ = some (.int .i64 (q.l1 : Int)) := h.cell 9
theorem Ex.l2 (h : Ex w E A q R p c) : w.cell? ⟨E, 10, none⟩ = some (.int .i64 (q.l2 : Int)) := h.cell 10
theorem Ex.i2 (h : Ex w E A q R p c) : w.cell? ⟨E, 11, none⟩ = some (.int .i64 (q.i2 : Int)) := h.cell 11
theorem Ex.pm (h : Ex w E A q R p c) : w.cell? ⟨E, 28, none⟩ = some (.int .i64 p.m) := h.cell 28
theorem Ex.pk (h : Ex w E A q R p c) : w.cell? ⟨E, 29, none⟩ = some (.int .i64 p.k) := h.cell 29
theorem Ex.pma (h : Ex w E A q R p c) : w.cell? ⟨E, 30, none⟩ = some (.bool p.ma) := h.cell 30
theorem Ex.pwa (h : Ex w E A q R p c) : w.cell? ⟨E, 31, none⟩ = some (.bool p.wa) := h.cell 31
theorem Ex.ppr (h : Ex w E A q R p c) : w.cell? ⟨E, 32, none⟩ = some (.bool p.pr) := h.cell 32
theorem Ex.pco (h : Ex w E A q R p c) : w.cell? ⟨E, 33, none⟩ = some (.int .i64 p.co) := h.cell 33
theorem Ex.pil (h : Ex w E A q R p c) : w.cell? ⟨E, 34, none⟩ = some (.int .i64 p.il) := h.cell 34
theorem Ex.pcc (h : Ex w E A q R p c) : w.cell? ⟨E, 35, none⟩ = some (.int .i64 p.cc) := h.cell 35
theorem Ex.ppg (h : Ex w E A q R p c) : w.cell? ⟨E, 36, none⟩ = some (.int .i64 p.pg) := h.cell 36
theorem Ex.pad (h : Ex w E A q R p c) : w.cell? ⟨E, 37, none⟩ = some (.int .i64 p.ad) := h.cell 37
theorem Ex.g0 (h : Ex w E A q R p c) : w.cell? ⟨E, 12, none⟩ = some (.int .u32 (R 0)) := h.cell 12
theorem Ex.g1 (h : Ex w E A q R p c) : w.cell? ⟨E, 13, none⟩ = some (.int .u32 (R 1)) := h.cell 13
theorem Ex.g2 (h : Ex w E A q R p c) : w.cell? ⟨E, 14, none⟩ = some (.int .u32 (R 2)) := h.cell 14
theorem Ex.g3 (h : Ex w E A q R p c) : w.cell? ⟨E, 15, none⟩ = some (.int .u32 (R 3)) := h.cell 15
theorem Ex.g4 (h : Ex w E A q R p c) : w.cell? ⟨E, 16, none⟩ = some (.int .u32 (R 4)) := h.cell 16
theorem Ex.g5 (h : Ex w E A q R p c) : w.cell? ⟨E, 17, none⟩ = some (.int .u32 (R 5)) := h.cell 17
theorem Ex.g6 (h : Ex w E A q R p c) : w.cell? ⟨E, 18, none⟩ = some (.int .u32 (R 6)) := h.cell 18
theorem Ex.g7 (h : Ex w E A q R p c) : w.cell? ⟨E, 19, none⟩ = some (.int .u32 (R 7)) := h.cell 19
theorem Ex.g8 (h : Ex w E A q R p c) : w.cell? ⟨E, 20, none⟩ = some (.int .u32 (R 8)) := h.cell 20
theorem Ex.g9 (h : Ex w E A q R p c) : w.cell? ⟨E, 21, none⟩ = some (.int .u32 (R 9)) := h.cell 21
theorem Ex.g10 (h : Ex w E A q R p c) : w.cell? ⟨E, 22, none⟩ = some (.int .u32 (R 10)) := h.cell 22
theorem Ex.g11 (h : Ex w E A q R p c) : w.cell? ⟨E, 23, none⟩ = some (.int .u32 (R 11)) := h.cell 23
theorem Ex.g12 (h : Ex w E A q R p c) : w.cell? ⟨E, 24, none⟩ = some (.int .u32 (R 12)) := h.cell 24
theorem Ex.g13 (h : Ex w E A q R p c) : w.cell? ⟨E, 25, none⟩ = some (.int .u32 (R 13)) := h.cell 25
theorem Ex.g14 (h : Ex w E A q R p c) : w.cell? ⟨E, 26, none⟩ = some (.int .u32 (R 14)) := h.cell 26
theorem Ex.g15 (h : Ex w E A q R p c) : w.cell? ⟨E, 27, none⟩ = some (.int .u32 (R 15)) := h.cell 27
theorem Ex.sp (h : Ex w E A q R p c) : w.cell? ⟨E, 38, none⟩ = some (.pointer (some ⟨A, 0, none⟩)) := h.cell 38
theorem Ex.cd (h : Ex w E A q R p c) : w.cell? ⟨E, 39, none⟩ = some (.int .i64 c) := h.cell 39
theorem lt16 {n : Nat} (h : n < 16) : n = 0 ∨ n = 1 ∨ n = 2 ∨ n = 3 ∨ n = 4 ∨ n = 5 ∨ n = 6 ∨ n = 7 ∨ n = 8 ∨ n = 9 ∨ n = 10 ∨ n = 11 ∨ n = 12 ∨ n = 13 ∨ n = 14 ∨ n = 15 := by omega
theorem Ex.reg (h : Ex w E A q R p c) {n : Nat} (hn : n < 16) : w.cell? ⟨E, 12 + n, none⟩ = some (.int .u32 (R n)) := by
  rcases lt16 hn with rfl | rfl | rfl | rfl | rfl | rfl | rfl | rfl | rfl | rfl | rfl | rfl | rfl | rfl | rfl | rfl
  · exact h.g0
  · exact h.g1
  · exact h.g2
  · exact h.g3
  · exact h.g4
  · exact h.g5
  · exact h.g6
  · exact h.g7
  · exact h.g8
  · exact h.g9
  · exact h.g10
  · exact h.g11
  · exact h.g12
  · exact h.g13
  · exact h.g14
  · exact h.g15
theorem Ex.fz (h : Ex w E A q R p c) (i : Nat) : w.frozen? ⟨E, i, none⟩ = false := h.frozen i
theorem Ex.lt (h : Ex w E A q R p c) : E < w.heap.size := Bx.lt h
theorem Ex.below {w' : World} (h : Ex w E A q R p c) (hb : Below w.heap.size w w') : Ex w' E A q R p c := Bx.below h hb
theorem Ex.kp {w' : World} {l : List Nat} (h : Ex w E A q R p c) (k : Kp w w' l) (hn : E ∉ l) : Ex w' E A q R p c := Bx.kp h k hn
theorem Ex.grown {w' : World} {row : Option Nat} (h : Ex w E A q R p c) (hg : w.grownBy w' row) (hne : some E ≠ row) : Ex w' E A q R p c := Bx.grown h hg hne
theorem set_reg (A : Nat) (q : Qn) (R : Nat → Int) (p : Psw) (c : Int) {n : Nat} (hn : n < 16) (v : Int) : (exA A q R p c).setIfInBounds (12 + n) (.int .u32 v) = exA A q (upd R n v) p c := by
  rcases lt16 hn with rfl | rfl | rfl | rfl | rfl | rfl | rfl | rfl | rfl | rfl | rfl | rfl | rfl | rfl | rfl | rfl <;> rfl
theorem Ex.setReg (h : Ex w E A q R p c) {n : Nat} (hn : n < 16) (v : Int) : Ex (w.setCell ⟨E, 12 + n, none⟩ (.int .u32 v)) E A q (upd R n v) p c := by
  unfold Ex
  rw [← set_reg A q R p c hn v]
  exact Bx.set h _ _
theorem Ex.setCc (h : Ex w E A q R p c) (v : Int) : Ex (w.setCell ⟨E, 35, none⟩ (.int .i64 v)) E A q R { p with cc := v } c := Bx.set h 35 _
theorem Ex.setCd (h : Ex w E A q R p c) (v : Int) : Ex (w.setCell ⟨E, 39, none⟩ (.int .i64 v)) E A q R p v := Bx.set h 39 _
end
theorem kp_set (w : World) (E i : Nat) (v : Value) (l : List Nat) (hl : E ∈ l) : Kp w (w.setCell ⟨E, i, none⟩ v) l :=
  ⟨rfl, rfl, rfl, by simp, fun k _ hn => heap_setCell_other w ⟨E, i, none⟩ k _ (fun e => hn (by rw [e]; exact hl))⟩

end M
end Go.Proofs.YtbcncohjjnmdcaaGreatDoor

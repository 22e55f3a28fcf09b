/- The address that a statement reckons from registers. -/
import Derived.Test.YtbcncohjjnmdcaaGreatDoorRows
import Derived.Test.YtbcncohjjnmdcaaGreatDoorEdA
import Derived.Test.YtbcncohjjnmdcaaGreatDoorGnOpen
import Derived.Test.YtbcncohjjnmdcaaGreatDoorGnX
import Derived.Test.YtbcncohjjnmdcaaGreatDoorStD
import Derived.Test.YtbcncohjjnmdcaaGreatDoorWkDecopsNone
namespace Go.Proofs.YtbcncohjjnmdcaaGreatDoor
namespace E
end E
open Go.RowKit Go.Shelf E
set_option linter.unusedVariables false
namespace M

def bsV (R : Nat → Int) (n : Nat) : Int := if n = 0 then 0 else R n
theorem bsV_bd {R : Nat → Int} (hR : RegOk R) (n : Nat) : 0 ≤ bsV R n ∧ bsV R n < 4294967296 := by
  unfold bsV
  split
  · exact ⟨Int.le_refl _, by decide⟩
  · exact hR n
theorem adr_base {R : Nat → Int} (hR : RegOk R) (d b x : Nat) (hd : d < 4096) : (bsV R b + bsV R x + (d : Int)) % 16777216 = (adr R d b x : Int) := by
  rw [← adr_of hR (show d < 4294967296 by omega)]
  have h1 := hR b
  have h2 := hR x
  unfold adS bsV
  simp only [List.foldl_cons, List.foldl_nil]
  by_cases hb : b = 0
  · rw [if_pos hb, if_pos hb]
    by_cases hx : x = 0
    · rw [if_pos hx, if_pos hx]
      omega
    · rw [if_neg hx, if_neg hx]
      omega
  · rw [if_neg hb, if_neg hb]
    by_cases hx : x = 0
    · rw [if_pos hx, if_pos hx]
      omega
    · rw [if_neg hx, if_neg hx]
      omega
theorem adF_base {R : Nat → Int} (hR : RegOk R) (q : Qn) (hd : q.d1 < 4096) : (bsV R q.b1 + (q.d1 : Int)) % 16777216 = (adF q R : Int) := by
  have h := adr_base hR q.d1 q.b1 0 hd
  have h0 : bsV R 0 = 0 := rfl
  rw [h0, Int.add_zero] at h
  exact h
theorem adT_base {R : Nat → Int} (hR : RegOk R) (q : Qn) (hd : q.d2 < 4096) : (bsV R q.b2 + bsV R q.x2 + (q.d2 : Int)) % 16777216 = (adT q R : Int) := adr_base hR q.d2 q.b2 q.x2 hd
set_option maxRecDepth 100000 in
set_option maxHeartbeats 2000000 in
theorem base_any (R : Nat → Int) (n : Nat) (hn : n < 16) (w : World) (hR : RegOk R) : Calls Tryz.prog 21 #[.agg (regA R), .int .i64 (n : Int)] w (New w (.int .i64 (bsV R n))) := by
  have hbd := hR n
  unfold regA
  rcases lt16 hn with rfl | rfl | rfl | rfl | rfl | rfl | rfl | rfl | rfl | rfl | rfl | rfl | rfl | rfl | rfl | rfl
  · rw [show bsV R 0 = 0 from rfl]
    go_enter Tryz.func21, Tryz.ntmps21
    go_wp2
    go_ret
    first | exact ⟨rfl, Below.refl _ _⟩ | exact ⟨rfl, below_new _ _⟩
  · rw [show bsV R 1 = R 1 from rfl]
    go_enter Tryz.func21, Tryz.ntmps21
    go_wp2
    go_ret
    first | exact ⟨rfl, Below.refl _ _⟩ | exact ⟨rfl, below_new _ _⟩
  · rw [show bsV R 2 = R 2 from rfl]
    go_enter Tryz.func21, Tryz.ntmps21
    go_wp2
    go_ret
    first | exact ⟨rfl, Below.refl _ _⟩ | exact ⟨rfl, below_new _ _⟩
  · rw [show bsV R 3 = R 3 from rfl]
    go_enter Tryz.func21, Tryz.ntmps21
    go_wp2
    go_ret
    first | exact ⟨rfl, Below.refl _ _⟩ | exact ⟨rfl, below_new _ _⟩
  · rw [show bsV R 4 = R 4 from rfl]
    go_enter Tryz.func21, Tryz.ntmps21
    go_wp2
    go_ret
    first | exact ⟨rfl, Below.refl _ _⟩ | exact ⟨rfl, below_new _ _⟩
  · rw [show bsV R 5 = R 5 from rfl]
    go_enter Tryz.func21, Tryz.ntmps21
    go_wp2
    go_ret
    first | exact ⟨rfl, Below.refl _ _⟩ | exact ⟨rfl, below_new _ _⟩
  · rw [show bsV R 6 = R 6 from rfl]
    go_enter Tryz.func21, Tryz.ntmps21
    go_wp2
    go_ret
    first | exact ⟨rfl, Below.refl _ _⟩ | exact ⟨rfl, below_new _ _⟩
  · rw [show bsV R 7 = R 7 from rfl]
    go_enter Tryz.func21, Tryz.ntmps21
    go_wp2
    go_ret
    first | exact ⟨rfl, Below.refl _ _⟩ | exact ⟨rfl, below_new _ _⟩
  · rw [show bsV R 8 = R 8 from rfl]
    go_enter Tryz.func21, Tryz.ntmps21
    go_wp2
    go_ret
    first | exact ⟨rfl, Below.refl _ _⟩ | exact ⟨rfl, below_new _ _⟩
  · rw [show bsV R 9 = R 9 from rfl]
    go_enter Tryz.func21, Tryz.ntmps21
    go_wp2
    go_ret
    first | exact ⟨rfl, Below.refl _ _⟩ | exact ⟨rfl, below_new _ _⟩
  · rw [show bsV R 10 = R 10 from rfl]
    go_enter Tryz.func21, Tryz.ntmps21
    go_wp2
    go_ret
    first | exact ⟨rfl, Below.refl _ _⟩ | exact ⟨rfl, below_new _ _⟩
  · rw [show bsV R 11 = R 11 from rfl]
    go_enter Tryz.func21, Tryz.ntmps21
    go_wp2
    go_ret
    first | exact ⟨rfl, Below.refl _ _⟩ | exact ⟨rfl, below_new _ _⟩
  · rw [show bsV R 12 = R 12 from rfl]
    go_enter Tryz.func21, Tryz.ntmps21
    go_wp2
    go_ret
    first | exact ⟨rfl, Below.refl _ _⟩ | exact ⟨rfl, below_new _ _⟩
  · rw [show bsV R 13 = R 13 from rfl]
    go_enter Tryz.func21, Tryz.ntmps21
    go_wp2
    go_ret
    first | exact ⟨rfl, Below.refl _ _⟩ | exact ⟨rfl, below_new _ _⟩
  · rw [show bsV R 14 = R 14 from rfl]
    go_enter Tryz.func21, Tryz.ntmps21
    go_wp2
    go_ret
    first | exact ⟨rfl, Below.refl _ _⟩ | exact ⟨rfl, below_new _ _⟩
  · rw [show bsV R 15 = R 15 from rfl]
    go_enter Tryz.func21, Tryz.ntmps21
    go_wp2
    go_ret
    first | exact ⟨rfl, Below.refl _ _⟩ | exact ⟨rfl, below_new _ _⟩
theorem hold_n {w : World} {base N : Nat} {sv : Value} {l : List UInt8} (h : Hold w base sv l) (hl : l.length = N) (h0 : 0 < N) : ∃ B c, sv = .slice (some ⟨B, 0, none⟩) N c ∧ base ≤ B ∧ Row w B 5 (bsU l) c ∧ N ≤ c ∧ c ≤ 9223372036854775807 := by
  subst hl
  obtain ⟨B, c, rfl, hb, hc, hr⟩ := own_some h h0 (bsU_len l)
  have h1 := hr.len
  rw [bsU_len] at h1
  exact ⟨B, c, rfl, hb, hr, h1, hc⟩

end M
end Go.Proofs.YtbcncohjjnmdcaaGreatDoor
namespace Go.Proofs.YtbcncohjjnmdcaaGreatDoor
namespace E
end E
open Go.RowKit Go.Shelf E
set_option linter.unusedVariables false
namespace M

/-- The code behind the first k of a row. -/
def rst : Nat → Code → Code
  | 0, c => c
  | k + 1, .seq _ b => rst k b
  | _ + 1, c => c
def bodyC (f : Func) : Code := f.body.getD .skip
theorem mem_below {w w' : World} {x y z : Value} (h : MemAt w x y z) (hb : Below w.heap.size w w') : MemAt w' x y z := by
  obtain ⟨h1, ⟨l, h2⟩, p, n, c, hz, hp⟩ := h
  refine ⟨h1, ⟨l, h2.below hb⟩, p, n, c, hz, ?_⟩
  rcases hp with h0 | ⟨B, off, hp1, hp2⟩
  · exact .inl h0
  · refine .inr ⟨B, off, hp1, fun i hi => ?_⟩
    obtain ⟨X, bv, b, c0, hX, c1, hs⟩ := hp2 i hi
    exact ⟨X, bv, b, (hb.cell (World.block_lt_of_cell? w _ c0)).trans c0, hX, (hb.cell (World.block_lt_of_cell? w _ c1)).trans c1, hs.below hb⟩
theorem byts_all (A g h n m : Nat) (bs ks : List UInt8) (X : World) (hX : Sto X A g h n m bs ks) : Calls Tryz.prog 18 #[.pointer (some ⟨A, 0, none⟩), .int .i64 0, .int .i64 (n : Int)] X (BytPost X bs) := by
  have h1 := bytes_any A g h n m 0 (n : Int) bs ks X (by decide) hX
  have h2 : bytL n bs 0 (n : Int) = bs := by
    unfold bytL
    rw [if_pos (inB_iff.2 ⟨by omega, by omega, by omega⟩), Int.toNat_natCast]
    exact subL_all bs hX.2.2.2.1
  rw [h2] at h1
  exact h1
theorem key_at (A g h n m : Nat) (bs ks : List UInt8) (k : Nat) (X : World) (hX : Sto X A g h n m bs ks) (hk : k < n) : Calls Tryz.prog 22 #[.pointer (some ⟨A, 0, none⟩), .int .i64 (k : Int)] X (New X (.tuple #[.int .i64 ((gt ks (k / 2048)).toNat : Int), .bool true])) := by
  have hnum := hX.nums
  have h1 := keyOf_any A g h n m (k : Int) bs ks X (by omega) hX
  have h2 : inB n (k : Int) 1 = true := inB_iff.2 ⟨by omega, by omega, by omega⟩
  have h3 : keyV n ks (k : Int) = ((gt ks (k / 2048)).toNat : Int) := by
    unfold keyV
    rw [if_pos h2, Int.toNat_natCast]
  rw [h2, h3] at h1
  exact h1
theorem row_sv {w : World} {B n c : Nat} {l : List UInt8} (h : Row w B 5 (bsU l) c) (hn : l.length = n) (hc : n ≤ c) (hc2 : c ≤ 9223372036854775807) : SvB w (.slice (some ⟨B, 0, none⟩) n c) l := by
  subst hn
  refine ⟨some ⟨B, 0, none⟩, c, rfl, ?_, hc, hc2, fun h => by cases h⟩
  have h1 := h.rd 0 l.length (by omega)
  rwa [List.drop_zero, List.take_length] at h1
/-- What is kept in the boxes of the instruction and of the state. -/
structure Sk (w : World) (I T : Nat) (q : Qn) (R : Nat → Int) (p : Psw) (x y z : Value) (W : World) : Prop where
  bel : Below w.heap.size w W
  ins : Bx W I 25 #[.int .i64 (q.op : Int), .int .i64 (q.fo : Int), .int .i64 (q.r1 : Int), .int .i64 (q.r2 : Int), .int .i64 (q.x2 : Int), .int .i64 (q.b1 : Int), .int .i64 (q.d1 : Int), .int .i64 (q.b2 : Int), .int .i64 (q.d2 : Int), .int .i64 (q.l1 : Int), .int .i64 (q.l2 : Int), .int .i64 (q.i2 : Int)]
  st : Bx W T 36 #[.int .u32 (R 0), .int .u32 (R 1), .int .u32 (R 2), .int .u32 (R 3), .int .u32 (R 4), .int .u32 (R 5), .int .u32 (R 6), .int .u32 (R 7), .int .u32 (R 8), .int .u32 (R 9), .int .u32 (R 10), .int .u32 (R 11), .int .u32 (R 12), .int .u32 (R 13), .int .u32 (R 14), .int .u32 (R 15), .int .i64 p.m, .int .i64 p.k, .bool p.ma, .bool p.wa, .bool p.pr, .int .i64 p.co, .int .i64 p.il, .int .i64 p.cc, .int .i64 p.pg, .int .i64 p.ad, x, y, z]
theorem Sk.next {w W W' : World} {I T : Nat} {q : Qn} {R : Nat → Int} {p : Psw} {x y z : Value} (h : Sk w I T q R p x y z W) (hb : Below W.heap.size W W') : Sk w I T q R p x y z W' := ⟨bel0 h.bel hb, h.ins.below hb, h.st.below hb⟩
theorem Sk.i0 {w W : World} {I T : Nat} {q : Qn} {R : Nat → Int} {p : Psw} {x y z : Value} (h : Sk w I T q R p x y z W) : W.cell? ⟨I, 0, none⟩ = some (.int .i64 (q.op : Int)) := h.ins.cell 0
theorem Sk.i1 {w W : World} {I T : Nat} {q : Qn} {R : Nat → Int} {p : Psw} {x y z : Value} (h : Sk w I T q R p x y z W) : W.cell? ⟨I, 1, none⟩ = some (.int .i64 (q.fo : Int)) := h.ins.cell 1
theorem Sk.i2 {w W : World} {I T : Nat} {q : Qn} {R : Nat → Int} {p : Psw} {x y z : Value} (h : Sk w I T q R p x y z W) : W.cell? ⟨I, 2, none⟩ = some (.int .i64 (q.r1 : Int)) := h.ins.cell 2
theorem Sk.i3 {w W : World} {I T : Nat} {q : Qn} {R : Nat → Int} {p : Psw} {x y z : Value} (h : Sk w I T q R p x y z W) : W.cell? ⟨I, 3, none⟩ = some (.int .i64 (q.r2 : Int)) := h.ins.cell 3
theorem Sk.i4 {w W : World} {I T : Nat} {q : Qn} {R : Nat → Int} {p : Psw} {x y z : Value} (h : Sk w I T q R p x y z W) : W.cell? ⟨I, 4, none⟩ = some (.int .i64 (q.x2 : Int)) := h.ins.cell 4
theorem Sk.i5 {w W : World} {I T : Nat} {q : Qn} {R : Nat → Int} {p : Psw} {x y z : Value} (h : Sk w I T q R p x y z W) : W.cell? ⟨I, 5, none⟩ = some (.int .i64 (q.b1 : Int)) := h.ins.cell 5
theorem Sk.i6 {w W : World} {I T : Nat} {q : Qn} {R : Nat → Int} {p : Psw} {x y z : Value} (h : Sk w I T q R p x y z W) : W.cell? ⟨I, 6, none⟩ = some (.int .i64 (q.d1 : Int)) := h.ins.cell 6
theorem Sk.i7 {w W : World} {I T : Nat} {q : Qn} {R : Nat → Int} {p : Psw} {x y z : Value} (h : Sk w I T q R p x y z W) : W.cell? ⟨I, 7, none⟩ = some (.int .i64 (q.b2 : Int)) := h.ins.cell 7
theorem Sk.i8 {w W : World} {I T : Nat} {q : Qn} {R : Nat → Int} {p : Psw} {x y z : Value} (h : Sk w I T q R p x y z W) : W.cell? ⟨I, 8, none⟩ = some (.int .i64 (q.d2 : Int)) := h.ins.cell 8
theorem Sk.i9 {w W : World} {I T : Nat} {q : Qn} {R : Nat → Int} {p : Psw} {x y z : Value} (h : Sk w I T q R p x y z W) : W.cell? ⟨I, 9, none⟩ = some (.int .i64 (q.l1 : Int)) := h.ins.cell 9
theorem Sk.i10 {w W : World} {I T : Nat} {q : Qn} {R : Nat → Int} {p : Psw} {x y z : Value} (h : Sk w I T q R p x y z W) : W.cell? ⟨I, 10, none⟩ = some (.int .i64 (q.l2 : Int)) := h.ins.cell 10
theorem Sk.i11 {w W : World} {I T : Nat} {q : Qn} {R : Nat → Int} {p : Psw} {x y z : Value} (h : Sk w I T q R p x y z W) : W.cell? ⟨I, 11, none⟩ = some (.int .i64 (q.i2 : Int)) := h.ins.cell 11
theorem sta_regs {W : World} {T : Nat} {R : Nat → Int} {p : Psw} {x y z : Value} (h : Bx W T 36 #[.int .u32 (R 0), .int .u32 (R 1), .int .u32 (R 2), .int .u32 (R 3), .int .u32 (R 4), .int .u32 (R 5), .int .u32 (R 6), .int .u32 (R 7), .int .u32 (R 8), .int .u32 (R 9), .int .u32 (R 10), .int .u32 (R 11), .int .u32 (R 12), .int .u32 (R 13), .int .u32 (R 14), .int .u32 (R 15), .int .i64 p.m, .int .i64 p.k, .bool p.ma, .bool p.wa, .bool p.pr, .int .i64 p.co, .int .i64 p.il, .int .i64 p.cc, .int .i64 p.pg, .int .i64 p.ad, x, y, z]) : (loadVar 28 ⟨T, 0, none⟩).run Tryz.prog W = .ok (.agg #[.int .u32 (R 0), .int .u32 (R 1), .int .u32 (R 2), .int .u32 (R 3), .int .u32 (R 4), .int .u32 (R 5), .int .u32 (R 6), .int .u32 (R 7), .int .u32 (R 8), .int .u32 (R 9), .int .u32 (R 10), .int .u32 (R 11), .int .u32 (R 12), .int .u32 (R 13), .int .u32 (R 14), .int .u32 (R 15)]) W :=
  load_part h 0 #[.int .u32 (R 0), .int .u32 (R 1), .int .u32 (R 2), .int .u32 (R 3), .int .u32 (R 4), .int .u32 (R 5), .int .u32 (R 6), .int .u32 (R 7), .int .u32 (R 8), .int .u32 (R 9), .int .u32 (R 10), .int .u32 (R 11), .int .u32 (R 12), .int .u32 (R 13), .int .u32 (R 14), .int .u32 (R 15)] Tryz.underlying28 rfl (by kernel_rfl) (fun j hj => by
    have h16 : j < 16 := hj
    rcases lt16 h16 with rfl | rfl | rfl | rfl | rfl | rfl | rfl | rfl | rfl | rfl | rfl | rfl | rfl | rfl | rfl | rfl <;> rfl)
theorem sta_psw {W : World} {T : Nat} {R : Nat → Int} {p : Psw} {x y z : Value} (h : Bx W T 36 #[.int .u32 (R 0), .int .u32 (R 1), .int .u32 (R 2), .int .u32 (R 3), .int .u32 (R 4), .int .u32 (R 5), .int .u32 (R 6), .int .u32 (R 7), .int .u32 (R 8), .int .u32 (R 9), .int .u32 (R 10), .int .u32 (R 11), .int .u32 (R 12), .int .u32 (R 13), .int .u32 (R 14), .int .u32 (R 15), .int .i64 p.m, .int .i64 p.k, .bool p.ma, .bool p.wa, .bool p.pr, .int .i64 p.co, .int .i64 p.il, .int .i64 p.cc, .int .i64 p.pg, .int .i64 p.ad, x, y, z]) : (loadVar 30 ⟨T, 16, none⟩).run Tryz.prog W = .ok (.agg #[.int .i64 p.m, .int .i64 p.k, .bool p.ma, .bool p.wa, .bool p.pr, .int .i64 p.co, .int .i64 p.il, .int .i64 p.cc, .int .i64 p.pg, .int .i64 p.ad]) W :=
  load_part h 16 #[.int .i64 p.m, .int .i64 p.k, .bool p.ma, .bool p.wa, .bool p.pr, .int .i64 p.co, .int .i64 p.il, .int .i64 p.cc, .int .i64 p.pg, .int .i64 p.ad] Tryz.underlying30 rfl (by kernel_rfl) (fun j hj => by
    have h10 : j < 10 := hj
    rcases (by omega : j = 0 ∨ j = 1 ∨ j = 2 ∨ j = 3 ∨ j = 4 ∨ j = 5 ∨ j = 6 ∨ j = 7 ∨ j = 8 ∨ j = 9) with rfl | rfl | rfl | rfl | rfl | rfl | rfl | rfl | rfl | rfl <;> rfl)
/-- The registers' cells, one of them set back. -/
theorem cells_back {R R' : Nat → Int} {i : Nat} (hi : i < 16) (h : ∀ j, j ≠ i → R' j = R j) : (#[.int .u32 (R' 0), .int .u32 (R' 1), .int .u32 (R' 2), .int .u32 (R' 3), .int .u32 (R' 4), .int .u32 (R' 5), .int .u32 (R' 6), .int .u32 (R' 7), .int .u32 (R' 8), .int .u32 (R' 9), .int .u32 (R' 10), .int .u32 (R' 11), .int .u32 (R' 12), .int .u32 (R' 13), .int .u32 (R' 14), .int .u32 (R' 15)] : Array Value).setIfInBounds i (.int .u32 (R i)) = #[.int .u32 (R 0), .int .u32 (R 1), .int .u32 (R 2), .int .u32 (R 3), .int .u32 (R 4), .int .u32 (R 5), .int .u32 (R 6), .int .u32 (R 7), .int .u32 (R 8), .int .u32 (R 9), .int .u32 (R 10), .int .u32 (R 11), .int .u32 (R 12), .int .u32 (R 13), .int .u32 (R 14), .int .u32 (R 15)] := by
  have e : ∀ j, j ≠ i → R' j = R j := h
  rcases lt16 hi with rfl | rfl | rfl | rfl | rfl | rfl | rfl | rfl | rfl | rfl | rfl | rfl | rfl | rfl | rfl | rfl <;> simp [e]
theorem cell_reg {R : Nat → Int} {i : Nat} (hi : i < 16) : (#[.int .u32 (R 0), .int .u32 (R 1), .int .u32 (R 2), .int .u32 (R 3), .int .u32 (R 4), .int .u32 (R 5), .int .u32 (R 6), .int .u32 (R 7), .int .u32 (R 8), .int .u32 (R 9), .int .u32 (R 10), .int .u32 (R 11), .int .u32 (R 12), .int .u32 (R 13), .int .u32 (R 14), .int .u32 (R 15)] : Array Value)[i]? = some (.int .u32 (R i)) := by
  rcases lt16 hi with rfl | rfl | rfl | rfl | rfl | rfl | rfl | rfl | rfl | rfl | rfl | rfl | rfl | rfl | rfl | rfl <;> rfl
theorem cell_sta {R : Nat → Int} {p : Psw} {x y z : Value} {i : Nat} (hi : i < 16) : (#[.int .u32 (R 0), .int .u32 (R 1), .int .u32 (R 2), .int .u32 (R 3), .int .u32 (R 4), .int .u32 (R 5), .int .u32 (R 6), .int .u32 (R 7), .int .u32 (R 8), .int .u32 (R 9), .int .u32 (R 10), .int .u32 (R 11), .int .u32 (R 12), .int .u32 (R 13), .int .u32 (R 14), .int .u32 (R 15), .int .i64 p.m, .int .i64 p.k, .bool p.ma, .bool p.wa, .bool p.pr, .int .i64 p.co, .int .i64 p.il, .int .i64 p.cc, .int .i64 p.pg, .int .i64 p.ad, x, y, z] : Array Value)[i]? = some (.int .u32 (R i)) := by
  rcases lt16 hi with rfl | rfl | rfl | rfl | rfl | rfl | rfl | rfl | rfl | rfl | rfl | rfl | rfl | rfl | rfl | rfl <;> rfl
theorem to_any {q : Qn} (R : Nat → Int) (hq : QOk q) : wrap64 (wrap64 ((adF q R : Int) + (q.l1 : Int)) + 1) = ((adF q R + (q.l1 + 1) : Nat) : Int) := by
  have h1 := adF_lt q R
  have h2 := hq.l1
  unfold wrap64
  omega
theorem to8_any (q : Qn) (R : Nat → Int) : wrap64 ((adT q R : Int) + 8) = ((adT q R + 8 : Nat) : Int) := by
  have h1 := adT_lt q R
  unfold wrap64
  omega

end M
end Go.Proofs.YtbcncohjjnmdcaaGreatDoor

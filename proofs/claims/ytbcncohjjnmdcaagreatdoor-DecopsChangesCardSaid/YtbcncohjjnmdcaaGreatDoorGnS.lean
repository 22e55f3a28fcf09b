/- Small contracts of the program: what sets registers, the condition code and the code. -/
import Derived.Test.YtbcncohjjnmdcaaGreatDoorRows
import Derived.Test.YtbcncohjjnmdcaaGreatDoorGnMem
namespace Go.Proofs.YtbcncohjjnmdcaaGreatDoor
namespace E
end E
open Go.RowKit Go.Shelf E
set_option linter.unusedVariables false
namespace M

/-- The ending of a call that stops with a code. -/
def Stop (c : Int) : Ending := .panicked [{ v := .iface 101 (.int .i64 c), recovered := false }]
theorem bel_drew (w : World) : Below w.heap.size w w.drew := (Below.refl _ _).drew
theorem Ex.drew {w : World} {E A : Nat} {q : Qn} {R : Nat → Int} {p : Psw} {c : Int} (h : Ex w E A q R p c) : Ex w.drew E A q R p c := h.below (bel_drew w)
theorem kp_drew (w : World) (l : List Nat) : Kp w w.drew l := Kp.bel (bel_drew w)
end M
end Go.Proofs.YtbcncohjjnmdcaaGreatDoor
namespace Go.Proofs.YtbcncohjjnmdcaaGreatDoor
namespace E
end E
open Go.RowKit Go.Shelf E
set_option linter.unusedVariables false
namespace M

/-- What holds throughout a region: memory has only grown, the execution lies as it did. -/
def ES (E A : Nat) (q : Qn) (R : Nat → Int) (p : Psw) (c : Int) (w W : World) : Prop := Below w.heap.size w W ∧ Ex W E A q R p c
theorem ES.next {E A : Nat} {q : Qn} {R : Nat → Int} {p : Psw} {c : Int} {w W W' : World} (h : ES E A q R p c w W) (hb : Below W.heap.size W W') : ES E A q R p c w W' := ⟨bel0 h.1 hb, h.2.below hb⟩
theorem ES.of {E A : Nat} {q : Qn} {R : Nat → Int} {p : Psw} {c : Int} {w : World} (h : Ex w E A q R p c) : ES E A q R p c w w.drew := ⟨bel_drew w, h.drew⟩
/-- A displacement and registers, summed as words. -/
def adS (R : Nat → Int) (d : Nat) (l : List Nat) : Int := l.foldl (fun s n => if n = 0 then s else (s + R n) % 4294967296) (d : Int)
theorem adS_next (R : Nat → Int) (d : Nat) (l : List Nat) (k : Nat) (hk : k < l.length) : adS R d (l.take (k + 1)) = if l[k] = 0 then adS R d (l.take k) else (adS R d (l.take k) + R l[k]) % 4294967296 := by
  unfold adS
  rw [List.take_succ_eq_append_getElem hk, List.foldl_append]
  rfl
theorem adS_bd {R : Nat → Int} (hR : RegOk R) {d : Nat} (hd : d < 4294967296) : ∀ (l : List Nat), 0 ≤ adS R d l ∧ adS R d l < 4294967296 := by
  have key : ∀ (l : List Nat) (s : Int), 0 ≤ s → s < 4294967296 → 0 ≤ l.foldl (fun s n => if n = 0 then s else (s + R n) % 4294967296) s ∧ l.foldl (fun s n => if n = 0 then s else (s + R n) % 4294967296) s < 4294967296 := by
    intro l
    induction l with
    | nil => intro s h0 h1; exact ⟨h0, h1⟩
    | cons n r ih =>
      intro s h0 h1
      rw [List.foldl_cons]
      refine ih _ ?_ ?_
      · split
        · exact h0
        · omega
      · split
        · exact h1
        · omega
  exact fun l => key l d (by omega) (by omega)
/-- A row of numbers. -/
def Nums (w : World) (g : Nat) (l : List Nat) : Prop := ∀ k (hk : k < l.length), w.cell? ⟨g, k, none⟩ = some (.int .i64 (l[k] : Int))
theorem Nums.below {w w' : World} {g : Nat} {l : List Nat} (h : Nums w g l) (hl : 0 < l.length) (hb : Below w.heap.size w w') : Nums w' g l := fun k hk => by
  rw [hb.cell (World.block_lt_of_cell? w _ (h k hk))]
  exact h k hk
set_option maxRecDepth 100000 in
theorem address_any (E A : Nat) (q : Qn) (R : Nat → Int) (p : Psw) (c : Int) (d : Nat) (g n : Nat) (l : List Nat) (w : World) (h : Ex w E A q R p c) (hR : RegOk R) (hd : d < 4294967296) (hn : l.length = n) (hn2 : n ≤ 2) (hl : ∀ k (hk : k < l.length), l[k] < 16) (hc : Nums w g l) :
    Calls Tryz.prog 152 #[.pointer (some ⟨E, 0, none⟩), .int .i64 (d : Int), .slice (some ⟨g, 0, none⟩) n n] w (New w (.int .i64 (adS R d l % 16777216))) := by
  have hbd := adS_bd hR hd
  have hd2 : (d : Int) % 4294967296 = (d : Int) := by omega
  have HB := Lib.hid hbd
  have HX := Lib.hid h
  have HN := Lib.hid hn
  have HL := Lib.hid hl
  have HC := Lib.hid hc
  have HNX := Lib.hid (adS_next R d l)
  clear h hbd hn hl hc hR hd
  go_enter Tryz.func152, Tryz.ntmps152
  go_wp2
  go_loopw [7, 14] (fun s i wr => ∃ k : Nat, k ≤ n ∧ Below w.heap.size w wr ∧ i = .int .i64 (k : Int) ∧ s = .int .u32 (adS R d (l.take k))) (fun _ i _ => n - (intOf i).toNat)
  case atStart => exact ⟨0, Nat.zero_le _, Below.refl _ _, rfl, by simp [adS]⟩
  case round =>
    obtain ⟨k, hk, hb, rfl, rfl⟩ := hrel
    by_cases hlt : k < n
    · have hk2 : k < l.length := by rw [HN.out]; exact hlt
      have hnx := HNX.out k hk2
      have hx16 := HL.out k hk2
      have hcell : wr.cell? ⟨g, k, none⟩ = some (.int .i64 (l[k] : Int)) := by
        rw [hb.cell (World.block_lt_of_cell? w _ (HC.out k hk2))]
        exact HC.out k hk2
      have hreg := (HX.out.below hb).reg hx16
      have hbd := HB.out (l.take k)
      generalize l[k] = x at hnx hx16 hcell hreg
      generalize adS R d (l.take k) = S at hnx hbd ⊢
      have HT := Lib.hid hnx
      have HBB := Lib.hid hb
      have hlt' : (k : Int) < (n : Int) := by omega
      generalize hRx : R x = v at hreg
      clear hnx hk2 hb
      by_cases hx0 : x = 0
      · subst hx0
        clear hx16 hreg
        go_wp2
        go_roundw
        case rel => exact ⟨k + 1, hlt, HBB.out, by go_num, by rw [HT.out]; rfl⟩
        case measure => simp [intOf]; omega
      · have hxI : ((x : Int) == 0) = false := by simpa using hx0
        have hx16' : (x : Int) < 16 := by omega
        have hT : adS R d (l.take (k + 1)) = (S + v) % 4294967296 := by rw [HT.out, if_neg hx0, hRx]
        clear hx16
        go_wp2
        go_roundw
        case rel => exact ⟨k + 1, hlt, HBB.out, by go_num, by rw [hT]⟩
        case measure => simp [intOf]; omega
    · obtain rfl : k = n := by omega
      have hbd := HB.out l
      have e1 : l.take k = l := by rw [← HN.out]; exact List.take_length
      rw [e1]
      obtain ⟨S, hS⟩ : ∃ S, S = adS R d l := ⟨_, rfl⟩
      rw [← hS] at hbd ⊢
      have HS := Lib.hid hS
      clear e1 hS
      go_wp2
      go_ret
      exact ⟨by rw [← HS.out]; rfl, hb⟩
/-- The address that a base, an index and a displacement give. -/
def adr (R : Nat → Int) (d b x : Nat) : Nat := (adS R d [b, x] % 16777216).toNat
theorem adS_one (R : Nat → Int) (d b : Nat) : adS R d [b, 0] = adS R d [b] := by unfold adS; rfl
theorem adr_of {R : Nat → Int} (hR : RegOk R) {d b x : Nat} (hd : d < 4294967296) : adS R d [b, x] % 16777216 = (adr R d b x : Int) := by
  have := adS_bd hR hd [b, x]
  unfold adr
  omega
theorem adr_of1 {R : Nat → Int} (hR : RegOk R) {d b : Nat} (hd : d < 4294967296) : adS R d [b] % 16777216 = (adr R d b 0 : Int) := by
  rw [← adr_of hR hd, adS_one]
theorem adr_lt (R : Nat → Int) (d b x : Nat) : adr R d b x < 16777216 := by unfold adr; omega
end M
end Go.Proofs.YtbcncohjjnmdcaaGreatDoor
namespace Go.Proofs.YtbcncohjjnmdcaaGreatDoor
namespace E
end E
open Go.RowKit Go.Shelf E
set_option linter.unusedVariables false
namespace M

/-- The ranges of an instruction's fields. -/
structure QOk (q : Qn) : Prop where
  op : q.op < 256
  r1 : q.r1 < 16
  r2 : q.r2 < 16
  x2 : q.x2 < 16
  b1 : q.b1 < 16
  d1 : q.d1 < 4096
  b2 : q.b2 < 16
  d2 : q.d2 < 4096
  l1 : q.l1 < 256
  l2 : q.l2 < 16
  i2 : q.i2 < 256
/-- The addresses of the operands. -/
def adT (q : Qn) (R : Nat → Int) : Nat := adr R q.d2 q.b2 q.x2
def adF (q : Qn) (R : Nat → Int) : Nat := adr R q.d1 q.b1 0
theorem adT_lt (q : Qn) (R : Nat → Int) : adT q R < 16777216 := adr_lt _ _ _ _
theorem adF_lt (q : Qn) (R : Nat → Int) : adF q R < 16777216 := adr_lt _ _ _ _
/-- A call that returns a value, or stops with a code; memory has only grown. -/
def OrStop (w : World) (v : Value) (c : Int) (e : Ending) (w' : World) : Prop := Below w.heap.size w w' ∧ ((c = 0 ∧ e = .returned v) ∨ (c ≠ 0 ∧ e = Stop c))
end M
end Go.Proofs.YtbcncohjjnmdcaaGreatDoor
namespace Go.Proofs.YtbcncohjjnmdcaaGreatDoor
namespace E
end E
open Go.RowKit Go.Shelf E
set_option linter.unusedVariables false
namespace M

/-- What holds around the storing: the execution lies as it did, and nothing has turned but the storage's bytes. -/
def PS (E A : Nat) (q : Qn) (R : Nat → Int) (p : Psw) (c : Int) (g : Nat) (w W : World) : Prop := Kp w W [g] ∧ Ex W E A q R p c
theorem PS.next {E A : Nat} {q : Qn} {R : Nat → Int} {p : Psw} {c : Int} {g : Nat} {w W W' : World} (h : PS E A q R p c g w W) (hk : W.grownBy W' (some g)) (he : E ≠ g) : PS E A q R p c g w W' := ⟨h.1.trans (Kp.of hk (by simp)), h.2.grown hk (fun e => he (Option.some.inj e))⟩
theorem Ex.ne_sto {w : World} {E A g h n m : Nat} {q : Qn} {R : Nat → Int} {p : Psw} {c : Int} {bs ks : List UInt8} (hx : Ex w E A q R p c) (hs : Sto w A g h n m bs ks) : E ≠ A ∧ E ≠ g ∧ E ≠ h := by
  have h1 := Bx.row hx
  exact ⟨h1.ne hs.1.row (by decide), h1.ne hs.2.1 (by decide), h1.ne hs.2.2.1 (by decide)⟩
end M
end Go.Proofs.YtbcncohjjnmdcaaGreatDoor

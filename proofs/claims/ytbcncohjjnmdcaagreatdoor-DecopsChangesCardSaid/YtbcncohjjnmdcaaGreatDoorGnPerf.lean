/- The program: an action is performed, and its code is caught. -/
import Derived.Test.YtbcncohjjnmdcaaGreatDoorRows
import Derived.Test.YtbcncohjjnmdcaaGreatDoorDpN
import Derived.Test.YtbcncohjjnmdcaaGreatDoorGnS
import Derived.Test.YtbcncohjjnmdcaaGreatDoorStC
namespace Go.Proofs.YtbcncohjjnmdcaaGreatDoor
namespace E
end E
open Go.RowKit Go.Shelf E
set_option linter.unusedVariables false
namespace M

/-- What an action comes to: a code that ends it, or new registers, a new status word, a code and new bytes. -/
inductive Out where
  | stop (c : Int)
  | go (R : Nat → Int) (p : Psw) (c : Int) (bs : List UInt8)
def ActPost (w : World) (E A g h n m : Nat) (q : Qn) (bs ks : List UInt8) (o : Out) (e : Ending) (w' : World) : Prop :=
  match o with
  | .stop c => e = Stop c ∧ Sto w' A g h n m bs ks ∧ Kp w w' [E, g]
  | .go R p c bs' => e = .returned (.tuple #[]) ∧ Ex w' E A q R p c ∧ Sto w' A g h n m bs' ks ∧ Kp w w' [E, g]
def PerfPost (w : World) (E A g h n m : Nat) (q : Qn) (bs ks : List UInt8) (o : Out) (e : Ending) (w' : World) : Prop :=
  match o with
  | .stop c => e = .returned (.int .i64 c) ∧ Sto w' A g h n m bs ks ∧ Kp w w' [E, g]
  | .go R p c bs' => e = .returned (.int .i64 0) ∧ Ex w' E A q R p c ∧ Sto w' A g h n m bs' ks ∧ Kp w w' [E, g]
theorem Kp.more {w w' : World} {E g : Nat} (h : Kp w w' [E]) : Kp w w' [E, g] := ⟨h.os, h.tape, h.output, h.size, fun k hk hn => h.block k hk (fun hm => hn (by simp at hm; simp [hm]))⟩
theorem Kp.more2 {w w' : World} {E g : Nat} (h : Kp w w' [g]) : Kp w w' [E, g] := ⟨h.os, h.tape, h.output, h.size, fun k hk hn => h.block k hk (fun hm => hn (by simp at hm; simp [hm]))⟩
theorem kp_set_new {w w' : World} {l : List Nat} (k : Kp w w' l) (B i : Nat) (v : Value) (hB : w.heap.size ≤ B) : Kp w (w'.setCell ⟨B, i, none⟩ v) l :=
  ⟨k.os, k.tape, k.output, by simpa using k.size, fun b hb hn => (heap_setCell_other w' ⟨B, i, none⟩ b v (fun e => by simp at e; omega)).trans (k.block b hb hn)⟩
theorem Ex.far {w : World} {E A : Nat} {q : Qn} {R : Nat → Int} {p : Psw} {c : Int} (h : Ex w E A q R p c) {B i : Nat} (hB : B ≠ E) (v : Value) : Ex (w.setCell ⟨B, i, none⟩ v) E A q R p c := Bx.far h (by simpa using hB) v
theorem Sto.far {w : World} {A g h n m : Nat} {bs ks : List UInt8} (hs : Sto w A g h n m bs ks) {B i : Nat} (h1 : B ≠ A) (h2 : B ≠ g) (h3 : B ≠ h) (v : Value) : Sto (w.setCell ⟨B, i, none⟩ v) A g h n m bs ks := by
  refine ⟨Bx.far hs.1 (by simpa using h1) v, ?_, ?_, hs.2.2.2⟩
  · obtain ⟨cur, a1, a2⟩ := hs.2.1
    exact ⟨cur, (heap_setCell_other w ⟨B, i, none⟩ g v (fun e => h2 (by simp at e; omega))).trans a1, a2⟩
  · obtain ⟨cur, a1, a2⟩ := hs.2.2.1
    exact ⟨cur, (heap_setCell_other w ⟨B, i, none⟩ h v (fun e => h3 (by simp at e; omega))).trans a1, a2⟩
set_option maxRecDepth 100000 in
set_option maxHeartbeats 1000000 in
theorem perform_any (E A : Nat) (q : Qn) (R : Nat → Int) (p : Psw) (c : Int) (g h n m : Nat) (bs ks : List UInt8) (f : Nat) (o : Out) (w : World) (hx : Ex w E A q R p c) (hs : Sto w A g h n m bs ks) (hg : Sg w)
    (hf : Go.Proofs.Enters Tryz.prog f)
    (hact : ∀ X, Calls Tryz.prog 28 #[.int .i64 (q.op : Int)] X fun e X' => e = .returned (fnV f) ∧ X = X')
    (hA : ∀ X, Sg X → Ex X E A q R p c → Sto X A g h n m bs ks → Calls Tryz.prog f #[.pointer (some ⟨E, 0, none⟩)] X (ActPost X E A g h n m q bs ks o)) :
    Calls Tryz.prog 36 #[.pointer (some ⟨E, 0, none⟩)] w (PerfPost w E A g h n m q bs ks o) := by
  have hmf : ∀ (fn : Fn) (first cap : Array Value) (w : World), (Instr.makeFunc fn first cap).run Tryz.prog w = .ok (.func fn first cap) w := fun _ _ _ _ => rfl
  obtain ⟨w1, hw1⟩ : ∃ w1, w1 = w.alloc (.cells #[.int .i64 0] 3) := ⟨_, rfl⟩
  have hb1 : Below w.heap.size w w1 := by rw [hw1]; exact below_new _ _
  have hD : Bx w1 w.heap.size 3 #[.int .i64 0] := by rw [hw1]; exact Bx.new w _ _
  have HACT := Lib.hid (hact w1)
  have HA := Lib.hid (hA w1 (hg.below hb1) (hx.below hb1) (hs.below hb1))
  have c0 : w1.cell? ⟨E, 0, none⟩ = some (.int .i64 (q.op : Int)) := (hx.below hb1).op
  have hlt := hx.lt
  have hAlt := hs.1.lt
  have hglt := hs.2.1.lt
  have hhlt := hs.2.2.1.lt
  have HX := Lib.hid (hx.ne_sto hs)
  -- what the ending leaves
  have HEND : Hid (∀ w2, Kp w1 w2 [E, g] → w2.cell? ⟨w.heap.size, 0, none⟩ = some (.int .i64 0) ∧ w2.frozen? ⟨w.heap.size, 0, none⟩ = false) := Lib.hid (fun w2 hk => by
    have h2 : Bx w2 w.heap.size 3 #[.int .i64 0] := hD.kp hk (by simp; omega)
    exact ⟨h2.cell 0, h2.frozen 0⟩)
  have HST : Hid (∀ w2 (C : Int) (bs' : List UInt8), Kp w1 w2 [E, g] → Sto w2 A g h n m bs' ks → Sto (w2.setCell ⟨w.heap.size, 0, none⟩ (.int .i64 C)) A g h n m bs' ks ∧ Kp w (w2.setCell ⟨w.heap.size, 0, none⟩ (.int .i64 C)) [E, g]) := Lib.hid (fun w2 C bs' hk hs2 => ⟨Sto.far hs2 (by omega) (by omega) (by omega) _, kp_set_new ((Kp.bel hb1).trans hk) _ _ _ (Nat.le_refl _)⟩)
  have HEX : Hid (∀ w2 (C : Int) R' p' c', Ex w2 E A q R' p' c' → Ex (w2.setCell ⟨w.heap.size, 0, none⟩ (.int .i64 C)) E A q R' p' c') := Lib.hid (fun w2 C R' p' c' hx2 => hx2.far (by omega) _)
  have HW1 := Lib.hid hw1
  rw [hw1] at c0
  have hcf : ∀ (args : Array Value) (w : World), (callFunc f args).run Tryz.prog w = .ok (.enter f args) w := hf
  clear hx hs hg hact hA hb1 hD hw1 hlt hAlt hglt hhlt hf
  unfold fnV at HACT
  go_enter_defers Tryz.func36, Tryz.ntmps36
  go_wp2_with fail
  rw [← HW1.out]
  refine HACT.out.mono ?_
  rintro e w2 ⟨rfl, rfl⟩
  clear HACT c0
  go_wp2_with fail
  refine HA.out.mono ?_
  clear HA
  cases o with
  | stop C =>
    rintro e w2 ⟨rfl, hs2, hk2⟩
    obtain ⟨e1, e2⟩ := HEND.out w2 hk2
    obtain ⟨e3, e4⟩ := HST.out w2 C bs hk2 hs2
    have H3 := Lib.hid e3
    have H4 := Lib.hid e4
    clear hs2 hk2 HEND HST HEX e3 e4
    unfold Stop
    go_wp2_with fail
    refine leaves_cons (f := 63) (args := #[.pointer (some ⟨w.heap.size, 0, none⟩)]) (by simp) (by simp [go_sem]) ?_
    refine (catch_panicking ⟨w.heap.size, 0, none⟩ 0 C [] w2 e1 e2).mono ?_
    rintro e u' w3 ⟨rfl, rfl, rfl⟩
    have e5 : (w2.setCell ⟨w.heap.size, 0, none⟩ (.int .i64 C)).cell? ⟨w.heap.size, 0, none⟩ = some (.int .i64 C) := by simp [go_sem, e1]
    simp [Leaves, settle, results, Tryz.results36, go_sem, e5]
    exact ⟨rfl, H3.out, H4.out⟩
  | go R' p' c' bs' =>
    rintro e w2 ⟨rfl, hx2, hs2, hk2⟩
    obtain ⟨e1, e2⟩ := HEND.out w2 hk2
    obtain ⟨e3, e4⟩ := HST.out w2 0 bs' hk2 hs2
    have H3 := Lib.hid e3
    have H4 := Lib.hid e4
    have H5 := Lib.hid (HEX.out w2 0 _ _ _ hx2)
    clear hs2 hk2 hx2 HEND HST HEX e3 e4
    go_wp2_with fail
    refine leaves_cons (f := 63) (args := #[.pointer (some ⟨w.heap.size, 0, none⟩)]) (by simp) (by simp [go_sem]) ?_
    refine (catch_idle ⟨w.heap.size, 0, none⟩ _).mono ?_
    rintro e u' w3 ⟨rfl, rfl, rfl⟩
    have e5 : (w2.setCell ⟨w.heap.size, 0, none⟩ (.int .i64 0)).cell? ⟨w.heap.size, 0, none⟩ = some (.int .i64 0) := by simp [go_sem, e1]
    simp [Leaves, settle, results, Tryz.results36, go_sem, e5]
    exact ⟨rfl, H5.out, H3.out, H4.out⟩

end M
end Go.Proofs.YtbcncohjjnmdcaaGreatDoor

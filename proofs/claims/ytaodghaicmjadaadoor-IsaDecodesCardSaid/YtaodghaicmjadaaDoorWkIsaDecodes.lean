/- The walk of the statement IsaDecodes: it answers true, and below its own memory nothing turns. -/
import Derived.Test.YtaodghaicmjadaaDoorIsRDecG
import Derived.Test.YtaodghaicmjadaaDoorIsROwnG
namespace Go.Proofs.YtaodghaicmjadaaDoor.isaDecodes
open Go.RowKit Go.Shelf E
set_option linter.unusedVariables false
attribute [local go_sem 5000] ins_eql

set_option maxRecDepth 100000 in
set_option maxHeartbeats 1000000 in
theorem walk0 (hO : ∀ (F : Nat), 1 ≤ F → F ≤ 9 → ∀ (Q : Ins) (W : World), Q.fo = (F : Int) → Calls Tryd.prog 38 #[Q.val] W (New W (ownT F Q).val))
    (p : Option Addr) (c : Nat) (l : List UInt8) (w : World) (hp : Rd w p l) (hcl : l.length ≤ c) (hcm : c ≤ 9223372036854775807) :
    Calls Tryd.prog 5 #[.slice p l.length c] w (New w (.bool true)) := by
  have hD := decode_any p c l w hp hcl hcm
  have hE : ∀ W, Below w.heap.size w W → Calls Tryd.prog 21 #[.slice p l.length c] W (New W (decV l)) := fun W hb => decode_ref hO p c l W (hp.below hb)
  unfold decV at hD hE
  generalize decQ l = Q at hD hE
  generalize decB l = b at hD hE
  have HD := Lib.hid hD
  have HE := Lib.hid hE
  obtain ⟨n, hn⟩ : ∃ n, n = l.length := ⟨_, rfl⟩
  rw [← hn] at HD HE ⊢
  clear hD hE hp hcl hcm hn hO
  unfold Ins.val at HD HE
  go_enter Tryd.func5, Tryd.ntmps5
  go_wp2_with fail
  refine HD.out.mono ?_
  rintro e w1 ⟨rfl, hb⟩
  obtain ⟨w2, hw2⟩ : ∃ w2, w1.alloc (.cells Q.cs 28) = w2 := ⟨_, rfl⟩
  have HB2 := Lib.hid (show Below w.heap.size w w2 from by rw [← hw2]; exact bel0 hb (below_new w1 _))
  obtain ⟨C, hC⟩ : ∃ C, w1.heap.size = C := ⟨_, rfl⟩
  have HQ2 := Lib.hid (show Bx w2 C 28 Q.cs from by rw [← hw2, ← hC]; exact Bx.new w1 _ _)
  unfold Ins.cs at hw2
  have HW2 := Lib.hid hw2
  clear hb hw2
  go_wp2_with fail
  rw [HW2.out]
  refine (HE.out _ HB2.out).mono ?_
  rintro e w3 ⟨rfl, hb⟩
  obtain ⟨w4, hw4⟩ : ∃ w4, w3.alloc (.cells Q.cs 28) = w4 := ⟨_, rfl⟩
  have hb24 : Below w2.heap.size w2 w4 := by rw [← hw4]; exact bel0 hb (below_new w3 _)
  have HB4 := Lib.hid (bel0 HB2.out hb24)
  obtain ⟨J, hJ⟩ : ∃ J, w3.heap.size = J := ⟨_, rfl⟩
  have HJ4 := Lib.hid (show Bx w4 J 28 Q.cs from by rw [← hw4, ← hJ]; exact Bx.new w3 _ _)
  have HQ4 := Lib.hid (HQ2.out.below hb24)
  obtain ⟨c0, c1, c2, c3, c4, c5, c6, c7, c8, c9, c10, c11⟩ := bx_cells HQ4.out
  obtain ⟨d0, d1, d2, d3, d4, d5, d6, d7, d8, d9, d10, d11⟩ := bx_cells HJ4.out
  unfold Ins.cs at hw4
  have HW4 := Lib.hid hw4
  rw [← hw4] at c0 c1 c2 c3 c4 c5 c6 c7 c8 c9 c10 c11 d0 d1 d2 d3 d4 d5 d6 d7 d8 d9 d10 d11
  have hz : insEq ⟨Q.op, Q.fo, Q.r1, Q.r2, Q.x2, Q.b1, Q.d1, Q.b2, Q.d2, Q.l1, Q.l2, Q.i2⟩ ⟨Q.op, Q.fo, Q.r1, Q.r2, Q.x2, Q.b1, Q.d1, Q.b2, Q.d2, Q.l1, Q.l2, Q.i2⟩ = true := insEq_self Q
  clear hb hw4 hb24 HQ2 HB2 HW2
  go_wp2_with fail
  rw [HW4.out]
  refine (works_any _).mono ?_
  rintro e w5 ⟨rfl, hb⟩
  have HB5 := Lib.hid (bel0 HB4.out hb)
  clear hb HB4 c0 c1 c2 c3 c4 c5 c6 c7 c8 c9 c10 c11 d0 d1 d2 d3 d4 d5 d6 d7 d8 d9 d10 d11 hz
  go_wp2
  go_ret
  exact ⟨rfl, HB5.out⟩
theorem walk (v : Value) (l : List UInt8) (w : World) (h : SvB w v l) : Calls Tryd.prog 5 #[v] w (New w (.bool true)) := by
  obtain ⟨p, c, rfl, hp, hcl, hcm, _⟩ := h
  exact walk0 (fun F h1 h9 Q W hQ => own_ref F h1 h9 Q hQ W) p c l w hp hcl hcm
end Go.Proofs.YtaodghaicmjadaaDoor.isaDecodes

/- The program: loads, sums, comparisons. -/
import Derived.Test.YtfopjnfphlkcgaaGreatRows
import Derived.Test.YtfopjnfphlkcgaaGreatGnOpd
namespace Go.Proofs.YtfopjnfphlkcgaaGreat
namespace E
end E
open Go.RowKit Go.Shelf E
set_option linter.unusedVariables false
namespace M

/-- What an instruction on registers leaves: it stops with a code, or the execution has turned. -/
def RegPost (w : World) (E A : Nat) (q : Qn) (C : Int) (R : Nat → Int) (p : Psw) (c : Int) (e : Ending) (w' : World) : Prop := (C ≠ 0 ∧ e = Stop C ∧ Kp w w' [E]) ∨ (C = 0 ∧ Did w E A q R p c e w')
/-- A signed result. -/
def sgR (q : Qn) (R : Nat → Int) (n : Int) : Nat → Int := upd R q.r1 (n % 4294967296)
def sgP (p : Psw) (n : Int) : Psw := { p with cc := W.ncc n }
def sgC (p : Psw) (n c : Int) : Int := if (!W.inR n && adB (sgP p n) 3 8 0) = true then 8 else c
theorem signed_become (E A : Nat) (q : Qn) (R : Nat → Int) (p : Psw) (c : Int) (k : Int) (w : World) (h : Ex w E A q R p c) (hr : q.r1 < 16) : Calls Tryz.prog 127 #[.pointer (some ⟨E, 0, none⟩), .int .u32 (k % 4294967296), .int .i64 (W.ncc k), .bool (!W.inR k)] w (Did w E A q (sgR q R k) (sgP p k) (sgC p k c)) := becomeSigned_any E A q R p c _ _ _ w h hr
theorem opV_bd {q : Qn} {R : Nat → Int} {bs : List UInt8} (hR : RegOk R) : 0 ≤ opV q R bs ∧ opV q R bs < 4294967296 := by
  unfold opV
  split
  · have h2 := W.jn2 (byF_is (subL bs (adT q R) 2) 2)
    unfold half2 W.h16
    split
    · omega
    · omega
  · split
    · exact hR _
    · exact W.jn_bd _ 4 (byF_is _ 4)
set_option maxRecDepth 100000 in
set_option maxHeartbeats 1000000 in
theorem load_any (E A : Nat) (q : Qn) (R : Nat → Int) (p : Psw) (c : Int) (g h n m : Nat) (bs ks : List UInt8) (w : World) (hx : Ex w E A q R p c) (hs : Sto w A g h n m bs ks) (hR : RegOk R) (hq : QOk q)  : Calls Tryz.prog 51 #[.pointer (some ⟨E, 0, none⟩)] w (RegPost w E A q (opC q R p n ks) (upd R q.r1 (opV q R bs)) p c) := by
  have HO := Lib.hid (operand_any E A q R p c g h n m bs ks w hx hs hR hq)
  have HS := Lib.hid (fun (W : World) (hW : Below w.heap.size w W) => set_any E A q R p c (opV q R bs) W (hx.below hW) hq.r1)
  generalize opC q R p n ks = C at HO ⊢
  generalize opV q R bs = v at HO HS ⊢
  clear hx hs hR hq
  go_enter Tryz.func51, Tryz.ntmps51
  go_wp2_with fail
  refine HO.out.mono ?_
  rintro e w1 ⟨hb, ⟨h0, rfl⟩ | ⟨hn, rfl⟩⟩
  · have HB := Lib.hid hb
    have H0 := Lib.hid h0
    clear hb h0 HO
    go_wp2_with fail
    refine (HS.out _ HB.out).mono ?_
    rintro e w2 ⟨rfl, h2, k2⟩
    have H2 := Lib.hid h2
    have K2 := Lib.hid k2
    clear h2 k2
    go_wp2
    go_end0
    exact .inr ⟨H0.out, rfl, H2.out, (Kp.bel HB.out).trans K2.out⟩
  · have HB := Lib.hid hb
    have HN := Lib.hid hn
    clear hb hn HO
    unfold Stop
    go_wp2
    exact ⟨rfl, .inl ⟨HN.out, rfl, Kp.bel HB.out⟩⟩
set_option maxRecDepth 100000 in
set_option maxHeartbeats 1000000 in
theorem add_26 (E A : Nat) (q : Qn) (R : Nat → Int) (p : Psw) (c : Int) (g h n m : Nat) (bs ks : List UInt8) (w : World) (hx : Ex w E A q R p c) (hs : Sto w A g h n m bs ks) (hR : RegOk R) (hq : QOk q) (hop : q.op = 26) : Calls Tryz.prog 53 #[.pointer (some ⟨E, 0, none⟩)] w (RegPost w E A q (opC q R p n ks) (sgR q R (W.sg (R q.r1) + W.sg (opV q R bs))) (sgP p (W.sg (R q.r1) + W.sg (opV q R bs))) (sgC p (W.sg (R q.r1) + W.sg (opV q R bs)) c)) := by
  have HO := Lib.hid (operand_any E A q R p c g h n m bs ks w hx hs hR hq)
  have hvb := opV_bd (q := q) (bs := bs) hR
  have HX := Lib.hid hx
  have HOP := Lib.hid hop
  have HR1 := Lib.hid hq.r1
  have hab := hR q.r1
  have HW := Lib.hid (fun (X : World) => W.wAdd_any (R q.r1) (opV q R bs) (hR q.r1).1 (hR q.r1).2 (opV_bd hR).1 (opV_bd hR).2 X)
  have HS := Lib.hid (fun (X : World) (hW : Below w.heap.size w X) => signed_become E A q R p c (W.sg (R q.r1) + W.sg (opV q R bs)) X (hx.below hW) hq.r1)
  generalize opC q R p n ks = C at HO ⊢
  generalize opV q R bs = v at HO HW HS ⊢
  clear hx hs hR hq hop hvb hab
  go_enter Tryz.func53, Tryz.ntmps53
  go_wp2_with fail
  refine HO.out.mono ?_
  rintro e w1 ⟨hb, ⟨h0, rfl⟩ | ⟨hn, rfl⟩⟩
  · have c0 := (HX.out.below hb).op
    rw [HOP.out] at c0
    have c2 := (HX.out.below hb).r1
    have cr := (HX.out.below hb).reg HR1.out
    have hr1 : (q.r1 : Int) < 16 := by have := HR1.out; omega
    have HB := Lib.hid hb
    have H0 := Lib.hid h0
    clear hb h0 HO HX HOP HR1
    go_wp2_with fail
    go_quiet (fail)
    go_wp2_with fail
    refine (HW.out _).mono ?_
    rintro e w2 ⟨rfl, rfl⟩
    clear c0 c2 cr hr1 HW
    go_wp2_with fail
    refine (HS.out _ (bel0 HB.out (belowDraw _ _))).mono ?_
    rintro e w2 ⟨rfl, h2, k2⟩
    have H2 := Lib.hid h2
    have K2 := Lib.hid ((Kp.bel (bel0 HB.out (belowDraw _ _))).trans k2)
    clear h2 k2 HS HB
    go_wp2
    go_end0
    exact .inr ⟨H0.out, rfl, H2.out, K2.out⟩
  · have HB := Lib.hid hb
    have HN := Lib.hid hn
    clear hb hn HO
    unfold Stop
    go_wp2
    exact ⟨rfl, .inl ⟨HN.out, rfl, Kp.bel HB.out⟩⟩
end M
end Go.Proofs.YtfopjnfphlkcgaaGreat

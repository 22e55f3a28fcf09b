/- The program: tested loads, bitwise operations on words, the address, the program mask, the pair. -/
import Derived.Test.YtfopjnfphlkcgaaGreatRows
import Derived.Test.YtfopjnfphlkcgaaGreatGnSum
namespace Go.Proofs.YtfopjnfphlkcgaaGreat
namespace E
end E
open Go.RowKit Go.Shelf E
set_option linter.unusedVariables false
namespace M

/-- Is the operand complemented? -/
def cplB (o : Nat) (cc : Int) : Bool := if o = 19 then true else if o = 16 then cc == 1 else if o = 17 then cc == 2 else false
theorem complements_16 (cc : Int) (w : World) : Calls Tryz.prog 126 #[.int .i64 16, .int .i64 cc] w fun e w' => e = .returned (.bool (cplB 16 cc)) ∧ w = w' := by
  go_enter Tryz.func126, Tryz.ntmps126
  go_wp2
  go_ret
  exact ⟨by simp [cplB], rfl⟩
set_option maxRecDepth 100000 in
set_option maxHeartbeats 1000000 in
theorem tested_16 (E A : Nat) (q : Qn) (R : Nat → Int) (p : Psw) (c : Int) (g h n m : Nat) (bs ks : List UInt8) (w : World) (hx : Ex w E A q R p c) (hs : Sto w A g h n m bs ks) (hR : RegOk R) (hq : QOk q) (hop : q.op = 16) : Calls Tryz.prog 52 #[.pointer (some ⟨E, 0, none⟩)] w (RegPost w E A q (opC q R p n ks) (if cplB 16 (W.ord (W.sg (opV q R bs)) 0) = true then sgR q R (W.sg 0 - W.sg (opV q R bs)) else upd R q.r1 (opV q R bs)) (if cplB 16 (W.ord (W.sg (opV q R bs)) 0) = true then sgP p (W.sg 0 - W.sg (opV q R bs)) else { p with cc := (W.ord (W.sg (opV q R bs)) 0) }) (if cplB 16 (W.ord (W.sg (opV q R bs)) 0) = true then sgC p (W.sg 0 - W.sg (opV q R bs)) c else c)) := by
  have HO := Lib.hid (operand_any E A q R p c g h n m bs ks w hx hs hR hq)
  have hvb := opV_bd (q := q) (bs := bs) hR
  have HX := Lib.hid hx
  have HOP := Lib.hid hop
  have HR1 := Lib.hid hq.r1
  have HT := Lib.hid (fun (X : World) => W.test_any (opV q R bs) (opV_bd hR).1 (opV_bd hR).2 X)
  have HCM := Lib.hid (complements_16 (W.ord (W.sg (opV q R bs)) 0))
  by_cases hcb : cplB 16 (W.ord (W.sg (opV q R bs)) 0) = true
  · rw [hcb] at HCM
    rw [if_pos hcb, if_pos hcb, if_pos hcb]
    have HW := Lib.hid (fun (X : World) => W.wComplement_any (opV q R bs) (opV_bd hR).1 (opV_bd hR).2 X)
    have HS := Lib.hid (fun (X : World) (hW : Below w.heap.size w X) => signed_become E A q R p c (W.sg 0 - W.sg (opV q R bs)) X (hx.below hW) hq.r1)
    generalize sgC p (W.sg 0 - W.sg (opV q R bs)) c = c' at HS ⊢
    generalize sgP p (W.sg 0 - W.sg (opV q R bs)) = p' at HS ⊢
    generalize sgR q R (W.sg 0 - W.sg (opV q R bs)) = R' at HS ⊢
    generalize W.ord (W.sg (opV q R bs)) 0 = tv at HT HCM
    generalize opC q R p n ks = C at HO ⊢
    generalize opV q R bs = v at HO HT HW HS ⊢
    clear hx hs hR hq hop hvb hcb
    go_enter Tryz.func52, Tryz.ntmps52
    go_wp2_with fail
    refine HO.out.mono ?_
    rintro e w1 ⟨hb, ⟨h0, rfl⟩ | ⟨hn, rfl⟩⟩
    · have c0 := (HX.out.below hb).op
      rw [HOP.out] at c0
      have HB := Lib.hid hb
      have H0 := Lib.hid h0
      clear hb h0 HO HX HOP HR1
      go_wp2_with fail
      refine (HT.out _).mono ?_
      rintro e w2 ⟨rfl, rfl⟩
      go_wp2_with fail
      refine (HCM.out _).mono ?_
      rintro e w2 ⟨rfl, rfl⟩
      go_wp2_with fail
      refine (HW.out _).mono ?_
      rintro e w2 ⟨rfl, rfl⟩
      clear c0 HW HT HCM
      go_wp2_with fail
      refine (HS.out _ HB.out).mono ?_
      rintro e w2 ⟨rfl, h2, k2⟩
      have H2 := Lib.hid h2
      have K2 := Lib.hid ((Kp.bel HB.out).trans k2)
      clear h2 k2 HS HB
      go_wp2
      go_end0
      exact .inr ⟨H0.out, rfl, H2.out, K2.out⟩
    · have HB := Lib.hid hb
      have HN := Lib.hid hn
      clear hb hn HO
      unfold Stop
      go_wp2
      exact ⟨rfl, .inl ⟨HN.out, rfl, Kp.bel HB.out⟩⟩

  · have hcb' : cplB 16 (W.ord (W.sg (opV q R bs)) 0) = false := by simpa using hcb
    rw [hcb'] at HCM
    rw [if_neg hcb, if_neg hcb, if_neg hcb]
    have HS := Lib.hid (fun (X : World) (hW : Below w.heap.size w X) => become_any E A q R p c (opV q R bs) (W.ord (W.sg (opV q R bs)) 0) X (hx.below hW) hq.r1)
    generalize upd R q.r1 (opV q R bs) = R' at HS ⊢
    generalize W.ord (W.sg (opV q R bs)) 0 = tv at HT HCM HS ⊢
    generalize opC q R p n ks = C at HO ⊢
    generalize opV q R bs = v at HO HT HS ⊢
    clear hx hs hR hq hop hvb hcb hcb'
    go_enter Tryz.func52, Tryz.ntmps52
    go_wp2_with fail
    refine HO.out.mono ?_
    rintro e w1 ⟨hb, ⟨h0, rfl⟩ | ⟨hn, rfl⟩⟩
    · have c0 := (HX.out.below hb).op
      rw [HOP.out] at c0
      have HB := Lib.hid hb
      have H0 := Lib.hid h0
      clear hb h0 HO HX HOP HR1
      go_wp2_with fail
      refine (HT.out _).mono ?_
      rintro e w2 ⟨rfl, rfl⟩
      go_wp2_with fail
      refine (HCM.out _).mono ?_
      rintro e w2 ⟨rfl, rfl⟩
      go_wp2_with fail
      clear c0 HT HCM
      refine (HS.out _ HB.out).mono ?_
      rintro e w2 ⟨rfl, h2, k2⟩
      have H2 := Lib.hid h2
      have K2 := Lib.hid ((Kp.bel HB.out).trans k2)
      clear h2 k2 HS HB
      go_wp2
      go_end0
      exact .inr ⟨H0.out, rfl, H2.out, K2.out⟩
    · have HB := Lib.hid hb
      have HN := Lib.hid hn
      clear hb hn HO
      unfold Stop
      go_wp2
      exact ⟨rfl, .inl ⟨HN.out, rfl, Kp.bel HB.out⟩⟩
set_option maxRecDepth 100000 in
theorem pair_any (E A : Nat) (q : Qn) (R : Nat → Int) (p : Psw) (c : Int) (w : World) (h : Ex w E A q R p c) (hr : q.r1 < 16) : Calls Tryz.prog 138 #[.pointer (some ⟨E, 0, none⟩)] w (OrStop w (.tuple #[.int .i64 (q.r1 : Int), .int .i64 ((q.r1 + 1 : Nat) : Int)]) (if q.r1 % 2 = 0 then 0 else 6)) := by
  have c2 := h.r1
  have HY := Lib.hid (require_yes 6)
  have HN := Lib.hid (require_no 6)
  clear h
  generalize q.r1 = r at *
  have hw : wrap64 ((r : Int) + 1) = ((r + 1 : Nat) : Int) := by unfold wrap64; omega
  by_cases ha : r % 2 = 0
  · have hz : (r : Int) % 2 = 0 := by omega
    rw [if_pos ha]
    clear ha
    go_enter Tryz.func138, Tryz.ntmps138
    go_wp2_with fail
    refine (HY.out _).mono ?_
    rintro e w2 ⟨rfl, rfl⟩
    go_wp2_with fail
    go_quiet (fail)
    go_wp2
    refine bodyPost_ret (results_tt rfl rfl rfl) rfl ?_
    exact ⟨belowDraw _ _, .inl ⟨rfl, rfl⟩⟩
  · have hz' : ¬ (r : Int) % 2 = 0 := by omega
    have hz : ((r : Int) % 2 == 0) = false := by simpa using hz'
    clear hz'
    rw [if_neg ha]
    clear ha
    go_enter Tryz.func138, Tryz.ntmps138
    go_wp2_with fail
    refine (HN.out _).mono ?_
    rintro e w2 ⟨rfl, rfl⟩
    unfold Stop
    go_wp2
    exact ⟨rfl, Below.refl _ _, .inr ⟨by decide, rfl⟩⟩

end M
end Go.Proofs.YtfopjnfphlkcgaaGreat

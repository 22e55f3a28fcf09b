/- Exec of any instruction on any storage. -/
import Derived.Test.YtfopjnfphlkcgaaGreatRows
import Derived.Test.YtfopjnfphlkcgaaGreatGnFine
namespace Go.Proofs.YtfopjnfphlkcgaaGreat
open Go.RowKit Go.Shelf E
set_option linter.unusedVariables false
namespace M

/-- The fields of a valid instruction. -/
theorem ins_bd {Q : Ins} (hop : 0 ≤ Q.op ∧ Q.op < 256) (h : chkV Q = 0) : ∃ q : Qn, Q = q.ins ∧ QOk q := by
  have h1 : foB Q = true := by
    cases hf : foB Q with
    | true => rfl
    | false => unfold chkV at h; rw [hf] at h; cases h
  have h2 : okB8 (foO (ixC Q.op)) Q = true := by
    cases hf : okB8 (foO (ixC Q.op)) Q with
    | true => rfl
    | false => unfold chkV at h; rw [h1, hf] at h; cases h
  have h3 : Q.fo = (foO (ixC Q.op) : Int) := by
    unfold foB at h1
    simp only [Bool.and_eq_true, beq_iff_eq] at h1
    exact h1.2
  clear h h1
  generalize foO (ixC Q.op) = F at h2 h3
  have hb : (0 ≤ Q.r1 ∧ Q.r1 < 16) ∧ (0 ≤ Q.r2 ∧ Q.r2 < 16) ∧ (0 ≤ Q.x2 ∧ Q.x2 < 16) ∧ (0 ≤ Q.b1 ∧ Q.b1 < 16) ∧ (0 ≤ Q.d1 ∧ Q.d1 < 4096) ∧ (0 ≤ Q.b2 ∧ Q.b2 < 16) ∧ (0 ≤ Q.d2 ∧ Q.d2 < 4096) ∧ (0 ≤ Q.l1 ∧ Q.l1 < 256) ∧ (0 ≤ Q.l2 ∧ Q.l2 < 16) ∧ (0 ≤ Q.i2 ∧ Q.i2 < 256) := by
    clear h3
    obtain ⟨op, fo, r1, r2, x2, b1, d1, b2, d2, l1, l2, i2⟩ := Q
    unfold okB8 fldsT at h2
    split at h2 <;> simp only [List.foldl_cons, List.foldl_nil, ckStep, fs, fv, Ins.get, Ins.set, Ins.hd, E.inR, Bool.and_eq_true, Bool.true_and, decide_eq_true_eq, Ins.mk.injEq] at h2 <;> dsimp only <;> omega
  obtain ⟨op, fo, r1, r2, x2, b1, d1, b2, d2, l1, l2, i2⟩ := Q
  simp only at hop h3 hb
  refine ⟨⟨op.toNat, F, r1.toNat, r2.toNat, x2.toNat, b1.toNat, d1.toNat, b2.toNat, d2.toNat, l1.toNat, l2.toNat, i2.toNat⟩, ?_, ?_⟩
  · unfold Qn.ins
    simp only [Ins.mk.injEq]
    omega
  · refine ⟨?_, ?_, ?_, ?_, ?_, ?_, ?_, ?_, ?_, ?_, ?_⟩ <;> simp only <;> omega
def brI (op : Int) : Bool := (decide (5 ≤ op) && decide (op ≤ 7)) || (decide (69 ≤ op) && decide (op ≤ 71)) || decide (op = 134) || decide (op = 135)
theorem brI_of (op : Nat) : brI (op : Int) = brN op := by
  unfold brI brN
  have e1 : decide ((5 : Int) ≤ (op : Int)) = decide (5 ≤ op) := by simp only [decide_eq_decide]; omega
  have e2 : decide ((op : Int) ≤ 7) = decide (op ≤ 7) := by simp only [decide_eq_decide]; omega
  have e3 : decide ((69 : Int) ≤ (op : Int)) = decide (69 ≤ op) := by simp only [decide_eq_decide]; omega
  have e4 : decide ((op : Int) ≤ 71) = decide (op ≤ 71) := by simp only [decide_eq_decide]; omega
  have e5 : decide ((op : Int) = 134) = decide (op = 134) := by simp only [decide_eq_decide]; omega
  have e6 : decide ((op : Int) = 135) = decide (op = 135) := by simp only [decide_eq_decide]; omega
  rw [e1, e2, e3, e4, e5, e6]
/-- What may become of the status word, for any instruction. -/
def FpI (op : Int) (p p' : Psw) : Prop := (p'.m = p.m ∧ p'.k = p.k ∧ p'.ma = p.ma ∧ p'.wa = p.wa ∧ p'.pr = p.pr ∧ p'.co = p.co ∧ p'.il = p.il) ∧ (0 ≤ p'.cc ∧ p'.cc ≤ 3) ∧ (0 ≤ p'.pg ∧ p'.pg ≤ 15) ∧ (0 ≤ p'.ad ∧ p'.ad < 16777216) ∧ (op ≠ 4 → p'.pg = p.pg) ∧ (brI op = false → p'.ad = p.ad)
theorem fpi_of {q : Qn} {p p' : Psw} (h : Fp q p p') : FpI (q.op : Int) p p' := by
  obtain ⟨h1, h2, h3, h4, h5, h6⟩ := h
  exact ⟨h1, h2, h3, h4, fun h => h5 (by omega), fun h => h6 (by rw [brI_of] at h; exact h)⟩
/-- Exec, whatever the instruction. -/
theorem exec_any (Q : Ins) (R : Nat → Int) (p : Psw) (n : Nat) (bs ks : List UInt8) (hR : RegOk R) (hl : bs.length = n) : ∃ (R' : Nat → Int) (p' : Psw) (c' : Int) (bs' : List UInt8),
    (c' ≠ 0 → c' ≠ 8 → R' = R ∧ p' = p ∧ bs' = bs) ∧ (c' = 0 ∨ c' = 8 → FpI Q.op p p' ∧ Fb p bs ks bs') ∧
    ∀ A g h m w, Sto w A g h n m bs ks → Calls Tryz.prog 17 #[Q.val, .agg (regA R), .agg (pswA p), .pointer (some ⟨A, 0, none⟩)] w fun e w' => e = .returned (refA R' p' c') ∧ Sto w' A g h n m bs' ks ∧ Kp w w' [g] := by
  have hbad : (∀ A w, Calls Tryz.prog 17 #[Q.val, .agg (regA R), .agg (pswA p), .pointer (some ⟨A, 0, none⟩)] w (New w (refA R p 1))) → ∃ (R' : Nat → Int) (p' : Psw) (c' : Int) (bs' : List UInt8),
    (c' ≠ 0 → c' ≠ 8 → R' = R ∧ p' = p ∧ bs' = bs) ∧ (c' = 0 ∨ c' = 8 → FpI Q.op p p' ∧ Fb p bs ks bs') ∧
    ∀ A g h m w, Sto w A g h n m bs ks → Calls Tryz.prog 17 #[Q.val, .agg (regA R), .agg (pswA p), .pointer (some ⟨A, 0, none⟩)] w fun e w' => e = .returned (refA R' p' c') ∧ Sto w' A g h n m bs' ks ∧ Kp w w' [g] := fun h1 =>
    ⟨R, p, 1, bs, fun _ _ => ⟨rfl, rfl, rfl⟩, fun h => h.elim (fun h => absurd h (by decide)) (fun h => absurd h (by decide)), fun A g h m w hs => (h1 A w).mono fun e w' hn => ⟨hn.1, hs.below hn.2, Kp.bel hn.2⟩⟩
  have hkn := fun X => knows_any Q.op X
  cases hk : knB Q.op with
  | false =>
    rw [hk] at hkn
    exact hbad (fun A w => exec_unknown Q R p ⟨A, 0, none⟩ w hkn)
  | true =>
    rw [hk] at hkn
    by_cases hc : chkV Q = 0
    · cases ho : okB p with
      | false => exact hbad (fun A w => exec_status Q R p ⟨A, 0, none⟩ w hkn hc ho)
      | true =>
        have hop : 0 ≤ Q.op ∧ Q.op < 256 := by
          unfold knB at hk
          rw [List.any_eq_true] at hk
          obtain ⟨x, hx, he⟩ := hk
          have he' : Q.op = (x : Int) := by simpa using he
          have hx2 : ∀ y ∈ opsR, y < 256 := by decide
          have := hx2 x hx
          omega
        obtain ⟨q, rfl, hq⟩ := ins_bd hop hc
        obtain ⟨o, hr, hf⟩ := fine_all q R p n bs ks hR hq ho hl hk
        cases o with
        | stop C =>
          refine ⟨R, p, C, bs, fun _ _ => ⟨rfl, rfl, rfl⟩, fun _ => ⟨fpi_of (fp_same ho), fb_same⟩, fun A g h m w hs => (exec_of hs hc ho hr).mono fun e w' hp => hp⟩
        | go R' p' c' bs' =>
          exact ⟨R', p', c', bs', fun h1 h2 => hf.1.elim (fun h => absurd h h1) (fun h => absurd h h2), fun _ => ⟨fpi_of hf.2.1, hf.2.2⟩, fun A g h m w hs => (exec_of hs hc ho hr).mono fun e w' hp => hp⟩
    · exact hbad (fun A w => exec_check Q R p ⟨A, 0, none⟩ _ hc w hkn rfl)

end M
end Go.Proofs.YtfopjnfphlkcgaaGreat

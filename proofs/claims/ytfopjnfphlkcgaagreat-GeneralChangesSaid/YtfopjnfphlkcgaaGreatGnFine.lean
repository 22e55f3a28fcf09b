/- What an instruction may change. -/
import Derived.Test.YtfopjnfphlkcgaaGreatRows
import Derived.Test.YtfopjnfphlkcgaaGreatGnKnows
import Derived.Test.YtfopjnfphlkcgaaGreatGnMany
import Derived.Test.YtfopjnfphlkcgaaGreatGnRunsB
import Derived.Test.YtfopjnfphlkcgaaGreatGnRunsC
namespace Go.Proofs.YtfopjnfphlkcgaaGreat
open Go.RowKit Go.Shelf E
set_option linter.unusedVariables false
namespace M

/-- May an operation code change the instruction address? -/
def brN (op : Nat) : Bool := (decide (5 ≤ op) && decide (op ≤ 7)) || (decide (69 ≤ op) && decide (op ≤ 71)) || decide (op = 134) || decide (op = 135)
/-- What may become of the status word. -/
def Fp (q : Qn) (p p' : Psw) : Prop := (p'.m = p.m ∧ p'.k = p.k ∧ p'.ma = p.ma ∧ p'.wa = p.wa ∧ p'.pr = p.pr ∧ p'.co = p.co ∧ p'.il = p.il) ∧ (0 ≤ p'.cc ∧ p'.cc ≤ 3) ∧ (0 ≤ p'.pg ∧ p'.pg ≤ 15) ∧ (0 ≤ p'.ad ∧ p'.ad < 16777216) ∧ (q.op ≠ 4 → p'.pg = p.pg) ∧ (brN q.op = false → p'.ad = p.ad)
/-- What may become of the bytes. -/
def Fb (p : Psw) (bs ks bs' : List UInt8) : Prop := bs'.length = bs.length ∧ ∀ j, gt bs' j ≠ gt bs j → stP p.k (gt ks (j / 2048)) = true
def Fine (q : Qn) (p : Psw) (bs ks : List UInt8) : Out → Prop
  | .stop _ => True
  | .go _ p' c' bs' => (c' = 0 ∨ c' = 8) ∧ Fp q p p' ∧ Fb p bs ks bs'
theorem fine_mk {q : Qn} {p : Psw} {bs ks : List UInt8} {C : Int} {R' : Nat → Int} {p' : Psw} {c' : Int} {bs' : List UInt8} (hc : c' = 0 ∨ c' = 8) (hp : Fp q p p') (hb : Fb p bs ks bs') : Fine q p bs ks (regO C R' p' c' bs') := by
  unfold regO
  by_cases h : C = 0
  · rw [if_pos h]
    exact ⟨hc, hp, hb⟩
  · rw [if_neg h]
    trivial
theorem okB_bd {p : Psw} (ho : okB p = true) : (0 ≤ p.cc ∧ p.cc ≤ 3) ∧ (0 ≤ p.pg ∧ p.pg ≤ 15) ∧ (0 ≤ p.ad ∧ p.ad < 16777216) := by
  rw [okB_iff] at ho
  simp only [fldsP, List.mem_cons, List.not_mem_nil, or_false, pinB, Bool.and_eq_true, decide_eq_true_eq, forall_eq_or_imp, forall_eq] at ho
  omega
theorem fp_same {q : Qn} {p : Psw} (ho : okB p = true) : Fp q p p := by
  have h := okB_bd ho
  exact ⟨⟨rfl, rfl, rfl, rfl, rfl, rfl, rfl⟩, h.1, h.2.1, h.2.2, fun _ => rfl, fun _ => rfl⟩
theorem fp_cc {q : Qn} {p : Psw} (ho : okB p = true) {v : Int} (hv : 0 ≤ v ∧ v ≤ 3) : Fp q p { p with cc := v } := by
  have h := okB_bd ho
  exact ⟨⟨rfl, rfl, rfl, rfl, rfl, rfl, rfl⟩, hv, h.2.1, h.2.2, fun _ => rfl, fun _ => rfl⟩
theorem fp_ad {q : Qn} {p : Psw} (ho : okB p = true) (hq : brN q.op = true) {a : Nat} (ha : a < 16777216) : Fp q p { p with ad := (a : Int) } := by
  have h := okB_bd ho
  exact ⟨⟨rfl, rfl, rfl, rfl, rfl, rfl, rfl⟩, h.1, h.2.1, ⟨by show 0 ≤ (a : Int); omega, by show (a : Int) < 16777216; omega⟩, fun _ => rfl, fun h => by rw [hq] at h; cases h⟩
theorem fp_four {q : Qn} {p : Psw} (ho : okB p = true) (hq : q.op = 4) (v : Int) : Fp q p { p with cc := v / 268435456 % 4, pg := v / 16777216 % 16 } := by
  have h := okB_bd ho
  exact ⟨⟨rfl, rfl, rfl, rfl, rfl, rfl, rfl⟩, ⟨by show 0 ≤ v / 268435456 % 4; omega, by show v / 268435456 % 4 ≤ 3; omega⟩, ⟨by show 0 ≤ v / 16777216 % 16; omega, by show v / 16777216 % 16 ≤ 15; omega⟩, h.2.2, fun h => absurd hq h, fun _ => rfl⟩
theorem fp_ite {q : Qn} {p x y : Psw} {c : Prop} [Decidable c] (h1 : Fp q p x) (h2 : Fp q p y) : Fp q p (if c then x else y) := by
  by_cases h : c
  · rw [if_pos h]; exact h1
  · rw [if_neg h]; exact h2
theorem fb_same {p : Psw} {bs ks : List UInt8} : Fb p bs ks bs := ⟨rfl, fun j h => absurd rfl h⟩
theorem fb_put {p : Psw} {n : Nat} {bs ks : List UInt8} (hl : bs.length = n) (x : Int) (b : List UInt8) : Fb p bs ks (putB (stP p.k) n bs ks x b) := by
  refine ⟨by rw [putB_len hl, hl], fun j hj => ?_⟩
  unfold putB at hj
  by_cases hc : codeV (stP p.k) n ks x (b.length : Int) = 0
  · rw [if_pos hc] at hj
    obtain ⟨h1, h2, h3⟩ := inB_iff.1 (codeV_in hc)
    rw [gt_putL (by omega)] at hj
    by_cases hin : x.toNat ≤ j ∧ j < x.toNat + b.length
    · unfold codeV at hc
      rw [if_pos (codeV_in (p := stP p.k) (ks := ks) (by unfold codeV; exact hc))] at hc
      by_cases ha : allB (stP p.k) ks x.toNat ((b.length : Int)).toNat = true
      · unfold allB at ha
        rw [List.all_eq_true] at ha
        have := ha (j - x.toNat) (List.mem_range.2 (by omega))
        rwa [show x.toNat + (j - x.toNat) = j by omega] at this
      · rw [if_neg ha] at hc
        exact absurd hc (by decide)
    · rw [if_neg hin] at hj
      exact absurd rfl hj
  · rw [if_neg hc] at hj
    exact absurd rfl hj
theorem fb_ite {p : Psw} {bs ks x y : List UInt8} {c : Prop} [Decidable c] (h1 : Fb p bs ks x) (h2 : Fb p bs ks y) : Fb p bs ks (if c then x else y) := by
  by_cases h : c
  · rw [if_pos h]; exact h1
  · rw [if_neg h]; exact h2
theorem ord_bd (a b : Int) : 0 ≤ W.ord a b ∧ W.ord a b ≤ 3 := by
  unfold W.ord
  split
  · decide
  · split <;> decide
theorem ncc_bd (a : Int) : 0 ≤ W.ncc a ∧ W.ncc a ≤ 3 := by
  unfold W.ncc
  split
  · exact ord_bd _ _
  · decide
theorem nz_bd (a : Int) : 0 ≤ nzI a ∧ nzI a ≤ 3 := by
  unfold nzI
  split <;> decide
theorem lcc_bd (v : Int) (c : Bool) : 0 ≤ W.lcc v c ∧ W.lcc v c ≤ 3 := by
  unfold W.lcc
  split <;> split <;> decide
theorem sl32_bd (k : Nat) (v : Int) : 0 ≤ W.sl32cc k v ∧ W.sl32cc k v ≤ 3 := by
  unfold W.sl32cc
  split
  · decide
  · exact ord_bd _ _
theorem sl64_bd (k : Nat) (v : Int) : 0 ≤ W.sl64cc k v ∧ W.sl64cc k v ≤ 3 := by
  unfold W.sl64cc
  split
  · decide
  · exact ord_bd _ _
theorem ccM_bd (x m : Int) : 0 ≤ ccM x m ∧ ccM x m ≤ 3 := by
  unfold ccM
  split
  · decide
  · split <;> decide
theorem ccB_bd (l : List UInt8) : 0 ≤ ccB l ∧ ccB l ≤ 3 := by
  unfold ccB
  split <;> decide
theorem by_bd (x : UInt8) : 0 ≤ ((x.toNat / 128 : Nat) : Int) ∧ ((x.toNat / 128 : Nat) : Int) ≤ 3 := by
  have := x.toNat_lt
  omega
theorem cpF_bd (A B : List UInt8) : ∀ k m, 0 ≤ cpF A B k m ∧ cpF A B k m ≤ 3 := by
  intro k m
  induction m generalizing k with
  | zero => unfold cpF; decide
  | succ m ih =>
    unfold cpF
    first
      | (split; exact ord_bd _ _; exact ih _)
      | (split; exact ih _; exact ord_bd _ _)
theorem cpV_bd (q : Qn) (R : Nat → Int) (bs : List UInt8) : 0 ≤ cpV q R bs ∧ cpV q R bs ≤ 3 := cpF_bd _ _ _ _
theorem tgA_lt (q : Qn) (R : Nat → Int) : tgA q R < 16777216 := by
  unfold tgA
  split
  · exact adr_lt _ _ _ _
  · exact adr_lt _ _ _ _
theorem fp_sg {q : Qn} {p : Psw} (ho : okB p = true) (v : Int) : Fp q p (sgP p v) := fp_cc ho (ncc_bd v)
theorem fp_rp {q : Qn} {p : Psw} (ho : okB p = true) (R : Nat → Int) (bs : List UInt8) : Fp q p (rpP q R p bs) := by
  unfold rpP
  exact fp_ite (fp_cc ho (ccB_bd _)) (fp_same ho)
theorem fp_sc {q : Qn} {p : Psw} (ho : okB p = true) (o : Option (Nat × UInt8 × Bool)) : Fp q p (scP p o) := by
  match o with
  | none => exact fp_cc ho ⟨by decide, by decide⟩
  | some (a, f, l) =>
    refine fp_cc ho ?_
    split <;> decide
theorem sgc_bd (p : Psw) (v : Int) : sgC p v 0 = 0 ∨ sgC p v 0 = 8 := by
  unfold sgC
  split
  · exact .inr rfl
  · exact .inl rfl
theorem c8_ite {c : Prop} [Decidable c] {x y : Int} (h1 : x = 0 ∨ x = 8) (h2 : y = 0 ∨ y = 8) : (if c then x else y) = 0 ∨ (if c then x else y) = 8 := by
  by_cases h : c
  · rw [if_pos h]; exact h1
  · rw [if_neg h]; exact h2
theorem fine_4 (q : Qn) (R : Nat → Int) (p : Psw) (n : Nat) (bs ks : List UInt8) (ho : okB p = true) (hop : q.op = 4) (hl : bs.length = n) : Fine q p bs ks (regO 0 R { p with cc := R q.r1 / 268435456 % 4, pg := R q.r1 / 16777216 % 16 } 0 bs) := fine_mk (.inl rfl) (fp_four ho hop _) fb_same
theorem fine_5 (q : Qn) (R : Nat → Int) (p : Psw) (n : Nat) (bs ks : List UInt8) (ho : okB p = true) (hop : q.op = 5) (hl : bs.length = n) : Fine q p bs ks (regO 0 (upd R q.r1 (lnkV p)) (if (true && tgB q) = true then { p with ad := (tgA q R : Int) } else p) 0 bs) := fine_mk (.inl rfl) (fp_ite (fp_ad ho (by rw [hop]; rfl) (tgA_lt q R)) (fp_same ho)) fb_same
theorem fine_6 (q : Qn) (R : Nat → Int) (p : Psw) (n : Nat) (bs ks : List UInt8) (ho : okB p = true) (hop : q.op = 6) (hl : bs.length = n) : Fine q p bs ks (regO 0 (upd R q.r1 ((R q.r1 - 1) % 4294967296)) (if ((decide (R q.r1 ≠ 1)) && tgB q) = true then { p with ad := (tgA q R : Int) } else p) 0 bs) := fine_mk (.inl rfl) (fp_ite (fp_ad ho (by rw [hop]; rfl) (tgA_lt q R)) (fp_same ho)) fb_same
theorem fine_7 (q : Qn) (R : Nat → Int) (p : Psw) (n : Nat) (bs ks : List UInt8) (ho : okB p = true) (hop : q.op = 7) (hl : bs.length = n) : Fine q p bs ks (regO 0 R (if ((brB (q.r1 : Int) p.cc) && tgB q) = true then { p with ad := (tgA q R : Int) } else p) 0 bs) := fine_mk (.inl rfl) (fp_ite (fp_ad ho (by rw [hop]; rfl) (tgA_lt q R)) (fp_same ho)) fb_same
theorem fine_16 (q : Qn) (R : Nat → Int) (p : Psw) (n : Nat) (bs ks : List UInt8) (ho : okB p = true) (hop : q.op = 16) (hl : bs.length = n) : Fine q p bs ks (regO (opC q R p n ks) (if cplB 16 (W.ord (W.sg (opV q R bs)) 0) = true then sgR q R (W.sg 0 - W.sg (opV q R bs)) else upd R q.r1 (opV q R bs)) (if cplB 16 (W.ord (W.sg (opV q R bs)) 0) = true then sgP p (W.sg 0 - W.sg (opV q R bs)) else { p with cc := (W.ord (W.sg (opV q R bs)) 0) }) (if cplB 16 (W.ord (W.sg (opV q R bs)) 0) = true then sgC p (W.sg 0 - W.sg (opV q R bs)) 0 else 0) bs) := fine_mk (c8_ite (sgc_bd _ _) (.inl rfl)) (fp_ite (fp_sg ho _) (fp_cc ho (ord_bd _ _))) fb_same
theorem fine_17 (q : Qn) (R : Nat → Int) (p : Psw) (n : Nat) (bs ks : List UInt8) (ho : okB p = true) (hop : q.op = 17) (hl : bs.length = n) : Fine q p bs ks (regO (opC q R p n ks) (if cplB 17 (W.ord (W.sg (opV q R bs)) 0) = true then sgR q R (W.sg 0 - W.sg (opV q R bs)) else upd R q.r1 (opV q R bs)) (if cplB 17 (W.ord (W.sg (opV q R bs)) 0) = true then sgP p (W.sg 0 - W.sg (opV q R bs)) else { p with cc := (W.ord (W.sg (opV q R bs)) 0) }) (if cplB 17 (W.ord (W.sg (opV q R bs)) 0) = true then sgC p (W.sg 0 - W.sg (opV q R bs)) 0 else 0) bs) := fine_mk (c8_ite (sgc_bd _ _) (.inl rfl)) (fp_ite (fp_sg ho _) (fp_cc ho (ord_bd _ _))) fb_same
theorem fine_18 (q : Qn) (R : Nat → Int) (p : Psw) (n : Nat) (bs ks : List UInt8) (ho : okB p = true) (hop : q.op = 18) (hl : bs.length = n) : Fine q p bs ks (regO (opC q R p n ks) (if cplB 18 (W.ord (W.sg (opV q R bs)) 0) = true then sgR q R (W.sg 0 - W.sg (opV q R bs)) else upd R q.r1 (opV q R bs)) (if cplB 18 (W.ord (W.sg (opV q R bs)) 0) = true then sgP p (W.sg 0 - W.sg (opV q R bs)) else { p with cc := (W.ord (W.sg (opV q R bs)) 0) }) (if cplB 18 (W.ord (W.sg (opV q R bs)) 0) = true then sgC p (W.sg 0 - W.sg (opV q R bs)) 0 else 0) bs) := fine_mk (c8_ite (sgc_bd _ _) (.inl rfl)) (fp_ite (fp_sg ho _) (fp_cc ho (ord_bd _ _))) fb_same
theorem fine_19 (q : Qn) (R : Nat → Int) (p : Psw) (n : Nat) (bs ks : List UInt8) (ho : okB p = true) (hop : q.op = 19) (hl : bs.length = n) : Fine q p bs ks (regO (opC q R p n ks) (if cplB 19 (W.ord (W.sg (opV q R bs)) 0) = true then sgR q R (W.sg 0 - W.sg (opV q R bs)) else upd R q.r1 (opV q R bs)) (if cplB 19 (W.ord (W.sg (opV q R bs)) 0) = true then sgP p (W.sg 0 - W.sg (opV q R bs)) else { p with cc := (W.ord (W.sg (opV q R bs)) 0) }) (if cplB 19 (W.ord (W.sg (opV q R bs)) 0) = true then sgC p (W.sg 0 - W.sg (opV q R bs)) 0 else 0) bs) := fine_mk (c8_ite (sgc_bd _ _) (.inl rfl)) (fp_ite (fp_sg ho _) (fp_cc ho (ord_bd _ _))) fb_same
theorem fine_20 (q : Qn) (R : Nat → Int) (p : Psw) (n : Nat) (bs ks : List UInt8) (ho : okB p = true) (hop : q.op = 20) (hl : bs.length = n) : Fine q p bs ks (regO (opC q R p n ks) (upd R q.r1 (bits .and .u32 (R q.r1) (opV q R bs))) { p with cc := nzI (bits .and .u32 (R q.r1) (opV q R bs)) } 0 bs) := fine_mk (.inl rfl) (fp_cc ho (nz_bd _)) fb_same
theorem fine_21 (q : Qn) (R : Nat → Int) (p : Psw) (n : Nat) (bs ks : List UInt8) (ho : okB p = true) (hop : q.op = 21) (hl : bs.length = n) : Fine q p bs ks (regO (opC q R p n ks) R { p with cc := (W.ord (R q.r1) (opV q R bs)) } 0 bs) := fine_mk (.inl rfl) (fp_cc ho (ord_bd _ _)) fb_same
theorem fine_22 (q : Qn) (R : Nat → Int) (p : Psw) (n : Nat) (bs ks : List UInt8) (ho : okB p = true) (hop : q.op = 22) (hl : bs.length = n) : Fine q p bs ks (regO (opC q R p n ks) (upd R q.r1 (bits .or .u32 (R q.r1) (opV q R bs))) { p with cc := nzI (bits .or .u32 (R q.r1) (opV q R bs)) } 0 bs) := fine_mk (.inl rfl) (fp_cc ho (nz_bd _)) fb_same
theorem fine_23 (q : Qn) (R : Nat → Int) (p : Psw) (n : Nat) (bs ks : List UInt8) (ho : okB p = true) (hop : q.op = 23) (hl : bs.length = n) : Fine q p bs ks (regO (opC q R p n ks) (upd R q.r1 (bits .xor .u32 (R q.r1) (opV q R bs))) { p with cc := nzI (bits .xor .u32 (R q.r1) (opV q R bs)) } 0 bs) := fine_mk (.inl rfl) (fp_cc ho (nz_bd _)) fb_same
theorem fine_24 (q : Qn) (R : Nat → Int) (p : Psw) (n : Nat) (bs ks : List UInt8) (ho : okB p = true) (hop : q.op = 24) (hl : bs.length = n) : Fine q p bs ks (regO (opC q R p n ks) (upd R q.r1 (opV q R bs)) p 0 bs) := fine_mk (.inl rfl) (fp_same ho) fb_same
theorem fine_25 (q : Qn) (R : Nat → Int) (p : Psw) (n : Nat) (bs ks : List UInt8) (ho : okB p = true) (hop : q.op = 25) (hl : bs.length = n) : Fine q p bs ks (regO (opC q R p n ks) R { p with cc := (W.ord (W.sg (R q.r1)) (W.sg (opV q R bs))) } 0 bs) := fine_mk (.inl rfl) (fp_cc ho (ord_bd _ _)) fb_same
theorem fine_26 (q : Qn) (R : Nat → Int) (p : Psw) (n : Nat) (bs ks : List UInt8) (ho : okB p = true) (hop : q.op = 26) (hl : bs.length = n) : Fine q p bs ks (regO (opC q R p n ks) (sgR q R (W.sg (R q.r1) + W.sg (opV q R bs))) (sgP p (W.sg (R q.r1) + W.sg (opV q R bs))) (sgC p (W.sg (R q.r1) + W.sg (opV q R bs)) 0) bs) := fine_mk (sgc_bd _ _) (fp_sg ho _) fb_same
theorem fine_27 (q : Qn) (R : Nat → Int) (p : Psw) (n : Nat) (bs ks : List UInt8) (ho : okB p = true) (hop : q.op = 27) (hl : bs.length = n) : Fine q p bs ks (regO (opC q R p n ks) (sgR q R (W.sg (R q.r1) - W.sg (opV q R bs))) (sgP p (W.sg (R q.r1) - W.sg (opV q R bs))) (sgC p (W.sg (R q.r1) - W.sg (opV q R bs)) 0) bs) := fine_mk (sgc_bd _ _) (fp_sg ho _) fb_same
theorem fine_28 (q : Qn) (R : Nat → Int) (p : Psw) (n : Nat) (bs ks : List UInt8) (ho : okB p = true) (hop : q.op = 28) (hl : bs.length = n) : Fine q p bs ks (regO (if q.r1 % 2 = 0 then opC q R p n ks else 6) (upd (upd R q.r1 (W.sg (R (q.r1 + 1)) * W.sg (opV q R bs) % 18446744073709551616 / 4294967296)) (q.r1 + 1) (W.sg (R (q.r1 + 1)) * W.sg (opV q R bs) % 4294967296)) p 0 bs) := fine_mk (.inl rfl) (fp_same ho) fb_same
theorem fine_29 (q : Qn) (R : Nat → Int) (p : Psw) (n : Nat) (bs ks : List UInt8) (ho : okB p = true) (hop : q.op = 29) (hl : bs.length = n) : Fine q p bs ks (regO (if q.r1 % 2 = 0 then (if opC q R p n ks = 0 then (if W.dOk (W.sgd (R q.r1) (R (q.r1 + 1))) (W.sg (opV q R bs)) = true then 0 else 9) else opC q R p n ks) else 6) (upd (upd R q.r1 (W.dR (W.sgd (R q.r1) (R (q.r1 + 1))) (W.sg (opV q R bs)))) (q.r1 + 1) (W.dQ (W.sgd (R q.r1) (R (q.r1 + 1))) (W.sg (opV q R bs)))) p 0 bs) := fine_mk (.inl rfl) (fp_same ho) fb_same
theorem fine_30 (q : Qn) (R : Nat → Int) (p : Psw) (n : Nat) (bs ks : List UInt8) (ho : okB p = true) (hop : q.op = 30) (hl : bs.length = n) : Fine q p bs ks (regO (opC q R p n ks) (upd R q.r1 (((R q.r1) + (opV q R bs)) % 4294967296)) { p with cc := (W.lcc (((R q.r1) + (opV q R bs)) % 4294967296) (decide (4294967296 ≤ (R q.r1) + (opV q R bs)))) } 0 bs) := fine_mk (.inl rfl) (fp_cc ho (lcc_bd _ _)) fb_same
theorem fine_31 (q : Qn) (R : Nat → Int) (p : Psw) (n : Nat) (bs ks : List UInt8) (ho : okB p = true) (hop : q.op = 31) (hl : bs.length = n) : Fine q p bs ks (regO (opC q R p n ks) (upd R q.r1 (((R q.r1) - (opV q R bs)) % 4294967296)) { p with cc := (W.lcc (((R q.r1) - (opV q R bs)) % 4294967296) (decide ((opV q R bs) ≤ (R q.r1)))) } 0 bs) := fine_mk (.inl rfl) (fp_cc ho (lcc_bd _ _)) fb_same
theorem fine_64 (q : Qn) (R : Nat → Int) (p : Psw) (n : Nat) (bs ks : List UInt8) (ho : okB p = true) (hop : q.op = 64) (hl : bs.length = n) : Fine q p bs ks (regO (if adT q R % 2 = 0 then codeV (stP p.k) n ks (adT q R : Int) ((2 : Nat) : Int) else 6) R p 0 (if adT q R % 2 = 0 then putB (stP p.k) n bs ks (adT q R : Int) ((rb (R q.r1)).drop 2) else bs)) := fine_mk (.inl rfl) (fp_same ho) (fb_ite (fb_put hl _ _) fb_same)
theorem fine_65 (q : Qn) (R : Nat → Int) (p : Psw) (n : Nat) (bs ks : List UInt8) (ho : okB p = true) (hop : q.op = 65) (hl : bs.length = n) : Fine q p bs ks (regO 0 (upd R q.r1 (adT q R : Int)) p 0 bs) := fine_mk (.inl rfl) (fp_same ho) fb_same
theorem fine_66 (q : Qn) (R : Nat → Int) (p : Psw) (n : Nat) (bs ks : List UInt8) (ho : okB p = true) (hop : q.op = 66) (hl : bs.length = n) : Fine q p bs ks (regO (if adT q R % 1 = 0 then codeV (stP p.k) n ks (adT q R : Int) ((1 : Nat) : Int) else 6) R p 0 (if adT q R % 1 = 0 then putB (stP p.k) n bs ks (adT q R : Int) ((rb (R q.r1)).drop 3) else bs)) := fine_mk (.inl rfl) (fp_same ho) (fb_ite (fb_put hl _ _) fb_same)
theorem fine_67 (q : Qn) (R : Nat → Int) (p : Psw) (n : Nat) (bs ks : List UInt8) (ho : okB p = true) (hop : q.op = 67) (hl : bs.length = n) : Fine q p bs ks (regO (codeV (ftP p.k) n ks (adT q R : Int) ((1 : Nat) : Int)) (upd R q.r1 (lowW (R q.r1) (gt bs (adT q R)))) p 0 bs) := fine_mk (.inl rfl) (fp_same ho) fb_same
theorem fine_69 (q : Qn) (R : Nat → Int) (p : Psw) (n : Nat) (bs ks : List UInt8) (ho : okB p = true) (hop : q.op = 69) (hl : bs.length = n) : Fine q p bs ks (regO 0 (upd R q.r1 (lnkV p)) (if (true && tgB q) = true then { p with ad := (tgA q R : Int) } else p) 0 bs) := fine_mk (.inl rfl) (fp_ite (fp_ad ho (by rw [hop]; rfl) (tgA_lt q R)) (fp_same ho)) fb_same
theorem fine_70 (q : Qn) (R : Nat → Int) (p : Psw) (n : Nat) (bs ks : List UInt8) (ho : okB p = true) (hop : q.op = 70) (hl : bs.length = n) : Fine q p bs ks (regO 0 (upd R q.r1 ((R q.r1 - 1) % 4294967296)) (if ((decide (R q.r1 ≠ 1)) && tgB q) = true then { p with ad := (tgA q R : Int) } else p) 0 bs) := fine_mk (.inl rfl) (fp_ite (fp_ad ho (by rw [hop]; rfl) (tgA_lt q R)) (fp_same ho)) fb_same
theorem fine_71 (q : Qn) (R : Nat → Int) (p : Psw) (n : Nat) (bs ks : List UInt8) (ho : okB p = true) (hop : q.op = 71) (hl : bs.length = n) : Fine q p bs ks (regO 0 R (if ((brB (q.r1 : Int) p.cc) && tgB q) = true then { p with ad := (tgA q R : Int) } else p) 0 bs) := fine_mk (.inl rfl) (fp_ite (fp_ad ho (by rw [hop]; rfl) (tgA_lt q R)) (fp_same ho)) fb_same
theorem fine_72 (q : Qn) (R : Nat → Int) (p : Psw) (n : Nat) (bs ks : List UInt8) (ho : okB p = true) (hop : q.op = 72) (hl : bs.length = n) : Fine q p bs ks (regO (opC q R p n ks) (upd R q.r1 (opV q R bs)) p 0 bs) := fine_mk (.inl rfl) (fp_same ho) fb_same
theorem fine_73 (q : Qn) (R : Nat → Int) (p : Psw) (n : Nat) (bs ks : List UInt8) (ho : okB p = true) (hop : q.op = 73) (hl : bs.length = n) : Fine q p bs ks (regO (opC q R p n ks) R { p with cc := (W.ord (W.sg (R q.r1)) (W.sg (opV q R bs))) } 0 bs) := fine_mk (.inl rfl) (fp_cc ho (ord_bd _ _)) fb_same
theorem fine_74 (q : Qn) (R : Nat → Int) (p : Psw) (n : Nat) (bs ks : List UInt8) (ho : okB p = true) (hop : q.op = 74) (hl : bs.length = n) : Fine q p bs ks (regO (opC q R p n ks) (sgR q R (W.sg (R q.r1) + W.sg (opV q R bs))) (sgP p (W.sg (R q.r1) + W.sg (opV q R bs))) (sgC p (W.sg (R q.r1) + W.sg (opV q R bs)) 0) bs) := fine_mk (sgc_bd _ _) (fp_sg ho _) fb_same
theorem fine_75 (q : Qn) (R : Nat → Int) (p : Psw) (n : Nat) (bs ks : List UInt8) (ho : okB p = true) (hop : q.op = 75) (hl : bs.length = n) : Fine q p bs ks (regO (opC q R p n ks) (sgR q R (W.sg (R q.r1) - W.sg (opV q R bs))) (sgP p (W.sg (R q.r1) - W.sg (opV q R bs))) (sgC p (W.sg (R q.r1) - W.sg (opV q R bs)) 0) bs) := fine_mk (sgc_bd _ _) (fp_sg ho _) fb_same
theorem fine_76 (q : Qn) (R : Nat → Int) (p : Psw) (n : Nat) (bs ks : List UInt8) (ho : okB p = true) (hop : q.op = 76) (hl : bs.length = n) : Fine q p bs ks (regO (opC q R p n ks) (upd R q.r1 (W.sg (R q.r1) * W.sg (opV q R bs) % 4294967296)) p 0 bs) := fine_mk (.inl rfl) (fp_same ho) fb_same
theorem fine_80 (q : Qn) (R : Nat → Int) (p : Psw) (n : Nat) (bs ks : List UInt8) (ho : okB p = true) (hop : q.op = 80) (hl : bs.length = n) : Fine q p bs ks (regO (if adT q R % 4 = 0 then codeV (stP p.k) n ks (adT q R : Int) ((4 : Nat) : Int) else 6) R p 0 (if adT q R % 4 = 0 then putB (stP p.k) n bs ks (adT q R : Int) ((rb (R q.r1)).drop 0) else bs)) := fine_mk (.inl rfl) (fp_same ho) (fb_ite (fb_put hl _ _) fb_same)
theorem fine_84 (q : Qn) (R : Nat → Int) (p : Psw) (n : Nat) (bs ks : List UInt8) (ho : okB p = true) (hop : q.op = 84) (hl : bs.length = n) : Fine q p bs ks (regO (opC q R p n ks) (upd R q.r1 (bits .and .u32 (R q.r1) (opV q R bs))) { p with cc := nzI (bits .and .u32 (R q.r1) (opV q R bs)) } 0 bs) := fine_mk (.inl rfl) (fp_cc ho (nz_bd _)) fb_same
theorem fine_85 (q : Qn) (R : Nat → Int) (p : Psw) (n : Nat) (bs ks : List UInt8) (ho : okB p = true) (hop : q.op = 85) (hl : bs.length = n) : Fine q p bs ks (regO (opC q R p n ks) R { p with cc := (W.ord (R q.r1) (opV q R bs)) } 0 bs) := fine_mk (.inl rfl) (fp_cc ho (ord_bd _ _)) fb_same
theorem fine_86 (q : Qn) (R : Nat → Int) (p : Psw) (n : Nat) (bs ks : List UInt8) (ho : okB p = true) (hop : q.op = 86) (hl : bs.length = n) : Fine q p bs ks (regO (opC q R p n ks) (upd R q.r1 (bits .or .u32 (R q.r1) (opV q R bs))) { p with cc := nzI (bits .or .u32 (R q.r1) (opV q R bs)) } 0 bs) := fine_mk (.inl rfl) (fp_cc ho (nz_bd _)) fb_same
theorem fine_87 (q : Qn) (R : Nat → Int) (p : Psw) (n : Nat) (bs ks : List UInt8) (ho : okB p = true) (hop : q.op = 87) (hl : bs.length = n) : Fine q p bs ks (regO (opC q R p n ks) (upd R q.r1 (bits .xor .u32 (R q.r1) (opV q R bs))) { p with cc := nzI (bits .xor .u32 (R q.r1) (opV q R bs)) } 0 bs) := fine_mk (.inl rfl) (fp_cc ho (nz_bd _)) fb_same
theorem fine_88 (q : Qn) (R : Nat → Int) (p : Psw) (n : Nat) (bs ks : List UInt8) (ho : okB p = true) (hop : q.op = 88) (hl : bs.length = n) : Fine q p bs ks (regO (opC q R p n ks) (upd R q.r1 (opV q R bs)) p 0 bs) := fine_mk (.inl rfl) (fp_same ho) fb_same
theorem fine_89 (q : Qn) (R : Nat → Int) (p : Psw) (n : Nat) (bs ks : List UInt8) (ho : okB p = true) (hop : q.op = 89) (hl : bs.length = n) : Fine q p bs ks (regO (opC q R p n ks) R { p with cc := (W.ord (W.sg (R q.r1)) (W.sg (opV q R bs))) } 0 bs) := fine_mk (.inl rfl) (fp_cc ho (ord_bd _ _)) fb_same
theorem fine_90 (q : Qn) (R : Nat → Int) (p : Psw) (n : Nat) (bs ks : List UInt8) (ho : okB p = true) (hop : q.op = 90) (hl : bs.length = n) : Fine q p bs ks (regO (opC q R p n ks) (sgR q R (W.sg (R q.r1) + W.sg (opV q R bs))) (sgP p (W.sg (R q.r1) + W.sg (opV q R bs))) (sgC p (W.sg (R q.r1) + W.sg (opV q R bs)) 0) bs) := fine_mk (sgc_bd _ _) (fp_sg ho _) fb_same
theorem fine_91 (q : Qn) (R : Nat → Int) (p : Psw) (n : Nat) (bs ks : List UInt8) (ho : okB p = true) (hop : q.op = 91) (hl : bs.length = n) : Fine q p bs ks (regO (opC q R p n ks) (sgR q R (W.sg (R q.r1) - W.sg (opV q R bs))) (sgP p (W.sg (R q.r1) - W.sg (opV q R bs))) (sgC p (W.sg (R q.r1) - W.sg (opV q R bs)) 0) bs) := fine_mk (sgc_bd _ _) (fp_sg ho _) fb_same
theorem fine_92 (q : Qn) (R : Nat → Int) (p : Psw) (n : Nat) (bs ks : List UInt8) (ho : okB p = true) (hop : q.op = 92) (hl : bs.length = n) : Fine q p bs ks (regO (if q.r1 % 2 = 0 then opC q R p n ks else 6) (upd (upd R q.r1 (W.sg (R (q.r1 + 1)) * W.sg (opV q R bs) % 18446744073709551616 / 4294967296)) (q.r1 + 1) (W.sg (R (q.r1 + 1)) * W.sg (opV q R bs) % 4294967296)) p 0 bs) := fine_mk (.inl rfl) (fp_same ho) fb_same
theorem fine_93 (q : Qn) (R : Nat → Int) (p : Psw) (n : Nat) (bs ks : List UInt8) (ho : okB p = true) (hop : q.op = 93) (hl : bs.length = n) : Fine q p bs ks (regO (if q.r1 % 2 = 0 then (if opC q R p n ks = 0 then (if W.dOk (W.sgd (R q.r1) (R (q.r1 + 1))) (W.sg (opV q R bs)) = true then 0 else 9) else opC q R p n ks) else 6) (upd (upd R q.r1 (W.dR (W.sgd (R q.r1) (R (q.r1 + 1))) (W.sg (opV q R bs)))) (q.r1 + 1) (W.dQ (W.sgd (R q.r1) (R (q.r1 + 1))) (W.sg (opV q R bs)))) p 0 bs) := fine_mk (.inl rfl) (fp_same ho) fb_same
theorem fine_94 (q : Qn) (R : Nat → Int) (p : Psw) (n : Nat) (bs ks : List UInt8) (ho : okB p = true) (hop : q.op = 94) (hl : bs.length = n) : Fine q p bs ks (regO (opC q R p n ks) (upd R q.r1 (((R q.r1) + (opV q R bs)) % 4294967296)) { p with cc := (W.lcc (((R q.r1) + (opV q R bs)) % 4294967296) (decide (4294967296 ≤ (R q.r1) + (opV q R bs)))) } 0 bs) := fine_mk (.inl rfl) (fp_cc ho (lcc_bd _ _)) fb_same
theorem fine_95 (q : Qn) (R : Nat → Int) (p : Psw) (n : Nat) (bs ks : List UInt8) (ho : okB p = true) (hop : q.op = 95) (hl : bs.length = n) : Fine q p bs ks (regO (opC q R p n ks) (upd R q.r1 (((R q.r1) - (opV q R bs)) % 4294967296)) { p with cc := (W.lcc (((R q.r1) - (opV q R bs)) % 4294967296) (decide ((opV q R bs) ≤ (R q.r1)))) } 0 bs) := fine_mk (.inl rfl) (fp_cc ho (lcc_bd _ _)) fb_same
theorem fine_134 (q : Qn) (R : Nat → Int) (p : Psw) (n : Nat) (bs ks : List UInt8) (ho : okB p = true) (hop : q.op = 134) (hl : bs.length = n) : Fine q p bs ks (regO 0 (upd R q.r1 ((R q.r1 + R q.r2) % 4294967296)) (if ((W.ord (W.sg ((R q.r1 + R q.r2) % 4294967296)) (W.sg (R (q.r2 / 2 * 2 + 1))) == 2) && tgB q) = true then { p with ad := (tgA q R : Int) } else p) 0 bs) := fine_mk (.inl rfl) (fp_ite (fp_ad ho (by rw [hop]; rfl) (tgA_lt q R)) (fp_same ho)) fb_same
theorem fine_135 (q : Qn) (R : Nat → Int) (p : Psw) (n : Nat) (bs ks : List UInt8) (ho : okB p = true) (hop : q.op = 135) (hl : bs.length = n) : Fine q p bs ks (regO 0 (upd R q.r1 ((R q.r1 + R q.r2) % 4294967296)) (if ((!(W.ord (W.sg ((R q.r1 + R q.r2) % 4294967296)) (W.sg (R (q.r2 / 2 * 2 + 1))) == 2)) && tgB q) = true then { p with ad := (tgA q R : Int) } else p) 0 bs) := fine_mk (.inl rfl) (fp_ite (fp_ad ho (by rw [hop]; rfl) (tgA_lt q R)) (fp_same ho)) fb_same
theorem fine_136 (q : Qn) (R : Nat → Int) (p : Psw) (n : Nat) (bs ks : List UInt8) (ho : okB p = true) (hop : q.op = 136) (hl : bs.length = n) : Fine q p bs ks (regO 0 (upd R q.r1 (W.slg 4294967296 false (W.pl (adT q R : Int)) (R q.r1))) p 0 bs) := fine_mk (.inl rfl) (fp_same ho) fb_same
theorem fine_137 (q : Qn) (R : Nat → Int) (p : Psw) (n : Nat) (bs ks : List UInt8) (ho : okB p = true) (hop : q.op = 137) (hl : bs.length = n) : Fine q p bs ks (regO 0 (upd R q.r1 (W.slg 4294967296 true (W.pl (adT q R : Int)) (R q.r1))) p 0 bs) := fine_mk (.inl rfl) (fp_same ho) fb_same
theorem fine_138 (q : Qn) (R : Nat → Int) (p : Psw) (n : Nat) (bs ks : List UInt8) (ho : okB p = true) (hop : q.op = 138) (hl : bs.length = n) : Fine q p bs ks (regO 0 (upd R q.r1 (W.shr 2147483648 (W.pl (adT q R : Int)) (R q.r1))) { p with cc := (W.ord (W.sg (W.shr 2147483648 (W.pl (adT q R : Int)) (R q.r1))) 0) } 0 bs) := fine_mk (.inl rfl) (fp_cc ho (ord_bd _ _)) fb_same
theorem fine_139 (q : Qn) (R : Nat → Int) (p : Psw) (n : Nat) (bs ks : List UInt8) (ho : okB p = true) (hop : q.op = 139) (hl : bs.length = n) : Fine q p bs ks (regO 0 (upd R q.r1 (W.shv 2147483648 (W.pl (adT q R : Int)) (R q.r1))) { p with cc := (W.sl32cc (W.pl (adT q R : Int)) (R q.r1)) } (if ((W.sho 2147483648 (W.pl (adT q R : Int)) (R q.r1)) && adB { p with cc := (W.sl32cc (W.pl (adT q R : Int)) (R q.r1)) } 3 8 0) = true then 8 else 0) bs) := fine_mk (c8_ite (.inr rfl) (.inl rfl)) (fp_cc ho (sl32_bd _ _)) fb_same
theorem fine_140 (q : Qn) (R : Nat → Int) (p : Psw) (n : Nat) (bs ks : List UInt8) (ho : okB p = true) (hop : q.op = 140) (hl : bs.length = n) : Fine q p bs ks (regO (if q.r1 % 2 = 0 then 0 else 6) (upd (upd R q.r1 ((W.slg 18446744073709551616 false (W.pl (adT q R : Int)) ((R q.r1) * 4294967296 + R (q.r1 + 1))) / 4294967296)) (q.r1 + 1) ((W.slg 18446744073709551616 false (W.pl (adT q R : Int)) ((R q.r1) * 4294967296 + R (q.r1 + 1))) % 4294967296)) p 0 bs) := fine_mk (.inl rfl) (fp_same ho) fb_same
theorem fine_141 (q : Qn) (R : Nat → Int) (p : Psw) (n : Nat) (bs ks : List UInt8) (ho : okB p = true) (hop : q.op = 141) (hl : bs.length = n) : Fine q p bs ks (regO (if q.r1 % 2 = 0 then 0 else 6) (upd (upd R q.r1 ((W.slg 18446744073709551616 true (W.pl (adT q R : Int)) ((R q.r1) * 4294967296 + R (q.r1 + 1))) / 4294967296)) (q.r1 + 1) ((W.slg 18446744073709551616 true (W.pl (adT q R : Int)) ((R q.r1) * 4294967296 + R (q.r1 + 1))) % 4294967296)) p 0 bs) := fine_mk (.inl rfl) (fp_same ho) fb_same
theorem fine_142 (q : Qn) (R : Nat → Int) (p : Psw) (n : Nat) (bs ks : List UInt8) (ho : okB p = true) (hop : q.op = 142) (hl : bs.length = n) : Fine q p bs ks (regO (if q.r1 % 2 = 0 then 0 else 6) (upd (upd R q.r1 ((W.shr 9223372036854775808 (W.pl (adT q R : Int)) ((R q.r1) * 4294967296 + R (q.r1 + 1))) / 4294967296)) (q.r1 + 1) ((W.shr 9223372036854775808 (W.pl (adT q R : Int)) ((R q.r1) * 4294967296 + R (q.r1 + 1))) % 4294967296)) { p with cc := (W.ord (wrap64 (W.shr 9223372036854775808 (W.pl (adT q R : Int)) ((R q.r1) * 4294967296 + R (q.r1 + 1)))) 0) } 0 bs) := fine_mk (.inl rfl) (fp_cc ho (ord_bd _ _)) fb_same
theorem fine_143 (q : Qn) (R : Nat → Int) (p : Psw) (n : Nat) (bs ks : List UInt8) (ho : okB p = true) (hop : q.op = 143) (hl : bs.length = n) : Fine q p bs ks (regO (if q.r1 % 2 = 0 then 0 else 6) (upd (upd R q.r1 ((W.shv 9223372036854775808 (W.pl (adT q R : Int)) ((R q.r1) * 4294967296 + R (q.r1 + 1))) / 4294967296)) (q.r1 + 1) ((W.shv 9223372036854775808 (W.pl (adT q R : Int)) ((R q.r1) * 4294967296 + R (q.r1 + 1))) % 4294967296)) { p with cc := (W.sl64cc (W.pl (adT q R : Int)) ((R q.r1) * 4294967296 + R (q.r1 + 1))) } (if ((W.sho 9223372036854775808 (W.pl (adT q R : Int)) ((R q.r1) * 4294967296 + R (q.r1 + 1))) && adB { p with cc := (W.sl64cc (W.pl (adT q R : Int)) ((R q.r1) * 4294967296 + R (q.r1 + 1))) } 3 8 0) = true then 8 else 0) bs) := fine_mk (c8_ite (.inr rfl) (.inl rfl)) (fp_cc ho (sl64_bd _ _)) fb_same
theorem fine_144 (q : Qn) (R : Nat → Int) (p : Psw) (n : Nat) (bs ks : List UInt8) (ho : okB p = true) (hop : q.op = 144) (hl : bs.length = n) : Fine q p bs ks (regO (stmC q R p n ks) R p 0 (stmB q R p n bs ks)) := by
  unfold stmB
  exact fine_mk (.inl rfl) (fp_same ho) (fb_ite (fb_put hl _ _) fb_same)
theorem fine_145 (q : Qn) (R : Nat → Int) (p : Psw) (n : Nat) (bs ks : List UInt8) (ho : okB p = true) (hop : q.op = 145) (hl : bs.length = n) : Fine q p bs ks (regO (codeV (ftP p.k) n ks (adF q R : Int) ((1 : Nat) : Int)) R { p with cc := (ccM (((gt bs (adF q R)).toNat &&& q.i2 : Nat) : Int) (q.i2 : Int)) } 0 bs) := fine_mk (.inl rfl) (fp_cc ho (ccM_bd _ _)) fb_same
theorem fine_146 (q : Qn) (R : Nat → Int) (p : Psw) (n : Nat) (bs ks : List UInt8) (ho : okB p = true) (hop : q.op = 146) (hl : bs.length = n) : Fine q p bs ks (regO (codeV (stP p.k) n ks (adF q R : Int) ((1 : Nat) : Int)) R p 0 (putB (stP p.k) n bs ks (adF q R : Int) [i2B q])) := fine_mk (.inl rfl) (fp_same ho) (fb_put hl _ _)
theorem fine_147 (q : Qn) (R : Nat → Int) (p : Psw) (n : Nat) (bs ks : List UInt8) (ho : okB p = true) (hop : q.op = 147) (hl : bs.length = n) : Fine q p bs ks (regO (if codeV (ftP p.k) n ks (adF q R : Int) ((1 : Nat) : Int) = 0 then codeV (stP p.k) n ks (adF q R : Int) ((1 : Nat) : Int) else codeV (ftP p.k) n ks (adF q R : Int) ((1 : Nat) : Int)) R { p with cc := ((gt bs (adF q R)).toNat / 128 : Nat) } 0 (putB (stP p.k) n bs ks (adF q R : Int) [255])) := fine_mk (.inl rfl) (fp_cc ho (by_bd _)) (fb_put hl _ _)
theorem fine_148 (q : Qn) (R : Nat → Int) (p : Psw) (n : Nat) (bs ks : List UInt8) (ho : okB p = true) (hop : q.op = 148) (hl : bs.length = n) : Fine q p bs ks (regO (imC q R p n ks) R { p with cc := ccB [(imB 148 (gt bs (adF q R)) (i2B q))] } 0 (putB (stP p.k) n bs ks (adF q R : Int) [(imB 148 (gt bs (adF q R)) (i2B q))])) := fine_mk (.inl rfl) (fp_cc ho (ccB_bd _)) (fb_put hl _ _)
theorem fine_149 (q : Qn) (R : Nat → Int) (p : Psw) (n : Nat) (bs ks : List UInt8) (ho : okB p = true) (hop : q.op = 149) (hl : bs.length = n) : Fine q p bs ks (regO (codeV (ftP p.k) n ks (adF q R : Int) ((1 : Nat) : Int)) R { p with cc := (W.ord ((gt bs (adF q R)).toNat : Int) (q.i2 : Int)) } 0 bs) := fine_mk (.inl rfl) (fp_cc ho (ord_bd _ _)) fb_same
theorem fine_150 (q : Qn) (R : Nat → Int) (p : Psw) (n : Nat) (bs ks : List UInt8) (ho : okB p = true) (hop : q.op = 150) (hl : bs.length = n) : Fine q p bs ks (regO (imC q R p n ks) R { p with cc := ccB [(imB 150 (gt bs (adF q R)) (i2B q))] } 0 (putB (stP p.k) n bs ks (adF q R : Int) [(imB 150 (gt bs (adF q R)) (i2B q))])) := fine_mk (.inl rfl) (fp_cc ho (ccB_bd _)) (fb_put hl _ _)
theorem fine_151 (q : Qn) (R : Nat → Int) (p : Psw) (n : Nat) (bs ks : List UInt8) (ho : okB p = true) (hop : q.op = 151) (hl : bs.length = n) : Fine q p bs ks (regO (imC q R p n ks) R { p with cc := ccB [(imB 151 (gt bs (adF q R)) (i2B q))] } 0 (putB (stP p.k) n bs ks (adF q R : Int) [(imB 151 (gt bs (adF q R)) (i2B q))])) := fine_mk (.inl rfl) (fp_cc ho (ccB_bd _)) (fb_put hl _ _)
theorem fine_152 (q : Qn) (R : Nat → Int) (p : Psw) (n : Nat) (bs ks : List UInt8) (ho : okB p = true) (hop : q.op = 152) (hl : bs.length = n) : Fine q p bs ks (regO (lmC q R p n ks) (lmR R (subL bs (adT q R) (4 * lsC q.r1 q.r2)) q.r1 (lsC q.r1 q.r2)) p 0 bs) := fine_mk (.inl rfl) (fp_same ho) fb_same
theorem fine_209 (q : Qn) (R : Nat → Int) (p : Psw) (n : Nat) (bs ks : List UInt8) (ho : okB p = true) (hop : q.op = 209) (hl : bs.length = n) : Fine q p bs ks (regO (rpC q R p n ks) R (rpP q R p bs) 0 (putB (stP p.k) n bs ks (adF q R : Int) (rpF q R bs))) := fine_mk (.inl rfl) (fp_rp ho _ _) (fb_put hl _ _)
theorem fine_210 (q : Qn) (R : Nat → Int) (p : Psw) (n : Nat) (bs ks : List UInt8) (ho : okB p = true) (hop : q.op = 210) (hl : bs.length = n) : Fine q p bs ks (regO (rpC q R p n ks) R (rpP q R p bs) 0 (putB (stP p.k) n bs ks (adF q R : Int) (rpF q R bs))) := fine_mk (.inl rfl) (fp_rp ho _ _) (fb_put hl _ _)
theorem fine_211 (q : Qn) (R : Nat → Int) (p : Psw) (n : Nat) (bs ks : List UInt8) (ho : okB p = true) (hop : q.op = 211) (hl : bs.length = n) : Fine q p bs ks (regO (rpC q R p n ks) R (rpP q R p bs) 0 (putB (stP p.k) n bs ks (adF q R : Int) (rpF q R bs))) := fine_mk (.inl rfl) (fp_rp ho _ _) (fb_put hl _ _)
theorem fine_212 (q : Qn) (R : Nat → Int) (p : Psw) (n : Nat) (bs ks : List UInt8) (ho : okB p = true) (hop : q.op = 212) (hl : bs.length = n) : Fine q p bs ks (regO (rpC q R p n ks) R (rpP q R p bs) 0 (putB (stP p.k) n bs ks (adF q R : Int) (rpF q R bs))) := fine_mk (.inl rfl) (fp_rp ho _ _) (fb_put hl _ _)
theorem fine_213 (q : Qn) (R : Nat → Int) (p : Psw) (n : Nat) (bs ks : List UInt8) (ho : okB p = true) (hop : q.op = 213) (hl : bs.length = n) : Fine q p bs ks (regO (cpC q R p n ks) R { p with cc := cpV q R bs } 0 bs) := fine_mk (.inl rfl) (fp_cc ho (cpV_bd _ _ _)) fb_same
theorem fine_214 (q : Qn) (R : Nat → Int) (p : Psw) (n : Nat) (bs ks : List UInt8) (ho : okB p = true) (hop : q.op = 214) (hl : bs.length = n) : Fine q p bs ks (regO (rpC q R p n ks) R (rpP q R p bs) 0 (putB (stP p.k) n bs ks (adF q R : Int) (rpF q R bs))) := fine_mk (.inl rfl) (fp_rp ho _ _) (fb_put hl _ _)
theorem fine_215 (q : Qn) (R : Nat → Int) (p : Psw) (n : Nat) (bs ks : List UInt8) (ho : okB p = true) (hop : q.op = 215) (hl : bs.length = n) : Fine q p bs ks (regO (rpC q R p n ks) R (rpP q R p bs) 0 (putB (stP p.k) n bs ks (adF q R : Int) (rpF q R bs))) := fine_mk (.inl rfl) (fp_rp ho _ _) (fb_put hl _ _)
theorem fine_220 (q : Qn) (R : Nat → Int) (p : Psw) (n : Nat) (bs ks : List UInt8) (ho : okB p = true) (hop : q.op = 220) (hl : bs.length = n) : Fine q p bs ks (regO (trC q R p n ks bs) R p 0 (putB (stP p.k) n bs ks (adF q R : Int) (trR q R p n ks bs).2)) := fine_mk (.inl rfl) (fp_same ho) (fb_put hl _ _)
theorem fine_221 (q : Qn) (R : Nat → Int) (p : Psw) (n : Nat) (bs ks : List UInt8) (ho : okB p = true) (hop : q.op = 221) (hl : bs.length = n) : Fine q p bs ks (regO (scR q R p n ks bs).1 (scG R (scR q R p n ks bs).2) (scP p (scR q R p n ks bs).2) 0 bs) := fine_mk (.inl rfl) (fp_sc ho _) fb_same
set_option maxRecDepth 100000 in
/-- Every instruction runs, and changes only what it may. -/
theorem fine_all (q : Qn) (R : Nat → Int) (p : Psw) (n : Nat) (bs ks : List UInt8) (hR : RegOk R) (hq : QOk q) (ho : okB p = true) (hl : bs.length = n) (hk : knB (q.op : Int) = true) : ∃ o, Runs q R p n bs ks o ∧ Fine q p bs ks o := by
  have hm : q.op ∈ opsR := by
    unfold knB at hk
    rw [List.any_eq_true] at hk
    obtain ⟨x, hx, he⟩ := hk
    have he' : (q.op : Int) = (x : Int) := by simpa using he
    rwa [show q.op = x by omega]
  simp only [opsR, List.mem_cons, List.not_mem_nil, or_false] at hm
  rcases hm with h | h | h | h | h | h | h | h | h | h | h | h | h | h | h | h | h | h | h | h | h | h | h | h | h | h | h | h | h | h | h | h | h | h | h | h | h | h | h | h | h | h | h | h | h | h | h | h | h | h | h | h | h | h | h | h | h | h | h | h | h | h | h | h | h | h | h | h | h | h | h | h | h
  · exact ⟨_, runs_4 q R p n bs ks hR hq h, fine_4 q R p n bs ks ho h hl⟩
  · exact ⟨_, runs_5 q R p n bs ks hR hq ho h, fine_5 q R p n bs ks ho h hl⟩
  · exact ⟨_, runs_6 q R p n bs ks hR hq ho h, fine_6 q R p n bs ks ho h hl⟩
  · exact ⟨_, runs_7 q R p n bs ks hR hq ho h, fine_7 q R p n bs ks ho h hl⟩
  · exact ⟨_, runs_16 q R p n bs ks hR hq h, fine_16 q R p n bs ks ho h hl⟩
  · exact ⟨_, runs_17 q R p n bs ks hR hq h, fine_17 q R p n bs ks ho h hl⟩
  · exact ⟨_, runs_18 q R p n bs ks hR hq h, fine_18 q R p n bs ks ho h hl⟩
  · exact ⟨_, runs_19 q R p n bs ks hR hq h, fine_19 q R p n bs ks ho h hl⟩
  · exact ⟨_, runs_20 q R p n bs ks hR hq h, fine_20 q R p n bs ks ho h hl⟩
  · exact ⟨_, runs_21 q R p n bs ks hR hq h, fine_21 q R p n bs ks ho h hl⟩
  · exact ⟨_, runs_22 q R p n bs ks hR hq h, fine_22 q R p n bs ks ho h hl⟩
  · exact ⟨_, runs_23 q R p n bs ks hR hq h, fine_23 q R p n bs ks ho h hl⟩
  · exact ⟨_, runs_24 q R p n bs ks hR hq h, fine_24 q R p n bs ks ho h hl⟩
  · exact ⟨_, runs_25 q R p n bs ks hR hq h, fine_25 q R p n bs ks ho h hl⟩
  · exact ⟨_, runs_26 q R p n bs ks hR hq h, fine_26 q R p n bs ks ho h hl⟩
  · exact ⟨_, runs_27 q R p n bs ks hR hq h, fine_27 q R p n bs ks ho h hl⟩
  · exact ⟨_, runs_28 q R p n bs ks hR hq h, fine_28 q R p n bs ks ho h hl⟩
  · exact ⟨_, runs_29 q R p n bs ks hR hq h, fine_29 q R p n bs ks ho h hl⟩
  · exact ⟨_, runs_30 q R p n bs ks hR hq h, fine_30 q R p n bs ks ho h hl⟩
  · exact ⟨_, runs_31 q R p n bs ks hR hq h, fine_31 q R p n bs ks ho h hl⟩
  · exact ⟨_, runs_64 q R p n bs ks hR hq h, fine_64 q R p n bs ks ho h hl⟩
  · exact ⟨_, runs_65 q R p n bs ks hR hq h, fine_65 q R p n bs ks ho h hl⟩
  · exact ⟨_, runs_66 q R p n bs ks hR hq h, fine_66 q R p n bs ks ho h hl⟩
  · exact ⟨_, runs_67 q R p n bs ks hR hq h, fine_67 q R p n bs ks ho h hl⟩
  · exact ⟨_, runs_69 q R p n bs ks hR hq ho h, fine_69 q R p n bs ks ho h hl⟩
  · exact ⟨_, runs_70 q R p n bs ks hR hq ho h, fine_70 q R p n bs ks ho h hl⟩
  · exact ⟨_, runs_71 q R p n bs ks hR hq ho h, fine_71 q R p n bs ks ho h hl⟩
  · exact ⟨_, runs_72 q R p n bs ks hR hq h, fine_72 q R p n bs ks ho h hl⟩
  · exact ⟨_, runs_73 q R p n bs ks hR hq h, fine_73 q R p n bs ks ho h hl⟩
  · exact ⟨_, runs_74 q R p n bs ks hR hq h, fine_74 q R p n bs ks ho h hl⟩
  · exact ⟨_, runs_75 q R p n bs ks hR hq h, fine_75 q R p n bs ks ho h hl⟩
  · exact ⟨_, runs_76 q R p n bs ks hR hq h, fine_76 q R p n bs ks ho h hl⟩
  · exact ⟨_, runs_80 q R p n bs ks hR hq h, fine_80 q R p n bs ks ho h hl⟩
  · exact ⟨_, runs_84 q R p n bs ks hR hq h, fine_84 q R p n bs ks ho h hl⟩
  · exact ⟨_, runs_85 q R p n bs ks hR hq h, fine_85 q R p n bs ks ho h hl⟩
  · exact ⟨_, runs_86 q R p n bs ks hR hq h, fine_86 q R p n bs ks ho h hl⟩
  · exact ⟨_, runs_87 q R p n bs ks hR hq h, fine_87 q R p n bs ks ho h hl⟩
  · exact ⟨_, runs_88 q R p n bs ks hR hq h, fine_88 q R p n bs ks ho h hl⟩
  · exact ⟨_, runs_89 q R p n bs ks hR hq h, fine_89 q R p n bs ks ho h hl⟩
  · exact ⟨_, runs_90 q R p n bs ks hR hq h, fine_90 q R p n bs ks ho h hl⟩
  · exact ⟨_, runs_91 q R p n bs ks hR hq h, fine_91 q R p n bs ks ho h hl⟩
  · exact ⟨_, runs_92 q R p n bs ks hR hq h, fine_92 q R p n bs ks ho h hl⟩
  · exact ⟨_, runs_93 q R p n bs ks hR hq h, fine_93 q R p n bs ks ho h hl⟩
  · exact ⟨_, runs_94 q R p n bs ks hR hq h, fine_94 q R p n bs ks ho h hl⟩
  · exact ⟨_, runs_95 q R p n bs ks hR hq h, fine_95 q R p n bs ks ho h hl⟩
  · exact ⟨_, runs_134 q R p n bs ks hR hq ho h, fine_134 q R p n bs ks ho h hl⟩
  · exact ⟨_, runs_135 q R p n bs ks hR hq ho h, fine_135 q R p n bs ks ho h hl⟩
  · exact ⟨_, runs_136 q R p n bs ks hR hq h, fine_136 q R p n bs ks ho h hl⟩
  · exact ⟨_, runs_137 q R p n bs ks hR hq h, fine_137 q R p n bs ks ho h hl⟩
  · exact ⟨_, runs_138 q R p n bs ks hR hq h, fine_138 q R p n bs ks ho h hl⟩
  · exact ⟨_, runs_139 q R p n bs ks hR hq h, fine_139 q R p n bs ks ho h hl⟩
  · exact ⟨_, runs_140 q R p n bs ks hR hq h, fine_140 q R p n bs ks ho h hl⟩
  · exact ⟨_, runs_141 q R p n bs ks hR hq h, fine_141 q R p n bs ks ho h hl⟩
  · exact ⟨_, runs_142 q R p n bs ks hR hq h, fine_142 q R p n bs ks ho h hl⟩
  · exact ⟨_, runs_143 q R p n bs ks hR hq h, fine_143 q R p n bs ks ho h hl⟩
  · exact ⟨_, runs_144 q R p n bs ks hR hq h, fine_144 q R p n bs ks ho h hl⟩
  · exact ⟨_, runs_145 q R p n bs ks hR hq h, fine_145 q R p n bs ks ho h hl⟩
  · exact ⟨_, runs_146 q R p n bs ks hR hq h, fine_146 q R p n bs ks ho h hl⟩
  · exact ⟨_, runs_147 q R p n bs ks hR hq h, fine_147 q R p n bs ks ho h hl⟩
  · exact ⟨_, runs_148 q R p n bs ks hR hq h, fine_148 q R p n bs ks ho h hl⟩
  · exact ⟨_, runs_149 q R p n bs ks hR hq h, fine_149 q R p n bs ks ho h hl⟩
  · exact ⟨_, runs_150 q R p n bs ks hR hq h, fine_150 q R p n bs ks ho h hl⟩
  · exact ⟨_, runs_151 q R p n bs ks hR hq h, fine_151 q R p n bs ks ho h hl⟩
  · exact ⟨_, runs_152 q R p n bs ks hR hq h, fine_152 q R p n bs ks ho h hl⟩
  · exact ⟨_, runs_209 q R p n bs ks hR hq h, fine_209 q R p n bs ks ho h hl⟩
  · exact ⟨_, runs_210 q R p n bs ks hR hq h, fine_210 q R p n bs ks ho h hl⟩
  · exact ⟨_, runs_211 q R p n bs ks hR hq h, fine_211 q R p n bs ks ho h hl⟩
  · exact ⟨_, runs_212 q R p n bs ks hR hq h, fine_212 q R p n bs ks ho h hl⟩
  · exact ⟨_, runs_213 q R p n bs ks hR hq h, fine_213 q R p n bs ks ho h hl⟩
  · exact ⟨_, runs_214 q R p n bs ks hR hq h, fine_214 q R p n bs ks ho h hl⟩
  · exact ⟨_, runs_215 q R p n bs ks hR hq h, fine_215 q R p n bs ks ho h hl⟩
  · exact ⟨_, runs_220 q R p n bs ks hR hq h, fine_220 q R p n bs ks ho h hl⟩
  · exact ⟨_, runs_221 q R p n bs ks hR hq h, fine_221 q R p n bs ks ho h hl⟩

end M
end Go.Proofs.YtfopjnfphlkcgaaGreat

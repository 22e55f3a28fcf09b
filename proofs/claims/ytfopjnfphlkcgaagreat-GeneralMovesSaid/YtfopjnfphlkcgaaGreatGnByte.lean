/- The program: the byte at an address; instructions on one byte of storage. -/
import Derived.Test.YtfopjnfphlkcgaaGreatRows
import Derived.Test.YtfopjnfphlkcgaaGreatGnPerf
namespace Go.Proofs.YtfopjnfphlkcgaaGreat
open Go.RowKit Go.Shelf E
set_option linter.unusedVariables false
namespace M

theorem sub_one (bs : List UInt8) (a : Nat) : gt (subL bs a 1) 0 = gt bs a := gt_subL 0 (by decide)
set_option maxRecDepth 100000 in
set_option maxHeartbeats 1000000 in
theorem fbyte_any (E A : Nat) (q : Qn) (R : Nat → Int) (p : Psw) (c : Int) (g h n m : Nat) (bs ks : List UInt8) (a : Nat) (w : World) (hx : Ex w E A q R p c) (hs : Sto w A g h n m bs ks) (ha : a < 33554432) : Calls Tryz.prog 154 #[.pointer (some ⟨E, 0, none⟩), .int .i64 (a : Int)] w (OrStop w (.int .u8 ((gt bs a).toNat : Int)) (codeV (ftP p.k) n ks (a : Int) ((1 : Nat) : Int))) := by
  by_cases hc : codeV (ftP p.k) n ks (a : Int) ((1 : Nat) : Int) = 0
  · have HF := Lib.hid (fetch_ok E A q R p c g h n m bs ks a 1 w hx hs ha hc)
    have HL := Lib.hid (code_len hs.nums.1 hc)
    have HB : Hid (∀ X sv, Hold X w.heap.size sv (subL bs a 1) → ∃ B cap, sv = .slice (some ⟨B, 0, none⟩) 1 cap ∧ X.cell? ⟨B, 0, none⟩ = some (.int .u8 ((gt bs a).toNat : Int))) := Lib.hid (fun X sv hh => by
      obtain ⟨B, cap, rfl, _, _, _, hr, _⟩ := hold_some hh (by rw [HL.out]; decide)
      have h2 := hr.cell 0 (by rw [bsU_len, HL.out]; decide)
      rw [bsU_get _ _ (by rw [HL.out]; decide), sub_one] at h2
      exact ⟨B, cap, by rw [HL.out], h2⟩)
    rw [hc]
    clear hx hs hc ha
    go_enter Tryz.func154, Tryz.ntmps154
    go_wp2_with fail
    refine HF.out.mono ?_
    rintro e w1 ⟨sv, rfl, hh, hb⟩
    obtain ⟨B, cap, rfl, hcell⟩ := HB.out w1 sv hh
    have HBB := Lib.hid hb
    clear hh hb HF HB HL
    go_wp2
    go_ret
    exact ⟨HBB.out, .inl ⟨rfl, rfl⟩⟩
  · have HF := Lib.hid (fetch_no E A q R p c g h n m bs ks a 1 _ hc w hx hs ha rfl)
    have HN := Lib.hid hc
    generalize codeV (ftP p.k) n ks (a : Int) ((1 : Nat) : Int) = C at HF HN ⊢
    clear hx hs hc ha
    go_enter Tryz.func154, Tryz.ntmps154
    go_wp2_with fail
    refine HF.out.mono ?_
    rintro e w1 ⟨rfl, hb⟩
    have HBB := Lib.hid hb
    clear hb HF
    unfold Stop
    go_wp2
    exact ⟨rfl, HBB.out, .inr ⟨HN.out, rfl⟩⟩
/-- What is left where bytes are stored: it stops, or they are. -/
def StoPost (w : World) (E A g h n m : Nat) (q : Qn) (R : Nat → Int) (p : Psw) (c C : Int) (bs bs' ks : List UInt8) (e : Ending) (w' : World) : Prop :=
  ((C = 0 ∧ e = .returned (.tuple #[]) ∧ Sto w' A g h n m bs' ks ∧ Ex w' E A q R p c) ∨ (C ≠ 0 ∧ e = Stop C ∧ Sto w' A g h n m bs ks)) ∧ Kp w w' [E, g]
theorem act_of_sto {w : World} {E A g h n m : Nat} {q : Qn} {R : Nat → Int} {p : Psw} {c C : Int} {bs bs' ks : List UInt8} {e : Ending} {w' : World} (hp : StoPost w E A g h n m q R p c C bs bs' ks e w') : ActPost w E A g h n m q bs ks (regO C R p c bs') e w' := by
  obtain ⟨⟨hC, rfl, hs, hx⟩ | ⟨hC, rfl, hs⟩, hk⟩ := hp
  · unfold regO
    rw [if_pos hC]
    exact ⟨rfl, hx, hs, hk⟩
  · unfold regO
    rw [if_neg hC]
    exact ⟨rfl, hs, hk⟩
theorem putB_no {P : UInt8 → Bool} {n : Nat} {bs ks : List UInt8} {x : Int} {b : List UInt8} (h : codeV P n ks x (b.length : Int) ≠ 0) : putB P n bs ks x b = bs := if_neg h
theorem svb_one (X : World) (v : UInt8) : SvB (X.alloc (.cells #[.int .u8 (v.toNat : Int)] 5)) (.slice (some ⟨X.heap.size, 0, none⟩) 1 1) [v] := svb_new X [v] (by simp)
theorem sto_set {w : World} {E A g h n m : Nat} {bs ks : List UInt8} {i : Nat} {v : Value} {q : Qn} {R : Nat → Int} {p : Psw} {c : Int} (hs : Sto w A g h n m bs ks) (hx : Ex (w.setCell ⟨E, i, none⟩ v) E A q R p c) : Sto (w.setCell ⟨E, i, none⟩ v) A g h n m bs ks := by
  have hE : ∀ {B : Nat} {t : TypeId} {cs : Array Value}, w.heap[B]? = some (.cells cs t (0, 0)) → t ≠ 77 → E ≠ B := by
    intro B t cs hB ht e
    subst e
    have h1 := heap_setCell_same w E i cs t v hB
    have h2 : (w.setCell ⟨E, i, none⟩ v).heap[E]? = _ := hx
    rw [h1] at h2
    injection h2 with h3
    injection h3 with _ h4
    exact ht h4
  obtain ⟨cur, a1, a2⟩ := hs.2.1
  obtain ⟨cur2, b1, b2⟩ := hs.2.2.1
  exact Sto.far hs (hE hs.1 (by decide)) (hE a1 (by decide)) (hE b1 (by decide)) v
set_option maxRecDepth 100000 in
set_option maxHeartbeats 1000000 in
theorem testSet_any (E A : Nat) (q : Qn) (R : Nat → Int) (p : Psw) (c : Int) (g h n m : Nat) (bs ks : List UInt8) (w : World) (hx : Ex w E A q R p c) (hs : Sto w A g h n m bs ks) (hR : RegOk R) (hq : QOk q) : Calls Tryz.prog 70 #[.pointer (some ⟨E, 0, none⟩)] w (StoPost w E A g h n m q R { p with cc := ((gt bs (adF q R)).toNat / 128 : Nat) } c (if codeV (ftP p.k) n ks (adF q R : Int) ((1 : Nat) : Int) = 0 then codeV (stP p.k) n ks (adF q R : Int) ((1 : Nat) : Int) else codeV (ftP p.k) n ks (adF q R : Int) ((1 : Nat) : Int)) bs (putB (stP p.k) n bs ks (adF q R : Int) [255]) ks) := by
  have hlt := adF_lt q R
  have HA := Lib.hid (fir_any E A q R p c w hx hR hq)
  have HF := Lib.hid (fun X (hX : Below w.heap.size w X) => fbyte_any E A q R p c g h n m bs ks (adF q R) X (hx.below hX) (hs.below hX) (by omega))
  have HP := Lib.hid (fun X v (hX : Below w.heap.size w X) (hv : SvB X v [255]) => put_raw E A q R p c g h n m bs ks (adF q R) v [255] _ X (hx.below hX) (hs.below hX) hv (by omega) rfl)
  have HS := Lib.hid (fun X (hX : Below w.heap.size w X) => hs.below hX)
  have hnb := fun h0 => putB_no (P := stP p.k) (n := n) (bs := bs) (ks := ks) (x := (adF q R : Int)) (b := [255]) h0
  have HNB := Lib.hid hnb
  have hv := (gt bs (adF q R)).toNat_lt
  change Hid (∀ X v, Below w.heap.size w X → SvB X v [255] → Calls Tryz.prog 152 #[.pointer (some ⟨E, 0, none⟩), .int .i64 (adF q R : Int), v] X fun e w' => ((codeV (stP p.k) n ks (adF q R : Int) ((1 : Nat) : Int) = 0 ∧ e = .returned (.tuple #[])) ∨ (codeV (stP p.k) n ks (adF q R : Int) ((1 : Nat) : Int) ≠ 0 ∧ e = Stop (codeV (stP p.k) n ks (adF q R : Int) ((1 : Nat) : Int)))) ∧ Ex w' E A q R p c ∧ Sto w' A g h n m (putB (stP p.k) n bs ks (adF q R : Int) [255]) ks ∧ Kp X w' [g]) at HP
  change Hid (codeV (stP p.k) n ks (adF q R : Int) ((1 : Nat) : Int) ≠ 0 → putB (stP p.k) n bs ks (adF q R : Int) [255] = bs) at HNB
  generalize putB (stP p.k) n bs ks (adF q R : Int) [255] = bs' at HP HNB ⊢
  generalize codeV (stP p.k) n ks (adF q R : Int) ((1 : Nat) : Int) = C2 at HP HNB ⊢
  generalize codeV (ftP p.k) n ks (adF q R : Int) ((1 : Nat) : Int) = C1 at HF ⊢
  generalize (gt bs (adF q R)).toNat = v at HF hv ⊢
  generalize adF q R = a at HA HF HP hlt
  generalize hCC : (if C1 = 0 then C2 else C1) = CC
  have HCC := Lib.hid hCC
  have hsh : (v : Int) / 128 = ((v / 128 : Nat) : Int) := by omega
  have hv2 : ((v / 128 : Nat) : Int) < 2 := by omega
  generalize v / 128 = t at hsh hv2 ⊢
  have HN := Lib.hid (fun (X : World) (hX : Ex X E A q R p c) => And.intro hX.pcc (And.intro (hX.fz 35) (hX.setCc (t : Int))))
  clear hx hs hR hq hlt hCC hnb
  go_enter Tryz.func70, Tryz.ntmps70
  go_wp2_with fail
  refine HA.out.mono ?_
  rintro e w1 ⟨rfl, hb⟩
  have HB := Lib.hid hb
  clear hb HA
  go_wp2_with fail
  refine (HF.out _ HB.out).mono ?_
  rintro e w2 ⟨hb, ⟨h0, rfl⟩ | ⟨hn, rfl⟩⟩
  · have HB2 := Lib.hid (bel0 HB.out hb)
    have H0 := Lib.hid h0
    clear hb h0 HB HF
    go_wp2_with fail
    refine (HP.out _ _ (bel0 HB2.out (below_new _ _)) (svb_one w2 255)).mono ?_
    rintro e w3 ⟨hp, hx3, hs3, hk3⟩
    have HK3 := Lib.hid ((Kp.bel (l := [E, g]) (bel0 HB2.out (below_new _ (.cells #[.int .u8 255] 5)))).trans (Kp.more2 hk3))
    have HS3 := Lib.hid hs3
    obtain ⟨n1, n2, n3⟩ := HN.out w3 hx3
    have H3 := Lib.hid n3
    clear hx3 hs3 hk3 n3 HP HN HB2 HS
    rcases hp with ⟨hc, rfl⟩ | ⟨hc, rfl⟩
    · have HC := Lib.hid hc
      clear hc
      go_wp2
      go_end0
      exact ⟨.inl ⟨by rw [← HCC.out, if_pos H0.out]; exact HC.out, rfl, sto_set HS3.out H3.out, H3.out⟩, HK3.out.trans (kp_set _ _ _ _ _ (by simp))⟩
    · have HC := Lib.hid hc
      clear hc
      unfold Stop
      go_wp2
      have e1 : CC = C2 := by rw [← HCC.out, if_pos H0.out]
      exact ⟨rfl, .inr ⟨by rw [e1]; exact HC.out, by rw [e1]; rfl, by rw [← HNB.out HC.out]; exact HS3.out⟩, HK3.out⟩
  · have HB2 := Lib.hid (bel0 HB.out hb)
    have H0 := Lib.hid hn
    clear hb hn HB HF
    unfold Stop
    go_wp2
    have e1 : CC = C1 := by rw [← HCC.out, if_neg H0.out]
    exact ⟨rfl, .inr ⟨by rw [e1]; exact H0.out, by rw [e1]; rfl, HS.out _ HB2.out⟩, Kp.bel HB2.out⟩

end M
end Go.Proofs.YtfopjnfphlkcgaaGreat

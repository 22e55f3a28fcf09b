/- The program: the byte at an address; instructions on one byte of storage. -/
import Derived.Test.YtfopjnfphlkcgaaGreatRows
import Derived.Test.YtfopjnfphlkcgaaGreatGnPerf
namespace Go.Proofs.YtfopjnfphlkcgaaGreat
namespace E
end E
open Go.RowKit Go.Shelf E
set_option linter.unusedVariables false
namespace M

theorem sub_one (bs : List UInt8) (a : Nat) : gt (subL bs a 1) 0 = gt bs a := gt_subL 0 (by decide)
set_option maxRecDepth 100000 in
set_option maxHeartbeats 1000000 in
theorem fbyte_any (E A : Nat) (q : Qn) (R : Nat → Int) (p : Psw) (c : Int) (g h n m : Nat) (bs ks : List UInt8) (a : Nat) (w : World) (hx : Ex w E A q R p c) (hs : Sto w A g h n m bs ks) (ha : a < 33554432) : Calls Tryz.prog 154 #[.pointer (some ⟨E, 0, none⟩), .int .i64 (a : Int)] w (OrStop w (.int .u8 ((gt bs a).toNat : Int)) (codeV (ftP p.k) n ks (a : Int) ((1 : Nat) : Int))) := by
  by_cases hc : codeV (ftP p.k) n ks (a : Int) ((1 : Nat) : Int) = 0
  · have HF := Lib.hid (fetch_ok E A q R p c g h n m bs ks a 1 w hx hs ha hc)
    have HL := Lib.hid (code_len hs.nums.1 hc)
    have HB : Hid (∀ X sv, Hold X w.heap.size sv (subL bs a 1) → ∃ B cap, sv = .slice (some ⟨B, 0, none⟩) 1 cap ∧ X.cell? ⟨B, 0, none⟩ = some (.int .u8 ((gt bs a).toNat : Int))) := Lib.hid (fun X sv hh => by
      obtain ⟨B, cap, rfl, _, _, _, hr, _⟩ := hold_some hh (by rw [HL.out]; decide)
      have h2 := hr.cell 0 (by rw [bsU_len, HL.out]; decide)
      rw [bsU_get _ _ (by rw [HL.out]; decide), sub_one] at h2
      exact ⟨B, cap, by rw [HL.out], h2⟩)
    rw [hc]
    clear hx hs hc ha
    go_enter Tryz.func154, Tryz.ntmps154
    go_wp2_with fail
    refine HF.out.mono ?_
    rintro e w1 ⟨sv, rfl, hh, hb⟩
    obtain ⟨B, cap, rfl, hcell⟩ := HB.out w1 sv hh
    have HBB := Lib.hid hb
    clear hh hb HF HB HL
    go_wp2
    go_ret
    exact ⟨HBB.out, .inl ⟨rfl, rfl⟩⟩
  · have HF := Lib.hid (fetch_no E A q R p c g h n m bs ks a 1 _ hc w hx hs ha rfl)
    have HN := Lib.hid hc
    generalize codeV (ftP p.k) n ks (a : Int) ((1 : Nat) : Int) = C at HF HN ⊢
    clear hx hs hc ha
    go_enter Tryz.func154, Tryz.ntmps154
    go_wp2_with fail
    refine HF.out.mono ?_
    rintro e w1 ⟨rfl, hb⟩
    have HBB := Lib.hid hb
    clear hb HF
    unfold Stop
    go_wp2
    exact ⟨rfl, HBB.out, .inr ⟨HN.out, rfl⟩⟩
/-- What is left where bytes are stored: it stops, or they are. -/
def StoPost (w : World) (E A g h n m : Nat) (q : Qn) (R : Nat → Int) (p : Psw) (c C : Int) (bs bs' ks : List UInt8) (e : Ending) (w' : World) : Prop :=
  ((C = 0 ∧ e = .returned (.tuple #[]) ∧ Sto w' A g h n m bs' ks ∧ Ex w' E A q R p c) ∨ (C ≠ 0 ∧ e = Stop C ∧ Sto w' A g h n m bs ks)) ∧ Kp w w' [E, g]
theorem act_of_sto {w : World} {E A g h n m : Nat} {q : Qn} {R : Nat → Int} {p : Psw} {c C : Int} {bs bs' ks : List UInt8} {e : Ending} {w' : World} (hp : StoPost w E A g h n m q R p c C bs bs' ks e w') : ActPost w E A g h n m q bs ks (regO C R p c bs') e w' := by
  obtain ⟨⟨hC, rfl, hs, hx⟩ | ⟨hC, rfl, hs⟩, hk⟩ := hp
  · unfold regO
    rw [if_pos hC]
    exact ⟨rfl, hx, hs, hk⟩
  · unfold regO
    rw [if_neg hC]
    exact ⟨rfl, hs, hk⟩
theorem putB_no {P : UInt8 → Bool} {n : Nat} {bs ks : List UInt8} {x : Int} {b : List UInt8} (h : codeV P n ks x (b.length : Int) ≠ 0) : putB P n bs ks x b = bs := if_neg h
theorem sto_set {w : World} {E A g h n m : Nat} {bs ks : List UInt8} {i : Nat} {v : Value} {q : Qn} {R : Nat → Int} {p : Psw} {c : Int} (hs : Sto w A g h n m bs ks) (hx : Ex (w.setCell ⟨E, i, none⟩ v) E A q R p c) : Sto (w.setCell ⟨E, i, none⟩ v) A g h n m bs ks := by
  have hE : ∀ {B : Nat} {t : TypeId} {cs : Array Value}, w.heap[B]? = some (.cells cs t (0, 0)) → t ≠ 77 → E ≠ B := by
    intro B t cs hB ht e
    subst e
    have h1 := heap_setCell_same w E i cs t v hB
    have h2 : (w.setCell ⟨E, i, none⟩ v).heap[E]? = _ := hx
    rw [h1] at h2
    injection h2 with h3
    injection h3 with _ h4
    exact ht h4
  obtain ⟨cur, a1, a2⟩ := hs.2.1
  obtain ⟨cur2, b1, b2⟩ := hs.2.2.1
  exact Sto.far hs (hE hs.1 (by decide)) (hE a1 (by decide)) (hE b1 (by decide)) v
end M
end Go.Proofs.YtfopjnfphlkcgaaGreat

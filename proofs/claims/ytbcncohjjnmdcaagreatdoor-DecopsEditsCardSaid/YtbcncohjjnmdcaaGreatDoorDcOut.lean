/- The contracts of outcome, Add, Sub, Zap and Compare. -/
import Derived.Test.YtbcncohjjnmdcaaGreatDoorRows
import Derived.Test.YtbcncohjjnmdcaaGreatDoorDcField
namespace Go.Proofs.YtbcncohjjnmdcaaGreatDoor
open Go.RowKit Go.Shelf
set_option linter.unusedVariables false
namespace E

theorem SvB.blk {W : World} {base g n : Nat} {l : List UInt8} (h : Blk W base g l) (hl : l.length = n) (hn : n ≤ 1000) : SvB W (.slice (some ⟨g, 0, none⟩) n n) l := ⟨_, n, by rw [hl], h.rd, by omega, by omega, fun h => by cases h⟩
/-- What is answered: a field, a condition code, a code. -/
def R3Post (w : World) (r : List UInt8 × Nat × Nat) (e : Ending) (w' : World) : Prop := ∃ sv, e = .returned (.tuple #[sv, .int .i64 (r.2.1 : Int), .int .i64 (r.2.2 : Int)]) ∧ SvB w' sv r.1 ∧ Below w.heap.size w w'
/-- The result of a number in n bytes. -/
def resS (neg : Bool) (v n : Nat) : List UInt8 × Nat × Nat := (fldL (if v = 0 then false else neg) v n, if ovB v n then 3 else condN (if v = 0 then false else neg) v, if ovB v n then 10 else 0)
theorem zero_pow (m z : Nat) : m * 10 ^ z = 0 ↔ m = 0 := by
  constructor
  · intro h
    rcases Nat.mul_eq_zero.1 h with h | h
    · exact h
    · exact absurd h (Nat.pos_iff_ne_zero.1 (Nat.pow_pos (by omega)))
  · intro h
    rw [h, Nat.zero_mul]
theorem cond_pow (neg : Bool) (m z : Nat) : condN neg (m * 10 ^ z) = condN neg m := by
  unfold condN
  simp only [zero_pow]
set_option maxRecDepth 100000 in
set_option maxHeartbeats 2000000 in
theorem outcome_pre (neg ng : Bool) (m z n c d : Nat) (w : World) (hng : ng = if m = 0 then false else neg) (hp : Pw m c d) (hm : m < 100000000000000000000000000000000) (hz : z ≤ 100) (h1 : 1 ≤ n) (h2 : n ≤ 16) (r : List UInt8 × Nat × Nat)
    (hr : r = (fldL ng (m * 10 ^ z) n, if ovB (m * 10 ^ z) n then 3 else condN ng m, if ovB (m * 10 ^ z) n then 10 else 0)) :
    Calls Tryz.prog 162 #[.agg #[.bool neg, .int .u64 (c : Int), .int .u64 (d : Int)], .int .i64 (z : Int), .int .i64 (n : Int)] w (R3Post w r) := by
  have HFD := Lib.hid (fun W => field_any ng m z n c d W hp hm hz h1 h2)
  have HCN := Lib.hid (fun W => cond_any ng m c d W hp)
  have hlen := fldL_len ng (m * 10 ^ z) n
  have HL := Lib.hid hlen
  have HRR := Lib.hid hr
  have hdec : Hid (Bx (w.alloc (.cells #[.bool ng, .int .u64 (c : Int), .int .u64 (d : Int)] 167)) w.heap.size 167 #[.bool ng, .int .u64 (c : Int), .int .u64 (d : Int)]) := Lib.hid (Bx.new w _ _)
  have HB0 := Lib.hid (below_new w (.cells #[.bool ng, .int .u64 (c : Int), .int .u64 (d : Int)] 167))
  unfold FdPost at HFD
  generalize fldL ng (m * 10 ^ z) n = F at *
  generalize ovB (m * 10 ^ z) n = o at *
  generalize condN ng m = cc at *
  clear hlen hr
  by_cases h0 : m = 0
  · obtain ⟨q1, q2⟩ := hp
    obtain rfl : c = 0 := by omega
    obtain rfl : d = 0 := by omega
    rw [if_pos h0] at hng
    subst hng
    clear h0 q1 q2 hm hz
    go_enter Tryz.func162, Tryz.ntmps162
    go_wp2_with fail
    refine (HFD.out _).mono ?_
    rintro e w1 ⟨g, rfl, hk, hb⟩
    have HB1 := Lib.hid (bel0 HB0.out hb)
    have HN1 := Lib.hid (hdec.out.below hb)
    have HK := Lib.hid (SvB.blk hk HL.out (by omega))
    clear hk hb
    obtain ⟨⟨n1, n2, n3⟩, _⟩ := HN1.out.three
    cases o
    · go_wp2_with fail
      refine (HCN.out _).mono ?_
      rintro e w2 ⟨rfl, hb⟩
      have HB2 := Lib.hid (bel0 HB1.out hb)
      have HK2 := Lib.hid (HK.out.below hb)
      clear hb
      go_wp2
      go_ret3
      exact ⟨_, by rw [HRR.out]; rfl, by rw [HRR.out]; exact HK2.out, HB2.out⟩
    · go_wp2
      go_ret3
      exact ⟨_, by rw [HRR.out]; rfl, by rw [HRR.out]; exact HK.out, HB1.out⟩
  · rw [if_neg h0] at hng
    subst hng
    have hcd : ¬ (c = 0 ∧ d = 0) := fun ⟨e1, e2⟩ => h0 (by rw [hp.1, e1, e2])
    clear h0 hm hz
    by_cases hc0 : c = 0
    · subst hc0
      have hd0 : d ≠ 0 := fun e => hcd ⟨rfl, e⟩
      have hdz : ((d : Int) == 0) = false := by simpa using hd0
      have h00 : (((0 : Nat)) : Int) = 0 := rfl
      rw [h00] at HFD HCN hdec HB0 ⊢
      clear h00 hcd hd0 hp
      go_enter Tryz.func162, Tryz.ntmps162
      go_wp2_with fail
      refine (HFD.out _).mono ?_
      rintro e w1 ⟨g, rfl, hk, hb⟩
      have HB1 := Lib.hid (bel0 HB0.out hb)
      have HN1 := Lib.hid (hdec.out.below hb)
      have HK := Lib.hid (SvB.blk hk HL.out (by omega))
      clear hk hb
      obtain ⟨⟨n1, n2, n3⟩, _⟩ := HN1.out.three
      cases o
      · go_wp2_with fail
        refine (HCN.out _).mono ?_
        rintro e w2 ⟨rfl, hb⟩
        have HB2 := Lib.hid (bel0 HB1.out hb)
        have HK2 := Lib.hid (HK.out.below hb)
        clear hb
        go_wp2
        go_ret3
        exact ⟨_, by rw [HRR.out]; rfl, by rw [HRR.out]; exact HK2.out, HB2.out⟩
      · go_wp2
        go_ret3
        exact ⟨_, by rw [HRR.out]; rfl, by rw [HRR.out]; exact HK.out, HB1.out⟩
    · have hcz : ((c : Int) == 0) = false := by simpa using hc0
      clear hc0 hcd hp
      go_enter Tryz.func162, Tryz.ntmps162
      go_wp2_with fail
      refine (HFD.out _).mono ?_
      rintro e w1 ⟨g, rfl, hk, hb⟩
      have HB1 := Lib.hid (bel0 HB0.out hb)
      have HN1 := Lib.hid (hdec.out.below hb)
      have HK := Lib.hid (SvB.blk hk HL.out (by omega))
      clear hk hb
      obtain ⟨⟨n1, n2, n3⟩, _⟩ := HN1.out.three
      cases o
      · go_wp2_with fail
        refine (HCN.out _).mono ?_
        rintro e w2 ⟨rfl, hb⟩
        have HB2 := Lib.hid (bel0 HB1.out hb)
        have HK2 := Lib.hid (HK.out.below hb)
        clear hb
        go_wp2
        go_ret3
        exact ⟨_, by rw [HRR.out]; rfl, by rw [HRR.out]; exact HK2.out, HB2.out⟩
      · go_wp2
        go_ret3
        exact ⟨_, by rw [HRR.out]; rfl, by rw [HRR.out]; exact HK.out, HB1.out⟩
theorem outcome_any (neg : Bool) (m z n c d : Nat) (w : World) (hp : Pw m c d) (hm : m < 100000000000000000000000000000000) (hz : z ≤ 100) (h1 : 1 ≤ n) (h2 : n ≤ 16) :
    Calls Tryz.prog 162 #[.agg #[.bool neg, .int .u64 (c : Int), .int .u64 (d : Int)], .int .i64 (z : Int), .int .i64 (n : Int)] w (R3Post w (resS neg (m * 10 ^ z) n)) := by
  refine outcome_pre neg (if m = 0 then false else neg) m z n c d w rfl hp hm hz h1 h2 _ ?_
  unfold resS
  rw [cond_pow]
  simp only [zero_pow]

end E
end Go.Proofs.YtbcncohjjnmdcaaGreatDoor

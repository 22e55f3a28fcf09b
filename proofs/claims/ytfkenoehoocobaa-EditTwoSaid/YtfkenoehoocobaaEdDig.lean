/- The statements' numbers: digits, tail and zeros. -/
import Derived.Test.YtfkenoehoocobaaEdWorks
import Derived.Test.YtfkenoehoocobaaEdLaid
import Derived.Test.YtfkenoehoocobaaEdNum2
namespace Go.Proofs.Ytfkenoehoocobaa
open Go.RowKit
set_option linter.unusedVariables false
namespace E

theorem info3 : (Try.prog.info? 3).map (fun i => (i.zero, i.size, i.bytes)) = some (some (.int .i64 0), 1, 8) := by kernel_rfl
def bsN (d : List Nat) : List Value := d.map fun a : Nat => .int .i64 (a : Int)
theorem bsN_len (d : List Nat) : (bsN d).length = d.length := by simp [bsN]
theorem bsN_snoc (d : List Nat) (a : Nat) : bsN (d ++ [a]) = bsN d ++ [.int .i64 (a : Int)] := by simp [bsN]
theorem bsN_get (d : List Nat) (j : Nat) (hj : j < d.length) : (bsN d)[j]? = some (.int .i64 ((d.getD j 0 : Nat) : Int)) := by
  simp [bsN, List.getElem?_eq_getElem hj]
/-- A slice of digits of the call's own. -/
def OwnI (w : World) (b : Nat) (sv : Value) (d : List Nat) : Prop := w.ownsRow b 3 1 sv d.length (bsN d)
theorem own_base {w : World} {b1 b2 size n : Nat} {t : TypeId} {sv : Value} {xs : List Value} (h : w.ownsRow b1 t size sv n xs) (hb : b2 ≤ b1) : w.ownsRow b2 t size sv n xs := by
  obtain ⟨h0, h1 | ⟨g, cap, cur, hv, hg, hr⟩⟩ := h
  · exact ⟨h0, .inl h1⟩
  · exact ⟨h0, .inr ⟨g, cap, cur, hv, Nat.le_trans hb hg, hr⟩⟩
theorem OwnI.kept {w w' : World} {b : Nat} {sv : Value} {d : List Nat} (h : OwnI w b sv d) (hb : Below w.heap.size w w') : OwnI w' b sv d := own_kept h hb
theorem OwnI.slice {w : World} {b : Nat} {sv : Value} {d : List Nat} (h : OwnI w b sv d) : ∃ p c, sv = .slice p d.length c := by
  obtain ⟨_, ⟨h1, h0⟩ | ⟨g, c, cur, rfl, hrest⟩⟩ := h
  · exact ⟨none, 0, by rw [h1, h0]⟩
  · exact ⟨_, _, rfl⟩
theorem own_slice {w : World} {b n size : Nat} {t : TypeId} {sv : Value} {xs : List Value} (h : w.ownsRow b t size sv n xs) : ∃ p c, sv = .slice p n c := by
  obtain ⟨_, ⟨h1, h0⟩ | ⟨g, c, cur, rfl, hrest⟩⟩ := h
  · exact ⟨none, 0, by rw [h1, h0]⟩
  · exact ⟨_, _, rfl⟩
/-- The digits in memory. -/
theorem OwnI.at' {w : World} {b : Nat} {p : Option Addr} {n c : Nat} {d : List Nat} (h : OwnI w b (.slice p n c) d) (k : Nat) (hk : k < d.length) : ∃ g, p = some ⟨g, 0, none⟩ ∧ w.cell? ⟨g, k, none⟩ = some (.int .i64 ((d.getD k 0 : Nat) : Int)) := by
  have h' := h
  obtain ⟨_, ⟨_, h0⟩ | ⟨g, c', cur, hv, hrest⟩⟩ := h
  · omega
  · obtain ⟨rfl, _, rfl⟩ := Value.slice.inj hv
    have hadd : (⟨g, 0, none⟩ : Addr).add k = ⟨g, k, none⟩ := by unfold Addr.add; split <;> simp_all
    refine ⟨g, rfl, ?_⟩
    rw [← hadd]
    exact World.ownsRow.cells h' rfl _ _ (bsN_get d k hk)
/-- What is answered: digits of the call's own. -/
def IPost (w : World) (d : List Nat) (e : Ending) (w' : World) : Prop := ∃ sv, e = .returned sv ∧ OwnI w' w.heap.size sv d ∧ Below w.heap.size w w'
/-- What is answered: bytes of the call's own. -/
def HPost (w : World) (l : List UInt8) (e : Ending) (w' : World) : Prop := ∃ sv, e = .returned sv ∧ Hold w' w.heap.size sv l ∧ Below w.heap.size w w'
theorem dgM_len' (l : List UInt8) : (dgM l).length = min 99 l.length := by unfold dgM; simp
theorem dgM_at (l : List UInt8) (t : Nat) (h : t < l.length) (h9 : t < 99) : (dgM l).take (t + 1) = (dgM l).take t ++ [(gt l t).toNat % 10] := by
  have hl : t < (dgM l).length := by rw [dgM_len']; omega
  have e : (dgM l)[t]'hl = (gt l t).toNat % 10 := by simp only [dgM, List.getElem_map, List.getElem_take, gt_lt h]
  rw [List.take_succ_eq_append_getElem hl, e]
set_option maxRecDepth 100000 in
set_option maxHeartbeats 1000000 in
theorem digits_any (v : Value) (l m : List UInt8) (neg : Bool) (w : World) (h : NumV w v l neg m) :
    Calls Try.prog 22 #[v] w (IPost w (dgN l)) := by
  obtain ⟨d, tv, rfl, hd, ht⟩ := h
  obtain ⟨i0, hi0, hz0, hz1, hz2⟩ := info_parts info3
  obtain ⟨p, c, rfl, hr, hlc, hcm, _⟩ := hd
  obtain ⟨q, cq, rfl, _⟩ := ht
  obtain ⟨n, hn⟩ : ∃ n, n = l.length := ⟨_, rfl⟩
  have HN := Lib.hid hn
  have hcl : ∀ j, j < n → ∃ B off, p = some ⟨B, off, none⟩ ∧ B < w.heap.size ∧ w.cell? ⟨B, off + j, none⟩ = some (.int .u8 ((gt l j).toNat : Int)) := fun j hj => by
    rw [hn] at hj
    rcases hr with h0 | ⟨B, off, rfl, hc⟩
    · subst h0; simp at hj
    · exact ⟨_, _, rfl, World.block_lt_of_cell? w _ (hc j hj), hc j hj⟩
  have HC := Lib.hid hcl
  rw [← hn] at hlc ⊢
  have hnm : n ≤ 9223372036854775807 := by omega
  have hB := Bx.new w 37 #[.slice p n c, .bool neg, .slice q m.length cq]
  have HB := Lib.hid hB
  have HBW := Lib.hid (below_new w (.cells #[.slice p n c, .bool neg, .slice q m.length cq] 37))
  have HSZ : Hid ((w.alloc (.cells #[.slice p n c, .bool neg, .slice q m.length cq] 37)).heap.size = w.heap.size + 1) := Lib.hid (World.size_alloc _ _)
  clear hr hcl hn hB hlc hcm
  go_enter Try.func22, Try.ntmps22
  go_wp2
  go_loopw [3, 4] (fun sv i wr => Below (w.heap.size + 1) (w.alloc (.cells #[.slice p n c, .bool neg, .slice q m.length cq] 37)) wr ∧ ∃ t : Nat, t ≤ n ∧ t ≤ 99 ∧ i = .int .i64 t ∧ wr.ownsRow (w.heap.size + 1) 3 1 sv t (bsN ((dgM l).take t))) (fun _ i _ => 99 - (intOf i).toNat)
  case atStart => exact ⟨Below.refl _ _, 0, Nat.zero_le _, Nat.zero_le _, rfl, World.ownsRow_nil _ _ _ _⟩
  case round =>
    obtain ⟨hbw, t, ht, ht9, rfl, hown⟩ := hrel
    obtain ⟨p3, c3, rfl⟩ := own_slice hown
    have HBR := Lib.hid hbw
    have HO := Lib.hid hown
    have hBr := HB.out.bel hbw (Nat.lt_succ_self _)
    have c0 := hBr.cell 0
    have HSR : Hid (w.heap.size + 1 ≤ wr.heap.size) := Lib.hid (by have := hbw.size; rw [HSZ.out] at this; exact this)
    clear hbw hown hBr
    by_cases hlt : t < n
    · by_cases hl9 : t < 99
      · obtain ⟨B, off, rfl, hBl, hc⟩ := HC.out t hlt
        have hcw : wr.cell? ⟨B, off + t, none⟩ = some (.int .u8 ((gt l t).toNat : Int)) := (HBR.out.cell (p := ⟨B, off + t, none⟩) (by show B < w.heap.size + 1; omega)).trans ((HBW.out.cell (p := ⟨B, off + t, none⟩) hBl).trans hc)
        have htk := dgM_at l t (by rw [← HN.out]; exact hlt) hl9
        have HT := Lib.hid htk
        clear htk hc HC hBl
        generalize gt l t = x at *
        obtain ⟨a, ha⟩ : ∃ a, a = x.toNat % 10 := ⟨_, rfl⟩
        have e1 : (x.toNat : Int) % 10 = (a : Int) := by omega
        rw [← ha] at HT
        clear ha
        go_wp2_with (at_builtin; refine wpList_append_own _ rfl (.tmp 16) (.tmp 24) 44 rfl (w.heap.size + 1) 3 i0 (.int .i64 0) 1 8 Try.underlying44 hi0 hz0 hz1 hz2 rfl (by decide) _ t _ rfl (HO.out.alloc _) ⟨wr.heap.size, 0, none⟩ 1 1 [_] rfl rfl (cellNew _ _ _) (by intro u hu; simp at hu; subst hu; rfl) (by unfold maxLen; omega) (by omega) (by have := HSR.out; simp; omega) ?_)
        intro v' w1 hown1 hgrow hnil
        have HB1 : Hid (Below (w.heap.size + 1) (w.alloc (.cells #[.slice (some ⟨B, off, none⟩) n c, .bool neg, .slice q m.length cq] 37)) w1) := Lib.hid ((HBR.out.alloc HSR.out _).grown hgrow (by have := HSR.out; simp; omega) (fun r hr => (HO.out.lt r hr).1))
        have HO2 : Hid (w1.ownsRow (w.heap.size + 1) 3 1 v' (t + 1) (bsN ((dgM l).take (t + 1)))) := Lib.hid (by rw [HT.out, bsN_snoc]; exact hown1)
        clear hown1 hgrow hnil
        go_wp2
        go_roundw
        case rel => exact ⟨HB1.out, t + 1, by omega, by omega, by go_num, HO2.out⟩
        case measure => simp [intOf]; omega
      · have h99 : t = 99 := by omega
        have k99 : ¬ ((t : Int) < 99) := by omega
        have hM : (dgM l).length = t := by rw [dgM_len', ← HN.out]; omega
        have hown : wr.ownsRow (w.heap.size + 1) 3 1 (.slice p3 t c3) (dgM l).length (bsN (dgM l)) := by
          have h := HO.out
          have e : (dgM l).take t = dgM l := by rw [← hM, List.take_length]
          rw [e] at h
          rw [hM]
          exact h
        clear h99
        have HO3 := Lib.hid hown
        have HMM := Lib.hid hM
        clear hown hM HC
        by_cases he : t % 2 = 0
        · have e1 : ((t : Int) % 2 == 0) = true := by simp only [beq_iff_eq]; omega
          have e2 : ((t : Int).tmod 2 == 0) = true := by rw [Int.tmod_eq_emod_of_nonneg (by omega)]; exact e1
          have hv : dgN l = dgM l ++ [0] := by unfold dgN; rw [HMM.out, if_pos he]
          have HV := Lib.hid hv
          clear he hv
          go_wp2_with (at_builtin; refine wpList_append_own _ rfl (.tmp 30) (.tmp 31) 44 rfl (w.heap.size + 1) 3 i0 (.int .i64 0) 1 8 Try.underlying44 hi0 hz0 hz1 hz2 rfl (by decide) _ t _ rfl (HO.out.alloc _) ⟨wr.heap.size, 0, none⟩ 1 1 [_] rfl rfl (cellNew _ _ _) (by intro u hu; simp at hu; subst hu; rfl) (by unfold maxLen; omega) (by omega) (by have := HSR.out; simp; omega) ?_)
          intro v' w1 hown1 hgrow hnil
          have HB1 := Lib.hid ((HBR.out.alloc HSR.out _).grown hgrow (by have := HSR.out; simp; omega) (fun r hr => (HO.out.lt r hr).1))
          have HO2 : Hid (OwnI w1 w.heap.size v' (dgN l)) := Lib.hid (by
            unfold OwnI
            rw [HV.out, List.length_append, HMM.out, bsN_snoc]
            refine own_base ?_ (Nat.le_succ _)
            have h := hown1
            rw [show (dgM l).take t = dgM l from by rw [← HMM.out, List.take_length]] at h
            exact h)
          clear hown1 hgrow hnil
          go_wp2
          go_ret
          exact ⟨_, rfl, HO2.out, HBW.out.trans (HB1.out.mono (Nat.le_succ _))⟩
        · have e1 : ((t : Int) % 2 == 0) = false := by simp only [beq_eq_false_iff_ne, ne_eq]; omega
          have e2 : ((t : Int).tmod 2 == 0) = false := by rw [Int.tmod_eq_emod_of_nonneg (by omega)]; exact e1
          have hv : dgN l = dgM l := by unfold dgN; rw [HMM.out, if_neg he]
          have HO2 : Hid (OwnI wr w.heap.size (.slice p3 t c3) (dgN l)) := Lib.hid (by unfold OwnI; rw [hv]; exact own_base HO3.out (Nat.le_succ _))
          clear he hv
          go_wp2
          go_ret
          exact ⟨_, rfl, HO2.out, HBW.out.trans (HBR.out.mono (Nat.le_succ _))⟩
    · obtain rfl : t = n := by omega
      clear hlt
      have hM : (dgM l).length = t := by rw [dgM_len', ← HN.out]; omega
      have hown : wr.ownsRow (w.heap.size + 1) 3 1 (.slice p3 t c3) (dgM l).length (bsN (dgM l)) := by
        have h := HO.out
        have e : (dgM l).take t = dgM l := by rw [← hM, List.take_length]
        rw [e] at h
        rw [hM]
        exact h
      have HO3 := Lib.hid hown
      have HMM := Lib.hid hM
      clear hown hM HC
      by_cases he : t % 2 = 0
      · have e1 : ((t : Int) % 2 == 0) = true := by simp only [beq_iff_eq]; omega
        have e2 : ((t : Int).tmod 2 == 0) = true := by rw [Int.tmod_eq_emod_of_nonneg (by omega)]; exact e1
        have hv : dgN l = dgM l ++ [0] := by unfold dgN; rw [HMM.out, if_pos he]
        have HV := Lib.hid hv
        clear he hv
        go_wp2_with (at_builtin; refine wpList_append_own _ rfl (.tmp 30) (.tmp 31) 44 rfl (w.heap.size + 1) 3 i0 (.int .i64 0) 1 8 Try.underlying44 hi0 hz0 hz1 hz2 rfl (by decide) _ t _ rfl (HO.out.alloc _) ⟨wr.heap.size, 0, none⟩ 1 1 [_] rfl rfl (cellNew _ _ _) (by intro u hu; simp at hu; subst hu; rfl) (by unfold maxLen; omega) (by omega) (by have := HSR.out; simp; omega) ?_)
        intro v' w1 hown1 hgrow hnil
        have HB1 := Lib.hid ((HBR.out.alloc HSR.out _).grown hgrow (by have := HSR.out; simp; omega) (fun r hr => (HO.out.lt r hr).1))
        have HO2 : Hid (OwnI w1 w.heap.size v' (dgN l)) := Lib.hid (by
          unfold OwnI
          rw [HV.out, List.length_append, HMM.out, bsN_snoc]
          refine own_base ?_ (Nat.le_succ _)
          have h := hown1
          rw [show (dgM l).take t = dgM l from by rw [← HMM.out, List.take_length]] at h
          exact h)
        clear hown1 hgrow hnil
        go_wp2
        go_ret
        exact ⟨_, rfl, HO2.out, HBW.out.trans (HB1.out.mono (Nat.le_succ _))⟩
      · have e1 : ((t : Int) % 2 == 0) = false := by simp only [beq_eq_false_iff_ne, ne_eq]; omega
        have e2 : ((t : Int).tmod 2 == 0) = false := by rw [Int.tmod_eq_emod_of_nonneg (by omega)]; exact e1
        have hv : dgN l = dgM l := by unfold dgN; rw [HMM.out, if_neg he]
        have HO2 : Hid (OwnI wr w.heap.size (.slice p3 t c3) (dgN l)) := Lib.hid (by unfold OwnI; rw [hv]; exact own_base HO3.out (Nat.le_succ _))
        clear he hv
        go_wp2
        go_ret
        exact ⟨_, rfl, HO2.out, HBW.out.trans (HBR.out.mono (Nat.le_succ _))⟩

end E
end Go.Proofs.Ytfkenoehoocobaa

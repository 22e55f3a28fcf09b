/- Lent bytes: a copy with spare bytes behind it, and that it is as it was lent. -/
import Derived.Test.YtfkenoehoocobaaEdWorks
namespace Go.Proofs.Ytfkenoehoocobaa
open Go.RowKit
set_option linter.unusedVariables false
namespace E

/-- What is answered: bytes of the call's own. -/
def HdPost (w : World) (l : List UInt8) (e : Ending) (w' : World) : Prop := ∃ sv, e = .returned sv ∧ Hold w' w.heap.size sv l ∧ Below w.heap.size w w'
theorem own_sl {w : World} {b n size : Nat} {t : TypeId} {sv : Value} {xs : List Value} (h : w.ownsRow b t size sv n xs) : ∃ p c, sv = .slice p n c := by
  obtain ⟨_, ⟨h1, h0⟩ | ⟨g, c, cur, rfl, hrest⟩⟩ := h
  · exact ⟨none, 0, by rw [h1, h0]⟩
  · exact ⟨_, _, rfl⟩
theorem ownsEmpty (w : World) : (w.alloc (.cells #[] 5)).ownsRow w.heap.size 5 1 (.slice (some ⟨w.heap.size, 0, none⟩) 0 0) 0 [] :=
  ⟨rfl, .inr ⟨w.heap.size, 0, #[], rfl, Nat.le_refl _, heap_alloc_new w _, Nat.le_refl _, by unfold maxLen; omega, rfl, rfl⟩⟩
theorem Rd.cells {w : World} {B off : Nat} {l : List UInt8} (h : Rd w (some ⟨B, off, none⟩) l) : ∀ j u, (bsU l)[j]? = some u → w.cell? ((⟨B, off, none⟩ : Addr).add j) = some u := fun j u hu => by
  obtain ⟨hj, rfl⟩ := bsU_at hu
  rcases h with h | ⟨B', off', hp, hc⟩
  · rw [h] at hj; simp at hj
  · have e := Option.some.inj hp
    simp only [Addr.mk.injEq] at e
    obtain ⟨rfl, rfl, _⟩ := e
    have hadd : (⟨B, off, none⟩ : Addr).add j = ⟨B, off + j, none⟩ := by
      unfold Addr.add
      split <;> simp_all
    rw [hadd]
    exact hc j hj
theorem Rd.cellsA {w : World} {a : Addr} {l : List UInt8} (h : Rd w (some a) l) : ∀ j u, (bsU l)[j]? = some u → w.cell? (a.add j) = some u := by
  by_cases h0 : l = []
  · subst h0
    intro j u hu
    simp [bsU] at hu
  · rcases h with h | ⟨B, off, hp, hc⟩
    · exact absurd h h0
    · obtain rfl := Option.some.inj hp
      exact Rd.cells (.inr ⟨B, off, rfl, hc⟩)
theorem rd_spot {w : World} {p : Option Addr} {l : List UInt8} (h : Rd w p l) (h1 : l ≠ []) : ∃ B off, p = some ⟨B, off, none⟩ := by
  rcases h with h | ⟨B, off, h, _⟩
  · exact absurd h h1
  · exact ⟨B, off, h⟩
set_option maxRecDepth 100000 in
set_option maxHeartbeats 1000000 in
theorem lent_any (v : Value) (l : List UInt8) (w : World) (hl : l.length ≤ 2000) (h : SvB w v l) :
    Calls Try.prog 11 #[v] w (HdPost w (l ++ List.replicate 8 7)) := by
  obtain ⟨i0, hi0, hz0, hz1, hz2⟩ := info_parts info5
  obtain ⟨p, c, rfl, hr, hlc, hcm, hnil⟩ := h
  have HW0 := Lib.hid (below_new w (.cells #[] 5))
  have HE := Lib.hid (ownsEmpty w)
  have HR := Lib.hid (hr.below HW0.out)
  have HL := Lib.hid hl
  obtain ⟨n, hn⟩ : ∃ n, n = l.length := ⟨_, rfl⟩
  have HN := Lib.hid hn
  have SUB : ∀ (w1 : World) (sv : Value), w1.ownsRow w.heap.size 5 1 sv l.length (bsU l) → Below w.heap.size w w1 → Below w.heap.size w w1 ∧ ∃ t : Nat, t ≤ 8 ∧ (.int .i64 0 : Value) = .int .i64 (t : Int) ∧ w1.ownsRow w.heap.size 5 1 sv (n + t) (bsU (l ++ List.replicate t 7)) := fun w1 sv h1 h2 => ⟨h2, 0, by omega, rfl, by rw [hn]; simpa using h1⟩
  have HSUB := Lib.hid SUB
  have FIN : ∀ (w1 : World) (sv : Value), w1.ownsRow w.heap.size 5 1 sv (n + 8) (bsU (l ++ List.replicate 8 7)) → Hold w1 w.heap.size sv (l ++ List.replicate 8 7) := fun w1 sv h1 => by
    unfold Hold
    rw [List.length_append, List.length_replicate, ← hn]
    exact h1
  have HFIN := Lib.hid FIN
  clear SUB FIN
  cases p with
  | none =>
    have hl0 : l = [] := by
      have := hnil rfl
      exact List.length_eq_zero_iff.1 (by omega)
    subst hl0
    obtain rfl := hnil rfl
    have hn0 : n = 0 := hn
    subst hn0
    have HNL : Hid ((0 : Nat) ≤ 2000) := Lib.hid (Nat.zero_le _)
    clear hr hlc hcm hnil hn hl HR
    go_enter Try.func11, Try.ntmps11
    go_wp2
    go_loopw [3, 4] (fun sv i wr => Below w.heap.size w wr ∧ ∃ t : Nat, t ≤ 8 ∧ i = .int .i64 t ∧ wr.ownsRow w.heap.size 5 1 sv (0 + t) (bsU ([] ++ List.replicate t 7))) (fun _ i _ => 8 - (intOf i).toNat)
    case atStart => exact HSUB.out _ _ HE.out HW0.out
    case round =>
      obtain ⟨hbw, t, ht, rfl, hown⟩ := hrel
      obtain ⟨p3, c3, rfl⟩ := own_sl hown
      have HB := Lib.hid hbw
      have HO := Lib.hid hown
      clear hbw hown
      by_cases hlt : t < 8
      · go_wp2_with (at_builtin; refine wpList_append_own _ rfl (.tmp 12) (.tmp 13) 22 rfl w.heap.size 5 i0 (.int .u8 0) 1 1 Try.underlying22 hi0 hz0 hz1 hz2 rfl (by decide) _ (0 + t) _ rfl (HO.out.alloc _) ⟨wr.heap.size, 0, none⟩ 1 1 [_] rfl rfl (cellNew _ _ _) (by intro u hu; simp at hu; subst hu; rfl) (by unfold maxLen; have := HNL.out; omega) (by have := HNL.out; omega) (by have := HB.out.size; simp; omega) ?_)
        intro v' w1 hown1 hgrow hnil
        have HB1 : Hid (Below w.heap.size w w1) := Lib.hid ((HB.out.alloc HB.out.size _).grown hgrow (by have := HB.out.size; simp; omega) (fun r hr => (HO.out.lt r (by rw [Nat.zero_add]; exact hr)).1))
        have HO2 : Hid (w1.ownsRow w.heap.size 5 1 v' (0 + (t + 1)) (bsU ([] ++ List.replicate (t + 1) 7))) := Lib.hid (by
          rw [List.replicate_succ', ← List.append_assoc, bsU_snoc, Nat.zero_add, List.nil_append]
          exact hown1)
        clear hown1 hgrow hnil
        go_wp2
        go_roundw
        case rel => exact ⟨HB1.out, t + 1, by omega, by go_num, HO2.out⟩
        case measure => simp [intOf]; omega
      · obtain rfl : t = 8 := by omega
        go_wp2
        go_ret
        exact ⟨_, rfl, HFIN.out _ _ HO.out, HB.out⟩
  | some a =>
    have HNL : Hid (n ≤ 2000) := Lib.hid (by rw [hn]; exact hl)
    clear hr hnil
    rw [← hn] at hlc ⊢
    clear hn hl
    go_enter Try.func11, Try.ntmps11
    go_wp2_with (at_builtin; refine wpList_append_own _ rfl (.tmp 5) (.tmp 6) 22 rfl w.heap.size 5 i0 (.int .u8 0) 1 1 Try.underlying22 hi0 hz0 hz1 hz2 rfl (by decide) (.slice (some ⟨w.heap.size, 0, none⟩) 0 0) 0 [] rfl HE.out a n c (bsU l) rfl (by rw [bsU_len, ← HN.out, Nat.mul_one]) HR.out.cellsA (bsU_one _) (by unfold maxLen; have := HNL.out; omega) (by have := HNL.out; omega) (by have := HW0.out.size; exact this) ?_)
    intro v0 w0 hown0 hgrow0 hnil0
    have HB0 : Hid (Below w.heap.size w w0) := Lib.hid (HW0.out.grown hgrow0 HW0.out.size (fun r hr => by simp [Value.ownBlock] at hr; omega))
    have HO0 : Hid (w0.ownsRow w.heap.size 5 1 v0 l.length (bsU l)) := Lib.hid (by
      have h := hown0
      rw [← HN.out]
      exact h)
    clear hown0 hgrow0 hnil0
    go_wp2
    go_loopw [3, 4] (fun sv i wr => Below w.heap.size w wr ∧ ∃ t : Nat, t ≤ 8 ∧ i = .int .i64 t ∧ wr.ownsRow w.heap.size 5 1 sv (n + t) (bsU (l ++ List.replicate t 7))) (fun _ i _ => 8 - (intOf i).toNat)
    case atStart => exact HSUB.out _ _ HO0.out HB0.out
    case round =>
      obtain ⟨hbw, t, ht, rfl, hown⟩ := hrel
      obtain ⟨p3, c3, rfl⟩ := own_sl hown
      have HB := Lib.hid hbw
      have HO := Lib.hid hown
      clear hbw hown
      by_cases hlt : t < 8
      · go_wp2_with (at_builtin; refine wpList_append_own _ rfl (.tmp 12) (.tmp 13) 22 rfl w.heap.size 5 i0 (.int .u8 0) 1 1 Try.underlying22 hi0 hz0 hz1 hz2 rfl (by decide) _ (n + t) _ rfl (HO.out.alloc _) ⟨wr.heap.size, 0, none⟩ 1 1 [_] rfl rfl (cellNew _ _ _) (by intro u hu; simp at hu; subst hu; rfl) (by unfold maxLen; have := HNL.out; omega) (by have := HNL.out; omega) (by have := HB.out.size; simp; omega) ?_)
        intro v' w1 hown1 hgrow hnil
        have HB1 : Hid (Below w.heap.size w w1) := Lib.hid ((HB.out.alloc HB.out.size _).grown hgrow (by have := HB.out.size; simp; omega) (fun r hr => (HO.out.lt r hr).1))
        have HO2 : Hid (w1.ownsRow w.heap.size 5 1 v' (n + (t + 1)) (bsU (l ++ List.replicate (t + 1) 7))) := Lib.hid (by
          rw [List.replicate_succ', ← List.append_assoc, bsU_snoc]
          exact hown1)
        clear hown1 hgrow hnil
        go_wp2
        go_roundw
        case rel => exact ⟨HB1.out, t + 1, by omega, by go_num, HO2.out⟩
        case measure => simp [intOf]; omega
      · obtain rfl : t = 8 := by omega
        go_wp2
        go_ret
        exact ⟨_, rfl, HFIN.out _ _ HO.out, HB.out⟩

theorem gt_app' (l m : List UInt8) (j : Nat) : gt (l ++ m) j = if j < l.length then gt l j else gt m (j - l.length) := by
  unfold gt
  by_cases h : j < l.length
  · rw [if_pos h]
    simp [List.getD_eq_getElem?_getD, List.getElem?_append_left h]
  · rw [if_neg h]
    simp [List.getD_eq_getElem?_getD, List.getElem?_append_right (Nat.le_of_not_lt h)]
theorem gt_seven (l : List UInt8) (j : Nat) (h1 : l.length ≤ j) (h2 : j < l.length + 8) : gt (l ++ List.replicate 8 7) j = 7 := by
  rw [gt_app', if_neg (by omega)]
  unfold gt
  have h : j - l.length < 8 := by omega
  rw [List.getD_eq_getElem?_getD, List.getElem?_replicate, if_pos h]
  rfl
/-- The front of lent bytes. -/
theorem lent_front {w : World} {v : Value} {l r : List UInt8} (h : SvB w v (l ++ r)) : ∃ p c, v = .slice p (l.length + r.length) c ∧ SvB w (.slice p l.length c) l ∧ l.length + r.length ≤ c ∧ c ≤ 9223372036854775807 := by
  obtain ⟨p, c, rfl, hr, h1, h2, h3⟩ := h
  rw [List.length_append] at h1 ⊢
  refine ⟨p, c, rfl, ⟨p, c, rfl, ?_, by omega, h2, h3⟩, h1, h2⟩
  have := hr.take l.length
  rwa [List.take_left] at this
set_option maxRecDepth 100000 in
set_option maxHeartbeats 1000000 in
theorem kept_any (v u : Value) (l : List UInt8) (w : World) (hl : l.length ≤ 2000) (h : SvB w v (l ++ List.replicate 8 7)) (hu : SvB w u l) :
    Calls Try.prog 15 #[v, u] w (New w (.bool true)) := by
  obtain ⟨p, c, rfl, hfr, hc1, hc2⟩ := lent_front h
  obtain ⟨p', c', hv, hr, _⟩ := h
  obtain ⟨rfl, _, rfl⟩ := Value.slice.inj hv
  rw [List.length_replicate] at hc1 ⊢
  obtain ⟨n, hn⟩ : ∃ n, n = l.length := ⟨_, rfl⟩
  have hcl : ∀ t, n ≤ t → t < n + 8 → ∃ B off, p = some ⟨B, off, none⟩ ∧ w.cell? ⟨B, off + t, none⟩ = some (.int .u8 7) := fun t h1 h2 => by
    rcases hr with h | ⟨B, off, e, hc⟩
    · have := congrArg List.length h
      simp at this
    · refine ⟨B, off, e, ?_⟩
      have h3 := hc t (by rw [List.length_append, List.length_replicate]; omega)
      rw [gt_seven l t (by omega) (by omega)] at h3
      exact h3
  have HC := Lib.hid hcl
  have HS := Lib.hid (same_svb hfr hu)
  obtain ⟨q, d, rfl, _⟩ := hu
  rw [← hn] at hl hc1 HS ⊢
  clear hr hcl hn hv hfr
  go_enter Try.func15, Try.ntmps15
  go_wp2
  go_loop [5] (fun i => ∃ t : Nat, n ≤ t ∧ t ≤ n + 8 ∧ i = .int .i64 t) (fun i => n + 8 - (intOf i).toNat)
  case atStart => exact ⟨n, Nat.le_refl _, by omega, rfl⟩
  case round =>
    obtain ⟨t, ht1, ht, rfl⟩ := hrel
    by_cases hlt : t < n + 8
    · obtain ⟨B, off, rfl, hc⟩ := HC.out t ht1 hlt
      go_wp2
      go_round
      case rel => exact ⟨t + 1, by omega, by omega, by go_num⟩
      case measure => simp [intOf]; omega
    · obtain rfl : t = n + 8 := by omega
      go_wp2_with fail
      refine (HS.out).mono ?_
      rintro e w1 ⟨rfl, hb⟩
      have HB := Lib.hid hb
      clear hb
      go_wp2
      go_ret
      exact ⟨rfl, HB.out⟩

end E
end Go.Proofs.Ytfkenoehoocobaa

/- Equal slices are the same, and nothing is made; an append of a slice that may be nil. -/
import Derived.Test.YtfkenoehoocobaaEdWorks
import Derived.BigQuiet
namespace Go.Proofs.Ytfkenoehoocobaa
open Go.RowKit
set_option linter.unusedVariables false
namespace E

theorem same_q (p q : Option Addr) (c d : Nat) (l : List UInt8) (w : World) (hn : l.length ≤ 9223372036854775807) (hp : Rd w p l) (hq : Rd w q l) :
    Calls Try.prog 14 #[.slice p l.length c, .slice q l.length d] w fun e w' => e = .returned (.bool true) ∧ ∃ m, w' = w.drewN m := by
  rcases hp with h0 | ⟨B, off, rfl, hc⟩
  · subst h0
    clear hq
    go_enter Try.func14, Try.ntmps14
    go_wp2
    go_loop [5] (fun i => i = .int .i64 0) (fun _ => 0)
    case atStart => rfl
    case round =>
      subst hrel
      go_wp2
      go_ret
      exact ⟨rfl, 0, rfl⟩
  rcases hq with h0 | ⟨B2, off2, rfl, hd⟩
  · subst h0
    clear hc
    go_enter Try.func14, Try.ntmps14
    go_wp2
    go_loop [5] (fun i => i = .int .i64 0) (fun _ => 0)
    case atStart => rfl
    case round =>
      subst hrel
      go_wp2
      go_ret
      exact ⟨rfl, 0, rfl⟩
  generalize hln : l.length = n at *
  have HL := Lib.hid hln; clear hln
  go_enter Try.func14, Try.ntmps14
  go_wp2
  go_loopw [5] (fun i wr => (∃ m, wr = w.drewN m) ∧ ∃ k : Nat, k ≤ n ∧ i = .int .i64 k) (fun i _ => n - (intOf i).toNat)
  case atStart => exact ⟨⟨0, rfl⟩, 0, Nat.zero_le _, rfl⟩
  case round =>
    obtain ⟨⟨m, rfl⟩, k, hk, rfl⟩ := hrel
    by_cases hlt : k < n
    · have hcell := hc k hlt
      have hcell2 := hd k hlt
      clear hc hd
      go_wp2
      go_quiet (fail)
      go_wp2
      go_roundw
      case rel => exact ⟨⟨_, rfl⟩, k + 1, by omega, by go_num⟩
      case measure => simp [intOf]; omega
    · obtain rfl : k = n := by omega
      clear hc hd
      go_wp2
      go_ret
      exact ⟨rfl, m, rfl⟩
theorem sameq_svb {W : World} {u v : Value} {l : List UInt8} {n : Nat} (h1 : SvB W u l) (h2 : SvB W v l) : Calls Try.prog 14 #[u, v] (W.drewN n) fun e w'' => e = .returned (.bool true) ∧ ∃ m, w'' = W.drewN m := by
  obtain ⟨p, c, rfl, r1, h3, h4, _⟩ := h1
  obtain ⟨q, d, rfl, r2, _⟩ := h2
  refine (same_q p q c d l (W.drewN n) (by omega) (r1.below (belowDraw W n)) (r2.below (belowDraw W n))).mono ?_
  rintro e w' ⟨he, m, rfl⟩
  exact ⟨he, n + m, World.drewN_drewN _ _ _⟩
theorem grown_refl (w : World) (r : Option Nat) : w.grownBy w r := ⟨rfl, rfl, rfl, Nat.le_refl _, fun _ _ _ => rfl⟩
theorem rd_cellsA {w : World} {a : Addr} {l : List UInt8} (h : Rd w (some a) l) : ∀ j u, (bsU l)[j]? = some u → w.cell? (a.add j) = some u := fun j u hu => by
  obtain ⟨hj, rfl⟩ := bsU_at hu
  rcases h with h | ⟨B, off, hp, hc⟩
  · rw [h] at hj; simp at hj
  · obtain rfl := Option.some.inj hp
    have hadd : (⟨B, off, none⟩ : Addr).add j = ⟨B, off + j, none⟩ := by
      unfold Addr.add
      split <;> simp_all
    rw [hadd]
    exact hc j hj
/-- append(s, x...), s of the call's own, x any slice of bytes. -/
theorem wpList_append_sv {ops : Array Oper} {rest : List Oper} {o : Oper} {a : Act} {Q : Exit → Act → World → Prop} {w : World} (hgd : o.guard = none) (s x : Operand)
    (ho : o.op = .call { callee := .builtin .append, args := #[s, x], argTypes := #[22, 22] })
    (base : Nat) (v : Value) (n : Nat) (xs : List Value) (hs : a.eval s = v) (hown : w.ownsRow base 5 1 v n xs)
    (p : Option Addr) (m c : Nat) (l : List UInt8) (hx : a.eval x = .slice p m c) (hm : m = l.length) (hr : Rd w p l) (hc : m ≤ c) (hn : p = none → c = 0) (hl : n + m ≤ 9000) (hbase : base ≤ w.heap.size)
    (h : ∀ v' w', w'.ownsRow base 5 1 v' (n + m) (xs ++ bsU l) → w.grownBy w' v.ownBlock → wpList Try.prog ops Q rest (a.put o.dst v') w') : wpList Try.prog ops Q (o :: rest) a w := by
  obtain ⟨i0, hi0, hz0, hz1, hz2⟩ := info_parts info5
  cases p with
  | none =>
    have hc0 := hn rfl
    have hm0 : m = 0 := by omega
    have hl0 : l = [] := List.length_eq_zero_iff.1 (by omega)
    subst hc0 hm0 hl0
    refine wpList_append_own_none hgd s x 22 ho base 5 i0 1 Try.underlying22 hi0 v n xs hs hown hx (h v w ?_ (grown_refl _ _))
    simpa [bsU] using hown
  | some ad =>
    exact wpList_append_own w hgd s x 22 ho base 5 i0 (.int .u8 0) 1 1 Try.underlying22 hi0 hz0 hz1 hz2 rfl (by decide) v n xs hs hown ad m c (bsU l) hx (by rw [bsU_len, hm, Nat.mul_one]) (rd_cellsA hr) (bsU_one _) (by unfold maxLen; omega) (by omega) hbase (fun v' w' h1 h2 _ => h v' w' h1 h2)
theorem ownsEmpty' (w : World) : (w.alloc (.cells #[] 5)).ownsRow w.heap.size 5 1 (.slice (some ⟨w.heap.size, 0, none⟩) 0 0) 0 [] :=
  ⟨rfl, .inr ⟨w.heap.size, 0, #[], rfl, Nat.le_refl _, heap_alloc_new w _, Nat.le_refl _, by unfold maxLen; omega, rfl, rfl⟩⟩
/-- A prefix of the pattern gives a prefix of the text. -/
theorem res_prefix {pat src t : List UInt8} {cc : Nat} {mk : Int} {k : Nat} (h : edRes pat src = (t, cc, mk, 0)) (hk1 : 1 ≤ k) (hk2 : k ≤ pat.length) : ∃ cc' mk', edRes (pat.take k) src = (t.take k, cc', mk', 0) := by
  have hl : 1 ≤ pat.length ∧ pat.length ≤ 256 := by
    rcases Classical.em (1 ≤ pat.length ∧ pat.length ≤ 256) with h' | h'
    · exact h'
    · unfold edRes at h
      rw [if_neg h'] at h
      simp at h
  have hd : (pat.take k).headD 0 = pat.headD 0 := by
    cases pat with
    | nil => simp at hl
    | cons x r =>
      obtain ⟨k', rfl⟩ : ∃ k', k = k' + 1 := ⟨k - 1, by omega⟩
      rfl
  have h0 : (edRun (pat.headD 0) (edL src) pat 0 edInit).1 = 0 := by
    unfold edRes at h
    rw [if_pos hl] at h
    rcases Classical.em ((edRun (pat.headD 0) (edL src) pat 0 edInit).1 = 0) with h' | h'
    · exact h'
    · rw [if_neg h'] at h
      have := congrArg (fun x => x.2.2.2) h
      exact this
  have ht : (edRun (pat.headD 0) (edL src) pat 0 edInit).2.text = t := by
    unfold edRes at h
    rw [if_pos hl, if_pos h0] at h
    exact congrArg Prod.fst h
  have happ := run_app (pat.headD 0) (edL src) (pat.take k) (pat.drop k) 0 edInit
  rw [List.take_append_drop] at happ
  have hp0 : (edRun (pat.headD 0) (edL src) (pat.take k) 0 edInit).1 = 0 := by
    rcases Classical.em ((edRun (pat.headD 0) (edL src) (pat.take k) 0 edInit).1 = 0) with h' | h'
    · exact h'
    · rw [if_neg h'] at happ
      rw [happ] at h0
      exact h0
  rw [if_pos hp0] at happ
  obtain ⟨t1, l1, e1⟩ := run_text _ _ _ _ _ hp0
  rw [happ] at h0 ht
  obtain ⟨t2, l2, e2⟩ := run_text _ _ _ _ _ h0
  rw [e2] at ht
  have e1' : (edRun (pat.headD 0) (edL src) (pat.take k) 0 edInit).2.text = t1 := e1
  have hlen : (pat.take k).length = k := by rw [List.length_take]; omega
  have htk : t.take k = t1 := by
    rw [← ht, e1', List.take_append_of_le_length (by omega)]
    exact List.take_of_length_le (by omega)
  unfold edRes
  rw [if_pos (by rw [hlen]; omega), hd, if_pos hp0, e1', htk]
  exact ⟨_, _, rfl⟩
/-- More bytes of the source change nothing where the source is long enough. -/
theorem res_more {pat src : List UInt8} (more : List UInt8) (h : (edRes pat src).2.2.2 ≠ 5) : edRes pat (src ++ more) = edRes pat src := by
  obtain ⟨m, hm⟩ := edL_app src more
  unfold edRes at h ⊢
  by_cases hl : 1 ≤ pat.length ∧ pat.length ≤ 256
  · rw [if_pos hl] at h
    rw [if_pos hl, if_pos hl, hm]
    have h5 : (edRun (pat.headD 0) (edL src) pat 0 edInit).1 ≠ 5 := by
      intro h5
      rw [if_neg (by omega)] at h
      exact h h5
    rw [run_more _ _ _ _ _ _ h5]
  · rw [if_neg hl, if_neg hl]

end E
end Go.Proofs.Ytfkenoehoocobaa

/- The walk of the statement PswDecodes: it answers true, and below its own memory nothing turns. -/
import Derived.Test.YtfobmgoehamnnaaPsRDec
import Derived.Test.YtfobmgoehamnnaaPsWorks
namespace Go.Proofs.Ytfobmgoehamnnaa.pswDecodes
open Go.RowKit E
set_option linter.unusedVariables false

theorem own_sl {w : World} {b n size : Nat} {t : TypeId} {sv : Value} {xs : List Value} (h : w.ownsRow b t size sv n xs) : ∃ p c, sv = .slice p n c := by
  obtain ⟨_, ⟨h1, h0⟩ | ⟨g, c, cur, rfl, hrest⟩⟩ := h
  · exact ⟨none, 0, by rw [h1, h0]⟩
  · exact ⟨_, _, rfl⟩
theorem ownsEmpty (w : World) : (w.alloc (.cells #[] 5)).ownsRow w.heap.size 5 1 (.slice (some ⟨w.heap.size, 0, none⟩) 0 0) 0 [] :=
  ⟨rfl, .inr ⟨w.heap.size, 0, #[], rfl, Nat.le_refl _, heap_alloc_new w _, Nat.le_refl _, by unfold maxLen; omega, rfl, rfl⟩⟩
theorem cells_from {w : World} {B off : Nat} {l : List UInt8} (hc : ∀ j, j < l.length → w.cell? ⟨B, off + j, none⟩ = some (.int .u8 ((gt l j).toNat : Int))) : ∀ j u, (bsU l)[j]? = some u → w.cell? ((⟨B, off, none⟩ : Addr).add j) = some u := fun j u hu => by
  obtain ⟨hj, rfl⟩ := bsU_at hu
  have hadd : (⟨B, off, none⟩ : Addr).add j = ⟨B, off + j, none⟩ := by
    unfold Addr.add
    split <;> simp_all
  rw [hadd]
  exact hc j hj
theorem cells_rd {w : World} {a : Addr} {l : List UInt8} (h : Rd w (some a) l) : ∀ j u, (bsU l)[j]? = some u → w.cell? (a.add j) = some u := by
  rcases h with h0 | ⟨B, off, hp, hc⟩
  · subst h0
    intro j u hu
    simp [bsU] at hu
  · obtain rfl := Option.some.inj hp
    exact cells_from hc
set_option maxRecDepth 100000 in
theorem long (p : Option Addr) (k c : Nat) (w : World) (h : 1000 < k) : Calls Try.prog 4 #[.slice p k c] w (New w (.bool true)) := by
  have h1 : (1000 : Int) < (k : Int) := by omega
  clear h
  go_enter Try.func4, Try.ntmps4
  go_wp2
  go_ret
  exact ⟨rfl, Below.refl _ _⟩
/-- What lies behind the copy. -/
def After (w : World) (l : List UInt8) (W : World) (v : Value) : Prop := Below w.heap.size w W ∧ Hold W w.heap.size v l
set_option maxRecDepth 100000 in
set_option maxHeartbeats 2000000 in
theorem short (v : Value) (l : List UInt8) (w : World) (hl : l.length ≤ 1000) (h : SvB w v l) : Calls Try.prog 4 #[v] w (New w (.bool true)) := by
  obtain ⟨i0, hi0, hz0, hz1, hz2⟩ := info_parts info5
  have HS := Lib.hid h
  obtain ⟨p, c, rfl, hr, hlc, hcm, hnil⟩ := h
  have HD := Lib.hid (fun W sv (h : SvB W sv l) => dec_any sv l W h)
  have HRD := Lib.hid (fun W (hb : Below w.heap.size w W) => rdec_any _ l W (HS.out.below hb))
  have HSM := Lib.hid (fun W sv (hb : Below w.heap.size w W) (h : SvB W sv l) => same_svb h (HS.out.below hb))
  have HW0 := Lib.hid (below_new w (.cells #[] 5))
  have HE := Lib.hid (ownsEmpty w)
  have HR := Lib.hid (hr.below HW0.out)
  have h1 : ¬ ((1000 : Int) < (l.length : Int)) := by omega
  obtain ⟨n, hn⟩ : ∃ n, n = l.length := ⟨_, rfl⟩
  have HN := Lib.hid hn
  have HNL : Hid (n ≤ 1000) := Lib.hid (by omega)
  generalize decL l = R at *
  generalize decOk l = o at *
  clear HS hr
  rw [← hn] at HRD HSM h1 hlc ⊢
  clear hl hn
  go_enter Try.func4, Try.ntmps4
  go_upto_region 3 with fail
  go_cut [3] from 11 to 14 (fun v wx => After w l wx v)
  case first =>
    cases p with
    | none =>
      obtain rfl := hnil rfl
      obtain rfl : n = 0 := by omega
      have hl0 : l = [] := List.length_eq_zero_iff.1 HN.out.symm
      have HA : Hid (After w l (w.alloc (.cells #[] 5)) (.slice (some ⟨w.heap.size, 0, none⟩) 0 0)) := Lib.hid (by subst hl0; exact ⟨HW0.out, HE.out⟩)
      clear hl0 hlc hcm hnil
      go_wp2_with fail
      go_meet
      exact HA.out
    | some a =>
      clear hnil
      go_wp2_with (at_builtin; refine wpList_append_own _ rfl (.tmp 11) (.tmp 12) 24 rfl w.heap.size 5 i0 (.int .u8 0) 1 1 Try.underlying24 hi0 hz0 hz1 hz2 rfl (by decide) (.slice (some ⟨w.heap.size, 0, none⟩) 0 0) 0 [] rfl HE.out a n c (bsU l) rfl (by rw [bsU_len, ← HN.out, Nat.mul_one]) (cells_rd HR.out) (bsU_one _) (by unfold maxLen; have := HNL.out; omega) (by have := HNL.out; omega) (by have := HW0.out.size; exact this) ?_)
      intro v0 w0 hown0 hgrow0 hnil0
      have HA : Hid (After w l w0 v0) := Lib.hid ⟨HW0.out.grown hgrow0 HW0.out.size (fun r hr => by simp [Value.ownBlock] at hr; omega), by
        have h := hown0
        unfold Hold
        rw [← HN.out]
        exact h⟩
      clear hown0 hgrow0 hnil0
      go_wp2_with fail
      go_meet
      exact HA.out
  case rest =>
    obtain ⟨hb0, hh⟩ := hcut
    have HB0 := Lib.hid hb0
    have HV0 := Lib.hid hh.svb
    obtain ⟨p0, c0, rfl⟩ := own_sl hh
    rw [← HN.out] at HV0 ⊢
    clear hb0 hh HE HR HW0
    go_wp2_with fail
    refine (HD.out _ _ HV0.out).mono ?_
    rintro e w1 ⟨rfl, hb⟩
    have HB1 := Lib.hid (bel0 HB0.out (bel0 hb (below_new w1 (.cells (#[.int .i64 R.m, .int .i64 R.k, .bool R.ma, .bool R.wa, .bool R.pr, .int .i64 R.co, .int .i64 R.il, .int .i64 R.cc, .int .i64 R.pg, .int .i64 R.ad] : Array Value) 23))))
    have HV1 := Lib.hid (HV0.out.below (bel0 hb (below_new w1 (.cells (#[.int .i64 R.m, .int .i64 R.k, .bool R.ma, .bool R.wa, .bool R.pr, .int .i64 R.co, .int .i64 R.il, .int .i64 R.cc, .int .i64 R.pg, .int .i64 R.ad] : Array Value) 23))))
    have HX1 := Lib.hid (Bx.new w1 23 (#[.int .i64 R.m, .int .i64 R.k, .bool R.ma, .bool R.wa, .bool R.pr, .int .i64 R.co, .int .i64 R.il, .int .i64 R.cc, .int .i64 R.pg, .int .i64 R.ad] : Array Value))
    clear hb HB0 HV0 HD
    go_wp2_with fail
    refine (HRD.out _ HB1.out).mono ?_
    rintro e w2 ⟨rfl, hb⟩
    have hn2 := below_new w2 (.cells (#[.int .i64 R.m, .int .i64 R.k, .bool R.ma, .bool R.wa, .bool R.pr, .int .i64 R.co, .int .i64 R.il, .int .i64 R.cc, .int .i64 R.pg, .int .i64 R.ad] : Array Value) 23)
    have HB2 := Lib.hid (bel0 HB1.out (bel0 hb hn2))
    have HV2 := Lib.hid (HV1.out.below (bel0 hb hn2))
    obtain ⟨d0, d1, d2, d3, d4, d5, d6, d7, d8, d9⟩ := cells_of (HX1.out.below (bel0 hb hn2))
    clear hb hn2 HB1 HV1 HX1 HRD
    go_wp2_with fail
    refine (HSM.out _ _ HB2.out HV2.out).mono ?_
    rintro e w3 ⟨rfl, hb⟩
    have HB3 := Lib.hid (bel0 HB2.out hb)
    clear hb HB2 HV2 HSM d0 d1 d2 d3 d4 d5 d6 d7 d8 d9
    go_wp2_with fail
    refine (works_any _).mono ?_
    rintro e w4 ⟨rfl, hb⟩
    have HB4 := Lib.hid (bel0 HB3.out hb)
    clear hb HB3
    go_wp2
    go_ret
    exact ⟨rfl, HB4.out⟩
theorem walk (v : Value) (l : List UInt8) (w : World) (h : SvB w v l) : Calls Try.prog 4 #[v] w (New w (.bool true)) := by
  by_cases hl : l.length ≤ 1000
  · exact short v l w hl h
  · obtain ⟨p, c, rfl, -⟩ := h
    exact long p l.length c w (by omega)

end Go.Proofs.Ytfobmgoehamnnaa.pswDecodes

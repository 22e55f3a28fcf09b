/- The statement EditBytes where Edit refuses, and where it looks at nothing. -/
import Derived.Test.YtfkenoehoocobaaEdWorks
import Derived.Test.YtfkenoehoocobaaEdProps
import Derived.BigQuiet
namespace Go.Proofs.Ytfkenoehoocobaa.editBytes
open Go.RowKit E
set_option linter.unusedVariables false

set_option maxRecDepth 100000 in
theorem long (p q : Option Addr) (n m c d : Nat) (w : World) (h : 2000 < n ∨ 2000 < m) :
    Calls Try.prog 4 #[.slice p n c, .slice q m d] w (New w (.bool true)) := by
  by_cases h1 : 2000 < n
  · have i1 : (2000 : Int) < (n : Int) := by omega
    clear h h1
    go_enter Try.func4, Try.ntmps4
    go_wp2_with fail
    refine (works_any w).mono ?_
    rintro e w1 ⟨rfl, hb⟩
    have HB := Lib.hid hb
    clear hb
    go_wp2
    go_ret
    exact ⟨rfl, HB.out⟩
  · have i1 : ¬ ((2000 : Int) < (n : Int)) := by omega
    have i2 : (2000 : Int) < (m : Int) := by omega
    clear h h1
    go_enter Try.func4, Try.ntmps4
    go_wp2_with fail
    refine (works_any w).mono ?_
    rintro e w1 ⟨rfl, hb⟩
    have HB := Lib.hid hb
    clear hb
    go_wp2
    go_ret
    exact ⟨rfl, HB.out⟩
/-- Edit, with numbers written out. -/
theorem ed {pv sv : Value} {pat src : List UInt8} {w : World} (l : List UInt8) (cc : Nat) (mk : Int) (code : Nat) (k : Nat) (cc' code' : Int) (hp : SvB w pv pat) (hs : SvB w sv src) (h : edRes pat src = (l, cc, mk, code)) (hk : l.length = k) (h1 : (cc : Int) = cc') (h2 : (code : Int) = code') :
    Calls Try.prog 12 #[pv, sv] w (fun e w' => ∃ p c, e = .returned (.tuple #[.agg #[.slice p k c, .int .i64 cc', .int .i64 mk], .int .i64 code']) ∧ Hold w' w.heap.size (.slice p k c) l ∧ Below w.heap.size w w') :=
  (edit4_any pv sv pat src w l cc mk code hp hs h).mono fun e w' h' => by
    obtain ⟨p, c, e1, e2, e3⟩ := h'
    subst hk h1 h2
    exact ⟨p, c, e1, e2, e3⟩
set_option maxRecDepth 100000 in
set_option maxHeartbeats 1000000 in
theorem refused (v u : Value) (pat src : List UInt8) (w : World) (code : Nat) (hl : pat.length ≤ 2000) (hl2 : src.length ≤ 2000) (hp : SvB w v pat) (hs : SvB w u src) (h : edRes pat src = ([], 0, 0, code)) (hc : (code = 6 ∧ pat.length = 0) ∨ (code = 6 ∧ 256 < pat.length) ∨ ((code = 5 ∨ code = 7) ∧ 1 ≤ pat.length ∧ pat.length ≤ 256)) :
    Calls Try.prog 4 #[v, u] w (New w (.bool true)) := by
  have HE := Lib.hid (fun W (hb : Below w.heap.size w W) => ed (w := W) [] 0 0 code 0 0 (code : Int) (hp.below hb) (hs.below hb) h rfl rfl rfl)
  obtain ⟨p, c, rfl, _⟩ := hp
  obtain ⟨q, d, rfl, _⟩ := hs
  have i1 : ¬ ((2000 : Int) < (pat.length : Int)) := by omega
  have i2 : ¬ ((2000 : Int) < (src.length : Int)) := by omega
  clear hl hl2 h
  generalize pat.length = n at *
  generalize src.length = m at *
  rcases hc with ⟨rfl, rfl⟩ | ⟨rfl, h3⟩ | ⟨h3, h4, h5⟩
  · rw [show ((6 : Nat) : Int) = 6 from rfl] at HE
    go_enter Try.func4, Try.ntmps4
    go_wp2_with fail
    refine (works_any w).mono ?_
    rintro e w1 ⟨rfl, hb⟩
    have HB := Lib.hid hb
    clear hb
    go_wp2_with fail
    refine (HE.out w1 HB.out).mono ?_
    rintro e w2 ⟨pr, cr, rfl, hh, hb⟩
    have HB2 := Lib.hid (bel0 (bel0 HB.out hb) (below_new w2 (.cells #[.slice pr 0 cr, .int .i64 0, .int .i64 0] 26)))
    clear hb hh
    go_wp2
    go_ret
    exact ⟨rfl, HB2.out⟩
  · rw [show ((6 : Nat) : Int) = 6 from rfl] at HE
    have i3 : (256 : Int) < (n : Int) := by omega
    have i4 : ¬ ((n : Int) = 0) := by omega
    clear h3
    go_enter Try.func4, Try.ntmps4
    go_wp2_with fail
    refine (works_any w).mono ?_
    rintro e w1 ⟨rfl, hb⟩
    have HB := Lib.hid hb
    clear hb
    go_wp2_with fail
    refine (HE.out w1 HB.out).mono ?_
    rintro e w2 ⟨pr, cr, rfl, hh, hb⟩
    have HB2 := Lib.hid (bel0 (bel0 HB.out hb) (below_new w2 (.cells #[.slice pr 0 cr, .int .i64 0, .int .i64 0] 26)))
    clear hb hh
    go_wp2
    go_ret
    exact ⟨rfl, HB2.out⟩
  · have i3 : (0 : Int) < (n : Int) := by omega
    have i4 : ((n : Int) ≤ 256) := by omega
    clear h4 h5
    rcases h3 with rfl | rfl
    · rw [show ((5 : Nat) : Int) = 5 from rfl] at HE
      go_enter Try.func4, Try.ntmps4
      go_wp2_with fail
      refine (works_any w).mono ?_
      rintro e w1 ⟨rfl, hb⟩
      have HB := Lib.hid hb
      clear hb
      go_wp2_with fail
      refine (HE.out w1 HB.out).mono ?_
      rintro e w2 ⟨pr, cr, rfl, hh, hb⟩
      have HB2 := Lib.hid (bel0 (bel0 HB.out hb) (below_new w2 (.cells #[.slice pr 0 cr, .int .i64 0, .int .i64 0] 26)))
      clear hb hh
      go_wp2
      go_ret
      exact ⟨rfl, HB2.out⟩
    · rw [show ((7 : Nat) : Int) = 7 from rfl] at HE
      go_enter Try.func4, Try.ntmps4
      go_wp2_with fail
      refine (works_any w).mono ?_
      rintro e w1 ⟨rfl, hb⟩
      have HB := Lib.hid hb
      clear hb
      go_wp2_with fail
      refine (HE.out w1 HB.out).mono ?_
      rintro e w2 ⟨pr, cr, rfl, hh, hb⟩
      have HB2 := Lib.hid (bel0 (bel0 HB.out hb) (below_new w2 (.cells #[.slice pr 0 cr, .int .i64 0, .int .i64 0] 26)))
      clear hb hh
      go_wp2
      go_ret
      exact ⟨rfl, HB2.out⟩

end Go.Proofs.Ytfkenoehoocobaa.editBytes

/- The walk of the statement PswInverse: it answers true, and below its own memory nothing turns. -/
import Derived.Test.YtfobmgoehamnnaaPsWorks
namespace Go.Proofs.Ytfobmgoehamnnaa.pswInverse
open Go.RowKit E
set_option linter.unusedVariables false

set_option maxRecDepth 100000 in
theorem long (Q : Psw) (p : Option Addr) (k c : Nat) (w : World) (h : 1000 < k) : Calls Try.prog 8 #[.agg #[.int .i64 Q.m, .int .i64 Q.k, .bool Q.ma, .bool Q.wa, .bool Q.pr, .int .i64 Q.co, .int .i64 Q.il, .int .i64 Q.cc, .int .i64 Q.pg, .int .i64 Q.ad], .slice p k c] w (New w (.bool true)) := by
  have h1 : (1000 : Int) < (k : Int) := by omega
  clear h
  go_enter Try.func8, Try.ntmps8
  go_wp2
  go_ret
  exact ⟨rfl, below_new _ _⟩
set_option maxRecDepth 100000 in
set_option maxHeartbeats 1000000 in
theorem short_false_false (Q : Psw) (v : Value) (l : List UInt8) (w : World) (hl : l.length ≤ 1000) (hs : SvB w v l) (hq : okB Q = false) (ho : decOk l = false) : Calls Try.prog 8 #[.agg #[.int .i64 Q.m, .int .i64 Q.k, .bool Q.ma, .bool Q.wa, .bool Q.pr, .int .i64 Q.co, .int .i64 Q.il, .int .i64 Q.cc, .int .i64 Q.pg, .int .i64 Q.ad], v] w (New w (.bool true)) := by
  have HS := Lib.hid hs
  obtain ⟨p, c, rfl, -⟩ := hs
  have h1 : ¬ ((1000 : Int) < (l.length : Int)) := by omega
  have HD := Lib.hid (fun W (hb : Below w.heap.size w W) => dec_any _ l W (HS.out.below hb))
  rw [ho] at HD
  obtain ⟨k, hk⟩ : ∃ k, k = l.length := ⟨_, rfl⟩
  rw [← hk] at HS HD h1 ⊢
  clear hk hl ho
  generalize decL l = R at *
  have HV := Lib.hid (valid_any Q)
  rw [hq] at HV
  have HB := Lib.hid (Bx.new w 23 #[.int .i64 Q.m, .int .i64 Q.k, .bool Q.ma, .bool Q.wa, .bool Q.pr, .int .i64 Q.co, .int .i64 Q.il, .int .i64 Q.cc, .int .i64 Q.pg, .int .i64 Q.ad])
  have HE := Lib.hid (fun W => enc_no Q W hq)
  clear hq
  clear HS
  go_enter Try.func8, Try.ntmps8
  go_wp2_with fail
  refine (HE.out _).mono ?_
  rintro e w1 ⟨rfl, hb⟩
  have HB1 := Lib.hid (bel0 (below_new w _) hb)
  have HQ1 := Lib.hid (HB.out.below hb)
  clear hb HE HB
  obtain ⟨c0, c1, c2, c3, c4, c5, c6, c7, c8, c9⟩ := cells_of HQ1.out
  go_wp2_with fail
  refine (HV.out _).mono ?_
  rintro e w2 ⟨rfl, hb⟩
  have HB2 := Lib.hid (bel0 HB1.out hb)
  clear hb HV HB1 HQ1 c0 c1 c2 c3 c4 c5 c6 c7 c8 c9
  go_wp2_with fail
  refine (HD.out _ HB2.out).mono ?_
  rintro e w5 ⟨rfl, hb⟩
  have HB5 := Lib.hid (bel0 HB2.out hb)
  clear hb HD HB2
  have HB8 := Lib.hid (bel0 HB5.out (below_new w5 (.cells (#[.int .i64 R.m, .int .i64 R.k, .bool R.ma, .bool R.wa, .bool R.pr, .int .i64 R.co, .int .i64 R.il, .int .i64 R.cc, .int .i64 R.pg, .int .i64 R.ad] : Array Value) 23)))
  clear HB5
  go_wp2_with fail
  refine (works_any _).mono ?_
  rintro e w9 ⟨rfl, hb⟩
  have HB9 := Lib.hid (bel0 HB8.out hb)
  clear hb HB8
  go_wp2
  go_ret
  exact ⟨rfl, HB9.out⟩
set_option maxRecDepth 100000 in
set_option maxHeartbeats 1000000 in
theorem short_false_true (Q : Psw) (v : Value) (l : List UInt8) (w : World) (hl : l.length ≤ 1000) (hs : SvB w v l) (hq : okB Q = false) (ho : decOk l = true) : Calls Try.prog 8 #[.agg #[.int .i64 Q.m, .int .i64 Q.k, .bool Q.ma, .bool Q.wa, .bool Q.pr, .int .i64 Q.co, .int .i64 Q.il, .int .i64 Q.cc, .int .i64 Q.pg, .int .i64 Q.ad], v] w (New w (.bool true)) := by
  have HS := Lib.hid hs
  obtain ⟨p, c, rfl, -⟩ := hs
  have h1 : ¬ ((1000 : Int) < (l.length : Int)) := by omega
  have HD := Lib.hid (fun W (hb : Below w.heap.size w W) => dec_any _ l W (HS.out.below hb))
  rw [ho] at HD
  obtain ⟨hr1, hr2⟩ := encL_dec l ho
  have HE2 := Lib.hid (fun W => (enc_yes (decL l) W (decide_eq_true hr1)).mono (fun e w' (h : EncPost W (decL l) e w') => (by unfold EncPost at h; rw [hr2] at h; exact h : ∃ p c, e = .returned (.tuple #[.slice p 8 c, .bool true]) ∧ SvB w' (.slice p 8 c) l ∧ Below W.heap.size W w')))
  clear hr1 hr2
  obtain ⟨k, hk⟩ : ∃ k, k = l.length := ⟨_, rfl⟩
  rw [← hk] at HS HD h1 ⊢
  clear hk hl ho
  generalize decL l = R at *
  have HV := Lib.hid (valid_any Q)
  rw [hq] at HV
  have HB := Lib.hid (Bx.new w 23 #[.int .i64 Q.m, .int .i64 Q.k, .bool Q.ma, .bool Q.wa, .bool Q.pr, .int .i64 Q.co, .int .i64 Q.il, .int .i64 Q.cc, .int .i64 Q.pg, .int .i64 Q.ad])
  have HE := Lib.hid (fun W => enc_no Q W hq)
  clear hq
  go_enter Try.func8, Try.ntmps8
  go_wp2_with fail
  refine (HE.out _).mono ?_
  rintro e w1 ⟨rfl, hb⟩
  have HB1 := Lib.hid (bel0 (below_new w _) hb)
  have HQ1 := Lib.hid (HB.out.below hb)
  clear hb HE HB
  obtain ⟨c0, c1, c2, c3, c4, c5, c6, c7, c8, c9⟩ := cells_of HQ1.out
  go_wp2_with fail
  refine (HV.out _).mono ?_
  rintro e w2 ⟨rfl, hb⟩
  have HB2 := Lib.hid (bel0 HB1.out hb)
  clear hb HV HB1 HQ1 c0 c1 c2 c3 c4 c5 c6 c7 c8 c9
  go_wp2_with fail
  refine (HD.out _ HB2.out).mono ?_
  rintro e w5 ⟨rfl, hb⟩
  have HB5 := Lib.hid (bel0 HB2.out hb)
  clear hb HD HB2
  go_wp2_with fail
  refine (HE2.out _).mono ?_
  rintro e w6 ⟨pd, cd, rfl, hs6, hb⟩
  have HB6 := Lib.hid (bel0 HB5.out (bel0 (below_new w5 _) hb))
  have HS6 := Lib.hid hs6
  clear hb hs6 HE2 HB5
  go_wp2_with fail
  refine (same_svb HS6.out (HS.out.below HB6.out)).mono ?_
  rintro e w7 ⟨rfl, hb⟩
  have HB8 := Lib.hid (bel0 HB6.out hb)
  clear hb HB6 HS6 HS
  go_wp2_with fail
  refine (works_any _).mono ?_
  rintro e w9 ⟨rfl, hb⟩
  have HB9 := Lib.hid (bel0 HB8.out hb)
  clear hb HB8
  go_wp2
  go_ret
  exact ⟨rfl, HB9.out⟩
set_option maxRecDepth 100000 in
set_option maxHeartbeats 1000000 in
theorem short_true_false (Q : Psw) (v : Value) (l : List UInt8) (w : World) (hl : l.length ≤ 1000) (hs : SvB w v l) (hq : okB Q = true) (ho : decOk l = false) : Calls Try.prog 8 #[.agg #[.int .i64 Q.m, .int .i64 Q.k, .bool Q.ma, .bool Q.wa, .bool Q.pr, .int .i64 Q.co, .int .i64 Q.il, .int .i64 Q.cc, .int .i64 Q.pg, .int .i64 Q.ad], v] w (New w (.bool true)) := by
  have HS := Lib.hid hs
  obtain ⟨p, c, rfl, -⟩ := hs
  have h1 : ¬ ((1000 : Int) < (l.length : Int)) := by omega
  have HD := Lib.hid (fun W (hb : Below w.heap.size w W) => dec_any _ l W (HS.out.below hb))
  rw [ho] at HD
  obtain ⟨k, hk⟩ : ∃ k, k = l.length := ⟨_, rfl⟩
  rw [← hk] at HS HD h1 ⊢
  clear hk hl ho
  generalize decL l = R at *
  have HV := Lib.hid (valid_any Q)
  rw [hq] at HV
  have HB := Lib.hid (Bx.new w 23 #[.int .i64 Q.m, .int .i64 Q.k, .bool Q.ma, .bool Q.wa, .bool Q.pr, .int .i64 Q.co, .int .i64 Q.il, .int .i64 Q.cc, .int .i64 Q.pg, .int .i64 Q.ad])
  have HE := Lib.hid (fun W => enc_yes Q W hq)
  have HDE := Lib.hid (fun v W (h : SvB W v (encL Q)) => (by
    have h1 := dec_any v _ W h
    rw [(decL_enc Q (of_decide_eq_true hq)).1, (decL_enc Q (of_decide_eq_true hq)).2] at h1
    exact h1 : Calls Try.prog 18 #[v] W (New W (.tuple #[.agg #[.int .i64 Q.m, .int .i64 Q.k, .bool Q.ma, .bool Q.wa, .bool Q.pr, .int .i64 Q.co, .int .i64 Q.il, .int .i64 Q.cc, .int .i64 Q.pg, .int .i64 Q.ad], .bool true]))))
  clear hq
  clear HS
  go_enter Try.func8, Try.ntmps8
  go_wp2_with fail
  refine (HE.out _).mono ?_
  rintro e w1 ⟨pc, cc, rfl, hs1, hb⟩
  have HC1 := Lib.hid hs1
  clear hs1
  have HB1 := Lib.hid (bel0 (below_new w _) hb)
  have HQ1 := Lib.hid (HB.out.below hb)
  clear hb HE HB
  obtain ⟨c0, c1, c2, c3, c4, c5, c6, c7, c8, c9⟩ := cells_of HQ1.out
  go_wp2_with fail
  refine (HV.out _).mono ?_
  rintro e w2 ⟨rfl, hb⟩
  have HB2 := Lib.hid (bel0 HB1.out hb)
  have HQ2 := Lib.hid (HQ1.out.below hb)
  have HC2 := Lib.hid (HC1.out.below hb)
  clear HC1
  clear hb HV HB1 HQ1 c0 c1 c2 c3 c4 c5 c6 c7 c8 c9
  go_wp2_with fail
  refine (HDE.out _ _ HC2.out).mono ?_
  rintro e w3 ⟨rfl, hb⟩
  have HB3 := Lib.hid (bel0 HB2.out hb)
  have HQ3 := Lib.hid (HQ2.out.below hb)
  clear hb HB2 HQ2 HC2 HDE
  have hn3 := below_new w3 (.cells (#[.int .i64 Q.m, .int .i64 Q.k, .bool Q.ma, .bool Q.wa, .bool Q.pr, .int .i64 Q.co, .int .i64 Q.il, .int .i64 Q.cc, .int .i64 Q.pg, .int .i64 Q.ad] : Array Value) 23)
  have HB4 := Lib.hid (bel0 HB3.out hn3)
  obtain ⟨c0, c1, c2, c3, c4, c5, c6, c7, c8, c9⟩ := cells_of (HQ3.out.below hn3)
  clear hn3 HB3 HQ3
  go_wp2_with fail
  refine (HD.out _ HB4.out).mono ?_
  rintro e w5 ⟨rfl, hb⟩
  have HB5 := Lib.hid (bel0 HB4.out hb)
  clear hb HD HB4 c0 c1 c2 c3 c4 c5 c6 c7 c8 c9
  have HB8 := Lib.hid (bel0 HB5.out (below_new w5 (.cells (#[.int .i64 R.m, .int .i64 R.k, .bool R.ma, .bool R.wa, .bool R.pr, .int .i64 R.co, .int .i64 R.il, .int .i64 R.cc, .int .i64 R.pg, .int .i64 R.ad] : Array Value) 23)))
  clear HB5
  go_wp2_with fail
  refine (works_any _).mono ?_
  rintro e w9 ⟨rfl, hb⟩
  have HB9 := Lib.hid (bel0 HB8.out hb)
  clear hb HB8
  go_wp2
  go_ret
  exact ⟨rfl, HB9.out⟩
set_option maxRecDepth 100000 in
set_option maxHeartbeats 1000000 in
theorem short_true_true (Q : Psw) (v : Value) (l : List UInt8) (w : World) (hl : l.length ≤ 1000) (hs : SvB w v l) (hq : okB Q = true) (ho : decOk l = true) : Calls Try.prog 8 #[.agg #[.int .i64 Q.m, .int .i64 Q.k, .bool Q.ma, .bool Q.wa, .bool Q.pr, .int .i64 Q.co, .int .i64 Q.il, .int .i64 Q.cc, .int .i64 Q.pg, .int .i64 Q.ad], v] w (New w (.bool true)) := by
  have HS := Lib.hid hs
  obtain ⟨p, c, rfl, -⟩ := hs
  have h1 : ¬ ((1000 : Int) < (l.length : Int)) := by omega
  have HD := Lib.hid (fun W (hb : Below w.heap.size w W) => dec_any _ l W (HS.out.below hb))
  rw [ho] at HD
  obtain ⟨hr1, hr2⟩ := encL_dec l ho
  have HE2 := Lib.hid (fun W => (enc_yes (decL l) W (decide_eq_true hr1)).mono (fun e w' (h : EncPost W (decL l) e w') => (by unfold EncPost at h; rw [hr2] at h; exact h : ∃ p c, e = .returned (.tuple #[.slice p 8 c, .bool true]) ∧ SvB w' (.slice p 8 c) l ∧ Below W.heap.size W w')))
  clear hr1 hr2
  obtain ⟨k, hk⟩ : ∃ k, k = l.length := ⟨_, rfl⟩
  rw [← hk] at HS HD h1 ⊢
  clear hk hl ho
  generalize decL l = R at *
  have HV := Lib.hid (valid_any Q)
  rw [hq] at HV
  have HB := Lib.hid (Bx.new w 23 #[.int .i64 Q.m, .int .i64 Q.k, .bool Q.ma, .bool Q.wa, .bool Q.pr, .int .i64 Q.co, .int .i64 Q.il, .int .i64 Q.cc, .int .i64 Q.pg, .int .i64 Q.ad])
  have HE := Lib.hid (fun W => enc_yes Q W hq)
  have HDE := Lib.hid (fun v W (h : SvB W v (encL Q)) => (by
    have h1 := dec_any v _ W h
    rw [(decL_enc Q (of_decide_eq_true hq)).1, (decL_enc Q (of_decide_eq_true hq)).2] at h1
    exact h1 : Calls Try.prog 18 #[v] W (New W (.tuple #[.agg #[.int .i64 Q.m, .int .i64 Q.k, .bool Q.ma, .bool Q.wa, .bool Q.pr, .int .i64 Q.co, .int .i64 Q.il, .int .i64 Q.cc, .int .i64 Q.pg, .int .i64 Q.ad], .bool true]))))
  clear hq
  go_enter Try.func8, Try.ntmps8
  go_wp2_with fail
  refine (HE.out _).mono ?_
  rintro e w1 ⟨pc, cc, rfl, hs1, hb⟩
  have HC1 := Lib.hid hs1
  clear hs1
  have HB1 := Lib.hid (bel0 (below_new w _) hb)
  have HQ1 := Lib.hid (HB.out.below hb)
  clear hb HE HB
  obtain ⟨c0, c1, c2, c3, c4, c5, c6, c7, c8, c9⟩ := cells_of HQ1.out
  go_wp2_with fail
  refine (HV.out _).mono ?_
  rintro e w2 ⟨rfl, hb⟩
  have HB2 := Lib.hid (bel0 HB1.out hb)
  have HQ2 := Lib.hid (HQ1.out.below hb)
  have HC2 := Lib.hid (HC1.out.below hb)
  clear HC1
  clear hb HV HB1 HQ1 c0 c1 c2 c3 c4 c5 c6 c7 c8 c9
  go_wp2_with fail
  refine (HDE.out _ _ HC2.out).mono ?_
  rintro e w3 ⟨rfl, hb⟩
  have HB3 := Lib.hid (bel0 HB2.out hb)
  have HQ3 := Lib.hid (HQ2.out.below hb)
  clear hb HB2 HQ2 HC2 HDE
  have hn3 := below_new w3 (.cells (#[.int .i64 Q.m, .int .i64 Q.k, .bool Q.ma, .bool Q.wa, .bool Q.pr, .int .i64 Q.co, .int .i64 Q.il, .int .i64 Q.cc, .int .i64 Q.pg, .int .i64 Q.ad] : Array Value) 23)
  have HB4 := Lib.hid (bel0 HB3.out hn3)
  obtain ⟨c0, c1, c2, c3, c4, c5, c6, c7, c8, c9⟩ := cells_of (HQ3.out.below hn3)
  clear hn3 HB3 HQ3
  go_wp2_with fail
  refine (HD.out _ HB4.out).mono ?_
  rintro e w5 ⟨rfl, hb⟩
  have HB5 := Lib.hid (bel0 HB4.out hb)
  clear hb HD HB4 c0 c1 c2 c3 c4 c5 c6 c7 c8 c9
  go_wp2_with fail
  refine (HE2.out _).mono ?_
  rintro e w6 ⟨pd, cd, rfl, hs6, hb⟩
  have HB6 := Lib.hid (bel0 HB5.out (bel0 (below_new w5 _) hb))
  have HS6 := Lib.hid hs6
  clear hb hs6 HE2 HB5
  go_wp2_with fail
  refine (same_svb HS6.out (HS.out.below HB6.out)).mono ?_
  rintro e w7 ⟨rfl, hb⟩
  have HB8 := Lib.hid (bel0 HB6.out hb)
  clear hb HB6 HS6 HS
  go_wp2_with fail
  refine (works_any _).mono ?_
  rintro e w9 ⟨rfl, hb⟩
  have HB9 := Lib.hid (bel0 HB8.out hb)
  clear hb HB8
  go_wp2
  go_ret
  exact ⟨rfl, HB9.out⟩
theorem walk (Q : Psw) (v : Value) (l : List UInt8) (w : World) (hs : SvB w v l) : Calls Try.prog 8 #[.agg #[.int .i64 Q.m, .int .i64 Q.k, .bool Q.ma, .bool Q.wa, .bool Q.pr, .int .i64 Q.co, .int .i64 Q.il, .int .i64 Q.cc, .int .i64 Q.pg, .int .i64 Q.ad], v] w (New w (.bool true)) := by
  by_cases hl : l.length ≤ 1000
  · cases hq : okB Q with
    | false =>
      cases ho : decOk l with
      | false => exact short_false_false Q v l w hl hs hq ho
      | true => exact short_false_true Q v l w hl hs hq ho
    | true =>
      cases ho : decOk l with
      | false => exact short_true_false Q v l w hl hs hq ho
      | true => exact short_true_true Q v l w hl hs hq ho
  · obtain ⟨p, c, rfl, -⟩ := hs
    exact long Q p l.length c w (by omega)

end Go.Proofs.Ytfobmgoehamnnaa.pswInverse

/- The status word: the given answers. -/
import Derived.Test.YtfopjnfphlkcgaaGreatPsA
import Derived.Laws.ResultCell
namespace Go.Proofs.YtfopjnfphlkcgaaGreat
open Go.RowKit
set_option linter.unusedVariables false
namespace E

set_option maxRecDepth 100000 in
theorem rvalid_any (Q : Psw) (w : World) : Calls Tryz.prog 39 #[.agg #[.int .i64 Q.m, .int .i64 Q.k, .bool Q.ma, .bool Q.wa, .bool Q.pr, .int .i64 Q.co, .int .i64 Q.il, .int .i64 Q.cc, .int .i64 Q.pg, .int .i64 Q.ad]] w (New w (.bool (okB Q))) := by
  have HB := Lib.hid (Bx.new w 30 #[.int .i64 Q.m, .int .i64 Q.k, .bool Q.ma, .bool Q.wa, .bool Q.pr, .int .i64 Q.co, .int .i64 Q.il, .int .i64 Q.cc, .int .i64 Q.pg, .int .i64 Q.ad])
  cases b0 : pinB Q.m 255 with
  | false =>
    have K0 := Lib.hid (fun W => (by have h1 := in_any Q.m 255 W; rw [b0] at h1; exact h1 : Calls Tryz.prog 85 #[.int .i64 Q.m, .int .i64 255] W (New W (.bool false))))
    have e : okB Q = false := okB_false Q _ _ b0 (by simp [fldsP])
    rw [e]
    clear e b0
    go_enter Tryz.func39, Tryz.ntmps39
    go_wp2_with fail
    refine (K0.out _).mono ?_
    rintro e w1 ⟨rfl, hb⟩
    have H1 := Lib.hid (hb)
    clear hb K0
    go_wp2
    go_ret
    exact ⟨rfl, bel0 (below_new _ _) H1.out⟩
  | true =>
    cases b1 : pinB Q.k 15 with
    | false =>
      have K0 := Lib.hid (fun W => (by have h1 := in_any Q.m 255 W; rw [b0] at h1; exact h1 : Calls Tryz.prog 85 #[.int .i64 Q.m, .int .i64 255] W (New W (.bool true))))
      have K1 := Lib.hid (fun W => (by have h1 := in_any Q.k 15 W; rw [b1] at h1; exact h1 : Calls Tryz.prog 85 #[.int .i64 Q.k, .int .i64 15] W (New W (.bool false))))
      have e : okB Q = false := okB_false Q _ _ b1 (by simp [fldsP])
      rw [e]
      clear e b0 b1
      go_enter Tryz.func39, Tryz.ntmps39
      go_wp2_with fail
      refine (K0.out _).mono ?_
      rintro e w1 ⟨rfl, hb⟩
      have H1 := Lib.hid (hb)
      clear hb K0
      have c1 : w1.cell? ⟨w.heap.size, 1, none⟩ = some (.int .i64 Q.k) := (HB.out.below H1.out).cell 1
      go_wp2_with fail
      refine (K1.out _).mono ?_
      rintro e w2 ⟨rfl, hb⟩
      have H2 := Lib.hid (bel0 H1.out hb)
      clear hb K1 c1 H1
      go_wp2
      go_ret
      exact ⟨rfl, bel0 (below_new _ _) H2.out⟩
    | true =>
      cases b2 : pinB Q.co 65535 with
      | false =>
        have K0 := Lib.hid (fun W => (by have h1 := in_any Q.m 255 W; rw [b0] at h1; exact h1 : Calls Tryz.prog 85 #[.int .i64 Q.m, .int .i64 255] W (New W (.bool true))))
        have K1 := Lib.hid (fun W => (by have h1 := in_any Q.k 15 W; rw [b1] at h1; exact h1 : Calls Tryz.prog 85 #[.int .i64 Q.k, .int .i64 15] W (New W (.bool true))))
        have K2 := Lib.hid (fun W => (by have h1 := in_any Q.co 65535 W; rw [b2] at h1; exact h1 : Calls Tryz.prog 85 #[.int .i64 Q.co, .int .i64 65535] W (New W (.bool false))))
        have e : okB Q = false := okB_false Q _ _ b2 (by simp [fldsP])
        rw [e]
        clear e b0 b1 b2
        go_enter Tryz.func39, Tryz.ntmps39
        go_wp2_with fail
        refine (K0.out _).mono ?_
        rintro e w1 ⟨rfl, hb⟩
        have H1 := Lib.hid (hb)
        clear hb K0
        have c1 : w1.cell? ⟨w.heap.size, 1, none⟩ = some (.int .i64 Q.k) := (HB.out.below H1.out).cell 1
        go_wp2_with fail
        refine (K1.out _).mono ?_
        rintro e w2 ⟨rfl, hb⟩
        have H2 := Lib.hid (bel0 H1.out hb)
        clear hb K1 c1 H1
        have c2 : w2.cell? ⟨w.heap.size, 5, none⟩ = some (.int .i64 Q.co) := (HB.out.below H2.out).cell 5
        go_wp2_with fail
        refine (K2.out _).mono ?_
        rintro e w3 ⟨rfl, hb⟩
        have H3 := Lib.hid (bel0 H2.out hb)
        clear hb K2 c2 H2
        go_wp2
        go_ret
        exact ⟨rfl, bel0 (below_new _ _) H3.out⟩
      | true =>
        cases b3 : pinB Q.il 3 with
        | false =>
          have K0 := Lib.hid (fun W => (by have h1 := in_any Q.m 255 W; rw [b0] at h1; exact h1 : Calls Tryz.prog 85 #[.int .i64 Q.m, .int .i64 255] W (New W (.bool true))))
          have K1 := Lib.hid (fun W => (by have h1 := in_any Q.k 15 W; rw [b1] at h1; exact h1 : Calls Tryz.prog 85 #[.int .i64 Q.k, .int .i64 15] W (New W (.bool true))))
          have K2 := Lib.hid (fun W => (by have h1 := in_any Q.co 65535 W; rw [b2] at h1; exact h1 : Calls Tryz.prog 85 #[.int .i64 Q.co, .int .i64 65535] W (New W (.bool true))))
          have K3 := Lib.hid (fun W => (by have h1 := in_any Q.il 3 W; rw [b3] at h1; exact h1 : Calls Tryz.prog 85 #[.int .i64 Q.il, .int .i64 3] W (New W (.bool false))))
          have e : okB Q = false := okB_false Q _ _ b3 (by simp [fldsP])
          rw [e]
          clear e b0 b1 b2 b3
          go_enter Tryz.func39, Tryz.ntmps39
          go_wp2_with fail
          refine (K0.out _).mono ?_
          rintro e w1 ⟨rfl, hb⟩
          have H1 := Lib.hid (hb)
          clear hb K0
          have c1 : w1.cell? ⟨w.heap.size, 1, none⟩ = some (.int .i64 Q.k) := (HB.out.below H1.out).cell 1
          go_wp2_with fail
          refine (K1.out _).mono ?_
          rintro e w2 ⟨rfl, hb⟩
          have H2 := Lib.hid (bel0 H1.out hb)
          clear hb K1 c1 H1
          have c2 : w2.cell? ⟨w.heap.size, 5, none⟩ = some (.int .i64 Q.co) := (HB.out.below H2.out).cell 5
          go_wp2_with fail
          refine (K2.out _).mono ?_
          rintro e w3 ⟨rfl, hb⟩
          have H3 := Lib.hid (bel0 H2.out hb)
          clear hb K2 c2 H2
          have c3 : w3.cell? ⟨w.heap.size, 6, none⟩ = some (.int .i64 Q.il) := (HB.out.below H3.out).cell 6
          go_wp2_with fail
          refine (K3.out _).mono ?_
          rintro e w4 ⟨rfl, hb⟩
          have H4 := Lib.hid (bel0 H3.out hb)
          clear hb K3 c3 H3
          go_wp2
          go_ret
          exact ⟨rfl, bel0 (below_new _ _) H4.out⟩
        | true =>
          cases b4 : pinB Q.cc 3 with
          | false =>
            have K0 := Lib.hid (fun W => (by have h1 := in_any Q.m 255 W; rw [b0] at h1; exact h1 : Calls Tryz.prog 85 #[.int .i64 Q.m, .int .i64 255] W (New W (.bool true))))
            have K1 := Lib.hid (fun W => (by have h1 := in_any Q.k 15 W; rw [b1] at h1; exact h1 : Calls Tryz.prog 85 #[.int .i64 Q.k, .int .i64 15] W (New W (.bool true))))
            have K2 := Lib.hid (fun W => (by have h1 := in_any Q.co 65535 W; rw [b2] at h1; exact h1 : Calls Tryz.prog 85 #[.int .i64 Q.co, .int .i64 65535] W (New W (.bool true))))
            have K3 := Lib.hid (fun W => (by have h1 := in_any Q.il 3 W; rw [b3] at h1; exact h1 : Calls Tryz.prog 85 #[.int .i64 Q.il, .int .i64 3] W (New W (.bool true))))
            have K4 := Lib.hid (fun W => (by have h1 := in_any Q.cc 3 W; rw [b4] at h1; exact h1 : Calls Tryz.prog 85 #[.int .i64 Q.cc, .int .i64 3] W (New W (.bool false))))
            have e : okB Q = false := okB_false Q _ _ b4 (by simp [fldsP])
            rw [e]
            clear e b0 b1 b2 b3 b4
            go_enter Tryz.func39, Tryz.ntmps39
            go_wp2_with fail
            refine (K0.out _).mono ?_
            rintro e w1 ⟨rfl, hb⟩
            have H1 := Lib.hid (hb)
            clear hb K0
            have c1 : w1.cell? ⟨w.heap.size, 1, none⟩ = some (.int .i64 Q.k) := (HB.out.below H1.out).cell 1
            go_wp2_with fail
            refine (K1.out _).mono ?_
            rintro e w2 ⟨rfl, hb⟩
            have H2 := Lib.hid (bel0 H1.out hb)
            clear hb K1 c1 H1
            have c2 : w2.cell? ⟨w.heap.size, 5, none⟩ = some (.int .i64 Q.co) := (HB.out.below H2.out).cell 5
            go_wp2_with fail
            refine (K2.out _).mono ?_
            rintro e w3 ⟨rfl, hb⟩
            have H3 := Lib.hid (bel0 H2.out hb)
            clear hb K2 c2 H2
            have c3 : w3.cell? ⟨w.heap.size, 6, none⟩ = some (.int .i64 Q.il) := (HB.out.below H3.out).cell 6
            go_wp2_with fail
            refine (K3.out _).mono ?_
            rintro e w4 ⟨rfl, hb⟩
            have H4 := Lib.hid (bel0 H3.out hb)
            clear hb K3 c3 H3
            have c4 : w4.cell? ⟨w.heap.size, 7, none⟩ = some (.int .i64 Q.cc) := (HB.out.below H4.out).cell 7
            go_wp2_with fail
            refine (K4.out _).mono ?_
            rintro e w5 ⟨rfl, hb⟩
            have H5 := Lib.hid (bel0 H4.out hb)
            clear hb K4 c4 H4
            go_wp2
            go_ret
            exact ⟨rfl, bel0 (below_new _ _) H5.out⟩
          | true =>
            cases b5 : pinB Q.pg 15 with
            | false =>
              have K0 := Lib.hid (fun W => (by have h1 := in_any Q.m 255 W; rw [b0] at h1; exact h1 : Calls Tryz.prog 85 #[.int .i64 Q.m, .int .i64 255] W (New W (.bool true))))
              have K1 := Lib.hid (fun W => (by have h1 := in_any Q.k 15 W; rw [b1] at h1; exact h1 : Calls Tryz.prog 85 #[.int .i64 Q.k, .int .i64 15] W (New W (.bool true))))
              have K2 := Lib.hid (fun W => (by have h1 := in_any Q.co 65535 W; rw [b2] at h1; exact h1 : Calls Tryz.prog 85 #[.int .i64 Q.co, .int .i64 65535] W (New W (.bool true))))
              have K3 := Lib.hid (fun W => (by have h1 := in_any Q.il 3 W; rw [b3] at h1; exact h1 : Calls Tryz.prog 85 #[.int .i64 Q.il, .int .i64 3] W (New W (.bool true))))
              have K4 := Lib.hid (fun W => (by have h1 := in_any Q.cc 3 W; rw [b4] at h1; exact h1 : Calls Tryz.prog 85 #[.int .i64 Q.cc, .int .i64 3] W (New W (.bool true))))
              have K5 := Lib.hid (fun W => (by have h1 := in_any Q.pg 15 W; rw [b5] at h1; exact h1 : Calls Tryz.prog 85 #[.int .i64 Q.pg, .int .i64 15] W (New W (.bool false))))
              have e : okB Q = false := okB_false Q _ _ b5 (by simp [fldsP])
              rw [e]
              clear e b0 b1 b2 b3 b4 b5
              go_enter Tryz.func39, Tryz.ntmps39
              go_wp2_with fail
              refine (K0.out _).mono ?_
              rintro e w1 ⟨rfl, hb⟩
              have H1 := Lib.hid (hb)
              clear hb K0
              have c1 : w1.cell? ⟨w.heap.size, 1, none⟩ = some (.int .i64 Q.k) := (HB.out.below H1.out).cell 1
              go_wp2_with fail
              refine (K1.out _).mono ?_
              rintro e w2 ⟨rfl, hb⟩
              have H2 := Lib.hid (bel0 H1.out hb)
              clear hb K1 c1 H1
              have c2 : w2.cell? ⟨w.heap.size, 5, none⟩ = some (.int .i64 Q.co) := (HB.out.below H2.out).cell 5
              go_wp2_with fail
              refine (K2.out _).mono ?_
              rintro e w3 ⟨rfl, hb⟩
              have H3 := Lib.hid (bel0 H2.out hb)
              clear hb K2 c2 H2
              have c3 : w3.cell? ⟨w.heap.size, 6, none⟩ = some (.int .i64 Q.il) := (HB.out.below H3.out).cell 6
              go_wp2_with fail
              refine (K3.out _).mono ?_
              rintro e w4 ⟨rfl, hb⟩
              have H4 := Lib.hid (bel0 H3.out hb)
              clear hb K3 c3 H3
              have c4 : w4.cell? ⟨w.heap.size, 7, none⟩ = some (.int .i64 Q.cc) := (HB.out.below H4.out).cell 7
              go_wp2_with fail
              refine (K4.out _).mono ?_
              rintro e w5 ⟨rfl, hb⟩
              have H5 := Lib.hid (bel0 H4.out hb)
              clear hb K4 c4 H4
              have c5 : w5.cell? ⟨w.heap.size, 8, none⟩ = some (.int .i64 Q.pg) := (HB.out.below H5.out).cell 8
              go_wp2_with fail
              refine (K5.out _).mono ?_
              rintro e w6 ⟨rfl, hb⟩
              have H6 := Lib.hid (bel0 H5.out hb)
              clear hb K5 c5 H5
              go_wp2
              go_ret
              exact ⟨rfl, bel0 (below_new _ _) H6.out⟩
            | true =>
              cases b6 : pinB Q.ad 16777215 with
              | false =>
                have K0 := Lib.hid (fun W => (by have h1 := in_any Q.m 255 W; rw [b0] at h1; exact h1 : Calls Tryz.prog 85 #[.int .i64 Q.m, .int .i64 255] W (New W (.bool true))))
                have K1 := Lib.hid (fun W => (by have h1 := in_any Q.k 15 W; rw [b1] at h1; exact h1 : Calls Tryz.prog 85 #[.int .i64 Q.k, .int .i64 15] W (New W (.bool true))))
                have K2 := Lib.hid (fun W => (by have h1 := in_any Q.co 65535 W; rw [b2] at h1; exact h1 : Calls Tryz.prog 85 #[.int .i64 Q.co, .int .i64 65535] W (New W (.bool true))))
                have K3 := Lib.hid (fun W => (by have h1 := in_any Q.il 3 W; rw [b3] at h1; exact h1 : Calls Tryz.prog 85 #[.int .i64 Q.il, .int .i64 3] W (New W (.bool true))))
                have K4 := Lib.hid (fun W => (by have h1 := in_any Q.cc 3 W; rw [b4] at h1; exact h1 : Calls Tryz.prog 85 #[.int .i64 Q.cc, .int .i64 3] W (New W (.bool true))))
                have K5 := Lib.hid (fun W => (by have h1 := in_any Q.pg 15 W; rw [b5] at h1; exact h1 : Calls Tryz.prog 85 #[.int .i64 Q.pg, .int .i64 15] W (New W (.bool true))))
                have K6 := Lib.hid (fun W => (by have h1 := in_any Q.ad 16777215 W; rw [b6] at h1; exact h1 : Calls Tryz.prog 85 #[.int .i64 Q.ad, .int .i64 16777215] W (New W (.bool false))))
                have e : okB Q = false := okB_false Q _ _ b6 (by simp [fldsP])
                rw [e]
                clear e b0 b1 b2 b3 b4 b5 b6
                go_enter Tryz.func39, Tryz.ntmps39
                go_wp2_with fail
                refine (K0.out _).mono ?_
                rintro e w1 ⟨rfl, hb⟩
                have H1 := Lib.hid (hb)
                clear hb K0
                have c1 : w1.cell? ⟨w.heap.size, 1, none⟩ = some (.int .i64 Q.k) := (HB.out.below H1.out).cell 1
                go_wp2_with fail
                refine (K1.out _).mono ?_
                rintro e w2 ⟨rfl, hb⟩
                have H2 := Lib.hid (bel0 H1.out hb)
                clear hb K1 c1 H1
                have c2 : w2.cell? ⟨w.heap.size, 5, none⟩ = some (.int .i64 Q.co) := (HB.out.below H2.out).cell 5
                go_wp2_with fail
                refine (K2.out _).mono ?_
                rintro e w3 ⟨rfl, hb⟩
                have H3 := Lib.hid (bel0 H2.out hb)
                clear hb K2 c2 H2
                have c3 : w3.cell? ⟨w.heap.size, 6, none⟩ = some (.int .i64 Q.il) := (HB.out.below H3.out).cell 6
                go_wp2_with fail
                refine (K3.out _).mono ?_
                rintro e w4 ⟨rfl, hb⟩
                have H4 := Lib.hid (bel0 H3.out hb)
                clear hb K3 c3 H3
                have c4 : w4.cell? ⟨w.heap.size, 7, none⟩ = some (.int .i64 Q.cc) := (HB.out.below H4.out).cell 7
                go_wp2_with fail
                refine (K4.out _).mono ?_
                rintro e w5 ⟨rfl, hb⟩
                have H5 := Lib.hid (bel0 H4.out hb)
                clear hb K4 c4 H4
                have c5 : w5.cell? ⟨w.heap.size, 8, none⟩ = some (.int .i64 Q.pg) := (HB.out.below H5.out).cell 8
                go_wp2_with fail
                refine (K5.out _).mono ?_
                rintro e w6 ⟨rfl, hb⟩
                have H6 := Lib.hid (bel0 H5.out hb)
                clear hb K5 c5 H5
                have c6 : w6.cell? ⟨w.heap.size, 9, none⟩ = some (.int .i64 Q.ad) := (HB.out.below H6.out).cell 9
                go_wp2_with fail
                refine (K6.out _).mono ?_
                rintro e w7 ⟨rfl, hb⟩
                have H7 := Lib.hid (bel0 H6.out hb)
                clear hb K6 c6 H6
                go_wp2
                go_ret
                exact ⟨rfl, bel0 (below_new _ _) H7.out⟩
              | true =>
                have K0 := Lib.hid (fun W => (by have h1 := in_any Q.m 255 W; rw [b0] at h1; exact h1 : Calls Tryz.prog 85 #[.int .i64 Q.m, .int .i64 255] W (New W (.bool true))))
                have K1 := Lib.hid (fun W => (by have h1 := in_any Q.k 15 W; rw [b1] at h1; exact h1 : Calls Tryz.prog 85 #[.int .i64 Q.k, .int .i64 15] W (New W (.bool true))))
                have K2 := Lib.hid (fun W => (by have h1 := in_any Q.co 65535 W; rw [b2] at h1; exact h1 : Calls Tryz.prog 85 #[.int .i64 Q.co, .int .i64 65535] W (New W (.bool true))))
                have K3 := Lib.hid (fun W => (by have h1 := in_any Q.il 3 W; rw [b3] at h1; exact h1 : Calls Tryz.prog 85 #[.int .i64 Q.il, .int .i64 3] W (New W (.bool true))))
                have K4 := Lib.hid (fun W => (by have h1 := in_any Q.cc 3 W; rw [b4] at h1; exact h1 : Calls Tryz.prog 85 #[.int .i64 Q.cc, .int .i64 3] W (New W (.bool true))))
                have K5 := Lib.hid (fun W => (by have h1 := in_any Q.pg 15 W; rw [b5] at h1; exact h1 : Calls Tryz.prog 85 #[.int .i64 Q.pg, .int .i64 15] W (New W (.bool true))))
                have K6 := Lib.hid (fun W => (by have h1 := in_any Q.ad 16777215 W; rw [b6] at h1; exact h1 : Calls Tryz.prog 85 #[.int .i64 Q.ad, .int .i64 16777215] W (New W (.bool true))))
                have e : okB Q = true := (okB_iff Q).2 (by simp [fldsP, b0, b1, b2, b3, b4, b5, b6])
                rw [e]
                clear e b0 b1 b2 b3 b4 b5 b6
                go_enter Tryz.func39, Tryz.ntmps39
                go_wp2_with fail
                refine (K0.out _).mono ?_
                rintro e w1 ⟨rfl, hb⟩
                have H1 := Lib.hid (hb)
                clear hb K0
                have c1 : w1.cell? ⟨w.heap.size, 1, none⟩ = some (.int .i64 Q.k) := (HB.out.below H1.out).cell 1
                go_wp2_with fail
                refine (K1.out _).mono ?_
                rintro e w2 ⟨rfl, hb⟩
                have H2 := Lib.hid (bel0 H1.out hb)
                clear hb K1 c1 H1
                have c2 : w2.cell? ⟨w.heap.size, 5, none⟩ = some (.int .i64 Q.co) := (HB.out.below H2.out).cell 5
                go_wp2_with fail
                refine (K2.out _).mono ?_
                rintro e w3 ⟨rfl, hb⟩
                have H3 := Lib.hid (bel0 H2.out hb)
                clear hb K2 c2 H2
                have c3 : w3.cell? ⟨w.heap.size, 6, none⟩ = some (.int .i64 Q.il) := (HB.out.below H3.out).cell 6
                go_wp2_with fail
                refine (K3.out _).mono ?_
                rintro e w4 ⟨rfl, hb⟩
                have H4 := Lib.hid (bel0 H3.out hb)
                clear hb K3 c3 H3
                have c4 : w4.cell? ⟨w.heap.size, 7, none⟩ = some (.int .i64 Q.cc) := (HB.out.below H4.out).cell 7
                go_wp2_with fail
                refine (K4.out _).mono ?_
                rintro e w5 ⟨rfl, hb⟩
                have H5 := Lib.hid (bel0 H4.out hb)
                clear hb K4 c4 H4
                have c5 : w5.cell? ⟨w.heap.size, 8, none⟩ = some (.int .i64 Q.pg) := (HB.out.below H5.out).cell 8
                go_wp2_with fail
                refine (K5.out _).mono ?_
                rintro e w6 ⟨rfl, hb⟩
                have H6 := Lib.hid (bel0 H5.out hb)
                clear hb K5 c5 H5
                have c6 : w6.cell? ⟨w.heap.size, 9, none⟩ = some (.int .i64 Q.ad) := (HB.out.below H6.out).cell 9
                go_wp2_with fail
                refine (K6.out _).mono ?_
                rintro e w7 ⟨rfl, hb⟩
                have H7 := Lib.hid (bel0 H6.out hb)
                clear hb K6 c6 H6
                go_wp2
                go_ret
                exact ⟨rfl, bel0 (below_new _ _) H7.out⟩
theorem w64 {n : Int} (h0 : -9223372036854775808 ≤ n) (h1 : n < 9223372036854775808) : wrap64 n = n := by unfold wrap64; omega
theorem renc_cells (Q : Psw) (h : okP Q) : (#[.int .u8 (Q.m % 256), .int .u8 (wrap64 (wrap64 (16 * Q.k) + wrap64 (wrap64 (fl Q.ma 4 + fl Q.wa 2) + fl Q.pr 1)) % 256), .int .u8 (wrap64 (Q.co.tdiv 256) % 256), .int .u8 (Q.co.tmod 256 % 256), .int .u8 (wrap64 (wrap64 (wrap64 (64 * Q.il) + wrap64 (16 * Q.cc)) + Q.pg) % 256), .int .u8 (wrap64 (Q.ad.tdiv 65536) % 256), .int .u8 ((wrap64 (Q.ad.tdiv 256)).tmod 256 % 256), .int .u8 (Q.ad.tmod 256 % 256)] : Array Value) = (bsU (encL Q)).toArray := by
  have hf := fls_le Q
  have f1 := fl_le Q.ma 4 (by decide)
  have f2 := fl_le Q.wa 2 (by decide)
  have f3 := fl_le Q.pr 1 (by decide)
  have ef : wrap64 (wrap64 (fl Q.ma 4 + fl Q.wa 2) + fl Q.pr 1) = fls Q := by
    rw [w64 (n := fl Q.ma 4 + fl Q.wa 2) (by omega) (by omega), w64 (by omega) (by omega)]
    rfl
  obtain ⟨hm, hk, hco, hil, hcc, hpg, had⟩ := h
  rw [ef, w64 (n := 16 * Q.k) (by omega) (by omega), w64 (n := 16 * Q.k + fls Q) (by omega) (by omega), Int.tdiv_eq_ediv_of_nonneg hco.1, Int.tmod_eq_emod_of_nonneg hco.1, Int.tdiv_eq_ediv_of_nonneg had.1, Int.tdiv_eq_ediv_of_nonneg had.1, Int.tmod_eq_emod_of_nonneg had.1,
    w64 (n := Q.co / 256) (by omega) (by omega), w64 (n := 64 * Q.il) (by omega) (by omega), w64 (n := 16 * Q.cc) (by omega) (by omega), w64 (n := 64 * Q.il + 16 * Q.cc) (by omega) (by omega), w64 (n := 64 * Q.il + 16 * Q.cc + Q.pg) (by omega) (by omega), w64 (n := Q.ad / 65536) (by omega) (by omega), w64 (n := Q.ad / 256) (by omega) (by omega), Int.tmod_eq_emod_of_nonneg (by omega : 0 ≤ Q.ad / 256)]
  simp only [bsU, encL, List.map_cons, List.map_nil]
  rw [by8_nat (z := Q.m) (by omega) (by omega), by8_nat (z := 16 * Q.k + fls Q) (by omega) (by omega), by8_nat (z := Q.co / 256) (by omega) (by omega), by8_nat (z := Q.co % 256) (by omega) (by omega), by8_nat (z := 64 * Q.il + 16 * Q.cc + Q.pg) (by omega) (by omega), by8_nat (z := Q.ad / 65536) (by omega) (by omega), by8_nat (z := Q.ad / 256 % 256) (by omega) (by omega), by8_nat (z := Q.ad % 256) (by omega) (by omega),
    show Q.m % 256 = Q.m by omega, show (16 * Q.k + fls Q) % 256 = 16 * Q.k + fls Q by omega, show Q.co / 256 % 256 = Q.co / 256 by omega, show Q.co % 256 % 256 = Q.co % 256 by omega, show (64 * Q.il + 16 * Q.cc + Q.pg) % 256 = 64 * Q.il + 16 * Q.cc + Q.pg by omega, show Q.ad / 65536 % 256 = Q.ad / 65536 by omega, show Q.ad / 256 % 256 % 256 = Q.ad / 256 % 256 by omega, show Q.ad % 256 % 256 = Q.ad % 256 by omega]
end E
end Go.Proofs.YtfopjnfphlkcgaaGreat
namespace Go.Proofs.YtfopjnfphlkcgaaGreat
open Go.RowKit
set_option linter.unusedVariables false
namespace E

theorem rbr_raw {m : Int} (h0 : 0 ≤ m) (h1 : m ≤ 15) : (Int.tmod (wrap64 (Int.tdiv m 8)) 2 == 1) = brB m 0 ∧ (Int.tmod (wrap64 (Int.tdiv m 4)) 2 == 1) = brB m 1 ∧ (Int.tmod (wrap64 (Int.tdiv m 2)) 2 == 1) = brB m 2 ∧ (Int.tmod m 2 == 1) = brB m 3 := by
  obtain ⟨i, rfl⟩ := fin_of' (n := 16) h0 (by omega)
  revert i
  decide +kernel
set_option maxRecDepth 100000 in
theorem rbranch_any (m c : Int) (w : World) : Calls Tryz.prog 87 #[.int .i64 m, .int .i64 c] w (New w (.bool (brB m c))) := by
  rcases (by omega : (m < 0 ∨ 15 < m) ∨ ((0 ≤ m ∧ m ≤ 15) ∧ (c < 0 ∨ 3 < c)) ∨ ((0 ≤ m ∧ m ≤ 15) ∧ (c = 0 ∨ c = 1 ∨ c = 2 ∨ c = 3))) with h | ⟨h0, h⟩ | ⟨h0, h⟩
  · rw [br_no (by omega)]
    have K1 := Lib.hid (fun W => (by have h1 := in_any m 15 W; rw [show pinB m 15 = false by simp only [pinB, Bool.and_eq_false_iff, decide_eq_false_iff_not]; omega] at h1; exact h1 : Calls Tryz.prog 85 #[.int .i64 m, .int .i64 15] W (New W (.bool false))))
    clear h
    go_enter Tryz.func87, Tryz.ntmps87
    go_wp2_with fail
    refine (K1.out _).mono ?_
    rintro e w1 ⟨rfl, hb⟩
    have HX := Lib.hid hb
    clear hb K1
    go_wp2
    go_ret
    exact ⟨rfl, HX.out⟩
  · rw [br_no (by omega)]
    have K1 := Lib.hid (fun W => (by have h1 := in_any m 15 W; rw [show pinB m 15 = true by simp only [pinB, Bool.and_eq_true, decide_eq_true_eq]; omega] at h1; exact h1 : Calls Tryz.prog 85 #[.int .i64 m, .int .i64 15] W (New W (.bool true))))
    have K2 := Lib.hid (fun W => (by have h1 := in_any c 3 W; rw [show pinB c 3 = false by simp only [pinB, Bool.and_eq_false_iff, decide_eq_false_iff_not]; omega] at h1; exact h1 : Calls Tryz.prog 85 #[.int .i64 c, .int .i64 3] W (New W (.bool false))))
    clear h h0
    go_enter Tryz.func87, Tryz.ntmps87
    go_wp2_with fail
    refine (K1.out _).mono ?_
    rintro e w1 ⟨rfl, hb⟩
    have HX := Lib.hid hb
    clear hb K1
    go_wp2_with fail
    refine (K2.out _).mono ?_
    rintro e w2 ⟨rfl, hb⟩
    have HY := Lib.hid (bel0 HX.out hb)
    clear hb K2 HX
    go_wp2
    go_ret
    exact ⟨rfl, HY.out⟩
  · obtain ⟨r0, r1, r2, r3⟩ := rbr_raw h0.1 h0.2
    have K1 := Lib.hid (fun W => (by have h1 := in_any m 15 W; rw [show pinB m 15 = true by simp only [pinB, Bool.and_eq_true, decide_eq_true_eq]; omega] at h1; exact h1 : Calls Tryz.prog 85 #[.int .i64 m, .int .i64 15] W (New W (.bool true))))
    clear h0
    rcases h with rfl | rfl | rfl | rfl
    · have HR := Lib.hid r0
      clear r0 r1 r2 r3
      have K2 := Lib.hid (fun W => (in_any 0 3 W : Calls Tryz.prog 85 #[.int .i64 0, .int .i64 3] W (New W (.bool true))))
      go_enter Tryz.func87, Tryz.ntmps87
      go_wp2_with fail
      refine (K1.out _).mono ?_
      rintro e w1 ⟨rfl, hb⟩
      have HX := Lib.hid hb
      clear hb K1
      go_wp2_with fail
      refine (K2.out _).mono ?_
      rintro e w2 ⟨rfl, hb⟩
      have HY := Lib.hid (bel0 HX.out hb)
      clear hb K2 HX
      go_wp2
      go_ret
      exact ⟨congrArg (fun x => Ending.returned (.bool x)) HR.out, bel0 HY.out (below_new _ _)⟩
    · have HR := Lib.hid r1
      clear r0 r1 r2 r3
      have K2 := Lib.hid (fun W => (in_any 1 3 W : Calls Tryz.prog 85 #[.int .i64 1, .int .i64 3] W (New W (.bool true))))
      go_enter Tryz.func87, Tryz.ntmps87
      go_wp2_with fail
      refine (K1.out _).mono ?_
      rintro e w1 ⟨rfl, hb⟩
      have HX := Lib.hid hb
      clear hb K1
      go_wp2_with fail
      refine (K2.out _).mono ?_
      rintro e w2 ⟨rfl, hb⟩
      have HY := Lib.hid (bel0 HX.out hb)
      clear hb K2 HX
      go_wp2
      go_ret
      exact ⟨congrArg (fun x => Ending.returned (.bool x)) HR.out, bel0 HY.out (below_new _ _)⟩
    · have HR := Lib.hid r2
      clear r0 r1 r2 r3
      have K2 := Lib.hid (fun W => (in_any 2 3 W : Calls Tryz.prog 85 #[.int .i64 2, .int .i64 3] W (New W (.bool true))))
      go_enter Tryz.func87, Tryz.ntmps87
      go_wp2_with fail
      refine (K1.out _).mono ?_
      rintro e w1 ⟨rfl, hb⟩
      have HX := Lib.hid hb
      clear hb K1
      go_wp2_with fail
      refine (K2.out _).mono ?_
      rintro e w2 ⟨rfl, hb⟩
      have HY := Lib.hid (bel0 HX.out hb)
      clear hb K2 HX
      go_wp2
      go_ret
      exact ⟨congrArg (fun x => Ending.returned (.bool x)) HR.out, bel0 HY.out (below_new _ _)⟩
    · have HR := Lib.hid r3
      clear r0 r1 r2 r3
      have K2 := Lib.hid (fun W => (in_any 3 3 W : Calls Tryz.prog 85 #[.int .i64 3, .int .i64 3] W (New W (.bool true))))
      go_enter Tryz.func87, Tryz.ntmps87
      go_wp2_with fail
      refine (K1.out _).mono ?_
      rintro e w1 ⟨rfl, hb⟩
      have HX := Lib.hid hb
      clear hb K1
      go_wp2_with fail
      refine (K2.out _).mono ?_
      rintro e w2 ⟨rfl, hb⟩
      have HY := Lib.hid (bel0 HX.out hb)
      clear hb K2 HX
      go_wp2
      go_ret
      exact ⟨congrArg (fun x => Ending.returned (.bool x)) HR.out, bel0 HY.out (below_new _ _)⟩

theorem rpr_raw {g : Int} (h0 : 0 ≤ g) (h1 : g ≤ 15) : (wrap64 (Int.tdiv g 8) == 1) = (g / 8 == 1) ∧ (Int.tmod (wrap64 (Int.tdiv g 4)) 2 == 1) = (g / 4 % 2 == 1) := by
  obtain ⟨i, rfl⟩ := fin_of' (n := 16) h0 (by omega)
  revert i
  decide +kernel
theorem rch_raw {m : Int} (h0 : 0 ≤ m) (h1 : m ≤ 255) : ((Int.tmod (wrap64 (Int.tdiv m 128)) 2 == 1) = chB m 0 ∧ (Int.tmod (wrap64 (Int.tdiv m 64)) 2 == 1) = chB m 1 ∧ (Int.tmod (wrap64 (Int.tdiv m 32)) 2 == 1) = chB m 2 ∧ (Int.tmod (wrap64 (Int.tdiv m 16)) 2 == 1) = chB m 3) ∧ ((Int.tmod (wrap64 (Int.tdiv m 8)) 2 == 1) = chB m 4 ∧ (Int.tmod (wrap64 (Int.tdiv m 4)) 2 == 1) = chB m 5 ∧ (Int.tmod (wrap64 (Int.tdiv m 2)) 2 == 1) = chB m 6) ∧ (Int.tmod m 2 == 1) = (m % 2 == 1) := by
  obtain ⟨i, rfl⟩ := fin_of' (n := 256) h0 (by omega)
  revert i
  decide +kernel
end E
end Go.Proofs.YtfopjnfphlkcgaaGreat

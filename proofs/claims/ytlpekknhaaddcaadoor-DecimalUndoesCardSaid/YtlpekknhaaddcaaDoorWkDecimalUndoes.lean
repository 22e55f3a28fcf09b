/- The walk of the statement DecimalUndoes: it answers true, and below its own memory nothing turns. -/
import Derived.Test.YtlpekknhaaddcaaDoorDcSv
import Derived.Test.YtlpekknhaaddcaaDoorDcLaid
namespace Go.Proofs.YtlpekknhaaddcaaDoor.decimalUndoes
open Go.ChangeShapes Go.WideShapes Go.ChangeAt Go.RowKit Go.ChangeMaps E
set_option linter.unusedVariables false

set_option maxRecDepth 100000 in
set_option maxHeartbeats 4000000 in
theorem un_c (p q : Option Addr) (c d : Nat) (la lb F G S : List UInt8) (cc dd co ov sc no : Nat) (w : World) (HG : RowKit.Hid (Sg w)) (HR : RowKit.Hid (Rd w p la)) (HQ : RowKit.Hid (Rd w q lb)) (hco : co ≠ 0)
    (HA : RowKit.Hid (∀ W, Rd W p la → Rd W q lb → Sg W → Calls Tryd.prog 13 #[.slice p la.length c, .slice q lb.length d] W (fun e w' => ∃ sv, e = .returned (.tuple #[sv, .int .i64 (cc : Int), .int .i64 (co : Int)]) ∧ SvB w' sv F ∧ Below W.heap.size W w')))
    (HB : RowKit.Hid (∀ W, Rd W q lb → Rd W p la → Sg W → Calls Tryd.prog 13 #[.slice q lb.length d, .slice p la.length c] W (fun e w' => ∃ sv, e = .returned (.tuple #[sv, .int .i64 (dd : Int), .int .i64 (ov : Int)]) ∧ SvB w' sv G ∧ Below W.heap.size W w'))) :
    Calls Tryd.prog 10 #[.slice p la.length c, .slice q lb.length d] w (New w (.bool true)) := by
  go_enter Tryd.func10, Tryd.ntmps10
  go_wp2_with fail
  refine (HA.out w HR.out HQ.out HG.out).mono ?_
  rintro e w1 ⟨s1, rfl, h1, hb⟩
  have HB1 := Lib.hid hb
  have HS1 := Lib.hid h1
  clear h1 hb
  go_wp2_with fail
  refine (HB.out w1 (HQ.out.below HB1.out) (HR.out.below HB1.out) (HG.out.below HB1.out)).mono ?_
  rintro e w2 ⟨s2, rfl, h2, hb⟩
  have HB2 := Lib.hid (bel0 HB1.out hb)
  have HS2 := Lib.hid (HS1.out.below hb)
  clear h2 hb
  go_wp2_with fail
  refine (works_any w2 (HG.out.below HB2.out)).mono ?_
  rintro e w9 ⟨rfl, hb⟩
  have HB9 := Lib.hid (bel0 HB2.out hb)
  clear hb
  go_wp2
  go_ret
  exact ⟨rfl, HB9.out⟩
set_option maxRecDepth 100000 in
set_option maxHeartbeats 4000000 in
theorem un_a1 (p q : Option Addr) (c d : Nat) (la lb F G S : List UInt8) (cc dd co ov sc no : Nat) (w : World) (HG : RowKit.Hid (Sg w)) (HR : RowKit.Hid (Rd w p la)) (HQ : RowKit.Hid (Rd w q lb)) (hno : no ≠ 0) (HL : RowKit.Hid (F.length = la.length))
    (HA : RowKit.Hid (∀ W, Rd W p la → Rd W q lb → Sg W → Calls Tryd.prog 13 #[.slice p la.length c, .slice q lb.length d] W (fun e w' => ∃ sv, e = .returned (.tuple #[sv, .int .i64 (cc : Int), .int .i64 0]) ∧ SvB w' sv F ∧ Below W.heap.size W w')))
    (HB : RowKit.Hid (∀ W, Rd W q lb → Rd W p la → Sg W → Calls Tryd.prog 13 #[.slice q lb.length d, .slice p la.length c] W (fun e w' => ∃ sv, e = .returned (.tuple #[sv, .int .i64 (cc : Int), .int .i64 0]) ∧ SvB w' sv G ∧ Below W.heap.size W w')))
    (HS : RowKit.Hid (∀ p1 c1 W, Rd W p1 F → Rd W q lb → Sg W → Calls Tryd.prog 15 #[.slice p1 la.length c1, .slice q lb.length d] W (fun e w' => ∃ sv, e = .returned (.tuple #[sv, .int .i64 (sc : Int), .int .i64 (no : Int)]) ∧ SvB w' sv S ∧ Below W.heap.size W w'))) :
    Calls Tryd.prog 10 #[.slice p la.length c, .slice q lb.length d] w (New w (.bool true)) := by
  go_enter Tryd.func10, Tryd.ntmps10
  go_wp2_with fail
  refine (HA.out w HR.out HQ.out HG.out).mono ?_
  rintro e w1 ⟨s1, rfl, h1, hb⟩
  have HB1 := Lib.hid hb
  have HS1 := Lib.hid h1
  clear h1 hb
  go_wp2_with fail
  refine (HB.out w1 (HQ.out.below HB1.out) (HR.out.below HB1.out) (HG.out.below HB1.out)).mono ?_
  rintro e w2 ⟨s2, rfl, h2, hb⟩
  have HB2 := Lib.hid (bel0 HB1.out hb)
  have HS2 := Lib.hid (HS1.out.below hb)
  clear h2 hb
  obtain ⟨p1, c1, rfl, hr1, _⟩ := HS2.out
  have HR1 := Lib.hid hr1
  clear hr1 HS1 HS2
  rw [HL.out]
  go_wp2_with fail
  refine (HS.out p1 c1 w2 HR1.out (HQ.out.below HB2.out) (HG.out.below HB2.out)).mono ?_
  rintro e w3 ⟨s3, rfl, h3, hb⟩
  have HB3 := Lib.hid (bel0 HB2.out hb)
  have HS3 := Lib.hid h3
  clear h3 hb HR1
  go_wp2_with fail
  refine (works_any w3 (HG.out.below HB3.out)).mono ?_
  rintro e w9 ⟨rfl, hb⟩
  have HB9 := Lib.hid (bel0 HB3.out hb)
  clear hb
  go_wp2
  go_ret
  exact ⟨rfl, HB9.out⟩
set_option maxRecDepth 100000 in
set_option maxHeartbeats 4000000 in
theorem un_a0 (p q : Option Addr) (c d : Nat) (la lb F G S : List UInt8) (cc dd co ov sc no : Nat) (w : World) (HG : RowKit.Hid (Sg w)) (HR : RowKit.Hid (Rd w p la)) (HQ : RowKit.Hid (Rd w q lb)) (HL : RowKit.Hid (F.length = la.length))
    (HA : RowKit.Hid (∀ W, Rd W p la → Rd W q lb → Sg W → Calls Tryd.prog 13 #[.slice p la.length c, .slice q lb.length d] W (fun e w' => ∃ sv, e = .returned (.tuple #[sv, .int .i64 (cc : Int), .int .i64 0]) ∧ SvB w' sv F ∧ Below W.heap.size W w')))
    (HB : RowKit.Hid (∀ W, Rd W q lb → Rd W p la → Sg W → Calls Tryd.prog 13 #[.slice q lb.length d, .slice p la.length c] W (fun e w' => ∃ sv, e = .returned (.tuple #[sv, .int .i64 (cc : Int), .int .i64 0]) ∧ SvB w' sv G ∧ Below W.heap.size W w')))
    (HS : RowKit.Hid (∀ p1 c1 W, Rd W p1 F → Rd W q lb → Sg W → Calls Tryd.prog 15 #[.slice p1 la.length c1, .slice q lb.length d] W (fun e w' => ∃ sv, e = .returned (.tuple #[sv, .int .i64 (sc : Int), .int .i64 0]) ∧ SvB w' sv S ∧ Below W.heap.size W w')))
    (HE : RowKit.Hid (∀ p3 c3 W, Rd W p3 S → Rd W p la → Sg W → Calls Tryd.prog 33 #[.slice p3 S.length c3, .slice p la.length c] W (New W (.bool true)))) :
    Calls Tryd.prog 10 #[.slice p la.length c, .slice q lb.length d] w (New w (.bool true)) := by
  go_enter Tryd.func10, Tryd.ntmps10
  go_wp2_with fail
  refine (HA.out w HR.out HQ.out HG.out).mono ?_
  rintro e w1 ⟨s1, rfl, h1, hb⟩
  have HB1 := Lib.hid hb
  have HS1 := Lib.hid h1
  clear h1 hb
  go_wp2_with fail
  refine (HB.out w1 (HQ.out.below HB1.out) (HR.out.below HB1.out) (HG.out.below HB1.out)).mono ?_
  rintro e w2 ⟨s2, rfl, h2, hb⟩
  have HB2 := Lib.hid (bel0 HB1.out hb)
  have HS2 := Lib.hid (HS1.out.below hb)
  clear h2 hb
  obtain ⟨p1, c1, rfl, hr1, _⟩ := HS2.out
  have HR1 := Lib.hid hr1
  clear hr1 HS1 HS2
  rw [HL.out]
  go_wp2_with fail
  refine (HS.out p1 c1 w2 HR1.out (HQ.out.below HB2.out) (HG.out.below HB2.out)).mono ?_
  rintro e w3 ⟨s3, rfl, h3, hb⟩
  have HB3 := Lib.hid (bel0 HB2.out hb)
  have HS3 := Lib.hid h3
  clear h3 hb HR1
  obtain ⟨p3, c3, rfl, hr3, _⟩ := HS3.out
  have HR3 := Lib.hid hr3
  clear hr3 HS3
  go_wp2_with fail
  refine (HE.out p3 c3 w3 HR3.out (HR.out.below HB3.out) (HG.out.below HB3.out)).mono ?_
  rintro e w4 ⟨rfl, hb⟩
  have HB4 := Lib.hid (bel0 HB3.out hb)
  clear hb HR3
  go_wp2_with fail
  refine (works_any w4 (HG.out.below HB4.out)).mono ?_
  rintro e w9 ⟨rfl, hb⟩
  have HB9 := Lib.hid (bel0 HB4.out hb)
  clear hb
  go_wp2
  go_ret
  exact ⟨rfl, HB9.out⟩
set_option maxRecDepth 100000 in
set_option maxHeartbeats 4000000 in
theorem un_b1 (p q : Option Addr) (c d : Nat) (la lb F G S : List UInt8) (cc dd co ov sc no : Nat) (w : World) (HG : RowKit.Hid (Sg w)) (HR : RowKit.Hid (Rd w p la)) (HQ : RowKit.Hid (Rd w q lb)) (hov : ov ≠ 0) (hno : no ≠ 0) (HL : RowKit.Hid (F.length = la.length))
    (HA : RowKit.Hid (∀ W, Rd W p la → Rd W q lb → Sg W → Calls Tryd.prog 13 #[.slice p la.length c, .slice q lb.length d] W (fun e w' => ∃ sv, e = .returned (.tuple #[sv, .int .i64 (cc : Int), .int .i64 0]) ∧ SvB w' sv F ∧ Below W.heap.size W w')))
    (HB : RowKit.Hid (∀ W, Rd W q lb → Rd W p la → Sg W → Calls Tryd.prog 13 #[.slice q lb.length d, .slice p la.length c] W (fun e w' => ∃ sv, e = .returned (.tuple #[sv, .int .i64 (dd : Int), .int .i64 (ov : Int)]) ∧ SvB w' sv G ∧ Below W.heap.size W w')))
    (HS : RowKit.Hid (∀ p1 c1 W, Rd W p1 F → Rd W q lb → Sg W → Calls Tryd.prog 15 #[.slice p1 la.length c1, .slice q lb.length d] W (fun e w' => ∃ sv, e = .returned (.tuple #[sv, .int .i64 (sc : Int), .int .i64 (no : Int)]) ∧ SvB w' sv S ∧ Below W.heap.size W w'))) :
    Calls Tryd.prog 10 #[.slice p la.length c, .slice q lb.length d] w (New w (.bool true)) := by
  go_enter Tryd.func10, Tryd.ntmps10
  go_wp2_with fail
  refine (HA.out w HR.out HQ.out HG.out).mono ?_
  rintro e w1 ⟨s1, rfl, h1, hb⟩
  have HB1 := Lib.hid hb
  have HS1 := Lib.hid h1
  clear h1 hb
  go_wp2_with fail
  refine (HB.out w1 (HQ.out.below HB1.out) (HR.out.below HB1.out) (HG.out.below HB1.out)).mono ?_
  rintro e w2 ⟨s2, rfl, h2, hb⟩
  have HB2 := Lib.hid (bel0 HB1.out hb)
  have HS2 := Lib.hid (HS1.out.below hb)
  clear h2 hb
  obtain ⟨p1, c1, rfl, hr1, _⟩ := HS2.out
  have HR1 := Lib.hid hr1
  clear hr1 HS1 HS2
  rw [HL.out]
  go_wp2_with fail
  refine (HS.out p1 c1 w2 HR1.out (HQ.out.below HB2.out) (HG.out.below HB2.out)).mono ?_
  rintro e w3 ⟨s3, rfl, h3, hb⟩
  have HB3 := Lib.hid (bel0 HB2.out hb)
  have HS3 := Lib.hid h3
  clear h3 hb HR1
  go_wp2_with fail
  refine (works_any w3 (HG.out.below HB3.out)).mono ?_
  rintro e w9 ⟨rfl, hb⟩
  have HB9 := Lib.hid (bel0 HB3.out hb)
  clear hb
  go_wp2
  go_ret
  exact ⟨rfl, HB9.out⟩
set_option maxRecDepth 100000 in
set_option maxHeartbeats 4000000 in
theorem un_b0 (p q : Option Addr) (c d : Nat) (la lb F G S : List UInt8) (cc dd co ov sc no : Nat) (w : World) (HG : RowKit.Hid (Sg w)) (HR : RowKit.Hid (Rd w p la)) (HQ : RowKit.Hid (Rd w q lb)) (hov : ov ≠ 0) (HL : RowKit.Hid (F.length = la.length))
    (HA : RowKit.Hid (∀ W, Rd W p la → Rd W q lb → Sg W → Calls Tryd.prog 13 #[.slice p la.length c, .slice q lb.length d] W (fun e w' => ∃ sv, e = .returned (.tuple #[sv, .int .i64 (cc : Int), .int .i64 0]) ∧ SvB w' sv F ∧ Below W.heap.size W w')))
    (HB : RowKit.Hid (∀ W, Rd W q lb → Rd W p la → Sg W → Calls Tryd.prog 13 #[.slice q lb.length d, .slice p la.length c] W (fun e w' => ∃ sv, e = .returned (.tuple #[sv, .int .i64 (dd : Int), .int .i64 (ov : Int)]) ∧ SvB w' sv G ∧ Below W.heap.size W w')))
    (HS : RowKit.Hid (∀ p1 c1 W, Rd W p1 F → Rd W q lb → Sg W → Calls Tryd.prog 15 #[.slice p1 la.length c1, .slice q lb.length d] W (fun e w' => ∃ sv, e = .returned (.tuple #[sv, .int .i64 (sc : Int), .int .i64 0]) ∧ SvB w' sv S ∧ Below W.heap.size W w')))
    (HE : RowKit.Hid (∀ p3 c3 W, Rd W p3 S → Rd W p la → Sg W → Calls Tryd.prog 33 #[.slice p3 S.length c3, .slice p la.length c] W (New W (.bool true)))) :
    Calls Tryd.prog 10 #[.slice p la.length c, .slice q lb.length d] w (New w (.bool true)) := by
  go_enter Tryd.func10, Tryd.ntmps10
  go_wp2_with fail
  refine (HA.out w HR.out HQ.out HG.out).mono ?_
  rintro e w1 ⟨s1, rfl, h1, hb⟩
  have HB1 := Lib.hid hb
  have HS1 := Lib.hid h1
  clear h1 hb
  go_wp2_with fail
  refine (HB.out w1 (HQ.out.below HB1.out) (HR.out.below HB1.out) (HG.out.below HB1.out)).mono ?_
  rintro e w2 ⟨s2, rfl, h2, hb⟩
  have HB2 := Lib.hid (bel0 HB1.out hb)
  have HS2 := Lib.hid (HS1.out.below hb)
  clear h2 hb
  obtain ⟨p1, c1, rfl, hr1, _⟩ := HS2.out
  have HR1 := Lib.hid hr1
  clear hr1 HS1 HS2
  rw [HL.out]
  go_wp2_with fail
  refine (HS.out p1 c1 w2 HR1.out (HQ.out.below HB2.out) (HG.out.below HB2.out)).mono ?_
  rintro e w3 ⟨s3, rfl, h3, hb⟩
  have HB3 := Lib.hid (bel0 HB2.out hb)
  have HS3 := Lib.hid h3
  clear h3 hb HR1
  obtain ⟨p3, c3, rfl, hr3, _⟩ := HS3.out
  have HR3 := Lib.hid hr3
  clear hr3 HS3
  go_wp2_with fail
  refine (HE.out p3 c3 w3 HR3.out (HR.out.below HB3.out) (HG.out.below HB3.out)).mono ?_
  rintro e w4 ⟨rfl, hb⟩
  have HB4 := Lib.hid (bel0 HB3.out hb)
  clear hb HR3
  go_wp2_with fail
  refine (works_any w4 (HG.out.below HB4.out)).mono ?_
  rintro e w9 ⟨rfl, hb⟩
  have HB9 := Lib.hid (bel0 HB4.out hb)
  clear hb
  go_wp2
  go_ret
  exact ⟨rfl, HB9.out⟩
theorem walk (p : Option Addr) (c : Nat) (la : List UInt8) (hle : la.length ≤ c) (hc : c ≤ 9223372036854775807) (hn : p = none → c = 0) (q : Option Addr) (d : Nat) (lb : List UInt8) (kle : lb.length ≤ d) (kc : d ≤ 9223372036854775807) (kn : q = none → d = 0) (w : World) (hg : Sg w) (hr : Rd w p la) (hq : Rd w q lb) :
    Calls Tryd.prog 10 #[.slice p la.length c, .slice q lb.length d] w (New w (.bool true)) := by
  have hA : ∀ W, Rd W p la → Rd W q lb → Sg W → Calls Tryd.prog 13 #[.slice p la.length c, .slice q lb.length d] W (R3Post W (addL la lb)) := fun W h1 h2 h3 => padd_any p q c d la lb W h1 h2 h3
  have hB : ∀ W, Rd W q lb → Rd W p la → Sg W → Calls Tryd.prog 13 #[.slice q lb.length d, .slice p la.length c] W (R3Post W (addL lb la)) := fun W h1 h2 h3 => padd_any q p d c lb la W h1 h2 h3
  have hS : (addL la lb).1.length = la.length → ∀ p1 c1 W, Rd W p1 (addL la lb).1 → Rd W q lb → Sg W → Calls Tryd.prog 15 #[.slice p1 la.length c1, .slice q lb.length d] W (R3Post W (subL (addL la lb).1 lb)) := fun h0 p1 c1 W h1 h2 h3 => by
    rw [← h0]
    exact psub_any p1 q c1 d _ lb W h1 h2 h3
  have hE : cmpL (subL (addL la lb).1 lb).1 la = (0, 0) → ∀ p3 c3 W, Rd W p3 (subL (addL la lb).1 lb).1 → Rd W p la → Sg W → Calls Tryd.prog 33 #[.slice p3 (subL (addL la lb).1 lb).1.length c3, .slice p la.length c] W (New W (.bool true)) := fun h0 p3 c3 W h1 h2 h3 => equal_any p3 p c3 c _ la W h1 h2 h3 h0
  have hcc := add_cc la lb
  have hlen := fun h => (add_sv (la := la) (lb := lb) h).2.1
  have hun := add_undo la lb
  generalize hx : addL la lb = X at *
  generalize hy : addL lb la = Y at *
  obtain ⟨F, cc, co⟩ := X
  obtain ⟨G, dd, ov⟩ := Y
  simp only at hcc hlen hun hS hE
  by_cases hco : co = 0
  · subst hco
    have hl := hlen rfl
    have hS' := hS hl
    have hun' := hun rfl
    generalize hz : subL F lb = Z at *
    obtain ⟨S, sc, no⟩ := Z
    simp only at hun' hE
    by_cases hov : ov = 0
    · subst hov
      obtain rfl := hcc rfl rfl
      by_cases hno : no = 0
      · subst hno
        exact un_a0 p q c d la lb F G S cc cc 0 0 sc 0 w (Lib.hid hg) (Lib.hid hr) (Lib.hid hq) (Lib.hid hl) (Lib.hid hA) (Lib.hid hB) (Lib.hid hS') (Lib.hid (hE (hun' rfl)))
      · exact un_a1 p q c d la lb F G S cc cc 0 0 sc no w (Lib.hid hg) (Lib.hid hr) (Lib.hid hq) hno (Lib.hid hl) (Lib.hid hA) (Lib.hid hB) (Lib.hid hS')
    · by_cases hno : no = 0
      · subst hno
        exact un_b0 p q c d la lb F G S cc dd 0 ov sc 0 w (Lib.hid hg) (Lib.hid hr) (Lib.hid hq) hov (Lib.hid hl) (Lib.hid hA) (Lib.hid hB) (Lib.hid hS') (Lib.hid (hE (hun' rfl)))
      · exact un_b1 p q c d la lb F G S cc dd 0 ov sc no w (Lib.hid hg) (Lib.hid hr) (Lib.hid hq) hov hno (Lib.hid hl) (Lib.hid hA) (Lib.hid hB) (Lib.hid hS')
  · exact un_c p q c d la lb F G [] cc dd co ov 0 0 w (Lib.hid hg) (Lib.hid hr) (Lib.hid hq) hco (Lib.hid hA) (Lib.hid hB)

end Go.Proofs.YtlpekknhaaddcaaDoor.decimalUndoes

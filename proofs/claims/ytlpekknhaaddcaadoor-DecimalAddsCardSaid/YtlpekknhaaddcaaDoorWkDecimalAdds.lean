/- The walk of the statement DecimalAdds: it answers true, and below its own memory nothing turns. -/
import Derived.Test.YtlpekknhaaddcaaDoorDcWorks
import Derived.Test.YtlpekknhaaddcaaDoorDcRop
import Derived.Test.YtlpekknhaaddcaaDoorDcLaid
namespace Go.Proofs.YtlpekknhaaddcaaDoor.decimalAdds
open Go.ChangeShapes Go.WideShapes Go.ChangeAt Go.RowKit Go.ChangeMaps E
set_option linter.unusedVariables false

set_option maxRecDepth 100000 in
set_option maxHeartbeats 4000000 in
theorem core (p q : Option Addr) (c d : Nat) (n : Int) (la lb F G H : List UInt8) (x1 y1 x2 y2 x3 y3 : Nat) (w : World) (HG : RowKit.Hid (Sg w)) (HR : RowKit.Hid (Rd w p la)) (HQ : RowKit.Hid (Rd w q lb))
    (HA : RowKit.Hid (∀ W, Rd W p la → Rd W q lb → Sg W → Calls Tryd.prog 13 #[.slice p la.length c, .slice q lb.length d] W (fun e w' => ∃ sv, e = .returned (.tuple #[sv, .int .i64 (x1 : Int), .int .i64 (y1 : Int)]) ∧ SvB w' sv F ∧ Below W.heap.size W w')))
    (HRA : RowKit.Hid (∀ W, Rd W p la → Rd W q lb → Calls Tryd.prog 14 #[.slice p la.length c, .slice q lb.length d] W (fun e w' => ∃ sv, e = .returned (.tuple #[sv, .int .i64 (x1 : Int), .int .i64 (y1 : Int)]) ∧ SvB w' sv F ∧ Below W.heap.size W w')))
    (HS : RowKit.Hid (∀ W, Rd W p la → Rd W q lb → Sg W → Calls Tryd.prog 15 #[.slice p la.length c, .slice q lb.length d] W (fun e w' => ∃ sv, e = .returned (.tuple #[sv, .int .i64 (x2 : Int), .int .i64 (y2 : Int)]) ∧ SvB w' sv G ∧ Below W.heap.size W w')))
    (HRS : RowKit.Hid (∀ W, Rd W p la → Rd W q lb → Calls Tryd.prog 16 #[.slice p la.length c, .slice q lb.length d] W (fun e w' => ∃ sv, e = .returned (.tuple #[sv, .int .i64 (x2 : Int), .int .i64 (y2 : Int)]) ∧ SvB w' sv G ∧ Below W.heap.size W w')))
    (HZ : RowKit.Hid (∀ W, Rd W q lb → Sg W → Calls Tryd.prog 17 #[.int .i64 n, .slice q lb.length d] W (fun e w' => ∃ sv, e = .returned (.tuple #[sv, .int .i64 (x3 : Int), .int .i64 (y3 : Int)]) ∧ SvB w' sv H ∧ Below W.heap.size W w')))
    (HRZ : RowKit.Hid (∀ W, Rd W q lb → Calls Tryd.prog 18 #[.int .i64 n, .slice q lb.length d] W (fun e w' => ∃ sv, e = .returned (.tuple #[sv, .int .i64 (x3 : Int), .int .i64 (y3 : Int)]) ∧ SvB w' sv H ∧ Below W.heap.size W w')))
    : Calls Tryd.prog 3 #[.slice p la.length c, .slice q lb.length d, .int .i64 n] w (New w (.bool true)) := by
  go_enter Tryd.func3, Tryd.ntmps3
  go_wp2_with fail
  refine (HA.out _ (HR.out.below (Below.refl _ _)) (HQ.out.below (Below.refl _ _)) (HG.out.below (Below.refl _ _))).mono ?_
  rintro e w1 ⟨v1, rfl, hsv, hb⟩
  have HB1 := Lib.hid (bel0 (Below.refl _ _) hb)
  have S11 := Lib.hid hsv
  clear hb hsv HA
  go_wp2_with fail
  refine (HRA.out _ (HR.out.below HB1.out) (HQ.out.below HB1.out)).mono ?_
  rintro e w2 ⟨v2, rfl, hsv, hb⟩
  have HB2 := Lib.hid (bel0 HB1.out hb)
  have S12 := Lib.hid (S11.out.below hb)
  have S22 := Lib.hid hsv
  clear hb hsv HRA S11 HB1
  go_wp2_with fail
  refine (HS.out _ (HR.out.below HB2.out) (HQ.out.below HB2.out) (HG.out.below HB2.out)).mono ?_
  rintro e w3 ⟨v3, rfl, hsv, hb⟩
  have HB3 := Lib.hid (bel0 HB2.out hb)
  have S13 := Lib.hid (S12.out.below hb)
  have S23 := Lib.hid (S22.out.below hb)
  have S33 := Lib.hid hsv
  clear hb hsv HS S12 S22 HB2
  go_wp2_with fail
  refine (HRS.out _ (HR.out.below HB3.out) (HQ.out.below HB3.out)).mono ?_
  rintro e w4 ⟨v4, rfl, hsv, hb⟩
  have HB4 := Lib.hid (bel0 HB3.out hb)
  have S14 := Lib.hid (S13.out.below hb)
  have S24 := Lib.hid (S23.out.below hb)
  have S34 := Lib.hid (S33.out.below hb)
  have S44 := Lib.hid hsv
  clear hb hsv HRS S13 S23 S33 HB3
  go_wp2_with fail
  refine (HZ.out _ (HQ.out.below HB4.out) (HG.out.below HB4.out)).mono ?_
  rintro e w5 ⟨v5, rfl, hsv, hb⟩
  have HB5 := Lib.hid (bel0 HB4.out hb)
  have S15 := Lib.hid (S14.out.below hb)
  have S25 := Lib.hid (S24.out.below hb)
  have S35 := Lib.hid (S34.out.below hb)
  have S45 := Lib.hid (S44.out.below hb)
  have S55 := Lib.hid hsv
  clear hb hsv HZ S14 S24 S34 S44 HB4
  go_wp2_with fail
  refine (HRZ.out _ (HQ.out.below HB5.out)).mono ?_
  rintro e w6 ⟨v6, rfl, hsv, hb⟩
  have HB6 := Lib.hid (bel0 HB5.out hb)
  have S16 := Lib.hid (S15.out.below hb)
  have S26 := Lib.hid (S25.out.below hb)
  have S36 := Lib.hid (S35.out.below hb)
  have S46 := Lib.hid (S45.out.below hb)
  have S56 := Lib.hid (S55.out.below hb)
  have S66 := Lib.hid hsv
  clear hb hsv HRZ S15 S25 S35 S45 S55 HB5
  go_wp2_with fail
  refine (same_svb S16.out S26.out).mono ?_
  rintro e w' ⟨rfl, rfl⟩
  go_wp2_with fail
  refine (same_svb S36.out S46.out).mono ?_
  rintro e w' ⟨rfl, rfl⟩
  go_wp2_with fail
  refine (same_svb S56.out S66.out).mono ?_
  rintro e w' ⟨rfl, rfl⟩
  go_wp2_with fail
  refine (works_any _ (HG.out.below HB6.out)).mono ?_
  rintro e w9 ⟨rfl, hb⟩
  have HB9 := Lib.hid (bel0 HB6.out hb)
  clear hb
  go_wp2
  go_ret
  exact ⟨rfl, HB9.out⟩
theorem walk (p : Option Addr) (c : Nat) (la : List UInt8) (hle : la.length ≤ c) (hc : c ≤ 9223372036854775807) (hn : p = none → c = 0) (q : Option Addr) (d : Nat) (lb : List UInt8) (kle : lb.length ≤ d) (kc : d ≤ 9223372036854775807) (kn : q = none → d = 0) (n : Int) (hn0 : -9223372036854775808 ≤ n) (hn1 : n < 9223372036854775808) (w : World) (hg : Sg w) (hr : Rd w p la) (hq : Rd w q lb) :
    Calls Tryd.prog 3 #[.slice p la.length c, .slice q lb.length d, .int .i64 n] w (New w (.bool true)) :=
  core p q c d n la lb (addL la lb).1 (subL la lb).1 (zapL n lb).1 (addL la lb).2.1 (addL la lb).2.2 (subL la lb).2.1 (subL la lb).2.2 (zapL n lb).2.1 (zapL n lb).2.2 w (Lib.hid hg) (Lib.hid hr) (Lib.hid hq)
    (Lib.hid fun W h1 h2 h3 => padd_any p q c d la lb W h1 h2 h3) (Lib.hid fun W h1 h2 => radd_any p q c d la lb W h1 h2)
    (Lib.hid fun W h1 h2 h3 => psub_any p q c d la lb W h1 h2 h3) (Lib.hid fun W h1 h2 => rsub_any p q c d la lb W h1 h2)
    (Lib.hid fun W h1 h2 => pzap_any n q d lb W h1 h2) (Lib.hid fun W h1 => rzap_any n q d lb W h1)

end Go.Proofs.YtlpekknhaaddcaaDoor.decimalAdds

/- The walk of the statement DecimalShifts: it answers true, and below its own memory nothing turns. -/
import Derived.Test.YtlpekknhaaddcaaDoorDcWorks
import Derived.Test.YtlpekknhaaddcaaDoorDcRsh
import Derived.Test.YtlpekknhaaddcaaDoorDcLaid
namespace Go.Proofs.YtlpekknhaaddcaaDoor.decimalShifts
open Go.ChangeShapes Go.WideShapes Go.ChangeAt Go.RowKit Go.ChangeMaps E
set_option linter.unusedVariables false

set_option maxRecDepth 100000 in
set_option maxHeartbeats 4000000 in
theorem core (p : Option Addr) (c : Nat) (n r : Int) (la F : List UInt8) (x y : Nat) (w : World) (HG : RowKit.Hid (Sg w)) (HR : RowKit.Hid (Rd w p la))
    (HA : RowKit.Hid (∀ W, Rd W p la → Sg W → Calls Tryd.prog 27 #[.slice p la.length c, .int .i64 n, .int .i64 r] W (fun e w' => ∃ sv, e = .returned (.tuple #[sv, .int .i64 (x : Int), .int .i64 (y : Int)]) ∧ SvB w' sv F ∧ Below W.heap.size W w')))
    (HRA : RowKit.Hid (∀ W, Rd W p la → Calls Tryd.prog 28 #[.slice p la.length c, .int .i64 n, .int .i64 r] W (fun e w' => ∃ sv, e = .returned (.tuple #[sv, .int .i64 (x : Int), .int .i64 (y : Int)]) ∧ SvB w' sv F ∧ Below W.heap.size W w')))
    : Calls Tryd.prog 7 #[.slice p la.length c, .int .i64 n, .int .i64 r] w (New w (.bool true)) := by
  go_enter Tryd.func7, Tryd.ntmps7
  go_wp2_with fail
  refine (HA.out _ HR.out HG.out).mono ?_
  rintro e w1 ⟨v1, rfl, hsv, hb⟩
  have HB1 := Lib.hid hb
  have S1 := Lib.hid hsv
  clear hb hsv
  go_wp2_with fail
  refine (HRA.out _ (HR.out.below HB1.out)).mono ?_
  rintro e w2 ⟨v2, rfl, hsv, hb⟩
  have HB2 := Lib.hid (bel0 HB1.out hb)
  have S12 := Lib.hid (S1.out.below hb)
  have S2 := Lib.hid hsv
  clear hb hsv HB1 S1
  go_wp2_with fail
  refine (same_svb S12.out S2.out).mono ?_
  rintro e w' ⟨rfl, rfl⟩
  go_wp2_with fail
  refine (works_any _ (HG.out.below HB2.out)).mono ?_
  rintro e w9 ⟨rfl, hb⟩
  have HB9 := Lib.hid (bel0 HB2.out hb)
  clear hb
  go_wp2
  go_ret
  exact ⟨rfl, HB9.out⟩
theorem walk (p : Option Addr) (c : Nat) (la : List UInt8) (hle : la.length ≤ c) (hc : c ≤ 9223372036854775807) (hn : p = none → c = 0) (n : Int) (hn0 : -9223372036854775808 ≤ n) (hn1 : n < 9223372036854775808) (r : Int) (hr0 : -9223372036854775808 ≤ r) (hr1 : r < 9223372036854775808) (w : World) (hg : Sg w) (hr : Rd w p la) :
    Calls Tryd.prog 7 #[.slice p la.length c, .int .i64 n, .int .i64 r] w (New w (.bool true)) :=
  core p c n r la (shL la n r).1 (shL la n r).2.1 (shL la n r).2.2 w (Lib.hid hg) (Lib.hid hr)
    (Lib.hid fun W h1 h2 => pshift_any p c la n r W hn0 hn1 h1 h2) (Lib.hid fun W h1 => rshift_any p c la n r W h1)

end Go.Proofs.YtlpekknhaaddcaaDoor.decimalShifts

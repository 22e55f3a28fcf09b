/- The walk of the statement DecimalMultiplies: it answers true, and below its own memory nothing turns. -/
import Derived.Test.YtlpekknhaaddcaaDoorDcWorks
import Derived.Test.YtlpekknhaaddcaaDoorDcRmd
import Derived.Test.YtlpekknhaaddcaaDoorDcLaid
namespace Go.Proofs.YtlpekknhaaddcaaDoor.decimalMultiplies
open Go.ChangeShapes Go.WideShapes Go.ChangeAt Go.RowKit Go.ChangeMaps E
set_option linter.unusedVariables false

set_option maxRecDepth 100000 in
set_option maxHeartbeats 4000000 in
theorem core (p q : Option Addr) (c d : Nat) (la lb F : List UInt8) (y : Nat) (w : World) (HG : RowKit.Hid (Sg w)) (HR : RowKit.Hid (Rd w p la)) (HQ : RowKit.Hid (Rd w q lb))
    (HA : RowKit.Hid (∀ W, Rd W p la → Rd W q lb → Sg W → Calls Tryd.prog 23 #[.slice p la.length c, .slice q lb.length d] W (fun e w' => ∃ sv, e = .returned (.tuple #[sv, .int .i64 (y : Int)]) ∧ SvB w' sv F ∧ Below W.heap.size W w')))
    (HRA : RowKit.Hid (∀ W, Rd W p la → Rd W q lb → Calls Tryd.prog 24 #[.slice p la.length c, .slice q lb.length d] W (fun e w' => ∃ sv, e = .returned (.tuple #[sv, .int .i64 (y : Int)]) ∧ SvB w' sv F ∧ Below W.heap.size W w')))
    : Calls Tryd.prog 5 #[.slice p la.length c, .slice q lb.length d] w (New w (.bool true)) := by
  go_enter Tryd.func5, Tryd.ntmps5
  go_wp2_with fail
  refine (HA.out _ HR.out HQ.out HG.out).mono ?_
  rintro e w1 ⟨v1, rfl, hsv, hb⟩
  have HB1 := Lib.hid hb
  have S1 := Lib.hid hsv
  clear hb hsv
  go_wp2_with fail
  refine (HRA.out _ (HR.out.below HB1.out) (HQ.out.below HB1.out)).mono ?_
  rintro e w2 ⟨v2, rfl, hsv, hb⟩
  have HB2 := Lib.hid (bel0 HB1.out hb)
  have S12 := Lib.hid (S1.out.below hb)
  have S2 := Lib.hid hsv
  clear hb hsv HB1 S1
  go_wp2_with fail
  refine (same_svb S12.out S2.out).mono ?_
  rintro e w' ⟨rfl, rfl⟩
  go_wp2_with fail
  refine (works_any _ (HG.out.below HB2.out)).mono ?_
  rintro e w9 ⟨rfl, hb⟩
  have HB9 := Lib.hid (bel0 HB2.out hb)
  clear hb
  go_wp2
  go_ret
  exact ⟨rfl, HB9.out⟩
theorem walk (p : Option Addr) (c : Nat) (la : List UInt8) (hle : la.length ≤ c) (hc : c ≤ 9223372036854775807) (hn : p = none → c = 0) (q : Option Addr) (d : Nat) (lb : List UInt8) (kle : lb.length ≤ d) (kc : d ≤ 9223372036854775807) (kn : q = none → d = 0) (w : World) (hg : Sg w) (hr : Rd w p la) (hq : Rd w q lb) :
    Calls Tryd.prog 5 #[.slice p la.length c, .slice q lb.length d] w (New w (.bool true)) :=
  core p q c d la lb (mulL la lb).1 (mulL la lb).2 w (Lib.hid hg) (Lib.hid hr) (Lib.hid hq)
    (Lib.hid fun W h1 h2 h3 => pmul_any p q c d la lb W hle hc (by omega) h1 h2 h3) (Lib.hid fun W h1 h2 => rmul_any p q c d la lb W h1 h2)

end Go.Proofs.YtlpekknhaaddcaaDoor.decimalMultiplies

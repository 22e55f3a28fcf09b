/- The walk of the statement DecimalCompares: it answers true, and below its own memory nothing turns. -/
import Derived.Test.YtlpekknhaaddcaaDoorDcWorks
import Derived.Test.YtlpekknhaaddcaaDoorDcRop
import Derived.Test.YtlpekknhaaddcaaDoorDcLaid
namespace Go.Proofs.YtlpekknhaaddcaaDoor.decimalCompares
open Go.ChangeShapes Go.WideShapes Go.ChangeAt Go.RowKit Go.ChangeMaps E
set_option linter.unusedVariables false

set_option maxRecDepth 100000 in
set_option maxHeartbeats 4000000 in
theorem core (p q : Option Addr) (c d : Nat) (la lb : List UInt8) (x y : Nat) (w : World) (HG : RowKit.Hid (Sg w)) (HR : RowKit.Hid (Rd w p la)) (HQ : RowKit.Hid (Rd w q lb))
    (HA : RowKit.Hid (∀ W, Rd W p la → Rd W q lb → Sg W → Calls Tryd.prog 21 #[.slice p la.length c, .slice q lb.length d] W (fun e w' => e = .returned (.tuple #[.int .i64 (x : Int), .int .i64 (y : Int)]) ∧ Below W.heap.size W w')))
    (HRA : RowKit.Hid (∀ W, Rd W p la → Rd W q lb → Calls Tryd.prog 22 #[.slice p la.length c, .slice q lb.length d] W (fun e w' => e = .returned (.tuple #[.int .i64 (x : Int), .int .i64 (y : Int)]) ∧ Below W.heap.size W w')))
    : Calls Tryd.prog 4 #[.slice p la.length c, .slice q lb.length d] w (New w (.bool true)) := by
  go_enter Tryd.func4, Tryd.ntmps4
  go_wp2_with fail
  refine (HA.out _ HR.out HQ.out HG.out).mono ?_
  rintro e w1 ⟨rfl, hb⟩
  have HB1 := Lib.hid hb
  clear hb
  go_wp2_with fail
  refine (HRA.out _ (HR.out.below HB1.out) (HQ.out.below HB1.out)).mono ?_
  rintro e w2 ⟨rfl, hb⟩
  have HB2 := Lib.hid (bel0 HB1.out hb)
  clear hb
  go_wp2_with fail
  refine (works_any _ (HG.out.below HB2.out)).mono ?_
  rintro e w9 ⟨rfl, hb⟩
  have HB9 := Lib.hid (bel0 HB2.out hb)
  clear hb
  go_wp2
  go_ret
  exact ⟨rfl, HB9.out⟩
theorem walk (p : Option Addr) (c : Nat) (la : List UInt8) (hle : la.length ≤ c) (hc : c ≤ 9223372036854775807) (hn : p = none → c = 0) (q : Option Addr) (d : Nat) (lb : List UInt8) (kle : lb.length ≤ d) (kc : d ≤ 9223372036854775807) (kn : q = none → d = 0) (w : World) (hg : Sg w) (hr : Rd w p la) (hq : Rd w q lb) :
    Calls Tryd.prog 4 #[.slice p la.length c, .slice q lb.length d] w (New w (.bool true)) :=
  core p q c d la lb (cmpL la lb).1 (cmpL la lb).2 w (Lib.hid hg) (Lib.hid hr) (Lib.hid hq)
    (Lib.hid fun W h1 h2 h3 => pcmp_any p q c d la lb W h1 h2 h3) (Lib.hid fun W h1 h2 => rcmp_any p q c d la lb W h1 h2)

end Go.Proofs.YtlpekknhaaddcaaDoor.decimalCompares

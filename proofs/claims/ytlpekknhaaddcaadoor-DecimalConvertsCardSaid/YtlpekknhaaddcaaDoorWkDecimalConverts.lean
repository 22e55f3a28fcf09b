/- The walk of the statement DecimalConverts: it answers true, and below its own memory nothing turns. -/
import Derived.Test.YtlpekknhaaddcaaDoorDcWorks
import Derived.Test.YtlpekknhaaddcaaDoorDcTb
import Derived.Test.YtlpekknhaaddcaaDoorDcLaid
namespace Go.Proofs.YtlpekknhaaddcaaDoor.decimalConverts
open Go.ChangeShapes Go.WideShapes Go.ChangeAt Go.RowKit Go.ChangeMaps E
set_option linter.unusedVariables false

set_option maxRecDepth 100000 in
set_option maxHeartbeats 4000000 in
theorem core (p : Option Addr) (c v : Nat) (la F : List UInt8) (x : Int) (y : Nat) (w : World) (HG : RowKit.Hid (Sg w)) (HR : RowKit.Hid (Rd w p la))
    (HT : RowKit.Hid (∀ W, Rd W p la → Sg W → Calls Tryd.prog 29 #[.slice p la.length c] W (fun e w' => e = .returned (.tuple #[.int .u32 x, .int .i64 (y : Int)]) ∧ Below W.heap.size W w')))
    (HRT : RowKit.Hid (∀ W, Rd W p la → Calls Tryd.prog 30 #[.slice p la.length c] W (fun e w' => e = .returned (.tuple #[.int .u32 x, .int .i64 (y : Int)]) ∧ Below W.heap.size W w')))
    (HF : RowKit.Hid (∀ W, Calls Tryd.prog 31 #[.int .u32 (v : Int)] W (fun e w' => ∃ sv, e = .returned sv ∧ SvB w' sv F ∧ Below W.heap.size W w')))
    (HRF : RowKit.Hid (∀ W, Calls Tryd.prog 32 #[.int .u32 (v : Int)] W (fun e w' => ∃ sv, e = .returned sv ∧ SvB w' sv F ∧ Below W.heap.size W w')))
    : Calls Tryd.prog 8 #[.slice p la.length c, .int .u32 (v : Int)] w (New w (.bool true)) := by
  go_enter Tryd.func8, Tryd.ntmps8
  go_wp2_with fail
  refine (HT.out _ HR.out HG.out).mono ?_
  rintro e w1 ⟨rfl, hb⟩
  have HB1 := Lib.hid hb
  clear hb
  go_wp2_with fail
  refine (HRT.out _ (HR.out.below HB1.out)).mono ?_
  rintro e w2 ⟨rfl, hb⟩
  have HB2 := Lib.hid (bel0 HB1.out hb)
  clear hb HB1
  go_wp2_with fail
  refine (HF.out _).mono ?_
  rintro e w3 ⟨v3, rfl, hsv, hb⟩
  have HB3 := Lib.hid (bel0 HB2.out hb)
  have S3 := Lib.hid hsv
  clear hb hsv HB2
  go_wp2_with fail
  refine (HRF.out _).mono ?_
  rintro e w4 ⟨v4, rfl, hsv, hb⟩
  have HB4 := Lib.hid (bel0 HB3.out hb)
  have S34 := Lib.hid (S3.out.below hb)
  have S4 := Lib.hid hsv
  clear hb hsv HB3 S3
  go_wp2_with fail
  refine (same_svb S34.out S4.out).mono ?_
  rintro e w' ⟨rfl, rfl⟩
  go_wp2_with fail
  refine (works_any _ (HG.out.below HB4.out)).mono ?_
  rintro e w9 ⟨rfl, hb⟩
  have HB9 := Lib.hid (bel0 HB4.out hb)
  clear hb
  go_wp2
  go_ret
  exact ⟨rfl, HB9.out⟩
theorem walk (p : Option Addr) (c : Nat) (la : List UInt8) (hle : la.length ≤ c) (hc : c ≤ 9223372036854775807) (hn : p = none → c = 0) (v : Nat) (hv : v < 4294967296) (w : World) (hg : Sg w) (hr : Rd w p la) :
    Calls Tryd.prog 8 #[.slice p la.length c, .int .u32 (v : Int)] w (New w (.bool true)) :=
  core p c v la (fbL v) (tbL la).1 (tbL la).2 w (Lib.hid hg) (Lib.hid hr)
    (Lib.hid fun W h1 h2 => ptobin_any p c la W (by omega) h1 h2) (Lib.hid fun W h1 => rtobin_any p c la W h1)
    (Lib.hid fun W => pfrombin_any v W hv) (Lib.hid fun W => rfrombin_any v W hv)

end Go.Proofs.YtlpekknhaaddcaaDoor.decimalConverts

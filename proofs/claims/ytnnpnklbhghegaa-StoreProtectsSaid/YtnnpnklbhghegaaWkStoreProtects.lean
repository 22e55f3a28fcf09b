/- The walk of the statement StoreProtects: it answers true, and below its own memory nothing turns. -/
import Derived.Test.YtnnpnklbhghegaaWkStoreProtectsS
import Derived.Test.YtnnpnklbhghegaaWkStoreProtectsL
namespace Go.Proofs.Ytnnpnklbhghegaa.storeProtects
open Go.RowKit Go.Shelf E
set_option linter.unusedVariables false

theorem walk (z x0 x1 x2 x3 : UInt8) (ad : Int) (v : Value) (b : List UInt8) (ky : UInt8) (w : World) (had : -9223372036854775808 ≤ ad ∧ ad < 9223372036854775808) (hb : SvB w v b) : Calls Try.prog 6 #[.int .u8 (z.toNat : Int), .agg #[.int .u8 (x0.toNat : Int), .int .u8 (x1.toNat : Int), .int .u8 (x2.toNat : Int), .int .u8 (x3.toNat : Int)], .int .i64 ad, v, .int .u8 (ky.toNat : Int)] w (New w (.bool true)) := by
  by_cases h5 : b.length ≤ 5000
  · exact short z x0 x1 x2 x3 ad v b ky w had hb h5
  · have h9 := cutV_sv hb
    obtain ⟨p, c, rfl, hr, hc, -⟩ := hb
    unfold cutV at h9
    dsimp only at h9
    rw [if_pos (by omega)] at h9
    exact long z x0 x1 x2 x3 ad p b.length c (b.take 5000) ky w had h9 (by omega) (by omega)

end Go.Proofs.Ytnnpnklbhghegaa.storeProtects

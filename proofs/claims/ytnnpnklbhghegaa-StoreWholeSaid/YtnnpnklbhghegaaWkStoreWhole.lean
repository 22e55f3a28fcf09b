/- The walk of the statement StoreWhole: it answers true, and below its own memory nothing turns. -/
import Derived.Test.YtnnpnklbhghegaaWkStoreWholeS
import Derived.Test.YtnnpnklbhghegaaWkStoreWholeL
namespace Go.Proofs.Ytnnpnklbhghegaa.storeWhole
open Go.RowKit Go.Shelf E
set_option linter.unusedVariables false

theorem walk (z x0 x1 x2 x3 : UInt8) (at16 : Nat) (v : Value) (b : List UInt8) (ky : UInt8) (w : World) (had : at16 < 65536) (hb : SvB w v b) : Calls Try.prog 7 #[.int .u8 (z.toNat : Int), .agg #[.int .u8 (x0.toNat : Int), .int .u8 (x1.toNat : Int), .int .u8 (x2.toNat : Int), .int .u8 (x3.toNat : Int)], .int .u16 (at16 : Int), v, .int .u8 (ky.toNat : Int)] w (New w (.bool true)) := by
  by_cases h5 : b.length ≤ 3000
  · exact short z x0 x1 x2 x3 at16 v b ky w had hb h5
  · obtain ⟨p, c, rfl, hr, hc, hm, hn⟩ := hb
    have hl : (b.take 3000).length = 3000 := by rw [List.length_take]; omega
    have h9 : SvB w (.slice p 3000 c) (b.take 3000) := ⟨p, c, by rw [hl], hr.take 3000, by omega, hm, hn⟩
    exact long z x0 x1 x2 x3 at16 p b.length c (b.take 3000) ky w had h9 (by omega) (by omega) hl.symm

end Go.Proofs.Ytnnpnklbhghegaa.storeWhole

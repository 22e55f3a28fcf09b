/- The walk of the statement PackedEncodes: it answers true, and below its own memory nothing turns. -/
import Derived.Test.YtgnaiolbleadbaaDoorPkWorks
import Derived.Test.YtgnaiolbleadbaaDoorPkPure
import Derived.Test.YtgnaiolbleadbaaDoorPkLaid
import Derived.Test.YtgnaiolbleadbaaDoorPkEncs
import Derived.Test.YtgnaiolbleadbaaDoorPkDec
namespace Go.Proofs.YtgnaiolbleadbaaDoor.packedEncodes
open Go.ChangeShapes Go.WideShapes Go.ChangeAt Go.RowKit Go.ChangeMaps E
set_option linter.unusedVariables false

set_option maxRecDepth 100000 in
set_option maxHeartbeats 2000000 in
theorem walk (neg : Bool) (s : ByteArray) (hs0 : s.size ≤ 9223372036854775807) (t : ByteArray) (ht0 : t.size ≤ 9223372036854775807) (n : Int) (hn1 : -9223372036854775808 ≤ n) (hn2 : n < 9223372036854775808) (w : World) (hg : Sg w) :
    Calls Tryd.prog 4 #[.agg #[.bool neg, .string s], .string t, .int .i64 n] w (New w (.bool true)) := by
  by_cases h1 : 40 < s.size
  · have HG := Lib.hid hg
    clear hg
    go_enter Tryd.func4, Tryd.ntmps4
    go_wp2_with fail
    refine (number_any neg t _).mono ?_
    rintro e w2 ⟨t2, rfl, _, hb⟩
    have HB1 := Lib.hid (bel0 (below_new w (.cells #[.bool neg, .string (s.extract 0 40)] 26)) hb)
    have HD1 := Lib.hid ((DecB.new w neg (s.extract 0 40)).below hb)
    clear hb
    have HB2 := Lib.hid (bel0 HB1.out (below_new w2 (.cells #[.bool neg, .string t2] 26)))
    have HD2 := Lib.hid (HD1.out.below (below_new w2 (.cells #[.bool neg, .string t2] 26)))
    have HV2 := Lib.hid (DecB.new w2 neg t2)
    obtain ⟨⟨c1, c2⟩, _⟩ := HD2.out.cells
    obtain ⟨⟨c3, c4⟩, _⟩ := HV2.out.cells
    go_wp2_with fail
    refine (encodes_any _ _ _ _).mono ?_
    rintro e v3 ⟨rfl, hb⟩
    have HB3 := Lib.hid (bel0 HB2.out hb)
    have HD3 := Lib.hid (HD2.out.below hb)
    have HV3 := Lib.hid (HV2.out.below hb)
    clear hb c1 c2 c3 c4
    obtain ⟨⟨c1, c2⟩, _⟩ := HD3.out.cells
    obtain ⟨⟨c3, c4⟩, _⟩ := HV3.out.cells
    go_wp2_with fail
    refine (encodes_any _ _ _ _).mono ?_
    rintro e v4 ⟨rfl, hb⟩
    have HB4 := Lib.hid (bel0 HB3.out hb)
    have HD4 := Lib.hid (HD3.out.below hb)
    have HV4 := Lib.hid (HV3.out.below hb)
    clear hb c1 c2 c3 c4
    obtain ⟨⟨c1, c2⟩, _⟩ := HD4.out.cells
    obtain ⟨⟨c3, c4⟩, _⟩ := HV4.out.cells
    go_wp2_with fail
    refine (encodes_any _ _ _ _).mono ?_
    rintro e v5 ⟨rfl, hb⟩
    have HB5 := Lib.hid (bel0 HB4.out hb)
    have HD5 := Lib.hid (HD4.out.below hb)
    have HV5 := Lib.hid (HV4.out.below hb)
    clear hb c1 c2 c3 c4
    obtain ⟨⟨c1, c2⟩, _⟩ := HD5.out.cells
    obtain ⟨⟨c3, c4⟩, _⟩ := HV5.out.cells
    go_wp2_with fail
    refine (encodes_any _ _ _ _).mono ?_
    rintro e v6 ⟨rfl, hb⟩
    have HB6 := Lib.hid (bel0 HB5.out hb)
    have HD6 := Lib.hid (HD5.out.below hb)
    have HV6 := Lib.hid (HV5.out.below hb)
    clear hb c1 c2 c3 c4
    obtain ⟨⟨c1, c2⟩, _⟩ := HD6.out.cells
    obtain ⟨⟨c3, c4⟩, _⟩ := HV6.out.cells
    go_wp2_with fail
    refine (works_any _ (HG.out.below HB6.out)).mono ?_
    rintro e v7 ⟨rfl, hb⟩
    have HB7 := Lib.hid (bel0 HB6.out hb)
    clear hb c1 c2 c3 c4
    go_wp2
    go_ret
    exact ⟨rfl, HB7.out⟩

  · have HG := Lib.hid hg
    clear hg
    go_enter Tryd.func4, Tryd.ntmps4
    go_wp2_with fail
    refine (number_any neg t _).mono ?_
    rintro e w2 ⟨t2, rfl, _, hb⟩
    have HB1 := Lib.hid (bel0 (below_new w (.cells #[.bool neg, .string s] 26)) hb)
    have HD1 := Lib.hid ((DecB.new w neg s).below hb)
    clear hb
    have HB2 := Lib.hid (bel0 HB1.out (below_new w2 (.cells #[.bool neg, .string t2] 26)))
    have HD2 := Lib.hid (HD1.out.below (below_new w2 (.cells #[.bool neg, .string t2] 26)))
    have HV2 := Lib.hid (DecB.new w2 neg t2)
    obtain ⟨⟨c1, c2⟩, _⟩ := HD2.out.cells
    obtain ⟨⟨c3, c4⟩, _⟩ := HV2.out.cells
    go_wp2_with fail
    refine (encodes_any _ _ _ _).mono ?_
    rintro e v3 ⟨rfl, hb⟩
    have HB3 := Lib.hid (bel0 HB2.out hb)
    have HD3 := Lib.hid (HD2.out.below hb)
    have HV3 := Lib.hid (HV2.out.below hb)
    clear hb c1 c2 c3 c4
    obtain ⟨⟨c1, c2⟩, _⟩ := HD3.out.cells
    obtain ⟨⟨c3, c4⟩, _⟩ := HV3.out.cells
    go_wp2_with fail
    refine (encodes_any _ _ _ _).mono ?_
    rintro e v4 ⟨rfl, hb⟩
    have HB4 := Lib.hid (bel0 HB3.out hb)
    have HD4 := Lib.hid (HD3.out.below hb)
    have HV4 := Lib.hid (HV3.out.below hb)
    clear hb c1 c2 c3 c4
    obtain ⟨⟨c1, c2⟩, _⟩ := HD4.out.cells
    obtain ⟨⟨c3, c4⟩, _⟩ := HV4.out.cells
    go_wp2_with fail
    refine (encodes_any _ _ _ _).mono ?_
    rintro e v5 ⟨rfl, hb⟩
    have HB5 := Lib.hid (bel0 HB4.out hb)
    have HD5 := Lib.hid (HD4.out.below hb)
    have HV5 := Lib.hid (HV4.out.below hb)
    clear hb c1 c2 c3 c4
    obtain ⟨⟨c1, c2⟩, _⟩ := HD5.out.cells
    obtain ⟨⟨c3, c4⟩, _⟩ := HV5.out.cells
    go_wp2_with fail
    refine (encodes_any _ _ _ _).mono ?_
    rintro e v6 ⟨rfl, hb⟩
    have HB6 := Lib.hid (bel0 HB5.out hb)
    have HD6 := Lib.hid (HD5.out.below hb)
    have HV6 := Lib.hid (HV5.out.below hb)
    clear hb c1 c2 c3 c4
    obtain ⟨⟨c1, c2⟩, _⟩ := HD6.out.cells
    obtain ⟨⟨c3, c4⟩, _⟩ := HV6.out.cells
    go_wp2_with fail
    refine (works_any _ (HG.out.below HB6.out)).mono ?_
    rintro e v7 ⟨rfl, hb⟩
    have HB7 := Lib.hid (bel0 HB6.out hb)
    clear hb c1 c2 c3 c4
    go_wp2
    go_ret
    exact ⟨rfl, HB7.out⟩


end Go.Proofs.YtgnaiolbleadbaaDoor.packedEncodes

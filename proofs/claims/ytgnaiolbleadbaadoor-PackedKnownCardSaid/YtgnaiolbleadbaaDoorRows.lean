/-
  NARROWER THAN 'FOR EVERY INPUT', by the rows' own cells (each row's printed sentence says how): PackedDecodes: laid · PackedEncodes: laid · PackedMoves: laid · PackedBack: laid · PackedUnpacks: laid · PackedZones: laid · PackedOwn: laid · PackedKnown: laid.
  DERIVED. THE GIVEN ROWS OF THIS SEAT. 8 by the template 'for every input the law returns true; each argument reads behind the call as it read before'; 0 by the template 'total and deterministic' (their statements: YtgnaiolbleadbaaDoorTotals.lean).
  GIVEN WITH THE SEED: the statements are not yours to turn. If you find one false, say at which input.
  Laid BY PROGRAM, IN A SANDBOX (cutbox-rows.mjs): the forced cells as the released guide's own fill.sh prints them over the translation bf2bc0891fb4049a… (all of the seat's roots in one cut). By AI agents, Wed Nov 11 2026. No macro, syntax, notation, axiom, sorry.
-/
import Derived.Test.YtgnaiolbleadbaaDoorChecked
import GoSem.PinnedTables
import GoSem.Claim
import GoSem.ClaimJoined
import GoSem.ClaimMapViews
import Derived.JoinedTies
import Derived.KernelRfl
namespace Go.Proofs.YtgnaiolbleadbaaDoor
/- THE CELL 'sum', in the pinned program and in every row, IS THE sha256 OF THE DUMP (.gsa) THAT YtgnaiolbleadbaaDoorProg.lean LOADS. Nothing in Lean hashes anything: it is a label: what it is worth is what the hold of that sum in a sandbox is worth. -/
noncomputable def Tryd.pinned : Pinned := { name := "ytgnaiolbleadbaadoor", sum := "bf2bc0891fb4049a8c6b4c3ff80243f6977932e648caad157c9751d30bd7fa36", checked := Tryd.checked }
namespace Rows
def none {H : Type} : Left H := { results := [], args := [] }

/- WHAT THE LISTED PACKAGE-LEVEL VARIABLES READ AS WHEN THE CALL BEGINS. Each datum BY PROGRAM (the guide's laid-datum.mjs) off the statement by which the dump's own 'gosem.cut.vars' lays the variable. In a bare row this is a premise. The card (YtgnaiolbleadbaaDoorCards.lean) ties it to the program's text. -/
def laid_unicode_utf8_acceptRanges {H : Type} : DataW H := .agg [.agg [.lit (.int .u8 128), .lit (.int .u8 191)], .agg [.lit (.int .u8 160), .lit (.int .u8 191)], .agg [.lit (.int .u8 128), .lit (.int .u8 159)], .agg [.lit (.int .u8 144), .lit (.int .u8 191)], .agg [.lit (.int .u8 128), .lit (.int .u8 143)], .agg [.lit (.int .u8 0), .lit (.int .u8 0)], .agg [.lit (.int .u8 0), .lit (.int .u8 0)], .agg [.lit (.int .u8 0), .lit (.int .u8 0)], .agg [.lit (.int .u8 0), .lit (.int .u8 0)], .agg [.lit (.int .u8 0), .lit (.int .u8 0)], .agg [.lit (.int .u8 0), .lit (.int .u8 0)], .agg [.lit (.int .u8 0), .lit (.int .u8 0)], .agg [.lit (.int .u8 0), .lit (.int .u8 0)], .agg [.lit (.int .u8 0), .lit (.int .u8 0)], .agg [.lit (.int .u8 0), .lit (.int .u8 0)], .agg [.lit (.int .u8 0), .lit (.int .u8 0)]]
def laid_jobshop_packed_signs {H : Type} : DataW H := .agg [.lit (.int .i64 0), .lit (.int .i64 0), .lit (.int .i64 0), .lit (.int .i64 0), .lit (.int .i64 0), .lit (.int .i64 0), .lit (.int .i64 0), .lit (.int .i64 0), .lit (.int .i64 0), .lit (.int .i64 0), .lit (.int .i64 1), .lit (.int .i64 2), .lit (.int .i64 1), .lit (.int .i64 2), .lit (.int .i64 1), .lit (.int .i64 1)]
/-- One of Go's own tables, pinned by name: the form's constant. -/
def laid_unicode_utf8_first : DataW Unit := Go.Pinned.utf8First

/-- 'jobshoplaw03.PackedDecodes': WHATEVER THE INPUT: true; the input reads as it did. -/
def packedDecodesSpec : ChangeSpec := { name := "packedDecodes", fn := fun _ => fun
  | [d1, d2, d3, d4, d5] => { results := [.lit (.bool true)], args := [d1, d2, d3, d4, d5] }
  | _ => none }
def packedDecodesRow : OpenClaim := { program := "ytgnaiolbleadbaadoor", sum := "bf2bc0891fb4049a8c6b4c3ff80243f6977932e648caad157c9751d30bd7fa36", func := "jobshop/jobshoplaw03.PackedDecodes", spec := "packedDecodes", inPlace := ["internal/bytealg.IndexByteString", "internal/bytealg.IndexString", "internal/bytealg.MakeNoZero"], unfollowed := true, recurses := true, named := ["jobshop/packed.signs", "unicode/utf8.first", "unicode/utf8.acceptRanges", "internal/bytealg.MaxLen"], apart := false, laid := [("unicode/utf8.acceptRanges", laid_unicode_utf8_acceptRanges), ("jobshop/packed.signs", laid_jobshop_packed_signs), ("unicode/utf8.first", laid_unicode_utf8_first)] }
def PackedDecodesSaid : Prop := packedDecodesRow.holds Tryd.pinned (OpenSpec.ofChange packedDecodesSpec)

/-- ITS FALSE NEIGHBOUR: 'it returns false'. Refute it at one input. -/
def packedDecodesWrong : ChangeSpec := { name := "packedDecodes", fn := fun _ => fun
  | [d1, d2, d3, d4, d5] => { results := [.lit (.bool false)], args := [d1, d2, d3, d4, d5] }
  | _ => none }
def PackedDecodesWrongFalsely : Prop := packedDecodesRow.holds Tryd.pinned (OpenSpec.ofChange packedDecodesWrong)

/-- 'jobshoplaw03.PackedEncodes': WHATEVER THE INPUT: true; the input reads as it did. -/
def packedEncodesSpec : ChangeSpec := { name := "packedEncodes", fn := fun _ => fun
  | [d1, d2, d3] => { results := [.lit (.bool true)], args := [d1, d2, d3] }
  | _ => none }
def packedEncodesRow : OpenClaim := { program := "ytgnaiolbleadbaadoor", sum := "bf2bc0891fb4049a8c6b4c3ff80243f6977932e648caad157c9751d30bd7fa36", func := "jobshop/jobshoplaw03.PackedEncodes", spec := "packedEncodes", inPlace := ["internal/bytealg.MakeNoZero", "internal/bytealg.IndexByteString", "internal/bytealg.IndexString"], unfollowed := true, recurses := true, named := ["jobshop/packed.signs", "unicode/utf8.first", "unicode/utf8.acceptRanges", "internal/bytealg.MaxLen"], apart := false, laid := [("unicode/utf8.acceptRanges", laid_unicode_utf8_acceptRanges), ("jobshop/packed.signs", laid_jobshop_packed_signs), ("unicode/utf8.first", laid_unicode_utf8_first)] }
def PackedEncodesSaid : Prop := packedEncodesRow.holds Tryd.pinned (OpenSpec.ofChange packedEncodesSpec)

/-- ITS FALSE NEIGHBOUR: 'it returns false'. Refute it at one input. -/
def packedEncodesWrong : ChangeSpec := { name := "packedEncodes", fn := fun _ => fun
  | [d1, d2, d3] => { results := [.lit (.bool false)], args := [d1, d2, d3] }
  | _ => none }
def PackedEncodesWrongFalsely : Prop := packedEncodesRow.holds Tryd.pinned (OpenSpec.ofChange packedEncodesWrong)

/-- 'jobshoplaw03.PackedMoves': WHATEVER THE INPUT: true; the input reads as it did. -/
def packedMovesSpec : ChangeSpec := { name := "packedMoves", fn := fun _ => fun
  | [d1, d2, d3] => { results := [.lit (.bool true)], args := [d1, d2, d3] }
  | _ => none }
def packedMovesRow : OpenClaim := { program := "ytgnaiolbleadbaadoor", sum := "bf2bc0891fb4049a8c6b4c3ff80243f6977932e648caad157c9751d30bd7fa36", func := "jobshop/jobshoplaw03.PackedMoves", spec := "packedMoves", inPlace := ["internal/bytealg.MakeNoZero", "internal/bytealg.IndexByteString", "internal/bytealg.IndexString"], unfollowed := true, recurses := true, named := ["jobshop/packed.signs", "unicode/utf8.first", "unicode/utf8.acceptRanges", "internal/bytealg.MaxLen"], apart := false, laid := [("unicode/utf8.acceptRanges", laid_unicode_utf8_acceptRanges), ("jobshop/packed.signs", laid_jobshop_packed_signs), ("unicode/utf8.first", laid_unicode_utf8_first)] }
def PackedMovesSaid : Prop := packedMovesRow.holds Tryd.pinned (OpenSpec.ofChange packedMovesSpec)

/-- ITS FALSE NEIGHBOUR: 'it returns false'. Refute it at one input. -/
def packedMovesWrong : ChangeSpec := { name := "packedMoves", fn := fun _ => fun
  | [d1, d2, d3] => { results := [.lit (.bool false)], args := [d1, d2, d3] }
  | _ => none }
def PackedMovesWrongFalsely : Prop := packedMovesRow.holds Tryd.pinned (OpenSpec.ofChange packedMovesWrong)

/-- 'jobshoplaw03.PackedBack': WHATEVER THE INPUT: true; the input reads as it did. -/
def packedBackSpec : ChangeSpec := { name := "packedBack", fn := fun _ => fun
  | [d1, d2, d3, d4] => { results := [.lit (.bool true)], args := [d1, d2, d3, d4] }
  | _ => none }
def packedBackRow : OpenClaim := { program := "ytgnaiolbleadbaadoor", sum := "bf2bc0891fb4049a8c6b4c3ff80243f6977932e648caad157c9751d30bd7fa36", func := "jobshop/jobshoplaw03.PackedBack", spec := "packedBack", inPlace := ["internal/bytealg.IndexByteString", "internal/bytealg.IndexString", "internal/bytealg.MakeNoZero"], unfollowed := true, recurses := true, named := ["jobshop/packed.signs", "unicode/utf8.first", "unicode/utf8.acceptRanges", "internal/bytealg.MaxLen"], apart := false, laid := [("unicode/utf8.acceptRanges", laid_unicode_utf8_acceptRanges), ("jobshop/packed.signs", laid_jobshop_packed_signs), ("unicode/utf8.first", laid_unicode_utf8_first)] }
def PackedBackSaid : Prop := packedBackRow.holds Tryd.pinned (OpenSpec.ofChange packedBackSpec)

/-- ITS FALSE NEIGHBOUR: 'it returns false'. Refute it at one input. -/
def packedBackWrong : ChangeSpec := { name := "packedBack", fn := fun _ => fun
  | [d1, d2, d3, d4] => { results := [.lit (.bool false)], args := [d1, d2, d3, d4] }
  | _ => none }
def PackedBackWrongFalsely : Prop := packedBackRow.holds Tryd.pinned (OpenSpec.ofChange packedBackWrong)

/-- 'jobshoplaw03.PackedUnpacks': WHATEVER THE INPUT: true; the input reads as it did. -/
def packedUnpacksSpec : ChangeSpec := { name := "packedUnpacks", fn := fun _ => fun
  | [d1, d2] => { results := [.lit (.bool true)], args := [d1, d2] }
  | _ => none }
def packedUnpacksRow : OpenClaim := { program := "ytgnaiolbleadbaadoor", sum := "bf2bc0891fb4049a8c6b4c3ff80243f6977932e648caad157c9751d30bd7fa36", func := "jobshop/jobshoplaw03.PackedUnpacks", spec := "packedUnpacks", inPlace := ["internal/bytealg.IndexByteString", "internal/bytealg.IndexString", "internal/bytealg.MakeNoZero"], unfollowed := true, recurses := true, named := ["jobshop/packed.signs", "unicode/utf8.first", "unicode/utf8.acceptRanges", "internal/bytealg.MaxLen"], apart := false, laid := [("unicode/utf8.acceptRanges", laid_unicode_utf8_acceptRanges), ("jobshop/packed.signs", laid_jobshop_packed_signs), ("unicode/utf8.first", laid_unicode_utf8_first)] }
def PackedUnpacksSaid : Prop := packedUnpacksRow.holds Tryd.pinned (OpenSpec.ofChange packedUnpacksSpec)

/-- ITS FALSE NEIGHBOUR: 'it returns false'. Refute it at one input. -/
def packedUnpacksWrong : ChangeSpec := { name := "packedUnpacks", fn := fun _ => fun
  | [d1, d2] => { results := [.lit (.bool false)], args := [d1, d2] }
  | _ => none }
def PackedUnpacksWrongFalsely : Prop := packedUnpacksRow.holds Tryd.pinned (OpenSpec.ofChange packedUnpacksWrong)

/-- 'jobshoplaw03.PackedZones': WHATEVER THE INPUT: true; the input reads as it did. -/
def packedZonesSpec : ChangeSpec := { name := "packedZones", fn := fun _ => fun
  | [d1, d2, d3, d4] => { results := [.lit (.bool true)], args := [d1, d2, d3, d4] }
  | _ => none }
def packedZonesRow : OpenClaim := { program := "ytgnaiolbleadbaadoor", sum := "bf2bc0891fb4049a8c6b4c3ff80243f6977932e648caad157c9751d30bd7fa36", func := "jobshop/jobshoplaw03.PackedZones", spec := "packedZones", inPlace := ["internal/bytealg.IndexByteString", "internal/bytealg.IndexString", "internal/bytealg.MakeNoZero"], unfollowed := true, recurses := true, named := ["jobshop/packed.signs", "unicode/utf8.first", "unicode/utf8.acceptRanges", "internal/bytealg.MaxLen"], apart := false, laid := [("unicode/utf8.acceptRanges", laid_unicode_utf8_acceptRanges), ("jobshop/packed.signs", laid_jobshop_packed_signs), ("unicode/utf8.first", laid_unicode_utf8_first)] }
def PackedZonesSaid : Prop := packedZonesRow.holds Tryd.pinned (OpenSpec.ofChange packedZonesSpec)

/-- ITS FALSE NEIGHBOUR: 'it returns false'. Refute it at one input. -/
def packedZonesWrong : ChangeSpec := { name := "packedZones", fn := fun _ => fun
  | [d1, d2, d3, d4] => { results := [.lit (.bool false)], args := [d1, d2, d3, d4] }
  | _ => none }
def PackedZonesWrongFalsely : Prop := packedZonesRow.holds Tryd.pinned (OpenSpec.ofChange packedZonesWrong)

/-- 'jobshoplaw03.PackedOwn': WHATEVER THE INPUT: true; the input reads as it did. -/
def packedOwnSpec : ChangeSpec := { name := "packedOwn", fn := fun _ => fun
  | [d1, d2] => { results := [.lit (.bool true)], args := [d1, d2] }
  | _ => none }
def packedOwnRow : OpenClaim := { program := "ytgnaiolbleadbaadoor", sum := "bf2bc0891fb4049a8c6b4c3ff80243f6977932e648caad157c9751d30bd7fa36", func := "jobshop/jobshoplaw03.PackedOwn", spec := "packedOwn", inPlace := ["internal/bytealg.IndexByteString", "internal/bytealg.IndexString", "internal/bytealg.MakeNoZero"], unfollowed := true, recurses := true, named := ["jobshop/packed.signs", "unicode/utf8.first", "unicode/utf8.acceptRanges", "internal/bytealg.MaxLen"], apart := false, laid := [("unicode/utf8.acceptRanges", laid_unicode_utf8_acceptRanges), ("jobshop/packed.signs", laid_jobshop_packed_signs), ("unicode/utf8.first", laid_unicode_utf8_first)] }
def PackedOwnSaid : Prop := packedOwnRow.holds Tryd.pinned (OpenSpec.ofChange packedOwnSpec)

/-- ITS FALSE NEIGHBOUR: 'it returns false'. Refute it at one input. -/
def packedOwnWrong : ChangeSpec := { name := "packedOwn", fn := fun _ => fun
  | [d1, d2] => { results := [.lit (.bool false)], args := [d1, d2] }
  | _ => none }
def PackedOwnWrongFalsely : Prop := packedOwnRow.holds Tryd.pinned (OpenSpec.ofChange packedOwnWrong)

/-- 'jobshoplaw03.PackedKnown': WHATEVER THE INPUT: true; the input reads as it did. -/
def packedKnownSpec : ChangeSpec := { name := "packedKnown", fn := fun _ => fun
  | [] => { results := [.lit (.bool true)], args := [] }
  | _ => none }
def packedKnownRow : OpenClaim := { program := "ytgnaiolbleadbaadoor", sum := "bf2bc0891fb4049a8c6b4c3ff80243f6977932e648caad157c9751d30bd7fa36", func := "jobshop/jobshoplaw03.PackedKnown", spec := "packedKnown", inPlace := ["internal/bytealg.IndexByteString", "internal/bytealg.IndexString", "internal/bytealg.MakeNoZero"], unfollowed := true, recurses := true, named := ["jobshop/packed.signs", "unicode/utf8.first", "unicode/utf8.acceptRanges", "internal/bytealg.MaxLen"], apart := false, laid := [("unicode/utf8.acceptRanges", laid_unicode_utf8_acceptRanges), ("jobshop/packed.signs", laid_jobshop_packed_signs), ("unicode/utf8.first", laid_unicode_utf8_first)] }
def PackedKnownSaid : Prop := packedKnownRow.holds Tryd.pinned (OpenSpec.ofChange packedKnownSpec)

/-- ITS FALSE NEIGHBOUR: 'it returns false'. Refute it at one input. -/
def packedKnownWrong : ChangeSpec := { name := "packedKnown", fn := fun _ => fun
  | [] => { results := [.lit (.bool false)], args := [] }
  | _ => none }
def PackedKnownWrongFalsely : Prop := packedKnownRow.holds Tryd.pinned (OpenSpec.ofChange packedKnownWrong)

/- THE SECOND FORM. 'bulk': how many values and letters a reading holds, each counted each time it is reached (what is shared counts as often as it is met; a slice's spare places count too). A statement '..UptoSaid' is the law's where the arguments, and the package variables that the reading takes, are together of bulk at most 1048576: NARROWER than '..Said'. Prove '..Said' where nothing that the law and all that it calls make is longer than what came in: it says more and counts as full. Else prove '..UptoSaid'. A law counts once. -/
mutual
def uptoBulk {H : Type} : DataW H → Nat
  | .lit (.string bytes) => bytes.length + 1
  | .lit _ => 1
  | .nil => 1
  | .ptr d => uptoBulk d + 1
  | .slice elems spare => uptoBulkAll elems + uptoBulkAll spare + 1
  | .agg parts => uptoBulkAll parts + 1
  | .iface _ d => uptoBulk d + 1
  | .map entries => uptoBulkEntries entries + 1
  | .held _ => 1
def uptoBulkAll {H : Type} : List (DataW H) → Nat
  | [] => 0
  | d :: r => uptoBulk d + uptoBulkAll r
def uptoBulkEntries {H : Type} : List (Lit × DataW H) → Nat
  | [] => 0
  | x :: r => uptoBulkEntry x + uptoBulkEntries r
def uptoBulkEntry {H : Type} : Lit × DataW H → Nat
  | (.string bytes, d) => bytes.length + uptoBulk d + 1
  | (_, d) => uptoBulk d + 1
 end
def uptoSmall : (H : Type) → List (DataW H) → Bool := fun _ ds => decide (uptoBulkAll ds ≤ 1048576)
def OpenSpec.upto (s : _root_.Go.ChangeSpec) : _root_.Go.OpenSpec := { _root_.Go.OpenSpec.ofChange s with cond := some uptoSmall }

/-- 'jobshoplaw03.PackedDecodes', WHERE WHAT IT READS IS OF BULK AT MOST 1048576: true; the input reads as it did. -/
def packedDecodesUptoRow : OpenClaim := { program := "ytgnaiolbleadbaadoor", sum := "bf2bc0891fb4049a8c6b4c3ff80243f6977932e648caad157c9751d30bd7fa36", func := "jobshop/jobshoplaw03.PackedDecodes", spec := "packedDecodes", inPlace := ["internal/bytealg.IndexByteString", "internal/bytealg.IndexString", "internal/bytealg.MakeNoZero"], unfollowed := true, recurses := true, named := ["jobshop/packed.signs", "unicode/utf8.first", "unicode/utf8.acceptRanges", "internal/bytealg.MaxLen"], apart := false, laid := [("unicode/utf8.acceptRanges", laid_unicode_utf8_acceptRanges), ("jobshop/packed.signs", laid_jobshop_packed_signs), ("unicode/utf8.first", laid_unicode_utf8_first)], narrowed := true }
def PackedDecodesUptoSaid : Prop := packedDecodesUptoRow.holds Tryd.pinned (OpenSpec.upto packedDecodesSpec)

/-- 'jobshoplaw03.PackedEncodes', WHERE WHAT IT READS IS OF BULK AT MOST 1048576: true; the input reads as it did. -/
def packedEncodesUptoRow : OpenClaim := { program := "ytgnaiolbleadbaadoor", sum := "bf2bc0891fb4049a8c6b4c3ff80243f6977932e648caad157c9751d30bd7fa36", func := "jobshop/jobshoplaw03.PackedEncodes", spec := "packedEncodes", inPlace := ["internal/bytealg.MakeNoZero", "internal/bytealg.IndexByteString", "internal/bytealg.IndexString"], unfollowed := true, recurses := true, named := ["jobshop/packed.signs", "unicode/utf8.first", "unicode/utf8.acceptRanges", "internal/bytealg.MaxLen"], apart := false, laid := [("unicode/utf8.acceptRanges", laid_unicode_utf8_acceptRanges), ("jobshop/packed.signs", laid_jobshop_packed_signs), ("unicode/utf8.first", laid_unicode_utf8_first)], narrowed := true }
def PackedEncodesUptoSaid : Prop := packedEncodesUptoRow.holds Tryd.pinned (OpenSpec.upto packedEncodesSpec)

/-- 'jobshoplaw03.PackedMoves', WHERE WHAT IT READS IS OF BULK AT MOST 1048576: true; the input reads as it did. -/
def packedMovesUptoRow : OpenClaim := { program := "ytgnaiolbleadbaadoor", sum := "bf2bc0891fb4049a8c6b4c3ff80243f6977932e648caad157c9751d30bd7fa36", func := "jobshop/jobshoplaw03.PackedMoves", spec := "packedMoves", inPlace := ["internal/bytealg.MakeNoZero", "internal/bytealg.IndexByteString", "internal/bytealg.IndexString"], unfollowed := true, recurses := true, named := ["jobshop/packed.signs", "unicode/utf8.first", "unicode/utf8.acceptRanges", "internal/bytealg.MaxLen"], apart := false, laid := [("unicode/utf8.acceptRanges", laid_unicode_utf8_acceptRanges), ("jobshop/packed.signs", laid_jobshop_packed_signs), ("unicode/utf8.first", laid_unicode_utf8_first)], narrowed := true }
def PackedMovesUptoSaid : Prop := packedMovesUptoRow.holds Tryd.pinned (OpenSpec.upto packedMovesSpec)

/-- 'jobshoplaw03.PackedBack', WHERE WHAT IT READS IS OF BULK AT MOST 1048576: true; the input reads as it did. -/
def packedBackUptoRow : OpenClaim := { program := "ytgnaiolbleadbaadoor", sum := "bf2bc0891fb4049a8c6b4c3ff80243f6977932e648caad157c9751d30bd7fa36", func := "jobshop/jobshoplaw03.PackedBack", spec := "packedBack", inPlace := ["internal/bytealg.IndexByteString", "internal/bytealg.IndexString", "internal/bytealg.MakeNoZero"], unfollowed := true, recurses := true, named := ["jobshop/packed.signs", "unicode/utf8.first", "unicode/utf8.acceptRanges", "internal/bytealg.MaxLen"], apart := false, laid := [("unicode/utf8.acceptRanges", laid_unicode_utf8_acceptRanges), ("jobshop/packed.signs", laid_jobshop_packed_signs), ("unicode/utf8.first", laid_unicode_utf8_first)], narrowed := true }
def PackedBackUptoSaid : Prop := packedBackUptoRow.holds Tryd.pinned (OpenSpec.upto packedBackSpec)

/-- 'jobshoplaw03.PackedUnpacks', WHERE WHAT IT READS IS OF BULK AT MOST 1048576: true; the input reads as it did. -/
def packedUnpacksUptoRow : OpenClaim := { program := "ytgnaiolbleadbaadoor", sum := "bf2bc0891fb4049a8c6b4c3ff80243f6977932e648caad157c9751d30bd7fa36", func := "jobshop/jobshoplaw03.PackedUnpacks", spec := "packedUnpacks", inPlace := ["internal/bytealg.IndexByteString", "internal/bytealg.IndexString", "internal/bytealg.MakeNoZero"], unfollowed := true, recurses := true, named := ["jobshop/packed.signs", "unicode/utf8.first", "unicode/utf8.acceptRanges", "internal/bytealg.MaxLen"], apart := false, laid := [("unicode/utf8.acceptRanges", laid_unicode_utf8_acceptRanges), ("jobshop/packed.signs", laid_jobshop_packed_signs), ("unicode/utf8.first", laid_unicode_utf8_first)], narrowed := true }
def PackedUnpacksUptoSaid : Prop := packedUnpacksUptoRow.holds Tryd.pinned (OpenSpec.upto packedUnpacksSpec)

/-- 'jobshoplaw03.PackedZones', WHERE WHAT IT READS IS OF BULK AT MOST 1048576: true; the input reads as it did. -/
def packedZonesUptoRow : OpenClaim := { program := "ytgnaiolbleadbaadoor", sum := "bf2bc0891fb4049a8c6b4c3ff80243f6977932e648caad157c9751d30bd7fa36", func := "jobshop/jobshoplaw03.PackedZones", spec := "packedZones", inPlace := ["internal/bytealg.IndexByteString", "internal/bytealg.IndexString", "internal/bytealg.MakeNoZero"], unfollowed := true, recurses := true, named := ["jobshop/packed.signs", "unicode/utf8.first", "unicode/utf8.acceptRanges", "internal/bytealg.MaxLen"], apart := false, laid := [("unicode/utf8.acceptRanges", laid_unicode_utf8_acceptRanges), ("jobshop/packed.signs", laid_jobshop_packed_signs), ("unicode/utf8.first", laid_unicode_utf8_first)], narrowed := true }
def PackedZonesUptoSaid : Prop := packedZonesUptoRow.holds Tryd.pinned (OpenSpec.upto packedZonesSpec)

/-- 'jobshoplaw03.PackedOwn', WHERE WHAT IT READS IS OF BULK AT MOST 1048576: true; the input reads as it did. -/
def packedOwnUptoRow : OpenClaim := { program := "ytgnaiolbleadbaadoor", sum := "bf2bc0891fb4049a8c6b4c3ff80243f6977932e648caad157c9751d30bd7fa36", func := "jobshop/jobshoplaw03.PackedOwn", spec := "packedOwn", inPlace := ["internal/bytealg.IndexByteString", "internal/bytealg.IndexString", "internal/bytealg.MakeNoZero"], unfollowed := true, recurses := true, named := ["jobshop/packed.signs", "unicode/utf8.first", "unicode/utf8.acceptRanges", "internal/bytealg.MaxLen"], apart := false, laid := [("unicode/utf8.acceptRanges", laid_unicode_utf8_acceptRanges), ("jobshop/packed.signs", laid_jobshop_packed_signs), ("unicode/utf8.first", laid_unicode_utf8_first)], narrowed := true }
def PackedOwnUptoSaid : Prop := packedOwnUptoRow.holds Tryd.pinned (OpenSpec.upto packedOwnSpec)

/-- 'jobshoplaw03.PackedKnown', WHERE WHAT IT READS IS OF BULK AT MOST 1048576: true; the input reads as it did. -/
def packedKnownUptoRow : OpenClaim := { program := "ytgnaiolbleadbaadoor", sum := "bf2bc0891fb4049a8c6b4c3ff80243f6977932e648caad157c9751d30bd7fa36", func := "jobshop/jobshoplaw03.PackedKnown", spec := "packedKnown", inPlace := ["internal/bytealg.IndexByteString", "internal/bytealg.IndexString", "internal/bytealg.MakeNoZero"], unfollowed := true, recurses := true, named := ["jobshop/packed.signs", "unicode/utf8.first", "unicode/utf8.acceptRanges", "internal/bytealg.MaxLen"], apart := false, laid := [("unicode/utf8.acceptRanges", laid_unicode_utf8_acceptRanges), ("jobshop/packed.signs", laid_jobshop_packed_signs), ("unicode/utf8.first", laid_unicode_utf8_first)], narrowed := true }
def PackedKnownUptoSaid : Prop := packedKnownUptoRow.holds Tryd.pinned (OpenSpec.upto packedKnownSpec)

end Rows
end Go.Proofs.YtgnaiolbleadbaaDoor

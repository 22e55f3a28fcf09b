/-
  NARROWER THAN 'FOR EVERY INPUT', by the rows' own cells (each row's printed sentence says how): DecimalAdds: laid · DecimalCompares: laid · DecimalMultiplies: laid · DecimalDivides: laid · DecimalShifts: laid · DecimalConverts: laid · DecimalKnown: laid · DecimalUndoes: laid · DecimalQuotients: laid · DecimalBinary: laid.
  DERIVED. THE GIVEN ROWS OF THIS SEAT. 10 by the template 'for every input the law returns true; each argument reads behind the call as it read before'; 0 by the template 'total and deterministic' (their statements: YtlpekknhaaddcaaDoorTotals.lean).
  GIVEN WITH THE SEED: the statements are not yours to turn. If you find one false, say at which input.
  Laid BY PROGRAM, IN A SANDBOX (cutbox-rows.mjs): the forced cells as the released guide's own fill.sh prints them over the translation 9257648ef4185485… (all of the seat's roots in one cut). By AI agents, Wed Nov 11 2026. No macro, syntax, notation, axiom, sorry.
-/
import Derived.Test.YtlpekknhaaddcaaDoorChecked
import GoSem.PinnedTables
import GoSem.Claim
import GoSem.ClaimJoined
import GoSem.ClaimMapViews
import Derived.JoinedTies
import Derived.KernelRfl
namespace Go.Proofs.YtlpekknhaaddcaaDoor
/- THE CELL 'sum', in the pinned program and in every row, IS THE sha256 OF THE DUMP (.gsa) THAT YtlpekknhaaddcaaDoorProg.lean LOADS. Nothing in Lean hashes anything: it is a label: what it is worth is what the hold of that sum in a sandbox is worth. -/
noncomputable def Tryd.pinned : Pinned := { name := "ytlpekknhaaddcaadoor", sum := "9257648ef41854857b883f818ea16395e9e216638402d61cfbe25550a2f67acd", checked := Tryd.checked }
namespace Rows
def none {H : Type} : Left H := { results := [], args := [] }

/- WHAT THE LISTED PACKAGE-LEVEL VARIABLES READ AS WHEN THE CALL BEGINS. Each datum BY PROGRAM (the guide's laid-datum.mjs) off the statement by which the dump's own 'gosem.cut.vars' lays the variable. In a bare row this is a premise. The card (YtlpekknhaaddcaaDoorCards.lean) ties it to the program's text. -/
def laid_unicode_utf8_acceptRanges {H : Type} : DataW H := .agg [.agg [.lit (.int .u8 128), .lit (.int .u8 191)], .agg [.lit (.int .u8 160), .lit (.int .u8 191)], .agg [.lit (.int .u8 128), .lit (.int .u8 159)], .agg [.lit (.int .u8 144), .lit (.int .u8 191)], .agg [.lit (.int .u8 128), .lit (.int .u8 143)], .agg [.lit (.int .u8 0), .lit (.int .u8 0)], .agg [.lit (.int .u8 0), .lit (.int .u8 0)], .agg [.lit (.int .u8 0), .lit (.int .u8 0)], .agg [.lit (.int .u8 0), .lit (.int .u8 0)], .agg [.lit (.int .u8 0), .lit (.int .u8 0)], .agg [.lit (.int .u8 0), .lit (.int .u8 0)], .agg [.lit (.int .u8 0), .lit (.int .u8 0)], .agg [.lit (.int .u8 0), .lit (.int .u8 0)], .agg [.lit (.int .u8 0), .lit (.int .u8 0)], .agg [.lit (.int .u8 0), .lit (.int .u8 0)], .agg [.lit (.int .u8 0), .lit (.int .u8 0)]]
def laid_jobshop_packed_signs {H : Type} : DataW H := .agg [.lit (.int .i64 0), .lit (.int .i64 0), .lit (.int .i64 0), .lit (.int .i64 0), .lit (.int .i64 0), .lit (.int .i64 0), .lit (.int .i64 0), .lit (.int .i64 0), .lit (.int .i64 0), .lit (.int .i64 0), .lit (.int .i64 1), .lit (.int .i64 2), .lit (.int .i64 1), .lit (.int .i64 2), .lit (.int .i64 1), .lit (.int .i64 1)]
/-- One of Go's own tables, pinned by name: the form's constant. -/
def laid_unicode_utf8_first : DataW Unit := Go.Pinned.utf8First

/-- 'jobshoplaw04.DecimalAdds': WHATEVER THE INPUT: true; the input reads as it did. -/
def decimalAddsSpec : ChangeSpec := { name := "decimalAdds", fn := fun _ => fun
  | [d1, d2, d3] => { results := [.lit (.bool true)], args := [d1, d2, d3] }
  | _ => none }
def decimalAddsRow : OpenClaim := { program := "ytlpekknhaaddcaadoor", sum := "9257648ef41854857b883f818ea16395e9e216638402d61cfbe25550a2f67acd", func := "jobshop/jobshoplaw04.DecimalAdds", spec := "decimalAdds", inPlace := ["internal/bytealg.IndexByteString", "internal/bytealg.IndexString", "math/bits.Add64", "math/bits.Sub64", "internal/bytealg.MakeNoZero"], unfollowed := true, recurses := true, named := ["jobshop/packed.signs", "unicode/utf8.first", "unicode/utf8.acceptRanges", "math/bits.divideError", "math/bits.overflowError", "internal/bytealg.MaxLen"], apart := false, laid := [("unicode/utf8.acceptRanges", laid_unicode_utf8_acceptRanges), ("jobshop/packed.signs", laid_jobshop_packed_signs), ("unicode/utf8.first", laid_unicode_utf8_first)] }
def DecimalAddsSaid : Prop := decimalAddsRow.holds Tryd.pinned (OpenSpec.ofChange decimalAddsSpec)

/-- ITS FALSE NEIGHBOUR: 'it returns false'. Refute it at one input. -/
def decimalAddsWrong : ChangeSpec := { name := "decimalAdds", fn := fun _ => fun
  | [d1, d2, d3] => { results := [.lit (.bool false)], args := [d1, d2, d3] }
  | _ => none }
def DecimalAddsWrongFalsely : Prop := decimalAddsRow.holds Tryd.pinned (OpenSpec.ofChange decimalAddsWrong)

/-- 'jobshoplaw04.DecimalCompares': WHATEVER THE INPUT: true; the input reads as it did. -/
def decimalComparesSpec : ChangeSpec := { name := "decimalCompares", fn := fun _ => fun
  | [d1, d2] => { results := [.lit (.bool true)], args := [d1, d2] }
  | _ => none }
def decimalComparesRow : OpenClaim := { program := "ytlpekknhaaddcaadoor", sum := "9257648ef41854857b883f818ea16395e9e216638402d61cfbe25550a2f67acd", func := "jobshop/jobshoplaw04.DecimalCompares", spec := "decimalCompares", inPlace := ["internal/bytealg.IndexByteString", "internal/bytealg.IndexString", "math/bits.Add64", "math/bits.Sub64", "internal/bytealg.MakeNoZero"], unfollowed := true, recurses := true, named := ["jobshop/packed.signs", "unicode/utf8.first", "unicode/utf8.acceptRanges", "math/bits.divideError", "math/bits.overflowError", "internal/bytealg.MaxLen"], apart := false, laid := [("unicode/utf8.acceptRanges", laid_unicode_utf8_acceptRanges), ("jobshop/packed.signs", laid_jobshop_packed_signs), ("unicode/utf8.first", laid_unicode_utf8_first)] }
def DecimalComparesSaid : Prop := decimalComparesRow.holds Tryd.pinned (OpenSpec.ofChange decimalComparesSpec)

/-- ITS FALSE NEIGHBOUR: 'it returns false'. Refute it at one input. -/
def decimalComparesWrong : ChangeSpec := { name := "decimalCompares", fn := fun _ => fun
  | [d1, d2] => { results := [.lit (.bool false)], args := [d1, d2] }
  | _ => none }
def DecimalComparesWrongFalsely : Prop := decimalComparesRow.holds Tryd.pinned (OpenSpec.ofChange decimalComparesWrong)

/-- 'jobshoplaw04.DecimalMultiplies': WHATEVER THE INPUT: true; the input reads as it did. -/
def decimalMultipliesSpec : ChangeSpec := { name := "decimalMultiplies", fn := fun _ => fun
  | [d1, d2] => { results := [.lit (.bool true)], args := [d1, d2] }
  | _ => none }
def decimalMultipliesRow : OpenClaim := { program := "ytlpekknhaaddcaadoor", sum := "9257648ef41854857b883f818ea16395e9e216638402d61cfbe25550a2f67acd", func := "jobshop/jobshoplaw04.DecimalMultiplies", spec := "decimalMultiplies", inPlace := ["internal/bytealg.IndexByteString", "internal/bytealg.IndexString", "math/bits.Add64", "internal/bytealg.MakeNoZero", "math/bits.Sub64"], unfollowed := true, recurses := true, named := ["jobshop/packed.signs", "unicode/utf8.first", "unicode/utf8.acceptRanges", "math/bits.divideError", "math/bits.overflowError", "internal/bytealg.MaxLen"], apart := false, laid := [("unicode/utf8.acceptRanges", laid_unicode_utf8_acceptRanges), ("jobshop/packed.signs", laid_jobshop_packed_signs), ("unicode/utf8.first", laid_unicode_utf8_first)] }
def DecimalMultipliesSaid : Prop := decimalMultipliesRow.holds Tryd.pinned (OpenSpec.ofChange decimalMultipliesSpec)

/-- ITS FALSE NEIGHBOUR: 'it returns false'. Refute it at one input. -/
def decimalMultipliesWrong : ChangeSpec := { name := "decimalMultiplies", fn := fun _ => fun
  | [d1, d2] => { results := [.lit (.bool false)], args := [d1, d2] }
  | _ => none }
def DecimalMultipliesWrongFalsely : Prop := decimalMultipliesRow.holds Tryd.pinned (OpenSpec.ofChange decimalMultipliesWrong)

/-- 'jobshoplaw04.DecimalDivides': WHATEVER THE INPUT: true; the input reads as it did. -/
def decimalDividesSpec : ChangeSpec := { name := "decimalDivides", fn := fun _ => fun
  | [d1, d2] => { results := [.lit (.bool true)], args := [d1, d2] }
  | _ => none }
def decimalDividesRow : OpenClaim := { program := "ytlpekknhaaddcaadoor", sum := "9257648ef41854857b883f818ea16395e9e216638402d61cfbe25550a2f67acd", func := "jobshop/jobshoplaw04.DecimalDivides", spec := "decimalDivides", inPlace := ["internal/bytealg.IndexByteString", "internal/bytealg.IndexString", "math/bits.Add64", "internal/bytealg.MakeNoZero", "math/bits.Sub64"], unfollowed := true, recurses := true, named := ["jobshop/packed.signs", "unicode/utf8.first", "unicode/utf8.acceptRanges", "math/bits.divideError", "math/bits.overflowError", "internal/bytealg.MaxLen"], apart := false, laid := [("unicode/utf8.acceptRanges", laid_unicode_utf8_acceptRanges), ("jobshop/packed.signs", laid_jobshop_packed_signs), ("unicode/utf8.first", laid_unicode_utf8_first)] }
def DecimalDividesSaid : Prop := decimalDividesRow.holds Tryd.pinned (OpenSpec.ofChange decimalDividesSpec)

/-- ITS FALSE NEIGHBOUR: 'it returns false'. Refute it at one input. -/
def decimalDividesWrong : ChangeSpec := { name := "decimalDivides", fn := fun _ => fun
  | [d1, d2] => { results := [.lit (.bool false)], args := [d1, d2] }
  | _ => none }
def DecimalDividesWrongFalsely : Prop := decimalDividesRow.holds Tryd.pinned (OpenSpec.ofChange decimalDividesWrong)

/-- 'jobshoplaw04.DecimalShifts': WHATEVER THE INPUT: true; the input reads as it did. -/
def decimalShiftsSpec : ChangeSpec := { name := "decimalShifts", fn := fun _ => fun
  | [d1, d2, d3] => { results := [.lit (.bool true)], args := [d1, d2, d3] }
  | _ => none }
def decimalShiftsRow : OpenClaim := { program := "ytlpekknhaaddcaadoor", sum := "9257648ef41854857b883f818ea16395e9e216638402d61cfbe25550a2f67acd", func := "jobshop/jobshoplaw04.DecimalShifts", spec := "decimalShifts", inPlace := ["internal/bytealg.IndexByteString", "internal/bytealg.IndexString", "math/bits.Add64", "internal/bytealg.MakeNoZero", "math/bits.Sub64"], unfollowed := true, recurses := true, named := ["jobshop/packed.signs", "unicode/utf8.first", "unicode/utf8.acceptRanges", "math/bits.divideError", "math/bits.overflowError", "internal/bytealg.MaxLen"], apart := false, laid := [("unicode/utf8.acceptRanges", laid_unicode_utf8_acceptRanges), ("jobshop/packed.signs", laid_jobshop_packed_signs), ("unicode/utf8.first", laid_unicode_utf8_first)] }
def DecimalShiftsSaid : Prop := decimalShiftsRow.holds Tryd.pinned (OpenSpec.ofChange decimalShiftsSpec)

/-- ITS FALSE NEIGHBOUR: 'it returns false'. Refute it at one input. -/
def decimalShiftsWrong : ChangeSpec := { name := "decimalShifts", fn := fun _ => fun
  | [d1, d2, d3] => { results := [.lit (.bool false)], args := [d1, d2, d3] }
  | _ => none }
def DecimalShiftsWrongFalsely : Prop := decimalShiftsRow.holds Tryd.pinned (OpenSpec.ofChange decimalShiftsWrong)

/-- 'jobshoplaw04.DecimalConverts': WHATEVER THE INPUT: true; the input reads as it did. -/
def decimalConvertsSpec : ChangeSpec := { name := "decimalConverts", fn := fun _ => fun
  | [d1, d2] => { results := [.lit (.bool true)], args := [d1, d2] }
  | _ => none }
def decimalConvertsRow : OpenClaim := { program := "ytlpekknhaaddcaadoor", sum := "9257648ef41854857b883f818ea16395e9e216638402d61cfbe25550a2f67acd", func := "jobshop/jobshoplaw04.DecimalConverts", spec := "decimalConverts", inPlace := ["internal/bytealg.IndexByteString", "internal/bytealg.IndexString", "math/bits.Add64", "internal/bytealg.MakeNoZero", "math/bits.Sub64"], unfollowed := true, recurses := true, named := ["jobshop/packed.signs", "unicode/utf8.first", "unicode/utf8.acceptRanges", "math/bits.divideError", "math/bits.overflowError", "internal/bytealg.MaxLen"], apart := false, laid := [("unicode/utf8.acceptRanges", laid_unicode_utf8_acceptRanges), ("jobshop/packed.signs", laid_jobshop_packed_signs), ("unicode/utf8.first", laid_unicode_utf8_first)] }
def DecimalConvertsSaid : Prop := decimalConvertsRow.holds Tryd.pinned (OpenSpec.ofChange decimalConvertsSpec)

/-- ITS FALSE NEIGHBOUR: 'it returns false'. Refute it at one input. -/
def decimalConvertsWrong : ChangeSpec := { name := "decimalConverts", fn := fun _ => fun
  | [d1, d2] => { results := [.lit (.bool false)], args := [d1, d2] }
  | _ => none }
def DecimalConvertsWrongFalsely : Prop := decimalConvertsRow.holds Tryd.pinned (OpenSpec.ofChange decimalConvertsWrong)

/-- 'jobshoplaw04.DecimalKnown': WHATEVER THE INPUT: true; the input reads as it did. -/
def decimalKnownSpec : ChangeSpec := { name := "decimalKnown", fn := fun _ => fun
  | [] => { results := [.lit (.bool true)], args := [] }
  | _ => none }
def decimalKnownRow : OpenClaim := { program := "ytlpekknhaaddcaadoor", sum := "9257648ef41854857b883f818ea16395e9e216638402d61cfbe25550a2f67acd", func := "jobshop/jobshoplaw04.DecimalKnown", spec := "decimalKnown", inPlace := ["internal/bytealg.IndexByteString", "internal/bytealg.IndexString", "math/bits.Add64", "math/bits.Sub64", "internal/bytealg.MakeNoZero"], unfollowed := true, recurses := true, named := ["jobshop/packed.signs", "unicode/utf8.first", "unicode/utf8.acceptRanges", "math/bits.divideError", "math/bits.overflowError", "internal/bytealg.MaxLen"], apart := false, laid := [("unicode/utf8.acceptRanges", laid_unicode_utf8_acceptRanges), ("jobshop/packed.signs", laid_jobshop_packed_signs), ("unicode/utf8.first", laid_unicode_utf8_first)] }
def DecimalKnownSaid : Prop := decimalKnownRow.holds Tryd.pinned (OpenSpec.ofChange decimalKnownSpec)

/-- ITS FALSE NEIGHBOUR: 'it returns false'. Refute it at one input. -/
def decimalKnownWrong : ChangeSpec := { name := "decimalKnown", fn := fun _ => fun
  | [] => { results := [.lit (.bool false)], args := [] }
  | _ => none }
def DecimalKnownWrongFalsely : Prop := decimalKnownRow.holds Tryd.pinned (OpenSpec.ofChange decimalKnownWrong)

/-- 'jobshoplaw04.DecimalUndoes': WHATEVER THE INPUT: true; the input reads as it did. -/
def decimalUndoesSpec : ChangeSpec := { name := "decimalUndoes", fn := fun _ => fun
  | [d1, d2] => { results := [.lit (.bool true)], args := [d1, d2] }
  | _ => none }
def decimalUndoesRow : OpenClaim := { program := "ytlpekknhaaddcaadoor", sum := "9257648ef41854857b883f818ea16395e9e216638402d61cfbe25550a2f67acd", func := "jobshop/jobshoplaw04.DecimalUndoes", spec := "decimalUndoes", inPlace := ["internal/bytealg.IndexByteString", "internal/bytealg.IndexString", "math/bits.Add64", "math/bits.Sub64", "internal/bytealg.MakeNoZero"], unfollowed := true, recurses := true, named := ["jobshop/packed.signs", "unicode/utf8.first", "unicode/utf8.acceptRanges", "math/bits.divideError", "math/bits.overflowError", "internal/bytealg.MaxLen"], apart := false, laid := [("unicode/utf8.acceptRanges", laid_unicode_utf8_acceptRanges), ("jobshop/packed.signs", laid_jobshop_packed_signs), ("unicode/utf8.first", laid_unicode_utf8_first)] }
def DecimalUndoesSaid : Prop := decimalUndoesRow.holds Tryd.pinned (OpenSpec.ofChange decimalUndoesSpec)

/-- ITS FALSE NEIGHBOUR: 'it returns false'. Refute it at one input. -/
def decimalUndoesWrong : ChangeSpec := { name := "decimalUndoes", fn := fun _ => fun
  | [d1, d2] => { results := [.lit (.bool false)], args := [d1, d2] }
  | _ => none }
def DecimalUndoesWrongFalsely : Prop := decimalUndoesRow.holds Tryd.pinned (OpenSpec.ofChange decimalUndoesWrong)

/-- 'jobshoplaw04.DecimalQuotients': WHATEVER THE INPUT: true; the input reads as it did. -/
def decimalQuotientsSpec : ChangeSpec := { name := "decimalQuotients", fn := fun _ => fun
  | [d1, d2] => { results := [.lit (.bool true)], args := [d1, d2] }
  | _ => none }
def decimalQuotientsRow : OpenClaim := { program := "ytlpekknhaaddcaadoor", sum := "9257648ef41854857b883f818ea16395e9e216638402d61cfbe25550a2f67acd", func := "jobshop/jobshoplaw04.DecimalQuotients", spec := "decimalQuotients", inPlace := ["internal/bytealg.IndexByteString", "internal/bytealg.IndexString", "math/bits.Add64", "internal/bytealg.MakeNoZero", "math/bits.Sub64"], unfollowed := true, recurses := true, named := ["jobshop/packed.signs", "unicode/utf8.first", "unicode/utf8.acceptRanges", "math/bits.divideError", "math/bits.overflowError", "internal/bytealg.MaxLen"], apart := false, laid := [("unicode/utf8.acceptRanges", laid_unicode_utf8_acceptRanges), ("jobshop/packed.signs", laid_jobshop_packed_signs), ("unicode/utf8.first", laid_unicode_utf8_first)] }
def DecimalQuotientsSaid : Prop := decimalQuotientsRow.holds Tryd.pinned (OpenSpec.ofChange decimalQuotientsSpec)

/-- ITS FALSE NEIGHBOUR: 'it returns false'. Refute it at one input. -/
def decimalQuotientsWrong : ChangeSpec := { name := "decimalQuotients", fn := fun _ => fun
  | [d1, d2] => { results := [.lit (.bool false)], args := [d1, d2] }
  | _ => none }
def DecimalQuotientsWrongFalsely : Prop := decimalQuotientsRow.holds Tryd.pinned (OpenSpec.ofChange decimalQuotientsWrong)

/-- 'jobshoplaw04.DecimalBinary': WHATEVER THE INPUT: true; the input reads as it did. -/
def decimalBinarySpec : ChangeSpec := { name := "decimalBinary", fn := fun _ => fun
  | [d] => { results := [.lit (.bool true)], args := [d] }
  | _ => none }
def decimalBinaryRow : OpenClaim := { program := "ytlpekknhaaddcaadoor", sum := "9257648ef41854857b883f818ea16395e9e216638402d61cfbe25550a2f67acd", func := "jobshop/jobshoplaw04.DecimalBinary", spec := "decimalBinary", inPlace := ["internal/bytealg.MakeNoZero", "internal/bytealg.IndexByteString", "internal/bytealg.IndexString", "math/bits.Add64", "math/bits.Sub64"], unfollowed := true, recurses := true, named := ["math/bits.divideError", "math/bits.overflowError", "unicode/utf8.first", "unicode/utf8.acceptRanges", "jobshop/packed.signs", "internal/bytealg.MaxLen"], apart := false, laid := [("unicode/utf8.acceptRanges", laid_unicode_utf8_acceptRanges), ("jobshop/packed.signs", laid_jobshop_packed_signs), ("unicode/utf8.first", laid_unicode_utf8_first)] }
def DecimalBinarySaid : Prop := decimalBinaryRow.holds Tryd.pinned (OpenSpec.ofChange decimalBinarySpec)

/-- ITS FALSE NEIGHBOUR: 'it returns false'. Refute it at one input. -/
def decimalBinaryWrong : ChangeSpec := { name := "decimalBinary", fn := fun _ => fun
  | [d] => { results := [.lit (.bool false)], args := [d] }
  | _ => none }
def DecimalBinaryWrongFalsely : Prop := decimalBinaryRow.holds Tryd.pinned (OpenSpec.ofChange decimalBinaryWrong)

/- THE SECOND FORM. 'bulk': how many values and letters a reading holds, each counted each time it is reached (what is shared counts as often as it is met; a slice's spare places count too). A statement '..UptoSaid' is the law's where the arguments, and the package variables that the reading takes, are together of bulk at most 1048576: NARROWER than '..Said'. Prove '..Said' where nothing that the law and all that it calls make is longer than what came in: it says more and counts as full. Else prove '..UptoSaid'. A law counts once. -/
mutual
def uptoBulk {H : Type} : DataW H → Nat
  | .lit (.string bytes) => bytes.length + 1
  | .lit _ => 1
  | .nil => 1
  | .ptr d => uptoBulk d + 1
  | .slice elems spare => uptoBulkAll elems + uptoBulkAll spare + 1
  | .agg parts => uptoBulkAll parts + 1
  | .iface _ d => uptoBulk d + 1
  | .map entries => uptoBulkEntries entries + 1
  | .held _ => 1
def uptoBulkAll {H : Type} : List (DataW H) → Nat
  | [] => 0
  | d :: r => uptoBulk d + uptoBulkAll r
def uptoBulkEntries {H : Type} : List (Lit × DataW H) → Nat
  | [] => 0
  | x :: r => uptoBulkEntry x + uptoBulkEntries r
def uptoBulkEntry {H : Type} : Lit × DataW H → Nat
  | (.string bytes, d) => bytes.length + uptoBulk d + 1
  | (_, d) => uptoBulk d + 1
 end
def uptoSmall : (H : Type) → List (DataW H) → Bool := fun _ ds => decide (uptoBulkAll ds ≤ 1048576)
def OpenSpec.upto (s : _root_.Go.ChangeSpec) : _root_.Go.OpenSpec := { _root_.Go.OpenSpec.ofChange s with cond := some uptoSmall }

/-- 'jobshoplaw04.DecimalAdds', WHERE WHAT IT READS IS OF BULK AT MOST 1048576: true; the input reads as it did. -/
def decimalAddsUptoRow : OpenClaim := { program := "ytlpekknhaaddcaadoor", sum := "9257648ef41854857b883f818ea16395e9e216638402d61cfbe25550a2f67acd", func := "jobshop/jobshoplaw04.DecimalAdds", spec := "decimalAdds", inPlace := ["internal/bytealg.IndexByteString", "internal/bytealg.IndexString", "math/bits.Add64", "math/bits.Sub64", "internal/bytealg.MakeNoZero"], unfollowed := true, recurses := true, named := ["jobshop/packed.signs", "unicode/utf8.first", "unicode/utf8.acceptRanges", "math/bits.divideError", "math/bits.overflowError", "internal/bytealg.MaxLen"], apart := false, laid := [("unicode/utf8.acceptRanges", laid_unicode_utf8_acceptRanges), ("jobshop/packed.signs", laid_jobshop_packed_signs), ("unicode/utf8.first", laid_unicode_utf8_first)], narrowed := true }
def DecimalAddsUptoSaid : Prop := decimalAddsUptoRow.holds Tryd.pinned (OpenSpec.upto decimalAddsSpec)

/-- 'jobshoplaw04.DecimalCompares', WHERE WHAT IT READS IS OF BULK AT MOST 1048576: true; the input reads as it did. -/
def decimalComparesUptoRow : OpenClaim := { program := "ytlpekknhaaddcaadoor", sum := "9257648ef41854857b883f818ea16395e9e216638402d61cfbe25550a2f67acd", func := "jobshop/jobshoplaw04.DecimalCompares", spec := "decimalCompares", inPlace := ["internal/bytealg.IndexByteString", "internal/bytealg.IndexString", "math/bits.Add64", "math/bits.Sub64", "internal/bytealg.MakeNoZero"], unfollowed := true, recurses := true, named := ["jobshop/packed.signs", "unicode/utf8.first", "unicode/utf8.acceptRanges", "math/bits.divideError", "math/bits.overflowError", "internal/bytealg.MaxLen"], apart := false, laid := [("unicode/utf8.acceptRanges", laid_unicode_utf8_acceptRanges), ("jobshop/packed.signs", laid_jobshop_packed_signs), ("unicode/utf8.first", laid_unicode_utf8_first)], narrowed := true }
def DecimalComparesUptoSaid : Prop := decimalComparesUptoRow.holds Tryd.pinned (OpenSpec.upto decimalComparesSpec)

/-- 'jobshoplaw04.DecimalMultiplies', WHERE WHAT IT READS IS OF BULK AT MOST 1048576: true; the input reads as it did. -/
def decimalMultipliesUptoRow : OpenClaim := { program := "ytlpekknhaaddcaadoor", sum := "9257648ef41854857b883f818ea16395e9e216638402d61cfbe25550a2f67acd", func := "jobshop/jobshoplaw04.DecimalMultiplies", spec := "decimalMultiplies", inPlace := ["internal/bytealg.IndexByteString", "internal/bytealg.IndexString", "math/bits.Add64", "internal/bytealg.MakeNoZero", "math/bits.Sub64"], unfollowed := true, recurses := true, named := ["jobshop/packed.signs", "unicode/utf8.first", "unicode/utf8.acceptRanges", "math/bits.divideError", "math/bits.overflowError", "internal/bytealg.MaxLen"], apart := false, laid := [("unicode/utf8.acceptRanges", laid_unicode_utf8_acceptRanges), ("jobshop/packed.signs", laid_jobshop_packed_signs), ("unicode/utf8.first", laid_unicode_utf8_first)], narrowed := true }
def DecimalMultipliesUptoSaid : Prop := decimalMultipliesUptoRow.holds Tryd.pinned (OpenSpec.upto decimalMultipliesSpec)

/-- 'jobshoplaw04.DecimalDivides', WHERE WHAT IT READS IS OF BULK AT MOST 1048576: true; the input reads as it did. -/
def decimalDividesUptoRow : OpenClaim := { program := "ytlpekknhaaddcaadoor", sum := "9257648ef41854857b883f818ea16395e9e216638402d61cfbe25550a2f67acd", func := "jobshop/jobshoplaw04.DecimalDivides", spec := "decimalDivides", inPlace := ["internal/bytealg.IndexByteString", "internal/bytealg.IndexString", "math/bits.Add64", "internal/bytealg.MakeNoZero", "math/bits.Sub64"], unfollowed := true, recurses := true, named := ["jobshop/packed.signs", "unicode/utf8.first", "unicode/utf8.acceptRanges", "math/bits.divideError", "math/bits.overflowError", "internal/bytealg.MaxLen"], apart := false, laid := [("unicode/utf8.acceptRanges", laid_unicode_utf8_acceptRanges), ("jobshop/packed.signs", laid_jobshop_packed_signs), ("unicode/utf8.first", laid_unicode_utf8_first)], narrowed := true }
def DecimalDividesUptoSaid : Prop := decimalDividesUptoRow.holds Tryd.pinned (OpenSpec.upto decimalDividesSpec)

/-- 'jobshoplaw04.DecimalShifts', WHERE WHAT IT READS IS OF BULK AT MOST 1048576: true; the input reads as it did. -/
def decimalShiftsUptoRow : OpenClaim := { program := "ytlpekknhaaddcaadoor", sum := "9257648ef41854857b883f818ea16395e9e216638402d61cfbe25550a2f67acd", func := "jobshop/jobshoplaw04.DecimalShifts", spec := "decimalShifts", inPlace := ["internal/bytealg.IndexByteString", "internal/bytealg.IndexString", "math/bits.Add64", "internal/bytealg.MakeNoZero", "math/bits.Sub64"], unfollowed := true, recurses := true, named := ["jobshop/packed.signs", "unicode/utf8.first", "unicode/utf8.acceptRanges", "math/bits.divideError", "math/bits.overflowError", "internal/bytealg.MaxLen"], apart := false, laid := [("unicode/utf8.acceptRanges", laid_unicode_utf8_acceptRanges), ("jobshop/packed.signs", laid_jobshop_packed_signs), ("unicode/utf8.first", laid_unicode_utf8_first)], narrowed := true }
def DecimalShiftsUptoSaid : Prop := decimalShiftsUptoRow.holds Tryd.pinned (OpenSpec.upto decimalShiftsSpec)

/-- 'jobshoplaw04.DecimalConverts', WHERE WHAT IT READS IS OF BULK AT MOST 1048576: true; the input reads as it did. -/
def decimalConvertsUptoRow : OpenClaim := { program := "ytlpekknhaaddcaadoor", sum := "9257648ef41854857b883f818ea16395e9e216638402d61cfbe25550a2f67acd", func := "jobshop/jobshoplaw04.DecimalConverts", spec := "decimalConverts", inPlace := ["internal/bytealg.IndexByteString", "internal/bytealg.IndexString", "math/bits.Add64", "internal/bytealg.MakeNoZero", "math/bits.Sub64"], unfollowed := true, recurses := true, named := ["jobshop/packed.signs", "unicode/utf8.first", "unicode/utf8.acceptRanges", "math/bits.divideError", "math/bits.overflowError", "internal/bytealg.MaxLen"], apart := false, laid := [("unicode/utf8.acceptRanges", laid_unicode_utf8_acceptRanges), ("jobshop/packed.signs", laid_jobshop_packed_signs), ("unicode/utf8.first", laid_unicode_utf8_first)], narrowed := true }
def DecimalConvertsUptoSaid : Prop := decimalConvertsUptoRow.holds Tryd.pinned (OpenSpec.upto decimalConvertsSpec)

/-- 'jobshoplaw04.DecimalKnown', WHERE WHAT IT READS IS OF BULK AT MOST 1048576: true; the input reads as it did. -/
def decimalKnownUptoRow : OpenClaim := { program := "ytlpekknhaaddcaadoor", sum := "9257648ef41854857b883f818ea16395e9e216638402d61cfbe25550a2f67acd", func := "jobshop/jobshoplaw04.DecimalKnown", spec := "decimalKnown", inPlace := ["internal/bytealg.IndexByteString", "internal/bytealg.IndexString", "math/bits.Add64", "math/bits.Sub64", "internal/bytealg.MakeNoZero"], unfollowed := true, recurses := true, named := ["jobshop/packed.signs", "unicode/utf8.first", "unicode/utf8.acceptRanges", "math/bits.divideError", "math/bits.overflowError", "internal/bytealg.MaxLen"], apart := false, laid := [("unicode/utf8.acceptRanges", laid_unicode_utf8_acceptRanges), ("jobshop/packed.signs", laid_jobshop_packed_signs), ("unicode/utf8.first", laid_unicode_utf8_first)], narrowed := true }
def DecimalKnownUptoSaid : Prop := decimalKnownUptoRow.holds Tryd.pinned (OpenSpec.upto decimalKnownSpec)

/-- 'jobshoplaw04.DecimalUndoes', WHERE WHAT IT READS IS OF BULK AT MOST 1048576: true; the input reads as it did. -/
def decimalUndoesUptoRow : OpenClaim := { program := "ytlpekknhaaddcaadoor", sum := "9257648ef41854857b883f818ea16395e9e216638402d61cfbe25550a2f67acd", func := "jobshop/jobshoplaw04.DecimalUndoes", spec := "decimalUndoes", inPlace := ["internal/bytealg.IndexByteString", "internal/bytealg.IndexString", "math/bits.Add64", "math/bits.Sub64", "internal/bytealg.MakeNoZero"], unfollowed := true, recurses := true, named := ["jobshop/packed.signs", "unicode/utf8.first", "unicode/utf8.acceptRanges", "math/bits.divideError", "math/bits.overflowError", "internal/bytealg.MaxLen"], apart := false, laid := [("unicode/utf8.acceptRanges", laid_unicode_utf8_acceptRanges), ("jobshop/packed.signs", laid_jobshop_packed_signs), ("unicode/utf8.first", laid_unicode_utf8_first)], narrowed := true }
def DecimalUndoesUptoSaid : Prop := decimalUndoesUptoRow.holds Tryd.pinned (OpenSpec.upto decimalUndoesSpec)

/-- 'jobshoplaw04.DecimalQuotients', WHERE WHAT IT READS IS OF BULK AT MOST 1048576: true; the input reads as it did. -/
def decimalQuotientsUptoRow : OpenClaim := { program := "ytlpekknhaaddcaadoor", sum := "9257648ef41854857b883f818ea16395e9e216638402d61cfbe25550a2f67acd", func := "jobshop/jobshoplaw04.DecimalQuotients", spec := "decimalQuotients", inPlace := ["internal/bytealg.IndexByteString", "internal/bytealg.IndexString", "math/bits.Add64", "internal/bytealg.MakeNoZero", "math/bits.Sub64"], unfollowed := true, recurses := true, named := ["jobshop/packed.signs", "unicode/utf8.first", "unicode/utf8.acceptRanges", "math/bits.divideError", "math/bits.overflowError", "internal/bytealg.MaxLen"], apart := false, laid := [("unicode/utf8.acceptRanges", laid_unicode_utf8_acceptRanges), ("jobshop/packed.signs", laid_jobshop_packed_signs), ("unicode/utf8.first", laid_unicode_utf8_first)], narrowed := true }
def DecimalQuotientsUptoSaid : Prop := decimalQuotientsUptoRow.holds Tryd.pinned (OpenSpec.upto decimalQuotientsSpec)

/-- 'jobshoplaw04.DecimalBinary', WHERE WHAT IT READS IS OF BULK AT MOST 1048576: true; the input reads as it did. -/
def decimalBinaryUptoRow : OpenClaim := { program := "ytlpekknhaaddcaadoor", sum := "9257648ef41854857b883f818ea16395e9e216638402d61cfbe25550a2f67acd", func := "jobshop/jobshoplaw04.DecimalBinary", spec := "decimalBinary", inPlace := ["internal/bytealg.MakeNoZero", "internal/bytealg.IndexByteString", "internal/bytealg.IndexString", "math/bits.Add64", "math/bits.Sub64"], unfollowed := true, recurses := true, named := ["math/bits.divideError", "math/bits.overflowError", "unicode/utf8.first", "unicode/utf8.acceptRanges", "jobshop/packed.signs", "internal/bytealg.MaxLen"], apart := false, laid := [("unicode/utf8.acceptRanges", laid_unicode_utf8_acceptRanges), ("jobshop/packed.signs", laid_jobshop_packed_signs), ("unicode/utf8.first", laid_unicode_utf8_first)], narrowed := true }
def DecimalBinaryUptoSaid : Prop := decimalBinaryUptoRow.holds Tryd.pinned (OpenSpec.upto decimalBinarySpec)

end Rows
end Go.Proofs.YtlpekknhaaddcaaDoor

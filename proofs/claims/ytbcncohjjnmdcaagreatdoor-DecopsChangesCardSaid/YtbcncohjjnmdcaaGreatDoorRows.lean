/-
  NARROWER THAN 'FOR EVERY INPUT', by the rows' own cells (each row's printed sentence says how): DecopsKnows: laid · DecopsCalls: laid · DecopsRuns: laid · DecopsNone: laid · DecopsChanges: laid · DecopsSums: laid · DecopsDigits: laid · DecopsEdits: laid.
  DERIVED. THE GIVEN ROWS OF THIS SEAT. 8 by the template 'for every input the law returns true; each argument reads behind the call as it read before'; 0 by the template 'total and deterministic' (their statements: YtbcncohjjnmdcaaGreatDoorTotals.lean).
  GIVEN WITH THE SEED: the statements are not yours to turn. If you find one false, say at which input.
  Laid BY PROGRAM, IN A SANDBOX (cutbox-rows.mjs): the forced cells as the released guide's own fill.sh prints them over the translation b7279badacfd343a… (all of the seat's roots in one cut). By AI agents, Wed Nov 11 2026. No macro, syntax, notation, axiom, sorry.
-/
import Derived.Test.YtbcncohjjnmdcaaGreatDoorChecked
import GoSem.PinnedTables
import GoSem.Claim
import GoSem.ClaimJoined
import GoSem.ClaimMapViews
import Derived.JoinedTies
import Derived.KernelRfl
namespace Go.Proofs.YtbcncohjjnmdcaaGreatDoor
/- THE CELL 'sum', in the pinned program and in every row, IS THE sha256 OF THE DUMP (.gsa) THAT YtbcncohjjnmdcaaGreatDoorProg.lean LOADS. Nothing in Lean hashes anything: it is a label: what it is worth is what the hold of that sum in a sandbox is worth. -/
noncomputable def Tryz.pinned : Pinned := { name := "ytbcncohjjnmdcaagreatdoor", sum := "b7279badacfd343af7ee54929a7378245642edd5966399af391d57567bf5958f", checked := Tryz.checked }
namespace Rows
def none {H : Type} : Left H := { results := [], args := [] }

/- WHAT THE LISTED PACKAGE-LEVEL VARIABLES READ AS WHEN THE CALL BEGINS. Each datum BY PROGRAM (the guide's laid-datum.mjs) off the statement by which the dump's own 'gosem.cut.vars' lays the variable. In a bare row this is a premise. The card (YtbcncohjjnmdcaaGreatDoorCards.lean) ties it to the program's text. -/
def laid_unicode_utf8_acceptRanges {H : Type} : DataW H := .agg [.agg [.lit (.int .u8 128), .lit (.int .u8 191)], .agg [.lit (.int .u8 160), .lit (.int .u8 191)], .agg [.lit (.int .u8 128), .lit (.int .u8 159)], .agg [.lit (.int .u8 144), .lit (.int .u8 191)], .agg [.lit (.int .u8 128), .lit (.int .u8 143)], .agg [.lit (.int .u8 0), .lit (.int .u8 0)], .agg [.lit (.int .u8 0), .lit (.int .u8 0)], .agg [.lit (.int .u8 0), .lit (.int .u8 0)], .agg [.lit (.int .u8 0), .lit (.int .u8 0)], .agg [.lit (.int .u8 0), .lit (.int .u8 0)], .agg [.lit (.int .u8 0), .lit (.int .u8 0)], .agg [.lit (.int .u8 0), .lit (.int .u8 0)], .agg [.lit (.int .u8 0), .lit (.int .u8 0)], .agg [.lit (.int .u8 0), .lit (.int .u8 0)], .agg [.lit (.int .u8 0), .lit (.int .u8 0)], .agg [.lit (.int .u8 0), .lit (.int .u8 0)]]
def laid_jobshop_packed_signs {H : Type} : DataW H := .agg [.lit (.int .i64 0), .lit (.int .i64 0), .lit (.int .i64 0), .lit (.int .i64 0), .lit (.int .i64 0), .lit (.int .i64 0), .lit (.int .i64 0), .lit (.int .i64 0), .lit (.int .i64 0), .lit (.int .i64 0), .lit (.int .i64 1), .lit (.int .i64 2), .lit (.int .i64 1), .lit (.int .i64 2), .lit (.int .i64 1), .lit (.int .i64 1)]
/-- One of Go's own tables, pinned by name: the form's constant. -/
def laid_unicode_utf8_first : DataW Unit := Go.Pinned.utf8First

/-- 'jobshoplaw10.DecopsKnows': WHATEVER THE INPUT: true; the input reads as it did. -/
def decopsKnowsSpec : ChangeSpec := { name := "decopsKnows", fn := fun _ => fun
  | [d] => { results := [.lit (.bool true)], args := [d] }
  | _ => none }
def decopsKnowsRow : OpenClaim := { program := "ytbcncohjjnmdcaagreatdoor", sum := "b7279badacfd343af7ee54929a7378245642edd5966399af391d57567bf5958f", func := "jobshop/jobshoplaw10.DecopsKnows", spec := "decopsKnows", inPlace := ["internal/bytealg.IndexByteString", "internal/bytealg.IndexString", "math/bits.Add64", "internal/bytealg.MakeNoZero", "math/bits.Sub64"], unfollowed := true, recurses := true, named := ["jobshop/packed.signs", "unicode/utf8.first", "unicode/utf8.acceptRanges", "math/bits.divideError", "math/bits.overflowError", "internal/bytealg.MaxLen"], apart := false, laid := [("unicode/utf8.acceptRanges", laid_unicode_utf8_acceptRanges), ("jobshop/packed.signs", laid_jobshop_packed_signs), ("unicode/utf8.first", laid_unicode_utf8_first)] }
def DecopsKnowsSaid : Prop := decopsKnowsRow.holds Tryz.pinned (OpenSpec.ofChange decopsKnowsSpec)

/-- ITS FALSE NEIGHBOUR: 'it returns false'. Refute it at one input. -/
def decopsKnowsWrong : ChangeSpec := { name := "decopsKnows", fn := fun _ => fun
  | [d] => { results := [.lit (.bool false)], args := [d] }
  | _ => none }
def DecopsKnowsWrongFalsely : Prop := decopsKnowsRow.holds Tryz.pinned (OpenSpec.ofChange decopsKnowsWrong)

/-- 'jobshoplaw10.DecopsCalls': WHATEVER THE INPUT: true; the input reads as it did. -/
def decopsCallsSpec : ChangeSpec := { name := "decopsCalls", fn := fun _ => fun
  | [d1, d2] => { results := [.lit (.bool true)], args := [d1, d2] }
  | _ => none }
def decopsCallsRow : OpenClaim := { program := "ytbcncohjjnmdcaagreatdoor", sum := "b7279badacfd343af7ee54929a7378245642edd5966399af391d57567bf5958f", func := "jobshop/jobshoplaw10.DecopsCalls", spec := "decopsCalls", inPlace := ["internal/bytealg.IndexByteString", "internal/bytealg.IndexString", "math/bits.Add64", "internal/bytealg.MakeNoZero", "math/bits.Sub64"], unfollowed := true, recurses := true, named := ["jobshop/packed.signs", "unicode/utf8.first", "unicode/utf8.acceptRanges", "math/bits.divideError", "math/bits.overflowError", "internal/bytealg.MaxLen"], apart := false, laid := [("unicode/utf8.acceptRanges", laid_unicode_utf8_acceptRanges), ("jobshop/packed.signs", laid_jobshop_packed_signs), ("unicode/utf8.first", laid_unicode_utf8_first)] }
def DecopsCallsSaid : Prop := decopsCallsRow.holds Tryz.pinned (OpenSpec.ofChange decopsCallsSpec)

/-- ITS FALSE NEIGHBOUR: 'it returns false'. Refute it at one input. -/
def decopsCallsWrong : ChangeSpec := { name := "decopsCalls", fn := fun _ => fun
  | [d1, d2] => { results := [.lit (.bool false)], args := [d1, d2] }
  | _ => none }
def DecopsCallsWrongFalsely : Prop := decopsCallsRow.holds Tryz.pinned (OpenSpec.ofChange decopsCallsWrong)

/-- 'jobshoplaw10.DecopsRuns': WHATEVER THE INPUT: true; the input reads as it did. -/
def decopsRunsSpec : ChangeSpec := { name := "decopsRuns", fn := fun _ => fun
  | [d1, d2] => { results := [.lit (.bool true)], args := [d1, d2] }
  | _ => none }
def decopsRunsRow : OpenClaim := { program := "ytbcncohjjnmdcaagreatdoor", sum := "b7279badacfd343af7ee54929a7378245642edd5966399af391d57567bf5958f", func := "jobshop/jobshoplaw10.DecopsRuns", spec := "decopsRuns", inPlace := ["internal/bytealg.IndexByteString", "internal/bytealg.IndexString", "math/bits.Add64", "internal/bytealg.MakeNoZero", "math/bits.Sub64"], unfollowed := true, recurses := true, named := ["jobshop/packed.signs", "unicode/utf8.first", "unicode/utf8.acceptRanges", "math/bits.divideError", "math/bits.overflowError", "internal/bytealg.MaxLen"], apart := false, laid := [("unicode/utf8.acceptRanges", laid_unicode_utf8_acceptRanges), ("jobshop/packed.signs", laid_jobshop_packed_signs), ("unicode/utf8.first", laid_unicode_utf8_first)] }
def DecopsRunsSaid : Prop := decopsRunsRow.holds Tryz.pinned (OpenSpec.ofChange decopsRunsSpec)

/-- ITS FALSE NEIGHBOUR: 'it returns false'. Refute it at one input. -/
def decopsRunsWrong : ChangeSpec := { name := "decopsRuns", fn := fun _ => fun
  | [d1, d2] => { results := [.lit (.bool false)], args := [d1, d2] }
  | _ => none }
def DecopsRunsWrongFalsely : Prop := decopsRunsRow.holds Tryz.pinned (OpenSpec.ofChange decopsRunsWrong)

/-- 'jobshoplaw10.DecopsNone': WHATEVER THE INPUT: true; the input reads as it did. -/
def decopsNoneSpec : ChangeSpec := { name := "decopsNone", fn := fun _ => fun
  | [d1, d2] => { results := [.lit (.bool true)], args := [d1, d2] }
  | _ => none }
def decopsNoneRow : OpenClaim := { program := "ytbcncohjjnmdcaagreatdoor", sum := "b7279badacfd343af7ee54929a7378245642edd5966399af391d57567bf5958f", func := "jobshop/jobshoplaw10.DecopsNone", spec := "decopsNone", inPlace := ["internal/bytealg.IndexByteString", "internal/bytealg.IndexString", "math/bits.Add64", "internal/bytealg.MakeNoZero", "math/bits.Sub64"], unfollowed := true, recurses := true, named := ["jobshop/packed.signs", "unicode/utf8.first", "unicode/utf8.acceptRanges", "math/bits.divideError", "math/bits.overflowError", "internal/bytealg.MaxLen"], apart := false, laid := [("unicode/utf8.acceptRanges", laid_unicode_utf8_acceptRanges), ("jobshop/packed.signs", laid_jobshop_packed_signs), ("unicode/utf8.first", laid_unicode_utf8_first)] }
def DecopsNoneSaid : Prop := decopsNoneRow.holds Tryz.pinned (OpenSpec.ofChange decopsNoneSpec)

/-- ITS FALSE NEIGHBOUR: 'it returns false'. Refute it at one input. -/
def decopsNoneWrong : ChangeSpec := { name := "decopsNone", fn := fun _ => fun
  | [d1, d2] => { results := [.lit (.bool false)], args := [d1, d2] }
  | _ => none }
def DecopsNoneWrongFalsely : Prop := decopsNoneRow.holds Tryz.pinned (OpenSpec.ofChange decopsNoneWrong)

/-- 'jobshoplaw10.DecopsChanges': WHATEVER THE INPUT: true; the input reads as it did. -/
def decopsChangesSpec : ChangeSpec := { name := "decopsChanges", fn := fun _ => fun
  | [d1, d2] => { results := [.lit (.bool true)], args := [d1, d2] }
  | _ => none }
def decopsChangesRow : OpenClaim := { program := "ytbcncohjjnmdcaagreatdoor", sum := "b7279badacfd343af7ee54929a7378245642edd5966399af391d57567bf5958f", func := "jobshop/jobshoplaw10.DecopsChanges", spec := "decopsChanges", inPlace := ["internal/bytealg.IndexByteString", "internal/bytealg.IndexString", "math/bits.Add64", "internal/bytealg.MakeNoZero", "math/bits.Sub64"], unfollowed := true, recurses := true, named := ["jobshop/packed.signs", "unicode/utf8.first", "unicode/utf8.acceptRanges", "math/bits.divideError", "math/bits.overflowError", "internal/bytealg.MaxLen"], apart := false, laid := [("unicode/utf8.acceptRanges", laid_unicode_utf8_acceptRanges), ("jobshop/packed.signs", laid_jobshop_packed_signs), ("unicode/utf8.first", laid_unicode_utf8_first)] }
def DecopsChangesSaid : Prop := decopsChangesRow.holds Tryz.pinned (OpenSpec.ofChange decopsChangesSpec)

/-- ITS FALSE NEIGHBOUR: 'it returns false'. Refute it at one input. -/
def decopsChangesWrong : ChangeSpec := { name := "decopsChanges", fn := fun _ => fun
  | [d1, d2] => { results := [.lit (.bool false)], args := [d1, d2] }
  | _ => none }
def DecopsChangesWrongFalsely : Prop := decopsChangesRow.holds Tryz.pinned (OpenSpec.ofChange decopsChangesWrong)

/-- 'jobshoplaw10.DecopsSums': WHATEVER THE INPUT: true; the input reads as it did. -/
def decopsSumsSpec : ChangeSpec := { name := "decopsSums", fn := fun _ => fun
  | [d1, d2] => { results := [.lit (.bool true)], args := [d1, d2] }
  | _ => none }
def decopsSumsRow : OpenClaim := { program := "ytbcncohjjnmdcaagreatdoor", sum := "b7279badacfd343af7ee54929a7378245642edd5966399af391d57567bf5958f", func := "jobshop/jobshoplaw10.DecopsSums", spec := "decopsSums", inPlace := ["internal/bytealg.IndexByteString", "internal/bytealg.IndexString", "math/bits.Add64", "internal/bytealg.MakeNoZero", "math/bits.Sub64"], unfollowed := true, recurses := true, named := ["jobshop/packed.signs", "unicode/utf8.first", "unicode/utf8.acceptRanges", "math/bits.divideError", "math/bits.overflowError", "internal/bytealg.MaxLen"], apart := false, laid := [("unicode/utf8.acceptRanges", laid_unicode_utf8_acceptRanges), ("jobshop/packed.signs", laid_jobshop_packed_signs), ("unicode/utf8.first", laid_unicode_utf8_first)] }
def DecopsSumsSaid : Prop := decopsSumsRow.holds Tryz.pinned (OpenSpec.ofChange decopsSumsSpec)

/-- ITS FALSE NEIGHBOUR: 'it returns false'. Refute it at one input. -/
def decopsSumsWrong : ChangeSpec := { name := "decopsSums", fn := fun _ => fun
  | [d1, d2] => { results := [.lit (.bool false)], args := [d1, d2] }
  | _ => none }
def DecopsSumsWrongFalsely : Prop := decopsSumsRow.holds Tryz.pinned (OpenSpec.ofChange decopsSumsWrong)

/-- 'jobshoplaw10.DecopsDigits': WHATEVER THE INPUT: true; the input reads as it did. -/
def decopsDigitsSpec : ChangeSpec := { name := "decopsDigits", fn := fun _ => fun
  | [d] => { results := [.lit (.bool true)], args := [d] }
  | _ => none }
def decopsDigitsRow : OpenClaim := { program := "ytbcncohjjnmdcaagreatdoor", sum := "b7279badacfd343af7ee54929a7378245642edd5966399af391d57567bf5958f", func := "jobshop/jobshoplaw10.DecopsDigits", spec := "decopsDigits", inPlace := ["internal/bytealg.IndexByteString", "internal/bytealg.IndexString", "math/bits.Add64", "internal/bytealg.MakeNoZero", "math/bits.Sub64"], unfollowed := true, recurses := true, named := ["jobshop/packed.signs", "unicode/utf8.first", "unicode/utf8.acceptRanges", "math/bits.divideError", "math/bits.overflowError", "internal/bytealg.MaxLen"], apart := false, laid := [("unicode/utf8.acceptRanges", laid_unicode_utf8_acceptRanges), ("jobshop/packed.signs", laid_jobshop_packed_signs), ("unicode/utf8.first", laid_unicode_utf8_first)] }
def DecopsDigitsSaid : Prop := decopsDigitsRow.holds Tryz.pinned (OpenSpec.ofChange decopsDigitsSpec)

/-- ITS FALSE NEIGHBOUR: 'it returns false'. Refute it at one input. -/
def decopsDigitsWrong : ChangeSpec := { name := "decopsDigits", fn := fun _ => fun
  | [d] => { results := [.lit (.bool false)], args := [d] }
  | _ => none }
def DecopsDigitsWrongFalsely : Prop := decopsDigitsRow.holds Tryz.pinned (OpenSpec.ofChange decopsDigitsWrong)

/-- 'jobshoplaw10.DecopsEdits': WHATEVER THE INPUT: true; the input reads as it did. -/
def decopsEditsSpec : ChangeSpec := { name := "decopsEdits", fn := fun _ => fun
  | [d] => { results := [.lit (.bool true)], args := [d] }
  | _ => none }
def decopsEditsRow : OpenClaim := { program := "ytbcncohjjnmdcaagreatdoor", sum := "b7279badacfd343af7ee54929a7378245642edd5966399af391d57567bf5958f", func := "jobshop/jobshoplaw10.DecopsEdits", spec := "decopsEdits", inPlace := ["internal/bytealg.IndexByteString", "internal/bytealg.IndexString", "math/bits.Add64", "internal/bytealg.MakeNoZero", "math/bits.Sub64"], unfollowed := true, recurses := true, named := ["jobshop/packed.signs", "unicode/utf8.first", "unicode/utf8.acceptRanges", "math/bits.divideError", "math/bits.overflowError", "internal/bytealg.MaxLen"], apart := false, laid := [("unicode/utf8.acceptRanges", laid_unicode_utf8_acceptRanges), ("jobshop/packed.signs", laid_jobshop_packed_signs), ("unicode/utf8.first", laid_unicode_utf8_first)] }
def DecopsEditsSaid : Prop := decopsEditsRow.holds Tryz.pinned (OpenSpec.ofChange decopsEditsSpec)

/-- ITS FALSE NEIGHBOUR: 'it returns false'. Refute it at one input. -/
def decopsEditsWrong : ChangeSpec := { name := "decopsEdits", fn := fun _ => fun
  | [d] => { results := [.lit (.bool false)], args := [d] }
  | _ => none }
def DecopsEditsWrongFalsely : Prop := decopsEditsRow.holds Tryz.pinned (OpenSpec.ofChange decopsEditsWrong)

/- THE SECOND FORM. 'bulk': how many values and letters a reading holds, each counted each time it is reached (what is shared counts as often as it is met; a slice's spare places count too). A statement '..UptoSaid' is the law's where the arguments, and the package variables that the reading takes, are together of bulk at most 1048576: NARROWER than '..Said'. Prove '..Said' where nothing that the law and all that it calls make is longer than what came in: it says more and counts as full. Else prove '..UptoSaid'. A law counts once. -/
mutual
def uptoBulk {H : Type} : DataW H → Nat
  | .lit (.string bytes) => bytes.length + 1
  | .lit _ => 1
  | .nil => 1
  | .ptr d => uptoBulk d + 1
  | .slice elems spare => uptoBulkAll elems + uptoBulkAll spare + 1
  | .agg parts => uptoBulkAll parts + 1
  | .iface _ d => uptoBulk d + 1
  | .map entries => uptoBulkEntries entries + 1
  | .held _ => 1
def uptoBulkAll {H : Type} : List (DataW H) → Nat
  | [] => 0
  | d :: r => uptoBulk d + uptoBulkAll r
def uptoBulkEntries {H : Type} : List (Lit × DataW H) → Nat
  | [] => 0
  | x :: r => uptoBulkEntry x + uptoBulkEntries r
def uptoBulkEntry {H : Type} : Lit × DataW H → Nat
  | (.string bytes, d) => bytes.length + uptoBulk d + 1
  | (_, d) => uptoBulk d + 1
 end
def uptoSmall : (H : Type) → List (DataW H) → Bool := fun _ ds => decide (uptoBulkAll ds ≤ 1048576)
def OpenSpec.upto (s : _root_.Go.ChangeSpec) : _root_.Go.OpenSpec := { _root_.Go.OpenSpec.ofChange s with cond := some uptoSmall }

/-- 'jobshoplaw10.DecopsKnows', WHERE WHAT IT READS IS OF BULK AT MOST 1048576: true; the input reads as it did. -/
def decopsKnowsUptoRow : OpenClaim := { program := "ytbcncohjjnmdcaagreatdoor", sum := "b7279badacfd343af7ee54929a7378245642edd5966399af391d57567bf5958f", func := "jobshop/jobshoplaw10.DecopsKnows", spec := "decopsKnows", inPlace := ["internal/bytealg.IndexByteString", "internal/bytealg.IndexString", "math/bits.Add64", "internal/bytealg.MakeNoZero", "math/bits.Sub64"], unfollowed := true, recurses := true, named := ["jobshop/packed.signs", "unicode/utf8.first", "unicode/utf8.acceptRanges", "math/bits.divideError", "math/bits.overflowError", "internal/bytealg.MaxLen"], apart := false, laid := [("unicode/utf8.acceptRanges", laid_unicode_utf8_acceptRanges), ("jobshop/packed.signs", laid_jobshop_packed_signs), ("unicode/utf8.first", laid_unicode_utf8_first)], narrowed := true }
def DecopsKnowsUptoSaid : Prop := decopsKnowsUptoRow.holds Tryz.pinned (OpenSpec.upto decopsKnowsSpec)

/-- 'jobshoplaw10.DecopsCalls', WHERE WHAT IT READS IS OF BULK AT MOST 1048576: true; the input reads as it did. -/
def decopsCallsUptoRow : OpenClaim := { program := "ytbcncohjjnmdcaagreatdoor", sum := "b7279badacfd343af7ee54929a7378245642edd5966399af391d57567bf5958f", func := "jobshop/jobshoplaw10.DecopsCalls", spec := "decopsCalls", inPlace := ["internal/bytealg.IndexByteString", "internal/bytealg.IndexString", "math/bits.Add64", "internal/bytealg.MakeNoZero", "math/bits.Sub64"], unfollowed := true, recurses := true, named := ["jobshop/packed.signs", "unicode/utf8.first", "unicode/utf8.acceptRanges", "math/bits.divideError", "math/bits.overflowError", "internal/bytealg.MaxLen"], apart := false, laid := [("unicode/utf8.acceptRanges", laid_unicode_utf8_acceptRanges), ("jobshop/packed.signs", laid_jobshop_packed_signs), ("unicode/utf8.first", laid_unicode_utf8_first)], narrowed := true }
def DecopsCallsUptoSaid : Prop := decopsCallsUptoRow.holds Tryz.pinned (OpenSpec.upto decopsCallsSpec)

/-- 'jobshoplaw10.DecopsRuns', WHERE WHAT IT READS IS OF BULK AT MOST 1048576: true; the input reads as it did. -/
def decopsRunsUptoRow : OpenClaim := { program := "ytbcncohjjnmdcaagreatdoor", sum := "b7279badacfd343af7ee54929a7378245642edd5966399af391d57567bf5958f", func := "jobshop/jobshoplaw10.DecopsRuns", spec := "decopsRuns", inPlace := ["internal/bytealg.IndexByteString", "internal/bytealg.IndexString", "math/bits.Add64", "internal/bytealg.MakeNoZero", "math/bits.Sub64"], unfollowed := true, recurses := true, named := ["jobshop/packed.signs", "unicode/utf8.first", "unicode/utf8.acceptRanges", "math/bits.divideError", "math/bits.overflowError", "internal/bytealg.MaxLen"], apart := false, laid := [("unicode/utf8.acceptRanges", laid_unicode_utf8_acceptRanges), ("jobshop/packed.signs", laid_jobshop_packed_signs), ("unicode/utf8.first", laid_unicode_utf8_first)], narrowed := true }
def DecopsRunsUptoSaid : Prop := decopsRunsUptoRow.holds Tryz.pinned (OpenSpec.upto decopsRunsSpec)

/-- 'jobshoplaw10.DecopsNone', WHERE WHAT IT READS IS OF BULK AT MOST 1048576: true; the input reads as it did. -/
def decopsNoneUptoRow : OpenClaim := { program := "ytbcncohjjnmdcaagreatdoor", sum := "b7279badacfd343af7ee54929a7378245642edd5966399af391d57567bf5958f", func := "jobshop/jobshoplaw10.DecopsNone", spec := "decopsNone", inPlace := ["internal/bytealg.IndexByteString", "internal/bytealg.IndexString", "math/bits.Add64", "internal/bytealg.MakeNoZero", "math/bits.Sub64"], unfollowed := true, recurses := true, named := ["jobshop/packed.signs", "unicode/utf8.first", "unicode/utf8.acceptRanges", "math/bits.divideError", "math/bits.overflowError", "internal/bytealg.MaxLen"], apart := false, laid := [("unicode/utf8.acceptRanges", laid_unicode_utf8_acceptRanges), ("jobshop/packed.signs", laid_jobshop_packed_signs), ("unicode/utf8.first", laid_unicode_utf8_first)], narrowed := true }
def DecopsNoneUptoSaid : Prop := decopsNoneUptoRow.holds Tryz.pinned (OpenSpec.upto decopsNoneSpec)

/-- 'jobshoplaw10.DecopsChanges', WHERE WHAT IT READS IS OF BULK AT MOST 1048576: true; the input reads as it did. -/
def decopsChangesUptoRow : OpenClaim := { program := "ytbcncohjjnmdcaagreatdoor", sum := "b7279badacfd343af7ee54929a7378245642edd5966399af391d57567bf5958f", func := "jobshop/jobshoplaw10.DecopsChanges", spec := "decopsChanges", inPlace := ["internal/bytealg.IndexByteString", "internal/bytealg.IndexString", "math/bits.Add64", "internal/bytealg.MakeNoZero", "math/bits.Sub64"], unfollowed := true, recurses := true, named := ["jobshop/packed.signs", "unicode/utf8.first", "unicode/utf8.acceptRanges", "math/bits.divideError", "math/bits.overflowError", "internal/bytealg.MaxLen"], apart := false, laid := [("unicode/utf8.acceptRanges", laid_unicode_utf8_acceptRanges), ("jobshop/packed.signs", laid_jobshop_packed_signs), ("unicode/utf8.first", laid_unicode_utf8_first)], narrowed := true }
def DecopsChangesUptoSaid : Prop := decopsChangesUptoRow.holds Tryz.pinned (OpenSpec.upto decopsChangesSpec)

/-- 'jobshoplaw10.DecopsSums', WHERE WHAT IT READS IS OF BULK AT MOST 1048576: true; the input reads as it did. -/
def decopsSumsUptoRow : OpenClaim := { program := "ytbcncohjjnmdcaagreatdoor", sum := "b7279badacfd343af7ee54929a7378245642edd5966399af391d57567bf5958f", func := "jobshop/jobshoplaw10.DecopsSums", spec := "decopsSums", inPlace := ["internal/bytealg.IndexByteString", "internal/bytealg.IndexString", "math/bits.Add64", "internal/bytealg.MakeNoZero", "math/bits.Sub64"], unfollowed := true, recurses := true, named := ["jobshop/packed.signs", "unicode/utf8.first", "unicode/utf8.acceptRanges", "math/bits.divideError", "math/bits.overflowError", "internal/bytealg.MaxLen"], apart := false, laid := [("unicode/utf8.acceptRanges", laid_unicode_utf8_acceptRanges), ("jobshop/packed.signs", laid_jobshop_packed_signs), ("unicode/utf8.first", laid_unicode_utf8_first)], narrowed := true }
def DecopsSumsUptoSaid : Prop := decopsSumsUptoRow.holds Tryz.pinned (OpenSpec.upto decopsSumsSpec)

/-- 'jobshoplaw10.DecopsDigits', WHERE WHAT IT READS IS OF BULK AT MOST 1048576: true; the input reads as it did. -/
def decopsDigitsUptoRow : OpenClaim := { program := "ytbcncohjjnmdcaagreatdoor", sum := "b7279badacfd343af7ee54929a7378245642edd5966399af391d57567bf5958f", func := "jobshop/jobshoplaw10.DecopsDigits", spec := "decopsDigits", inPlace := ["internal/bytealg.IndexByteString", "internal/bytealg.IndexString", "math/bits.Add64", "internal/bytealg.MakeNoZero", "math/bits.Sub64"], unfollowed := true, recurses := true, named := ["jobshop/packed.signs", "unicode/utf8.first", "unicode/utf8.acceptRanges", "math/bits.divideError", "math/bits.overflowError", "internal/bytealg.MaxLen"], apart := false, laid := [("unicode/utf8.acceptRanges", laid_unicode_utf8_acceptRanges), ("jobshop/packed.signs", laid_jobshop_packed_signs), ("unicode/utf8.first", laid_unicode_utf8_first)], narrowed := true }
def DecopsDigitsUptoSaid : Prop := decopsDigitsUptoRow.holds Tryz.pinned (OpenSpec.upto decopsDigitsSpec)

/-- 'jobshoplaw10.DecopsEdits', WHERE WHAT IT READS IS OF BULK AT MOST 1048576: true; the input reads as it did. -/
def decopsEditsUptoRow : OpenClaim := { program := "ytbcncohjjnmdcaagreatdoor", sum := "b7279badacfd343af7ee54929a7378245642edd5966399af391d57567bf5958f", func := "jobshop/jobshoplaw10.DecopsEdits", spec := "decopsEdits", inPlace := ["internal/bytealg.IndexByteString", "internal/bytealg.IndexString", "math/bits.Add64", "internal/bytealg.MakeNoZero", "math/bits.Sub64"], unfollowed := true, recurses := true, named := ["jobshop/packed.signs", "unicode/utf8.first", "unicode/utf8.acceptRanges", "math/bits.divideError", "math/bits.overflowError", "internal/bytealg.MaxLen"], apart := false, laid := [("unicode/utf8.acceptRanges", laid_unicode_utf8_acceptRanges), ("jobshop/packed.signs", laid_jobshop_packed_signs), ("unicode/utf8.first", laid_unicode_utf8_first)], narrowed := true }
def DecopsEditsUptoSaid : Prop := decopsEditsUptoRow.holds Tryz.pinned (OpenSpec.upto decopsEditsSpec)

end Rows
end Go.Proofs.YtbcncohjjnmdcaaGreatDoor

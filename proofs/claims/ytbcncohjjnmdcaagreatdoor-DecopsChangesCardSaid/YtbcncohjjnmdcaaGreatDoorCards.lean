/-
  DERIVED. GIVEN WITH THE SEED: THE CARDS: each row of YtbcncohjjnmdcaaGreatDoorRows.lean that lists a variable, with what it lists TIED to the program's text (the seventh form; the later family's looks); each row that meets fmt, with fmt's text TOLD by the authors' own Lean function (tested against real Go, not proved from fmt's source: count such statements apart). THE CARD IS WHAT COUNTS. Prove the row's statement (the work); the ties are given (YtbcncohjjnmdcaaGreatDoorTie.lean); close each card by the builder's one call (the guide's Derived/Test/ToyasCard.lean, 'card_holds'). Laid BY PROGRAM, IN A SANDBOX (cutbox-door.mjs). By AI agents, Wed Nov 11 2026. No macro, syntax, notation, axiom, sorry.
-/
import Derived.Test.YtbcncohjjnmdcaaGreatDoorRows
import GoSem.ClaimSeven
namespace Go.Proofs.YtbcncohjjnmdcaaGreatDoor
namespace Rows

/-- THE TIED CARD OF 'jobshoplaw10.DecopsKnows'. -/
def decopsKnowsCard : Claim7 := { stood := { row := decopsKnowsRow, standIns := [], harness := (true, "5558a880cafc153d227acdcc2ae6dd08300fde40a3aed0e67cef3c2a7f82b0f3"), looks := true }, kinds := [], alts := [], laidByText := true, laidKinds := [.data, .data, .pinned], laidTests := true, laidLooks := .later }
def DecopsKnowsCardSaid : Prop := Claim7.holds Tryz.pinned (.plain (OpenSpec.ofChange decopsKnowsSpec)) decopsKnowsCard

/-- THE TIED CARD OF 'jobshoplaw10.DecopsCalls'. -/
def decopsCallsCard : Claim7 := { stood := { row := decopsCallsRow, standIns := [], harness := (true, "5558a880cafc153d227acdcc2ae6dd08300fde40a3aed0e67cef3c2a7f82b0f3"), looks := true }, kinds := [], alts := [], laidByText := true, laidKinds := [.data, .data, .pinned], laidTests := true, laidLooks := .later }
def DecopsCallsCardSaid : Prop := Claim7.holds Tryz.pinned (.plain (OpenSpec.ofChange decopsCallsSpec)) decopsCallsCard

/-- THE TIED CARD OF 'jobshoplaw10.DecopsRuns'. -/
def decopsRunsCard : Claim7 := { stood := { row := decopsRunsRow, standIns := [], harness := (true, "5558a880cafc153d227acdcc2ae6dd08300fde40a3aed0e67cef3c2a7f82b0f3"), looks := true }, kinds := [], alts := [], laidByText := true, laidKinds := [.data, .data, .pinned], laidTests := true, laidLooks := .later }
def DecopsRunsCardSaid : Prop := Claim7.holds Tryz.pinned (.plain (OpenSpec.ofChange decopsRunsSpec)) decopsRunsCard

/-- THE TIED CARD OF 'jobshoplaw10.DecopsNone'. -/
def decopsNoneCard : Claim7 := { stood := { row := decopsNoneRow, standIns := [], harness := (true, "5558a880cafc153d227acdcc2ae6dd08300fde40a3aed0e67cef3c2a7f82b0f3"), looks := true }, kinds := [], alts := [], laidByText := true, laidKinds := [.data, .data, .pinned], laidTests := true, laidLooks := .later }
def DecopsNoneCardSaid : Prop := Claim7.holds Tryz.pinned (.plain (OpenSpec.ofChange decopsNoneSpec)) decopsNoneCard

/-- THE TIED CARD OF 'jobshoplaw10.DecopsChanges'. -/
def decopsChangesCard : Claim7 := { stood := { row := decopsChangesRow, standIns := [], harness := (true, "5558a880cafc153d227acdcc2ae6dd08300fde40a3aed0e67cef3c2a7f82b0f3"), looks := true }, kinds := [], alts := [], laidByText := true, laidKinds := [.data, .data, .pinned], laidTests := true, laidLooks := .later }
def DecopsChangesCardSaid : Prop := Claim7.holds Tryz.pinned (.plain (OpenSpec.ofChange decopsChangesSpec)) decopsChangesCard

/-- THE TIED CARD OF 'jobshoplaw10.DecopsSums'. -/
def decopsSumsCard : Claim7 := { stood := { row := decopsSumsRow, standIns := [], harness := (true, "5558a880cafc153d227acdcc2ae6dd08300fde40a3aed0e67cef3c2a7f82b0f3"), looks := true }, kinds := [], alts := [], laidByText := true, laidKinds := [.data, .data, .pinned], laidTests := true, laidLooks := .later }
def DecopsSumsCardSaid : Prop := Claim7.holds Tryz.pinned (.plain (OpenSpec.ofChange decopsSumsSpec)) decopsSumsCard

/-- THE TIED CARD OF 'jobshoplaw10.DecopsDigits'. -/
def decopsDigitsCard : Claim7 := { stood := { row := decopsDigitsRow, standIns := [], harness := (true, "5558a880cafc153d227acdcc2ae6dd08300fde40a3aed0e67cef3c2a7f82b0f3"), looks := true }, kinds := [], alts := [], laidByText := true, laidKinds := [.data, .data, .pinned], laidTests := true, laidLooks := .later }
def DecopsDigitsCardSaid : Prop := Claim7.holds Tryz.pinned (.plain (OpenSpec.ofChange decopsDigitsSpec)) decopsDigitsCard

/-- THE TIED CARD OF 'jobshoplaw10.DecopsEdits'. -/
def decopsEditsCard : Claim7 := { stood := { row := decopsEditsRow, standIns := [], harness := (true, "5558a880cafc153d227acdcc2ae6dd08300fde40a3aed0e67cef3c2a7f82b0f3"), looks := true }, kinds := [], alts := [], laidByText := true, laidKinds := [.data, .data, .pinned], laidTests := true, laidLooks := .later }
def DecopsEditsCardSaid : Prop := Claim7.holds Tryz.pinned (.plain (OpenSpec.ofChange decopsEditsSpec)) decopsEditsCard

/-- THE SECOND FORM's CARD OF 'jobshoplaw10.DecopsKnows'. -/
def decopsKnowsUptoCard : Claim7 := { stood := { row := decopsKnowsUptoRow, standIns := [], harness := (true, "5558a880cafc153d227acdcc2ae6dd08300fde40a3aed0e67cef3c2a7f82b0f3"), looks := true }, kinds := [], alts := [], laidByText := true, laidKinds := [.data, .data, .pinned], laidTests := true, laidLooks := .later }
def DecopsKnowsUptoCardSaid : Prop := Claim7.holds Tryz.pinned (.plain (OpenSpec.upto decopsKnowsSpec)) decopsKnowsUptoCard

/-- THE SECOND FORM's CARD OF 'jobshoplaw10.DecopsCalls'. -/
def decopsCallsUptoCard : Claim7 := { stood := { row := decopsCallsUptoRow, standIns := [], harness := (true, "5558a880cafc153d227acdcc2ae6dd08300fde40a3aed0e67cef3c2a7f82b0f3"), looks := true }, kinds := [], alts := [], laidByText := true, laidKinds := [.data, .data, .pinned], laidTests := true, laidLooks := .later }
def DecopsCallsUptoCardSaid : Prop := Claim7.holds Tryz.pinned (.plain (OpenSpec.upto decopsCallsSpec)) decopsCallsUptoCard

/-- THE SECOND FORM's CARD OF 'jobshoplaw10.DecopsRuns'. -/
def decopsRunsUptoCard : Claim7 := { stood := { row := decopsRunsUptoRow, standIns := [], harness := (true, "5558a880cafc153d227acdcc2ae6dd08300fde40a3aed0e67cef3c2a7f82b0f3"), looks := true }, kinds := [], alts := [], laidByText := true, laidKinds := [.data, .data, .pinned], laidTests := true, laidLooks := .later }
def DecopsRunsUptoCardSaid : Prop := Claim7.holds Tryz.pinned (.plain (OpenSpec.upto decopsRunsSpec)) decopsRunsUptoCard

/-- THE SECOND FORM's CARD OF 'jobshoplaw10.DecopsNone'. -/
def decopsNoneUptoCard : Claim7 := { stood := { row := decopsNoneUptoRow, standIns := [], harness := (true, "5558a880cafc153d227acdcc2ae6dd08300fde40a3aed0e67cef3c2a7f82b0f3"), looks := true }, kinds := [], alts := [], laidByText := true, laidKinds := [.data, .data, .pinned], laidTests := true, laidLooks := .later }
def DecopsNoneUptoCardSaid : Prop := Claim7.holds Tryz.pinned (.plain (OpenSpec.upto decopsNoneSpec)) decopsNoneUptoCard

/-- THE SECOND FORM's CARD OF 'jobshoplaw10.DecopsChanges'. -/
def decopsChangesUptoCard : Claim7 := { stood := { row := decopsChangesUptoRow, standIns := [], harness := (true, "5558a880cafc153d227acdcc2ae6dd08300fde40a3aed0e67cef3c2a7f82b0f3"), looks := true }, kinds := [], alts := [], laidByText := true, laidKinds := [.data, .data, .pinned], laidTests := true, laidLooks := .later }
def DecopsChangesUptoCardSaid : Prop := Claim7.holds Tryz.pinned (.plain (OpenSpec.upto decopsChangesSpec)) decopsChangesUptoCard

/-- THE SECOND FORM's CARD OF 'jobshoplaw10.DecopsSums'. -/
def decopsSumsUptoCard : Claim7 := { stood := { row := decopsSumsUptoRow, standIns := [], harness := (true, "5558a880cafc153d227acdcc2ae6dd08300fde40a3aed0e67cef3c2a7f82b0f3"), looks := true }, kinds := [], alts := [], laidByText := true, laidKinds := [.data, .data, .pinned], laidTests := true, laidLooks := .later }
def DecopsSumsUptoCardSaid : Prop := Claim7.holds Tryz.pinned (.plain (OpenSpec.upto decopsSumsSpec)) decopsSumsUptoCard

/-- THE SECOND FORM's CARD OF 'jobshoplaw10.DecopsDigits'. -/
def decopsDigitsUptoCard : Claim7 := { stood := { row := decopsDigitsUptoRow, standIns := [], harness := (true, "5558a880cafc153d227acdcc2ae6dd08300fde40a3aed0e67cef3c2a7f82b0f3"), looks := true }, kinds := [], alts := [], laidByText := true, laidKinds := [.data, .data, .pinned], laidTests := true, laidLooks := .later }
def DecopsDigitsUptoCardSaid : Prop := Claim7.holds Tryz.pinned (.plain (OpenSpec.upto decopsDigitsSpec)) decopsDigitsUptoCard

/-- THE SECOND FORM's CARD OF 'jobshoplaw10.DecopsEdits'. -/
def decopsEditsUptoCard : Claim7 := { stood := { row := decopsEditsUptoRow, standIns := [], harness := (true, "5558a880cafc153d227acdcc2ae6dd08300fde40a3aed0e67cef3c2a7f82b0f3"), looks := true }, kinds := [], alts := [], laidByText := true, laidKinds := [.data, .data, .pinned], laidTests := true, laidLooks := .later }
def DecopsEditsUptoCardSaid : Prop := Claim7.holds Tryz.pinned (.plain (OpenSpec.upto decopsEditsSpec)) decopsEditsUptoCard
end Rows
end Go.Proofs.YtbcncohjjnmdcaaGreatDoor

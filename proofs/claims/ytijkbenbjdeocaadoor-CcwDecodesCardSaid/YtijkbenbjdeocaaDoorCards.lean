/-
  DERIVED. GIVEN WITH THE SEED: THE CARDS: each row of YtijkbenbjdeocaaDoorRows.lean that lists a variable, with what it lists TIED to the program's text (the seventh form; the later family's looks); each row that meets fmt, with fmt's text TOLD by the authors' own Lean function (tested against real Go, not proved from fmt's source: count such statements apart). THE CARD IS WHAT COUNTS. Prove the row's statement (the work); the ties are given (YtijkbenbjdeocaaDoorTie.lean); close each card by the builder's one call (the guide's Derived/Test/ToyasCard.lean, 'card_holds'). Laid BY PROGRAM, IN A SANDBOX (cutbox-door.mjs). By AI agents, Wed Nov 11 2026. No macro, syntax, notation, axiom, sorry.
-/
import Derived.Test.YtijkbenbjdeocaaDoorRows
import GoSem.ClaimSeven
namespace Go.Proofs.YtijkbenbjdeocaaDoor
namespace Rows

/-- THE TIED CARD OF 'jobshoplaw12.CcwDirects'. -/
def ccwDirectsCard : Claim7 := { stood := { row := ccwDirectsRow, standIns := [], harness := (true, "ac9e8ab7ffde1e1c27edd3efec1d1125623174dabf8c6b7487e4d52c3fe4591c"), looks := false }, kinds := [], alts := [], laidByText := true, laidKinds := [.data], laidTests := true, laidLooks := .later }
def CcwDirectsCardSaid : Prop := Claim7.holds Tryd.pinned (.plain (OpenSpec.ofChange ccwDirectsSpec)) ccwDirectsCard

/-- THE TIED CARD OF 'jobshoplaw12.CcwEncodes'. -/
def ccwEncodesCard : Claim7 := { stood := { row := ccwEncodesRow, standIns := [], harness := (true, "ac9e8ab7ffde1e1c27edd3efec1d1125623174dabf8c6b7487e4d52c3fe4591c"), looks := false }, kinds := [], alts := [], laidByText := true, laidKinds := [.data], laidTests := true, laidLooks := .later }
def CcwEncodesCardSaid : Prop := Claim7.holds Tryd.pinned (.plain (OpenSpec.ofChange ccwEncodesSpec)) ccwEncodesCard

/-- THE TIED CARD OF 'jobshoplaw12.CcwDecodes'. -/
def ccwDecodesCard : Claim7 := { stood := { row := ccwDecodesRow, standIns := [], harness := (true, "ac9e8ab7ffde1e1c27edd3efec1d1125623174dabf8c6b7487e4d52c3fe4591c"), looks := false }, kinds := [], alts := [], laidByText := true, laidKinds := [.data], laidTests := true, laidLooks := .later }
def CcwDecodesCardSaid : Prop := Claim7.holds Tryd.pinned (.plain (OpenSpec.ofChange ccwDecodesSpec)) ccwDecodesCard

/-- THE TIED CARD OF 'jobshoplaw12.CcwStatus'. -/
def ccwStatusCard : Claim7 := { stood := { row := ccwStatusRow, standIns := [], harness := (true, "ac9e8ab7ffde1e1c27edd3efec1d1125623174dabf8c6b7487e4d52c3fe4591c"), looks := false }, kinds := [], alts := [], laidByText := true, laidKinds := [.data], laidTests := true, laidLooks := .later }
def CcwStatusCardSaid : Prop := Claim7.holds Tryd.pinned (.plain (OpenSpec.ofChange ccwStatusSpec)) ccwStatusCard

/-- THE TIED CARD OF 'jobshoplaw12.CcwBack'. -/
def ccwBackCard : Claim7 := { stood := { row := ccwBackRow, standIns := [], harness := (true, "ac9e8ab7ffde1e1c27edd3efec1d1125623174dabf8c6b7487e4d52c3fe4591c"), looks := false }, kinds := [], alts := [], laidByText := true, laidKinds := [.data], laidTests := true, laidLooks := .later }
def CcwBackCardSaid : Prop := Claim7.holds Tryd.pinned (.plain (OpenSpec.ofChange ccwBackSpec)) ccwBackCard

/-- THE TIED CARD OF 'jobshoplaw12.CcwAgain'. -/
def ccwAgainCard : Claim7 := { stood := { row := ccwAgainRow, standIns := [], harness := (true, "ac9e8ab7ffde1e1c27edd3efec1d1125623174dabf8c6b7487e4d52c3fe4591c"), looks := false }, kinds := [], alts := [], laidByText := true, laidKinds := [.data], laidTests := true, laidLooks := .later }
def CcwAgainCardSaid : Prop := Claim7.holds Tryd.pinned (.plain (OpenSpec.ofChange ccwAgainSpec)) ccwAgainCard

/-- THE SECOND FORM's CARD OF 'jobshoplaw12.CcwDirects'. -/
def ccwDirectsUptoCard : Claim7 := { stood := { row := ccwDirectsUptoRow, standIns := [], harness := (true, "ac9e8ab7ffde1e1c27edd3efec1d1125623174dabf8c6b7487e4d52c3fe4591c"), looks := false }, kinds := [], alts := [], laidByText := true, laidKinds := [.data], laidTests := true, laidLooks := .later }
def CcwDirectsUptoCardSaid : Prop := Claim7.holds Tryd.pinned (.plain (OpenSpec.upto ccwDirectsSpec)) ccwDirectsUptoCard

/-- THE SECOND FORM's CARD OF 'jobshoplaw12.CcwEncodes'. -/
def ccwEncodesUptoCard : Claim7 := { stood := { row := ccwEncodesUptoRow, standIns := [], harness := (true, "ac9e8ab7ffde1e1c27edd3efec1d1125623174dabf8c6b7487e4d52c3fe4591c"), looks := false }, kinds := [], alts := [], laidByText := true, laidKinds := [.data], laidTests := true, laidLooks := .later }
def CcwEncodesUptoCardSaid : Prop := Claim7.holds Tryd.pinned (.plain (OpenSpec.upto ccwEncodesSpec)) ccwEncodesUptoCard

/-- THE SECOND FORM's CARD OF 'jobshoplaw12.CcwDecodes'. -/
def ccwDecodesUptoCard : Claim7 := { stood := { row := ccwDecodesUptoRow, standIns := [], harness := (true, "ac9e8ab7ffde1e1c27edd3efec1d1125623174dabf8c6b7487e4d52c3fe4591c"), looks := false }, kinds := [], alts := [], laidByText := true, laidKinds := [.data], laidTests := true, laidLooks := .later }
def CcwDecodesUptoCardSaid : Prop := Claim7.holds Tryd.pinned (.plain (OpenSpec.upto ccwDecodesSpec)) ccwDecodesUptoCard

/-- THE SECOND FORM's CARD OF 'jobshoplaw12.CcwStatus'. -/
def ccwStatusUptoCard : Claim7 := { stood := { row := ccwStatusUptoRow, standIns := [], harness := (true, "ac9e8ab7ffde1e1c27edd3efec1d1125623174dabf8c6b7487e4d52c3fe4591c"), looks := false }, kinds := [], alts := [], laidByText := true, laidKinds := [.data], laidTests := true, laidLooks := .later }
def CcwStatusUptoCardSaid : Prop := Claim7.holds Tryd.pinned (.plain (OpenSpec.upto ccwStatusSpec)) ccwStatusUptoCard

/-- THE SECOND FORM's CARD OF 'jobshoplaw12.CcwBack'. -/
def ccwBackUptoCard : Claim7 := { stood := { row := ccwBackUptoRow, standIns := [], harness := (true, "ac9e8ab7ffde1e1c27edd3efec1d1125623174dabf8c6b7487e4d52c3fe4591c"), looks := false }, kinds := [], alts := [], laidByText := true, laidKinds := [.data], laidTests := true, laidLooks := .later }
def CcwBackUptoCardSaid : Prop := Claim7.holds Tryd.pinned (.plain (OpenSpec.upto ccwBackSpec)) ccwBackUptoCard

/-- THE SECOND FORM's CARD OF 'jobshoplaw12.CcwAgain'. -/
def ccwAgainUptoCard : Claim7 := { stood := { row := ccwAgainUptoRow, standIns := [], harness := (true, "ac9e8ab7ffde1e1c27edd3efec1d1125623174dabf8c6b7487e4d52c3fe4591c"), looks := false }, kinds := [], alts := [], laidByText := true, laidKinds := [.data], laidTests := true, laidLooks := .later }
def CcwAgainUptoCardSaid : Prop := Claim7.holds Tryd.pinned (.plain (OpenSpec.upto ccwAgainSpec)) ccwAgainUptoCard
end Rows
end Go.Proofs.YtijkbenbjdeocaaDoor

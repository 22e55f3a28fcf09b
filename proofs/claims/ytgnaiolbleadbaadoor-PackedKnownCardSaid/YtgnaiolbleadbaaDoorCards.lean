/-
  DERIVED. GIVEN WITH THE SEED: THE CARDS: each row of YtgnaiolbleadbaaDoorRows.lean that lists a variable, with what it lists TIED to the program's text (the seventh form; the later family's looks); each row that meets fmt, with fmt's text TOLD by the authors' own Lean function (tested against real Go, not proved from fmt's source: count such statements apart). THE CARD IS WHAT COUNTS. Prove the row's statement (the work); the ties are given (YtgnaiolbleadbaaDoorTie.lean); close each card by the builder's one call (the guide's Derived/Test/ToyasCard.lean, 'card_holds'). Laid BY PROGRAM, IN A SANDBOX (cutbox-door.mjs). By AI agents, Wed Nov 11 2026. No macro, syntax, notation, axiom, sorry.
-/
import Derived.Test.YtgnaiolbleadbaaDoorRows
import GoSem.ClaimSeven
namespace Go.Proofs.YtgnaiolbleadbaaDoor
namespace Rows

/-- THE TIED CARD OF 'jobshoplaw03.PackedDecodes'. -/
def packedDecodesCard : Claim7 := { stood := { row := packedDecodesRow, standIns := [], harness := (true, "bb2b4e7014a4487b06c4ebf040b316da5681e69e5771328e1365ef416c7f2a5c"), looks := false }, kinds := [], alts := [], laidByText := true, laidKinds := [.data, .data, .pinned], laidTests := true, laidLooks := .later }
def PackedDecodesCardSaid : Prop := Claim7.holds Tryd.pinned (.plain (OpenSpec.ofChange packedDecodesSpec)) packedDecodesCard

/-- THE TIED CARD OF 'jobshoplaw03.PackedEncodes'. -/
def packedEncodesCard : Claim7 := { stood := { row := packedEncodesRow, standIns := [], harness := (true, "bb2b4e7014a4487b06c4ebf040b316da5681e69e5771328e1365ef416c7f2a5c"), looks := false }, kinds := [], alts := [], laidByText := true, laidKinds := [.data, .data, .pinned], laidTests := true, laidLooks := .later }
def PackedEncodesCardSaid : Prop := Claim7.holds Tryd.pinned (.plain (OpenSpec.ofChange packedEncodesSpec)) packedEncodesCard

/-- THE TIED CARD OF 'jobshoplaw03.PackedMoves'. -/
def packedMovesCard : Claim7 := { stood := { row := packedMovesRow, standIns := [], harness := (true, "bb2b4e7014a4487b06c4ebf040b316da5681e69e5771328e1365ef416c7f2a5c"), looks := false }, kinds := [], alts := [], laidByText := true, laidKinds := [.data, .data, .pinned], laidTests := true, laidLooks := .later }
def PackedMovesCardSaid : Prop := Claim7.holds Tryd.pinned (.plain (OpenSpec.ofChange packedMovesSpec)) packedMovesCard

/-- THE TIED CARD OF 'jobshoplaw03.PackedBack'. -/
def packedBackCard : Claim7 := { stood := { row := packedBackRow, standIns := [], harness := (true, "bb2b4e7014a4487b06c4ebf040b316da5681e69e5771328e1365ef416c7f2a5c"), looks := false }, kinds := [], alts := [], laidByText := true, laidKinds := [.data, .data, .pinned], laidTests := true, laidLooks := .later }
def PackedBackCardSaid : Prop := Claim7.holds Tryd.pinned (.plain (OpenSpec.ofChange packedBackSpec)) packedBackCard

/-- THE TIED CARD OF 'jobshoplaw03.PackedUnpacks'. -/
def packedUnpacksCard : Claim7 := { stood := { row := packedUnpacksRow, standIns := [], harness := (true, "bb2b4e7014a4487b06c4ebf040b316da5681e69e5771328e1365ef416c7f2a5c"), looks := false }, kinds := [], alts := [], laidByText := true, laidKinds := [.data, .data, .pinned], laidTests := true, laidLooks := .later }
def PackedUnpacksCardSaid : Prop := Claim7.holds Tryd.pinned (.plain (OpenSpec.ofChange packedUnpacksSpec)) packedUnpacksCard

/-- THE TIED CARD OF 'jobshoplaw03.PackedZones'. -/
def packedZonesCard : Claim7 := { stood := { row := packedZonesRow, standIns := [], harness := (true, "bb2b4e7014a4487b06c4ebf040b316da5681e69e5771328e1365ef416c7f2a5c"), looks := false }, kinds := [], alts := [], laidByText := true, laidKinds := [.data, .data, .pinned], laidTests := true, laidLooks := .later }
def PackedZonesCardSaid : Prop := Claim7.holds Tryd.pinned (.plain (OpenSpec.ofChange packedZonesSpec)) packedZonesCard

/-- THE TIED CARD OF 'jobshoplaw03.PackedOwn'. -/
def packedOwnCard : Claim7 := { stood := { row := packedOwnRow, standIns := [], harness := (true, "bb2b4e7014a4487b06c4ebf040b316da5681e69e5771328e1365ef416c7f2a5c"), looks := false }, kinds := [], alts := [], laidByText := true, laidKinds := [.data, .data, .pinned], laidTests := true, laidLooks := .later }
def PackedOwnCardSaid : Prop := Claim7.holds Tryd.pinned (.plain (OpenSpec.ofChange packedOwnSpec)) packedOwnCard

/-- THE TIED CARD OF 'jobshoplaw03.PackedKnown'. -/
def packedKnownCard : Claim7 := { stood := { row := packedKnownRow, standIns := [], harness := (true, "bb2b4e7014a4487b06c4ebf040b316da5681e69e5771328e1365ef416c7f2a5c"), looks := false }, kinds := [], alts := [], laidByText := true, laidKinds := [.data, .data, .pinned], laidTests := true, laidLooks := .later }
def PackedKnownCardSaid : Prop := Claim7.holds Tryd.pinned (.plain (OpenSpec.ofChange packedKnownSpec)) packedKnownCard

/-- THE SECOND FORM's CARD OF 'jobshoplaw03.PackedDecodes'. -/
def packedDecodesUptoCard : Claim7 := { stood := { row := packedDecodesUptoRow, standIns := [], harness := (true, "bb2b4e7014a4487b06c4ebf040b316da5681e69e5771328e1365ef416c7f2a5c"), looks := false }, kinds := [], alts := [], laidByText := true, laidKinds := [.data, .data, .pinned], laidTests := true, laidLooks := .later }
def PackedDecodesUptoCardSaid : Prop := Claim7.holds Tryd.pinned (.plain (OpenSpec.upto packedDecodesSpec)) packedDecodesUptoCard

/-- THE SECOND FORM's CARD OF 'jobshoplaw03.PackedEncodes'. -/
def packedEncodesUptoCard : Claim7 := { stood := { row := packedEncodesUptoRow, standIns := [], harness := (true, "bb2b4e7014a4487b06c4ebf040b316da5681e69e5771328e1365ef416c7f2a5c"), looks := false }, kinds := [], alts := [], laidByText := true, laidKinds := [.data, .data, .pinned], laidTests := true, laidLooks := .later }
def PackedEncodesUptoCardSaid : Prop := Claim7.holds Tryd.pinned (.plain (OpenSpec.upto packedEncodesSpec)) packedEncodesUptoCard

/-- THE SECOND FORM's CARD OF 'jobshoplaw03.PackedMoves'. -/
def packedMovesUptoCard : Claim7 := { stood := { row := packedMovesUptoRow, standIns := [], harness := (true, "bb2b4e7014a4487b06c4ebf040b316da5681e69e5771328e1365ef416c7f2a5c"), looks := false }, kinds := [], alts := [], laidByText := true, laidKinds := [.data, .data, .pinned], laidTests := true, laidLooks := .later }
def PackedMovesUptoCardSaid : Prop := Claim7.holds Tryd.pinned (.plain (OpenSpec.upto packedMovesSpec)) packedMovesUptoCard

/-- THE SECOND FORM's CARD OF 'jobshoplaw03.PackedBack'. -/
def packedBackUptoCard : Claim7 := { stood := { row := packedBackUptoRow, standIns := [], harness := (true, "bb2b4e7014a4487b06c4ebf040b316da5681e69e5771328e1365ef416c7f2a5c"), looks := false }, kinds := [], alts := [], laidByText := true, laidKinds := [.data, .data, .pinned], laidTests := true, laidLooks := .later }
def PackedBackUptoCardSaid : Prop := Claim7.holds Tryd.pinned (.plain (OpenSpec.upto packedBackSpec)) packedBackUptoCard

/-- THE SECOND FORM's CARD OF 'jobshoplaw03.PackedUnpacks'. -/
def packedUnpacksUptoCard : Claim7 := { stood := { row := packedUnpacksUptoRow, standIns := [], harness := (true, "bb2b4e7014a4487b06c4ebf040b316da5681e69e5771328e1365ef416c7f2a5c"), looks := false }, kinds := [], alts := [], laidByText := true, laidKinds := [.data, .data, .pinned], laidTests := true, laidLooks := .later }
def PackedUnpacksUptoCardSaid : Prop := Claim7.holds Tryd.pinned (.plain (OpenSpec.upto packedUnpacksSpec)) packedUnpacksUptoCard

/-- THE SECOND FORM's CARD OF 'jobshoplaw03.PackedZones'. -/
def packedZonesUptoCard : Claim7 := { stood := { row := packedZonesUptoRow, standIns := [], harness := (true, "bb2b4e7014a4487b06c4ebf040b316da5681e69e5771328e1365ef416c7f2a5c"), looks := false }, kinds := [], alts := [], laidByText := true, laidKinds := [.data, .data, .pinned], laidTests := true, laidLooks := .later }
def PackedZonesUptoCardSaid : Prop := Claim7.holds Tryd.pinned (.plain (OpenSpec.upto packedZonesSpec)) packedZonesUptoCard

/-- THE SECOND FORM's CARD OF 'jobshoplaw03.PackedOwn'. -/
def packedOwnUptoCard : Claim7 := { stood := { row := packedOwnUptoRow, standIns := [], harness := (true, "bb2b4e7014a4487b06c4ebf040b316da5681e69e5771328e1365ef416c7f2a5c"), looks := false }, kinds := [], alts := [], laidByText := true, laidKinds := [.data, .data, .pinned], laidTests := true, laidLooks := .later }
def PackedOwnUptoCardSaid : Prop := Claim7.holds Tryd.pinned (.plain (OpenSpec.upto packedOwnSpec)) packedOwnUptoCard

/-- THE SECOND FORM's CARD OF 'jobshoplaw03.PackedKnown'. -/
def packedKnownUptoCard : Claim7 := { stood := { row := packedKnownUptoRow, standIns := [], harness := (true, "bb2b4e7014a4487b06c4ebf040b316da5681e69e5771328e1365ef416c7f2a5c"), looks := false }, kinds := [], alts := [], laidByText := true, laidKinds := [.data, .data, .pinned], laidTests := true, laidLooks := .later }
def PackedKnownUptoCardSaid : Prop := Claim7.holds Tryd.pinned (.plain (OpenSpec.upto packedKnownSpec)) packedKnownUptoCard
end Rows
end Go.Proofs.YtgnaiolbleadbaaDoor

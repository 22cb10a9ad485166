/-
  DERIVED. GIVEN WITH THE SEED: THE CARDS: each row of YthagoafcphaadaaDoorRows.lean that lists a variable, with what it lists TIED to the program's text (the seventh form; the later family's looks); each row that meets fmt, with fmt's text TOLD by the authors' own Lean function (tested against real Go, not proved from fmt's source: count such statements apart). THE CARD IS WHAT COUNTS. Prove the row's statement (the work); the ties are given (YthagoafcphaadaaDoorTie.lean); close each card by the builder's one call (the guide's Derived/Test/ToyasCard.lean, 'card_holds'). Laid BY PROGRAM, IN A SANDBOX (cutbox-door.mjs). By AI agents, Wed Nov 11 2026. No macro, syntax, notation, axiom, sorry.
-/
import Derived.Test.YthagoafcphaadaaDoorRows
import GoSem.ClaimSeven
namespace Go.Proofs.YthagoafcphaadaaDoor
namespace Rows

/-- THE TIED CARD OF 'gatepathlaw09.LocatorNames'. -/
def locatorNamesCard : Claim7 := { stood := { row := locatorNamesRow, standIns := [], harness := (true, "fb45ebfbbde856ea65fcb9411cdac8c309d7a2ce8580e590b8026810d88ebf7c"), looks := true }, kinds := [], alts := [], laidByText := true, laidKinds := [.data, .data, .data, .data, .sentinel, .sentinel, .data, .data, .pinned], laidTests := true, laidLooks := .later }
def LocatorNamesCardSaid : Prop := Claim7.holds Tryd.pinned (.plain (OpenSpec.ofChange locatorNamesSpec)) locatorNamesCard

/-- THE TIED CARD OF 'gatepathlaw09.LocatorParses'. -/
def locatorParsesCard : Claim7 := { stood := { row := locatorParsesRow, standIns := [], harness := (true, "fb45ebfbbde856ea65fcb9411cdac8c309d7a2ce8580e590b8026810d88ebf7c"), looks := true }, kinds := [], alts := [], laidByText := true, laidKinds := [.data, .data, .data, .data, .sentinel, .sentinel, .data, .data, .pinned], laidTests := true, laidLooks := .later }
def LocatorParsesCardSaid : Prop := Claim7.holds Tryd.pinned (.plain (OpenSpec.ofChange locatorParsesSpec)) locatorParsesCard

/-- THE TIED CARD OF 'gatepathlaw09.LocatorPaths'. -/
def locatorPathsCard : Claim7 := { stood := { row := locatorPathsRow, standIns := [], harness := (true, "fb45ebfbbde856ea65fcb9411cdac8c309d7a2ce8580e590b8026810d88ebf7c"), looks := true }, kinds := [], alts := [], laidByText := true, laidKinds := [.data, .data, .data, .data, .sentinel, .sentinel, .data, .data, .pinned], laidTests := true, laidLooks := .later }
def LocatorPathsCardSaid : Prop := Claim7.holds Tryd.pinned (.plain (OpenSpec.ofChange locatorPathsSpec)) locatorPathsCard

/-- THE SECOND FORM's CARD OF 'gatepathlaw09.LocatorNames'. -/
def locatorNamesUptoCard : Claim7 := { stood := { row := locatorNamesUptoRow, standIns := [], harness := (true, "fb45ebfbbde856ea65fcb9411cdac8c309d7a2ce8580e590b8026810d88ebf7c"), looks := true }, kinds := [], alts := [], laidByText := true, laidKinds := [.data, .data, .data, .data, .sentinel, .sentinel, .data, .data, .pinned], laidTests := true, laidLooks := .later }
def LocatorNamesUptoCardSaid : Prop := Claim7.holds Tryd.pinned (.plain (OpenSpec.upto locatorNamesSpec)) locatorNamesUptoCard

/-- THE SECOND FORM's CARD OF 'gatepathlaw09.LocatorParses'. -/
def locatorParsesUptoCard : Claim7 := { stood := { row := locatorParsesUptoRow, standIns := [], harness := (true, "fb45ebfbbde856ea65fcb9411cdac8c309d7a2ce8580e590b8026810d88ebf7c"), looks := true }, kinds := [], alts := [], laidByText := true, laidKinds := [.data, .data, .data, .data, .sentinel, .sentinel, .data, .data, .pinned], laidTests := true, laidLooks := .later }
def LocatorParsesUptoCardSaid : Prop := Claim7.holds Tryd.pinned (.plain (OpenSpec.upto locatorParsesSpec)) locatorParsesUptoCard

/-- THE SECOND FORM's CARD OF 'gatepathlaw09.LocatorPaths'. -/
def locatorPathsUptoCard : Claim7 := { stood := { row := locatorPathsUptoRow, standIns := [], harness := (true, "fb45ebfbbde856ea65fcb9411cdac8c309d7a2ce8580e590b8026810d88ebf7c"), looks := true }, kinds := [], alts := [], laidByText := true, laidKinds := [.data, .data, .data, .data, .sentinel, .sentinel, .data, .data, .pinned], laidTests := true, laidLooks := .later }
def LocatorPathsUptoCardSaid : Prop := Claim7.holds Tryd.pinned (.plain (OpenSpec.upto locatorPathsSpec)) locatorPathsUptoCard
end Rows
end Go.Proofs.YthagoafcphaadaaDoor

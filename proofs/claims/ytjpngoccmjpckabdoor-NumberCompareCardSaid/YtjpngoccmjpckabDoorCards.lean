/-
  DERIVED. GIVEN WITH THE SEED: THE CARDS: each row of YtjpngoccmjpckabDoorRows.lean that lists a variable, with what it lists TIED to the program's text (the seventh form; the later family's looks); each row that meets fmt, with fmt's text TOLD by the authors' own Lean function (tested against real Go, not proved from fmt's source: count such statements apart). THE CARD IS WHAT COUNTS. Prove the row's statement (the work); the ties are given (YtjpngoccmjpckabDoorTie.lean); close each card by the builder's one call (the guide's Derived/Test/ToyasCard.lean, 'card_holds'). Laid BY PROGRAM, IN A SANDBOX (cutbox-door.mjs). By AI agents, Wed Nov 11 2026. No macro, syntax, notation, axiom, sorry.
-/
import Derived.Test.YtjpngoccmjpckabDoorRows
import GoSem.ClaimSeven
namespace Go.Proofs.YtjpngoccmjpckabDoor
namespace Rows

/-- THE TIED CARD OF 'gatepathlaw01.NumberCompare'. -/
def numberCompareCard : Claim7 := { stood := { row := numberCompareRow, standIns := [], harness := (true, "6355022ee24af8f4b4698df4e3c16c3dec4e862a48e69d22009c36974a98ec00"), looks := true }, kinds := [], alts := [], laidByText := true, laidKinds := [.data, .data, .data, .data, .sentinel, .sentinel, .pinned], laidTests := true, laidLooks := .later }
def NumberCompareCardSaid : Prop := Claim7.holds Tryd.pinned (.plain (OpenSpec.ofChange numberCompareSpec)) numberCompareCard

/-- THE SECOND FORM's CARD OF 'gatepathlaw01.NumberCompare'. -/
def numberCompareUptoCard : Claim7 := { stood := { row := numberCompareUptoRow, standIns := [], harness := (true, "6355022ee24af8f4b4698df4e3c16c3dec4e862a48e69d22009c36974a98ec00"), looks := true }, kinds := [], alts := [], laidByText := true, laidKinds := [.data, .data, .data, .data, .sentinel, .sentinel, .pinned], laidTests := true, laidLooks := .later }
def NumberCompareUptoCardSaid : Prop := Claim7.holds Tryd.pinned (.plain (OpenSpec.upto numberCompareSpec)) numberCompareUptoCard
end Rows
end Go.Proofs.YtjpngoccmjpckabDoor

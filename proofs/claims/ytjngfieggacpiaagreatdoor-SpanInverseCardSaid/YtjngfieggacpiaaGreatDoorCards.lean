/-
  DERIVED. GIVEN WITH THE SEED: THE CARDS: each row of YtjngfieggacpiaaGreatDoorRows.lean that lists a variable, with what it lists TIED to the program's text (the seventh form; the later family's looks); each row that meets fmt, with fmt's text TOLD by the authors' own Lean function (tested against real Go, not proved from fmt's source: count such statements apart). THE CARD IS WHAT COUNTS. Prove the row's statement (the work); the ties are given (YtjngfieggacpiaaGreatDoorTie.lean); close each card by the builder's one call (the guide's Derived/Test/ToyasCard.lean, 'card_holds'). Laid BY PROGRAM, IN A SANDBOX (cutbox-door.mjs). By AI agents, Wed Nov 11 2026. No macro, syntax, notation, axiom, sorry.
-/
import Derived.Test.YtjngfieggacpiaaGreatDoorRows
import GoSem.ClaimSeven
namespace Go.Proofs.YtjngfieggacpiaaGreatDoor
namespace Rows

/-- THE TIED CARD OF 'gatepathlaw01.NumberTexts'. -/
def numberTextsCard : Claim7 := { stood := { row := numberTextsRow, standIns := [], harness := (true, "4eae57ba815186197c5efe33db1b307323e528ba9ef7eacca9108cfa35495fc4"), looks := true }, kinds := [], alts := [], laidByText := true, laidKinds := [.data, .data, .data, .data, .sentinel, .sentinel, .pinned], laidTests := true, laidLooks := .later }
def NumberTextsCardSaid : Prop := Claim7.holds Tryz.pinned (.plain (OpenSpec.ofChange numberTextsSpec)) numberTextsCard

/-- THE TIED CARD OF 'gatepathlaw02.SpanTexts'. -/
def spanTextsCard : Claim7 := { stood := { row := spanTextsRow, standIns := [], harness := (true, "4eae57ba815186197c5efe33db1b307323e528ba9ef7eacca9108cfa35495fc4"), looks := true }, kinds := [], alts := [], laidByText := true, laidKinds := [.data, .data, .data, .data, .sentinel, .sentinel, .pinned], laidTests := true, laidLooks := .later }
def SpanTextsCardSaid : Prop := Claim7.holds Tryz.pinned (.plain (OpenSpec.ofChange spanTextsSpec)) spanTextsCard

/-- THE TIED CARD OF 'gatepathlaw02.SpanInverse'. -/
def spanInverseCard : Claim7 := { stood := { row := spanInverseRow, standIns := [], harness := (true, "4eae57ba815186197c5efe33db1b307323e528ba9ef7eacca9108cfa35495fc4"), looks := true }, kinds := [], alts := [], laidByText := true, laidKinds := [.data, .data, .data, .data, .sentinel, .sentinel, .pinned], laidTests := true, laidLooks := .later }
def SpanInverseCardSaid : Prop := Claim7.holds Tryz.pinned (.plain (OpenSpec.ofChange spanInverseSpec)) spanInverseCard

/-- THE SECOND FORM's CARD OF 'gatepathlaw01.NumberTexts'. -/
def numberTextsUptoCard : Claim7 := { stood := { row := numberTextsUptoRow, standIns := [], harness := (true, "4eae57ba815186197c5efe33db1b307323e528ba9ef7eacca9108cfa35495fc4"), looks := true }, kinds := [], alts := [], laidByText := true, laidKinds := [.data, .data, .data, .data, .sentinel, .sentinel, .pinned], laidTests := true, laidLooks := .later }
def NumberTextsUptoCardSaid : Prop := Claim7.holds Tryz.pinned (.plain (OpenSpec.upto numberTextsSpec)) numberTextsUptoCard

/-- THE SECOND FORM's CARD OF 'gatepathlaw02.SpanTexts'. -/
def spanTextsUptoCard : Claim7 := { stood := { row := spanTextsUptoRow, standIns := [], harness := (true, "4eae57ba815186197c5efe33db1b307323e528ba9ef7eacca9108cfa35495fc4"), looks := true }, kinds := [], alts := [], laidByText := true, laidKinds := [.data, .data, .data, .data, .sentinel, .sentinel, .pinned], laidTests := true, laidLooks := .later }
def SpanTextsUptoCardSaid : Prop := Claim7.holds Tryz.pinned (.plain (OpenSpec.upto spanTextsSpec)) spanTextsUptoCard

/-- THE SECOND FORM's CARD OF 'gatepathlaw02.SpanInverse'. -/
def spanInverseUptoCard : Claim7 := { stood := { row := spanInverseUptoRow, standIns := [], harness := (true, "4eae57ba815186197c5efe33db1b307323e528ba9ef7eacca9108cfa35495fc4"), looks := true }, kinds := [], alts := [], laidByText := true, laidKinds := [.data, .data, .data, .data, .sentinel, .sentinel, .pinned], laidTests := true, laidLooks := .later }
def SpanInverseUptoCardSaid : Prop := Claim7.holds Tryz.pinned (.plain (OpenSpec.upto spanInverseSpec)) spanInverseUptoCard
end Rows
end Go.Proofs.YtjngfieggacpiaaGreatDoor

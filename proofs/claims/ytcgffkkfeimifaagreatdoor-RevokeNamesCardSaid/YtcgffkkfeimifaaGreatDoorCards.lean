/-
  DERIVED. GIVEN WITH THE SEED: THE CARDS: each row of YtcgffkkfeimifaaGreatDoorRows.lean that lists a variable, with what it lists TIED to the program's text (the seventh form; the later family's looks); each row that meets fmt, with fmt's text TOLD by the authors' own Lean function (tested against real Go, not proved from fmt's source: count such statements apart). THE CARD IS WHAT COUNTS. Prove the row's statement (the work); the ties are given (YtcgffkkfeimifaaGreatDoorTie.lean); close each card by the builder's one call (the guide's Derived/Test/ToyasCard.lean, 'card_holds'). Laid BY PROGRAM, IN A SANDBOX (cutbox-door.mjs). By AI agents, Wed Nov 11 2026. No macro, syntax, notation, axiom, sorry.
-/
import Derived.Test.YtcgffkkfeimifaaGreatDoorRows
import GoSem.ClaimSeven
namespace Go.Proofs.YtcgffkkfeimifaaGreatDoor
namespace Rows

/-- THE TIED CARD OF 'gatepathlaw11.RevokeNames'. -/
def revokeNamesCard : Claim7 := { stood := { row := revokeNamesRow, standIns := [], harness := (true, "a32df0fef6852a9a72a89e0a6e7cd175698e1f5552c99b75f63a3d04887a76f1"), looks := false }, kinds := [], alts := [], laidByText := true, laidKinds := [.data, .data], laidTests := true, laidLooks := .later }
def RevokeNamesCardSaid : Prop := Claim7.holds Tryz.pinned (.plain (OpenSpec.ofChange revokeNamesSpec)) revokeNamesCard

/-- THE TIED CARD OF 'gatepathlaw11.RevokeSigns'. -/
def revokeSignsCard : Claim7 := { stood := { row := revokeSignsRow, standIns := [], harness := (true, "a32df0fef6852a9a72a89e0a6e7cd175698e1f5552c99b75f63a3d04887a76f1"), looks := false }, kinds := [], alts := [], laidByText := true, laidKinds := [.data, .data], laidTests := true, laidLooks := .later }
def RevokeSignsCardSaid : Prop := Claim7.holds Tryz.pinned (.plain (OpenSpec.ofChange revokeSignsSpec)) revokeSignsCard

/-- THE TIED CARD OF 'gatepathlaw11.RevokeExact'. -/
def revokeExactCard : Claim7 := { stood := { row := revokeExactRow, standIns := [], harness := (true, "a32df0fef6852a9a72a89e0a6e7cd175698e1f5552c99b75f63a3d04887a76f1"), looks := false }, kinds := [], alts := [], laidByText := true, laidKinds := [.data, .data], laidTests := true, laidLooks := .later }
def RevokeExactCardSaid : Prop := Claim7.holds Tryz.pinned (.plain (OpenSpec.ofChange revokeExactSpec)) revokeExactCard

/-- THE TIED CARD OF 'gatepathlaw11.RevokeVerifies'. -/
def revokeVerifiesCard : Claim7 := { stood := { row := revokeVerifiesRow, standIns := [], harness := (true, "a32df0fef6852a9a72a89e0a6e7cd175698e1f5552c99b75f63a3d04887a76f1"), looks := false }, kinds := [], alts := [], laidByText := true, laidKinds := [.data, .data], laidTests := true, laidLooks := .later }
def RevokeVerifiesCardSaid : Prop := Claim7.holds Tryz.pinned (.plain (OpenSpec.ofChange revokeVerifiesSpec)) revokeVerifiesCard

/-- THE SECOND FORM's CARD OF 'gatepathlaw11.RevokeNames'. -/
def revokeNamesUptoCard : Claim7 := { stood := { row := revokeNamesUptoRow, standIns := [], harness := (true, "a32df0fef6852a9a72a89e0a6e7cd175698e1f5552c99b75f63a3d04887a76f1"), looks := false }, kinds := [], alts := [], laidByText := true, laidKinds := [.data, .data], laidTests := true, laidLooks := .later }
def RevokeNamesUptoCardSaid : Prop := Claim7.holds Tryz.pinned (.plain (OpenSpec.upto revokeNamesSpec)) revokeNamesUptoCard

/-- THE SECOND FORM's CARD OF 'gatepathlaw11.RevokeSigns'. -/
def revokeSignsUptoCard : Claim7 := { stood := { row := revokeSignsUptoRow, standIns := [], harness := (true, "a32df0fef6852a9a72a89e0a6e7cd175698e1f5552c99b75f63a3d04887a76f1"), looks := false }, kinds := [], alts := [], laidByText := true, laidKinds := [.data, .data], laidTests := true, laidLooks := .later }
def RevokeSignsUptoCardSaid : Prop := Claim7.holds Tryz.pinned (.plain (OpenSpec.upto revokeSignsSpec)) revokeSignsUptoCard

/-- THE SECOND FORM's CARD OF 'gatepathlaw11.RevokeExact'. -/
def revokeExactUptoCard : Claim7 := { stood := { row := revokeExactUptoRow, standIns := [], harness := (true, "a32df0fef6852a9a72a89e0a6e7cd175698e1f5552c99b75f63a3d04887a76f1"), looks := false }, kinds := [], alts := [], laidByText := true, laidKinds := [.data, .data], laidTests := true, laidLooks := .later }
def RevokeExactUptoCardSaid : Prop := Claim7.holds Tryz.pinned (.plain (OpenSpec.upto revokeExactSpec)) revokeExactUptoCard

/-- THE SECOND FORM's CARD OF 'gatepathlaw11.RevokeVerifies'. -/
def revokeVerifiesUptoCard : Claim7 := { stood := { row := revokeVerifiesUptoRow, standIns := [], harness := (true, "a32df0fef6852a9a72a89e0a6e7cd175698e1f5552c99b75f63a3d04887a76f1"), looks := false }, kinds := [], alts := [], laidByText := true, laidKinds := [.data, .data], laidTests := true, laidLooks := .later }
def RevokeVerifiesUptoCardSaid : Prop := Claim7.holds Tryz.pinned (.plain (OpenSpec.upto revokeVerifiesSpec)) revokeVerifiesUptoCard
end Rows
end Go.Proofs.YtcgffkkfeimifaaGreatDoor

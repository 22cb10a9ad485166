/-
  DERIVED. GIVEN WITH THE SEED: THE CARDS: each row of YtafolokkjpbieaaDoorRows.lean that lists a variable, with what it lists TIED to the program's text (the seventh form; the later family's looks); each row that meets fmt, with fmt's text TOLD by the authors' own Lean function (tested against real Go, not proved from fmt's source: count such statements apart). THE CARD IS WHAT COUNTS. Prove the row's statement (the work); the ties are given (YtafolokkjpbieaaDoorTie.lean); close each card by the builder's one call (the guide's Derived/Test/ToyasCard.lean, 'card_holds'). Laid BY PROGRAM, IN A SANDBOX (cutbox-door.mjs). By AI agents, Wed Nov 11 2026. No macro, syntax, notation, axiom, sorry.
-/
import Derived.Test.YtafolokkjpbieaaDoorRows
import GoSem.ClaimSeven
namespace Go.Proofs.YtafolokkjpbieaaDoor
namespace Rows

/-- THE TIED CARD OF 'gatepathlaw07.MerkleNames'. -/
def merkleNamesCard : Claim7 := { stood := { row := merkleNamesRow, standIns := [], harness := (true, "fb202a25e270729ce40d41b3d1d76f656f6dbac6218054d8004a01c5a2c829c8"), looks := false }, kinds := [], alts := [], laidByText := true, laidKinds := [.data, .data], laidTests := true, laidLooks := .later }
def MerkleNamesCardSaid : Prop := Claim7.holds Tryd.pinned (.plain (OpenSpec.ofChange merkleNamesSpec)) merkleNamesCard

/-- THE TIED CARD OF 'gatepathlaw07.MerkleKeys'. -/
def merkleKeysCard : Claim7 := { stood := { row := merkleKeysRow, standIns := [], harness := (true, "fb202a25e270729ce40d41b3d1d76f656f6dbac6218054d8004a01c5a2c829c8"), looks := false }, kinds := [], alts := [], laidByText := true, laidKinds := [.data, .data], laidTests := true, laidLooks := .later }
def MerkleKeysCardSaid : Prop := Claim7.holds Tryd.pinned (.plain (OpenSpec.ofChange merkleKeysSpec)) merkleKeysCard

/-- THE TIED CARD OF 'gatepathlaw07.MerkleRoots'. -/
def merkleRootsCard : Claim7 := { stood := { row := merkleRootsRow, standIns := [], harness := (true, "fb202a25e270729ce40d41b3d1d76f656f6dbac6218054d8004a01c5a2c829c8"), looks := false }, kinds := [], alts := [], laidByText := true, laidKinds := [.data, .data], laidTests := true, laidLooks := .later }
def MerkleRootsCardSaid : Prop := Claim7.holds Tryd.pinned (.plain (OpenSpec.ofChange merkleRootsSpec)) merkleRootsCard

/-- THE SECOND FORM's CARD OF 'gatepathlaw07.MerkleNames'. -/
def merkleNamesUptoCard : Claim7 := { stood := { row := merkleNamesUptoRow, standIns := [], harness := (true, "fb202a25e270729ce40d41b3d1d76f656f6dbac6218054d8004a01c5a2c829c8"), looks := false }, kinds := [], alts := [], laidByText := true, laidKinds := [.data, .data], laidTests := true, laidLooks := .later }
def MerkleNamesUptoCardSaid : Prop := Claim7.holds Tryd.pinned (.plain (OpenSpec.upto merkleNamesSpec)) merkleNamesUptoCard

/-- THE SECOND FORM's CARD OF 'gatepathlaw07.MerkleKeys'. -/
def merkleKeysUptoCard : Claim7 := { stood := { row := merkleKeysUptoRow, standIns := [], harness := (true, "fb202a25e270729ce40d41b3d1d76f656f6dbac6218054d8004a01c5a2c829c8"), looks := false }, kinds := [], alts := [], laidByText := true, laidKinds := [.data, .data], laidTests := true, laidLooks := .later }
def MerkleKeysUptoCardSaid : Prop := Claim7.holds Tryd.pinned (.plain (OpenSpec.upto merkleKeysSpec)) merkleKeysUptoCard

/-- THE SECOND FORM's CARD OF 'gatepathlaw07.MerkleRoots'. -/
def merkleRootsUptoCard : Claim7 := { stood := { row := merkleRootsUptoRow, standIns := [], harness := (true, "fb202a25e270729ce40d41b3d1d76f656f6dbac6218054d8004a01c5a2c829c8"), looks := false }, kinds := [], alts := [], laidByText := true, laidKinds := [.data, .data], laidTests := true, laidLooks := .later }
def MerkleRootsUptoCardSaid : Prop := Claim7.holds Tryd.pinned (.plain (OpenSpec.upto merkleRootsSpec)) merkleRootsUptoCard
end Rows
end Go.Proofs.YtafolokkjpbieaaDoor

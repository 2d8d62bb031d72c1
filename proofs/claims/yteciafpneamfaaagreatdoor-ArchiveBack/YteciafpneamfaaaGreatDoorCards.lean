/-
  DERIVED. GIVEN WITH THE SEED: THE CARDS: each row of YteciafpneamfaaaGreatDoorRows.lean that lists a variable, with what it lists TIED to the program's text (the seventh form; the later family's looks); each row that meets fmt, with fmt's text TOLD by the authors' own Lean function (tested against real Go, not proved from fmt's source: count such statements apart). THE CARD IS WHAT COUNTS. Prove the row's statement (the work); the ties are given (YteciafpneamfaaaGreatDoorTie.lean); close each card by the builder's one call (the guide's Derived/Test/ToyasCard.lean, 'card_holds'). Laid BY PROGRAM, IN A SANDBOX (cutbox-door.mjs). By AI agents, Wed Nov 11 2026. No macro, syntax, notation, axiom, sorry.
-/
import Derived.Test.YteciafpneamfaaaGreatDoorRows
import GoSem.ClaimSeven
namespace Go.Proofs.YteciafpneamfaaaGreatDoor
namespace Rows

/-- THE TIED CARD OF 'casketlaw22.ArchiveBack'. -/
def archiveBackCard : Claim7 := { stood := { row := archiveBackRow, standIns := [], harness := (true, "bf05dcca3a247b9a5e65d4b0093b122aba64dda75a3c612feb6736b8f7933f4a"), looks := true }, kinds := [], alts := [], laidByText := true, laidKinds := [.data], laidTests := true, laidLooks := .later }
def ArchiveBackCardSaid : Prop := Claim7.holds Tryz.pinned (.plain (OpenSpec.ofChange archiveBackSpec)) archiveBackCard

/-- THE TIED CARD OF 'casketlaw22.ArchiveTrusts'. -/
def archiveTrustsCard : Claim7 := { stood := { row := archiveTrustsRow, standIns := [], harness := (true, "bf05dcca3a247b9a5e65d4b0093b122aba64dda75a3c612feb6736b8f7933f4a"), looks := true }, kinds := [], alts := [], laidByText := true, laidKinds := [.data], laidTests := true, laidLooks := .later }
def ArchiveTrustsCardSaid : Prop := Claim7.holds Tryz.pinned (.plain (OpenSpec.ofChange archiveTrustsSpec)) archiveTrustsCard

/-- THE SECOND FORM's CARD OF 'casketlaw22.ArchiveBack'. -/
def archiveBackUptoCard : Claim7 := { stood := { row := archiveBackUptoRow, standIns := [], harness := (true, "bf05dcca3a247b9a5e65d4b0093b122aba64dda75a3c612feb6736b8f7933f4a"), looks := true }, kinds := [], alts := [], laidByText := true, laidKinds := [.data], laidTests := true, laidLooks := .later }
def ArchiveBackUptoCardSaid : Prop := Claim7.holds Tryz.pinned (.plain (OpenSpec.upto archiveBackSpec)) archiveBackUptoCard

/-- THE SECOND FORM's CARD OF 'casketlaw22.ArchiveTrusts'. -/
def archiveTrustsUptoCard : Claim7 := { stood := { row := archiveTrustsUptoRow, standIns := [], harness := (true, "bf05dcca3a247b9a5e65d4b0093b122aba64dda75a3c612feb6736b8f7933f4a"), looks := true }, kinds := [], alts := [], laidByText := true, laidKinds := [.data], laidTests := true, laidLooks := .later }
def ArchiveTrustsUptoCardSaid : Prop := Claim7.holds Tryz.pinned (.plain (OpenSpec.upto archiveTrustsSpec)) archiveTrustsUptoCard
end Rows
end Go.Proofs.YteciafpneamfaaaGreatDoor

/-
  DERIVED. GIVEN WITH THE SEED: THE CARDS: each row of YtnhapmboienipaaGreatDoorRows.lean that lists a variable, with what it lists TIED to the program's text (the seventh form; the later family's looks); each row that meets fmt, with fmt's text TOLD by the authors' own Lean function (tested against real Go, not proved from fmt's source: count such statements apart). THE CARD IS WHAT COUNTS. Prove the row's statement (the work); the ties are given (YtnhapmboienipaaGreatDoorTie.lean); close each card by the builder's one call (the guide's Derived/Test/ToyasCard.lean, 'card_holds'). Laid BY PROGRAM, IN A SANDBOX (cutbox-door.mjs). By AI agents, Wed Nov 11 2026. No macro, syntax, notation, axiom, sorry.
-/
import Derived.Test.YtnhapmboienipaaGreatDoorRows
import GoSem.ClaimSeven
namespace Go.Proofs.YtnhapmboienipaaGreatDoor
namespace Rows

/-- THE TIED CARD OF 'casketlaw22.ArchiveBack'. -/
def archiveBackCard : Claim7 := { stood := { row := archiveBackRow, standIns := [], harness := (true, "fbec433fb5f231ec2fe649c90649a3df17dd50dc1dcf686c5fe25510d7fd35c2"), looks := true }, kinds := [], alts := [], laidByText := true, laidKinds := [.data], laidTests := true, laidLooks := .later }
def ArchiveBackCardSaid : Prop := Claim7.holds Tryz.pinned (.plain (OpenSpec.ofChange archiveBackSpec)) archiveBackCard

/-- THE TIED CARD OF 'casketlaw22.ArchiveTrusts'. -/
def archiveTrustsCard : Claim7 := { stood := { row := archiveTrustsRow, standIns := [], harness := (true, "fbec433fb5f231ec2fe649c90649a3df17dd50dc1dcf686c5fe25510d7fd35c2"), looks := true }, kinds := [], alts := [], laidByText := true, laidKinds := [.data], laidTests := true, laidLooks := .later }
def ArchiveTrustsCardSaid : Prop := Claim7.holds Tryz.pinned (.plain (OpenSpec.ofChange archiveTrustsSpec)) archiveTrustsCard

/-- THE TIED CARD OF 'casketlaw22.ArchiveSizes'. -/
def archiveSizesCard : Claim7 := { stood := { row := archiveSizesRow, standIns := [], harness := (true, "fbec433fb5f231ec2fe649c90649a3df17dd50dc1dcf686c5fe25510d7fd35c2"), looks := true }, kinds := [], alts := [], laidByText := true, laidKinds := [.data], laidTests := true, laidLooks := .later }
def ArchiveSizesCardSaid : Prop := Claim7.holds Tryz.pinned (.plain (OpenSpec.ofChange archiveSizesSpec)) archiveSizesCard

/-- THE TIED CARD OF 'casketlaw22.ArchivePrev'. -/
def archivePrevCard : Claim7 := { stood := { row := archivePrevRow, standIns := [], harness := (true, "fbec433fb5f231ec2fe649c90649a3df17dd50dc1dcf686c5fe25510d7fd35c2"), looks := true }, kinds := [], alts := [], laidByText := true, laidKinds := [.data], laidTests := true, laidLooks := .later }
def ArchivePrevCardSaid : Prop := Claim7.holds Tryz.pinned (.plain (OpenSpec.ofChange archivePrevSpec)) archivePrevCard

/-- THE SECOND FORM's CARD OF 'casketlaw22.ArchiveBack'. -/
def archiveBackUptoCard : Claim7 := { stood := { row := archiveBackUptoRow, standIns := [], harness := (true, "fbec433fb5f231ec2fe649c90649a3df17dd50dc1dcf686c5fe25510d7fd35c2"), looks := true }, kinds := [], alts := [], laidByText := true, laidKinds := [.data], laidTests := true, laidLooks := .later }
def ArchiveBackUptoCardSaid : Prop := Claim7.holds Tryz.pinned (.plain (OpenSpec.upto archiveBackSpec)) archiveBackUptoCard

/-- THE SECOND FORM's CARD OF 'casketlaw22.ArchiveTrusts'. -/
def archiveTrustsUptoCard : Claim7 := { stood := { row := archiveTrustsUptoRow, standIns := [], harness := (true, "fbec433fb5f231ec2fe649c90649a3df17dd50dc1dcf686c5fe25510d7fd35c2"), looks := true }, kinds := [], alts := [], laidByText := true, laidKinds := [.data], laidTests := true, laidLooks := .later }
def ArchiveTrustsUptoCardSaid : Prop := Claim7.holds Tryz.pinned (.plain (OpenSpec.upto archiveTrustsSpec)) archiveTrustsUptoCard

/-- THE SECOND FORM's CARD OF 'casketlaw22.ArchiveSizes'. -/
def archiveSizesUptoCard : Claim7 := { stood := { row := archiveSizesUptoRow, standIns := [], harness := (true, "fbec433fb5f231ec2fe649c90649a3df17dd50dc1dcf686c5fe25510d7fd35c2"), looks := true }, kinds := [], alts := [], laidByText := true, laidKinds := [.data], laidTests := true, laidLooks := .later }
def ArchiveSizesUptoCardSaid : Prop := Claim7.holds Tryz.pinned (.plain (OpenSpec.upto archiveSizesSpec)) archiveSizesUptoCard

/-- THE SECOND FORM's CARD OF 'casketlaw22.ArchivePrev'. -/
def archivePrevUptoCard : Claim7 := { stood := { row := archivePrevUptoRow, standIns := [], harness := (true, "fbec433fb5f231ec2fe649c90649a3df17dd50dc1dcf686c5fe25510d7fd35c2"), looks := true }, kinds := [], alts := [], laidByText := true, laidKinds := [.data], laidTests := true, laidLooks := .later }
def ArchivePrevUptoCardSaid : Prop := Claim7.holds Tryz.pinned (.plain (OpenSpec.upto archivePrevSpec)) archivePrevUptoCard
end Rows
end Go.Proofs.YtnhapmboienipaaGreatDoor

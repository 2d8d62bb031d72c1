/-
  DERIVED. GIVEN WITH THE SEED: THE CARDS: each row of YtcpopagikbjimaaGreatDoorRows.lean that lists a variable, with what it lists TIED to the program's text (the seventh form; the later family's looks); each row that meets fmt, with fmt's text TOLD by the authors' own Lean function (tested against real Go, not proved from fmt's source: count such statements apart). THE CARD IS WHAT COUNTS. Prove the row's statement (the work); the ties are given (YtcpopagikbjimaaGreatDoorTie.lean); close each card by the builder's one call (the guide's Derived/Test/ToyasCard.lean, 'card_holds'). Laid BY PROGRAM, IN A SANDBOX (cutbox-door.mjs). By AI agents, Wed Nov 11 2026. No macro, syntax, notation, axiom, sorry.
-/
import Derived.Test.YtcpopagikbjimaaGreatDoorRows
import GoSem.ClaimSeven
namespace Go.Proofs.YtcpopagikbjimaaGreatDoor
namespace Rows

/-- THE TIED CARD OF 'casketlaw24.ReaderNone'. -/
def readerNoneCard : Claim7 := { stood := { row := readerNoneRow, standIns := [], harness := (true, "dbdaaad2dbd5e0dd037c15763c6d85a802f3209a3c2f5149616254aa970e96d2"), looks := true }, kinds := [], alts := [], laidByText := true, laidKinds := [.data], laidTests := true, laidLooks := .later }
def ReaderNoneCardSaid : Prop := Claim7.holds Tryz.pinned (.plain (OpenSpec.ofChange readerNoneSpec)) readerNoneCard

/-- THE SECOND FORM's CARD OF 'casketlaw24.ReaderNone'. -/
def readerNoneUptoCard : Claim7 := { stood := { row := readerNoneUptoRow, standIns := [], harness := (true, "dbdaaad2dbd5e0dd037c15763c6d85a802f3209a3c2f5149616254aa970e96d2"), looks := true }, kinds := [], alts := [], laidByText := true, laidKinds := [.data], laidTests := true, laidLooks := .later }
def ReaderNoneUptoCardSaid : Prop := Claim7.holds Tryz.pinned (.plain (OpenSpec.upto readerNoneSpec)) readerNoneUptoCard
end Rows
end Go.Proofs.YtcpopagikbjimaaGreatDoor

/-
  DERIVED. GIVEN WITH THE SEED: THE CARDS: each row of YthapipgaohlgdabGreatDoorRows.lean that lists a variable, with what it lists TIED to the program's text (the seventh form; the later family's looks); each row that meets fmt, with fmt's text TOLD by the authors' own Lean function (tested against real Go, not proved from fmt's source: count such statements apart). THE CARD IS WHAT COUNTS. Prove the row's statement (the work); the ties are given (YthapipgaohlgdabGreatDoorTie.lean); close each card by the builder's one call (the guide's Derived/Test/ToyasCard.lean, 'card_holds'). Laid BY PROGRAM, IN A SANDBOX (cutbox-door.mjs). By AI agents, Wed Nov 11 2026. No macro, syntax, notation, axiom, sorry.
-/
import Derived.Test.YthapipgaohlgdabGreatDoorRows
import GoSem.ClaimSeven
namespace Go.Proofs.YthapipgaohlgdabGreatDoor
namespace Rows

/-- THE TIED CARD OF 'casketlaw12.ChunkSamples'. -/
def chunkSamplesCard : Claim7 := { stood := { row := chunkSamplesRow, standIns := [], harness := (true, "061bef276a0e00bfc94510cd292c5f763a0adaeeb70442c2b98edde996b48ab2"), looks := true }, kinds := [], alts := [], laidByText := true, laidKinds := [.data], laidTests := true, laidLooks := .later }
def ChunkSamplesCardSaid : Prop := Claim7.holds Tryz.pinned (.plain (OpenSpec.ofChange chunkSamplesSpec)) chunkSamplesCard

/-- THE SECOND FORM's CARD OF 'casketlaw12.ChunkSamples'. -/
def chunkSamplesUptoCard : Claim7 := { stood := { row := chunkSamplesUptoRow, standIns := [], harness := (true, "061bef276a0e00bfc94510cd292c5f763a0adaeeb70442c2b98edde996b48ab2"), looks := true }, kinds := [], alts := [], laidByText := true, laidKinds := [.data], laidTests := true, laidLooks := .later }
def ChunkSamplesUptoCardSaid : Prop := Claim7.holds Tryz.pinned (.plain (OpenSpec.upto chunkSamplesSpec)) chunkSamplesUptoCard
end Rows
end Go.Proofs.YthapipgaohlgdabGreatDoor

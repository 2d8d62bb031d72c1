/-
  DERIVED. GIVEN WITH THE SEED: THE CARDS: each row of YthapipgaohlgdaaGreatDoorRows.lean that lists a variable, with what it lists TIED to the program's text (the seventh form; the later family's looks); each row that meets fmt, with fmt's text TOLD by the authors' own Lean function (tested against real Go, not proved from fmt's source: count such statements apart). THE CARD IS WHAT COUNTS. Prove the row's statement (the work); the ties are given (YthapipgaohlgdaaGreatDoorTie.lean); close each card by the builder's one call (the guide's Derived/Test/ToyasCard.lean, 'card_holds'). Laid BY PROGRAM, IN A SANDBOX (cutbox-door.mjs). By AI agents, Wed Nov 11 2026. No macro, syntax, notation, axiom, sorry.
-/
import Derived.Test.YthapipgaohlgdaaGreatDoorRows
import GoSem.ClaimSeven
namespace Go.Proofs.YthapipgaohlgdaaGreatDoor
namespace Rows

/-- THE TIED CARD OF 'casketlaw12.ChunkEncodes'. -/
def chunkEncodesCard : Claim7 := { stood := { row := chunkEncodesRow, standIns := [], harness := (true, "0c1eae587a31570e92d11ded9ae638a6695ded803b038a6e6575c50fd929b279"), looks := true }, kinds := [], alts := [], laidByText := true, laidKinds := [.data], laidTests := true, laidLooks := .later }
def ChunkEncodesCardSaid : Prop := Claim7.holds Tryz.pinned (.plain (OpenSpec.ofChange chunkEncodesSpec)) chunkEncodesCard

/-- THE TIED CARD OF 'casketlaw12.ChunkDecodes'. -/
def chunkDecodesCard : Claim7 := { stood := { row := chunkDecodesRow, standIns := [], harness := (true, "0c1eae587a31570e92d11ded9ae638a6695ded803b038a6e6575c50fd929b279"), looks := true }, kinds := [], alts := [], laidByText := true, laidKinds := [.data], laidTests := true, laidLooks := .later }
def ChunkDecodesCardSaid : Prop := Claim7.holds Tryz.pinned (.plain (OpenSpec.ofChange chunkDecodesSpec)) chunkDecodesCard

/-- THE TIED CARD OF 'casketlaw12.ChunkBack'. -/
def chunkBackCard : Claim7 := { stood := { row := chunkBackRow, standIns := [], harness := (true, "0c1eae587a31570e92d11ded9ae638a6695ded803b038a6e6575c50fd929b279"), looks := true }, kinds := [], alts := [], laidByText := true, laidKinds := [.data], laidTests := true, laidLooks := .later }
def ChunkBackCardSaid : Prop := Claim7.holds Tryz.pinned (.plain (OpenSpec.ofChange chunkBackSpec)) chunkBackCard

/-- THE TIED CARD OF 'casketlaw12.ChunkOnly'. -/
def chunkOnlyCard : Claim7 := { stood := { row := chunkOnlyRow, standIns := [], harness := (true, "0c1eae587a31570e92d11ded9ae638a6695ded803b038a6e6575c50fd929b279"), looks := true }, kinds := [], alts := [], laidByText := true, laidKinds := [.data], laidTests := true, laidLooks := .later }
def ChunkOnlyCardSaid : Prop := Claim7.holds Tryz.pinned (.plain (OpenSpec.ofChange chunkOnlySpec)) chunkOnlyCard

/-- THE TIED CARD OF 'casketlaw12.ChunkSize'. -/
def chunkSizeCard : Claim7 := { stood := { row := chunkSizeRow, standIns := [], harness := (true, "0c1eae587a31570e92d11ded9ae638a6695ded803b038a6e6575c50fd929b279"), looks := true }, kinds := [], alts := [], laidByText := true, laidKinds := [.data], laidTests := true, laidLooks := .later }
def ChunkSizeCardSaid : Prop := Claim7.holds Tryz.pinned (.plain (OpenSpec.ofChange chunkSizeSpec)) chunkSizeCard

/-- THE TIED CARD OF 'casketlaw12.ChunkTenants'. -/
def chunkTenantsCard : Claim7 := { stood := { row := chunkTenantsRow, standIns := [], harness := (true, "0c1eae587a31570e92d11ded9ae638a6695ded803b038a6e6575c50fd929b279"), looks := true }, kinds := [], alts := [], laidByText := true, laidKinds := [.data], laidTests := true, laidLooks := .later }
def ChunkTenantsCardSaid : Prop := Claim7.holds Tryz.pinned (.plain (OpenSpec.ofChange chunkTenantsSpec)) chunkTenantsCard

/-- THE SECOND FORM's CARD OF 'casketlaw12.ChunkEncodes'. -/
def chunkEncodesUptoCard : Claim7 := { stood := { row := chunkEncodesUptoRow, standIns := [], harness := (true, "0c1eae587a31570e92d11ded9ae638a6695ded803b038a6e6575c50fd929b279"), looks := true }, kinds := [], alts := [], laidByText := true, laidKinds := [.data], laidTests := true, laidLooks := .later }
def ChunkEncodesUptoCardSaid : Prop := Claim7.holds Tryz.pinned (.plain (OpenSpec.upto chunkEncodesSpec)) chunkEncodesUptoCard

/-- THE SECOND FORM's CARD OF 'casketlaw12.ChunkDecodes'. -/
def chunkDecodesUptoCard : Claim7 := { stood := { row := chunkDecodesUptoRow, standIns := [], harness := (true, "0c1eae587a31570e92d11ded9ae638a6695ded803b038a6e6575c50fd929b279"), looks := true }, kinds := [], alts := [], laidByText := true, laidKinds := [.data], laidTests := true, laidLooks := .later }
def ChunkDecodesUptoCardSaid : Prop := Claim7.holds Tryz.pinned (.plain (OpenSpec.upto chunkDecodesSpec)) chunkDecodesUptoCard

/-- THE SECOND FORM's CARD OF 'casketlaw12.ChunkBack'. -/
def chunkBackUptoCard : Claim7 := { stood := { row := chunkBackUptoRow, standIns := [], harness := (true, "0c1eae587a31570e92d11ded9ae638a6695ded803b038a6e6575c50fd929b279"), looks := true }, kinds := [], alts := [], laidByText := true, laidKinds := [.data], laidTests := true, laidLooks := .later }
def ChunkBackUptoCardSaid : Prop := Claim7.holds Tryz.pinned (.plain (OpenSpec.upto chunkBackSpec)) chunkBackUptoCard

/-- THE SECOND FORM's CARD OF 'casketlaw12.ChunkOnly'. -/
def chunkOnlyUptoCard : Claim7 := { stood := { row := chunkOnlyUptoRow, standIns := [], harness := (true, "0c1eae587a31570e92d11ded9ae638a6695ded803b038a6e6575c50fd929b279"), looks := true }, kinds := [], alts := [], laidByText := true, laidKinds := [.data], laidTests := true, laidLooks := .later }
def ChunkOnlyUptoCardSaid : Prop := Claim7.holds Tryz.pinned (.plain (OpenSpec.upto chunkOnlySpec)) chunkOnlyUptoCard

/-- THE SECOND FORM's CARD OF 'casketlaw12.ChunkSize'. -/
def chunkSizeUptoCard : Claim7 := { stood := { row := chunkSizeUptoRow, standIns := [], harness := (true, "0c1eae587a31570e92d11ded9ae638a6695ded803b038a6e6575c50fd929b279"), looks := true }, kinds := [], alts := [], laidByText := true, laidKinds := [.data], laidTests := true, laidLooks := .later }
def ChunkSizeUptoCardSaid : Prop := Claim7.holds Tryz.pinned (.plain (OpenSpec.upto chunkSizeSpec)) chunkSizeUptoCard

/-- THE SECOND FORM's CARD OF 'casketlaw12.ChunkTenants'. -/
def chunkTenantsUptoCard : Claim7 := { stood := { row := chunkTenantsUptoRow, standIns := [], harness := (true, "0c1eae587a31570e92d11ded9ae638a6695ded803b038a6e6575c50fd929b279"), looks := true }, kinds := [], alts := [], laidByText := true, laidKinds := [.data], laidTests := true, laidLooks := .later }
def ChunkTenantsUptoCardSaid : Prop := Claim7.holds Tryz.pinned (.plain (OpenSpec.upto chunkTenantsSpec)) chunkTenantsUptoCard
end Rows
end Go.Proofs.YthapipgaohlgdaaGreatDoor

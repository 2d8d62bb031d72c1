/-
  No cell of these rows narrows 'for every input' (looked for: loops, veiled, ifaces, maps, wideKeys, modest, calm, conditions, laid).
  DERIVED. THE GIVEN ROWS OF THIS SEAT. 4 by the template 'for every input the law returns true; each argument reads behind the call as it read before'; 0 by the template 'total and deterministic' (their statements: YtbcfpiahhippaaaTotals.lean).
  GIVEN WITH THE SEED: the statements are not yours to turn. If you find one false, say at which input.
  Laid BY PROGRAM, IN A SANDBOX (cutbox-rows.mjs): the forced cells as the released guide's own fill.sh prints them over the translation 3848d7a70748c9d5… (all of the seat's roots in one cut). By AI agents, Wed Nov 11 2026. No macro, syntax, notation, axiom, sorry.
-/
import Derived.Test.YtbcfpiahhippaaaChecked
import GoSem.Claim
import GoSem.ClaimJoined
import GoSem.ClaimMapViews
import Derived.JoinedTies
import Derived.KernelRfl
namespace Go.Proofs.Ytbcfpiahhippaaa
/- THE CELL 'sum', in the pinned program and in every row, IS THE sha256 OF THE DUMP (.gsa) THAT YtbcfpiahhippaaaProg.lean LOADS. Nothing in Lean hashes anything: it is a label: what it is worth is what the hold of that sum in a sandbox is worth. -/
noncomputable def Try.pinned : Pinned := { name := "ytbcfpiahhippaaa", sum := "3848d7a70748c9d5a9d29b4c120505c15aedf617b9b1e39f6a854375a3aa713d", checked := Try.checked }
namespace Rows
def none {H : Type} : Left H := { results := [], args := [] }

/-- 'casketlaw18.KeysDerives': WHATEVER THE INPUT: true; the input reads as it did. -/
def keysDerivesSpec : ChangeSpec := { name := "keysDerives", fn := fun _ => fun
  | [d1, d2, d3] => { results := [.lit (.bool true)], args := [d1, d2, d3] }
  | _ => none }
def keysDerivesRow : OpenClaim := { program := "ytbcfpiahhippaaa", sum := "3848d7a70748c9d5a9d29b4c120505c15aedf617b9b1e39f6a854375a3aa713d", func := "casket/casketlaw18.KeysDerives", spec := "keysDerives", unfollowed := true, recurses := true, apart := false }
def KeysDerivesSaid : Prop := keysDerivesRow.holds Try.pinned (OpenSpec.ofChange keysDerivesSpec)

/-- ITS FALSE NEIGHBOUR: 'it returns false'. Refute it at one input. -/
def keysDerivesWrong : ChangeSpec := { name := "keysDerives", fn := fun _ => fun
  | [d1, d2, d3] => { results := [.lit (.bool false)], args := [d1, d2, d3] }
  | _ => none }
def KeysDerivesWrongFalsely : Prop := keysDerivesRow.holds Try.pinned (OpenSpec.ofChange keysDerivesWrong)

/-- 'casketlaw18.KeysTree': WHATEVER THE INPUT: true; the input reads as it did. -/
def keysTreeSpec : ChangeSpec := { name := "keysTree", fn := fun _ => fun
  | [d1, d2, d3, d4] => { results := [.lit (.bool true)], args := [d1, d2, d3, d4] }
  | _ => none }
def keysTreeRow : OpenClaim := { program := "ytbcfpiahhippaaa", sum := "3848d7a70748c9d5a9d29b4c120505c15aedf617b9b1e39f6a854375a3aa713d", func := "casket/casketlaw18.KeysTree", spec := "keysTree", unfollowed := true, recurses := true, apart := false }
def KeysTreeSaid : Prop := keysTreeRow.holds Try.pinned (OpenSpec.ofChange keysTreeSpec)

/-- ITS FALSE NEIGHBOUR: 'it returns false'. Refute it at one input. -/
def keysTreeWrong : ChangeSpec := { name := "keysTree", fn := fun _ => fun
  | [d1, d2, d3, d4] => { results := [.lit (.bool false)], args := [d1, d2, d3, d4] }
  | _ => none }
def KeysTreeWrongFalsely : Prop := keysTreeRow.holds Try.pinned (OpenSpec.ofChange keysTreeWrong)

/-- 'casketlaw18.KeysApart': WHATEVER THE INPUT: true; the input reads as it did. -/
def keysApartSpec : ChangeSpec := { name := "keysApart", fn := fun _ => fun
  | [d1, d2, d3, d4, d5] => { results := [.lit (.bool true)], args := [d1, d2, d3, d4, d5] }
  | _ => none }
def keysApartRow : OpenClaim := { program := "ytbcfpiahhippaaa", sum := "3848d7a70748c9d5a9d29b4c120505c15aedf617b9b1e39f6a854375a3aa713d", func := "casket/casketlaw18.KeysApart", spec := "keysApart", unfollowed := true, recurses := true, apart := false }
def KeysApartSaid : Prop := keysApartRow.holds Try.pinned (OpenSpec.ofChange keysApartSpec)

/-- ITS FALSE NEIGHBOUR: 'it returns false'. Refute it at one input. -/
def keysApartWrong : ChangeSpec := { name := "keysApart", fn := fun _ => fun
  | [d1, d2, d3, d4, d5] => { results := [.lit (.bool false)], args := [d1, d2, d3, d4, d5] }
  | _ => none }
def KeysApartWrongFalsely : Prop := keysApartRow.holds Try.pinned (OpenSpec.ofChange keysApartWrong)

/-- 'casketlaw18.KeysNonces': WHATEVER THE INPUT: true; the input reads as it did. -/
def keysNoncesSpec : ChangeSpec := { name := "keysNonces", fn := fun _ => fun
  | [d1, d2, d3] => { results := [.lit (.bool true)], args := [d1, d2, d3] }
  | _ => none }
def keysNoncesRow : OpenClaim := { program := "ytbcfpiahhippaaa", sum := "3848d7a70748c9d5a9d29b4c120505c15aedf617b9b1e39f6a854375a3aa713d", func := "casket/casketlaw18.KeysNonces", spec := "keysNonces", unfollowed := true, recurses := true, apart := false }
def KeysNoncesSaid : Prop := keysNoncesRow.holds Try.pinned (OpenSpec.ofChange keysNoncesSpec)

/-- ITS FALSE NEIGHBOUR: 'it returns false'. Refute it at one input. -/
def keysNoncesWrong : ChangeSpec := { name := "keysNonces", fn := fun _ => fun
  | [d1, d2, d3] => { results := [.lit (.bool false)], args := [d1, d2, d3] }
  | _ => none }
def KeysNoncesWrongFalsely : Prop := keysNoncesRow.holds Try.pinned (OpenSpec.ofChange keysNoncesWrong)

/- THE SECOND FORM. 'bulk': how many values and letters a reading holds, each counted each time it is reached (what is shared counts as often as it is met; a slice's spare places count too). A statement '..UptoSaid' is the law's where the arguments, and the package variables that the reading takes, are together of bulk at most 1048576: NARROWER than '..Said'. Prove '..Said' where nothing that the law and all that it calls make is longer than what came in: it says more and counts as full. Else prove '..UptoSaid'. A law counts once. -/
mutual
def uptoBulk {H : Type} : DataW H → Nat
  | .lit (.string bytes) => bytes.length + 1
  | .lit _ => 1
  | .nil => 1
  | .ptr d => uptoBulk d + 1
  | .slice elems spare => uptoBulkAll elems + uptoBulkAll spare + 1
  | .agg parts => uptoBulkAll parts + 1
  | .iface _ d => uptoBulk d + 1
  | .map entries => uptoBulkEntries entries + 1
  | .held _ => 1
def uptoBulkAll {H : Type} : List (DataW H) → Nat
  | [] => 0
  | d :: r => uptoBulk d + uptoBulkAll r
def uptoBulkEntries {H : Type} : List (Lit × DataW H) → Nat
  | [] => 0
  | x :: r => uptoBulkEntry x + uptoBulkEntries r
def uptoBulkEntry {H : Type} : Lit × DataW H → Nat
  | (.string bytes, d) => bytes.length + uptoBulk d + 1
  | (_, d) => uptoBulk d + 1
 end
def uptoSmall : (H : Type) → List (DataW H) → Bool := fun _ ds => decide (uptoBulkAll ds ≤ 1048576)
def OpenSpec.upto (s : _root_.Go.ChangeSpec) : _root_.Go.OpenSpec := { _root_.Go.OpenSpec.ofChange s with cond := some uptoSmall }

/-- 'casketlaw18.KeysDerives', WHERE WHAT IT READS IS OF BULK AT MOST 1048576: true; the input reads as it did. -/
def keysDerivesUptoRow : OpenClaim := { program := "ytbcfpiahhippaaa", sum := "3848d7a70748c9d5a9d29b4c120505c15aedf617b9b1e39f6a854375a3aa713d", func := "casket/casketlaw18.KeysDerives", spec := "keysDerives", unfollowed := true, recurses := true, apart := false, narrowed := true }
def KeysDerivesUptoSaid : Prop := keysDerivesUptoRow.holds Try.pinned (OpenSpec.upto keysDerivesSpec)

/-- 'casketlaw18.KeysTree', WHERE WHAT IT READS IS OF BULK AT MOST 1048576: true; the input reads as it did. -/
def keysTreeUptoRow : OpenClaim := { program := "ytbcfpiahhippaaa", sum := "3848d7a70748c9d5a9d29b4c120505c15aedf617b9b1e39f6a854375a3aa713d", func := "casket/casketlaw18.KeysTree", spec := "keysTree", unfollowed := true, recurses := true, apart := false, narrowed := true }
def KeysTreeUptoSaid : Prop := keysTreeUptoRow.holds Try.pinned (OpenSpec.upto keysTreeSpec)

/-- 'casketlaw18.KeysApart', WHERE WHAT IT READS IS OF BULK AT MOST 1048576: true; the input reads as it did. -/
def keysApartUptoRow : OpenClaim := { program := "ytbcfpiahhippaaa", sum := "3848d7a70748c9d5a9d29b4c120505c15aedf617b9b1e39f6a854375a3aa713d", func := "casket/casketlaw18.KeysApart", spec := "keysApart", unfollowed := true, recurses := true, apart := false, narrowed := true }
def KeysApartUptoSaid : Prop := keysApartUptoRow.holds Try.pinned (OpenSpec.upto keysApartSpec)

/-- 'casketlaw18.KeysNonces', WHERE WHAT IT READS IS OF BULK AT MOST 1048576: true; the input reads as it did. -/
def keysNoncesUptoRow : OpenClaim := { program := "ytbcfpiahhippaaa", sum := "3848d7a70748c9d5a9d29b4c120505c15aedf617b9b1e39f6a854375a3aa713d", func := "casket/casketlaw18.KeysNonces", spec := "keysNonces", unfollowed := true, recurses := true, apart := false, narrowed := true }
def KeysNoncesUptoSaid : Prop := keysNoncesUptoRow.holds Try.pinned (OpenSpec.upto keysNoncesSpec)

end Rows
end Go.Proofs.Ytbcfpiahhippaaa

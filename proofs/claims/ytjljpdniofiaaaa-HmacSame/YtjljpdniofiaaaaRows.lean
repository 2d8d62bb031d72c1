/-
  No cell of these rows narrows 'for every input' (looked for: loops, veiled, ifaces, maps, wideKeys, modest, calm, conditions, laid).
  DERIVED. THE GIVEN ROWS OF THIS SEAT. 6 by the template 'for every input the law returns true; each argument reads behind the call as it read before'; 0 by the template 'total and deterministic' (their statements: YtjljpdniofiaaaaTotals.lean).
  GIVEN WITH THE SEED: the statements are not yours to turn. If you find one false, say at which input.
  Laid BY PROGRAM, IN A SANDBOX (cutbox-rows.mjs): the forced cells as the released guide's own fill.sh prints them over the translation 49aea83db1c33daa… (all of the seat's roots in one cut). By AI agents, Wed Nov 11 2026. No macro, syntax, notation, axiom, sorry.
-/
import Derived.Test.YtjljpdniofiaaaaChecked
import GoSem.Claim
import GoSem.ClaimJoined
import GoSem.ClaimMapViews
import Derived.JoinedTies
import Derived.KernelRfl
namespace Go.Proofs.Ytjljpdniofiaaaa
/- THE CELL 'sum', in the pinned program and in every row, IS THE sha256 OF THE DUMP (.gsa) THAT YtjljpdniofiaaaaProg.lean LOADS. Nothing in Lean hashes anything: it is a label: what it is worth is what the hold of that sum in a sandbox is worth. -/
noncomputable def Try.pinned : Pinned := { name := "ytjljpdniofiaaaa", sum := "49aea83db1c33daa2d84d86c9acc8914d2a0697dd4ace5e50777a4856cb53282", checked := Try.checked }
namespace Rows
def none {H : Type} : Left H := { results := [], args := [] }

/-- 'casketlaw14.HmacTags': WHATEVER THE INPUT: true; the input reads as it did. -/
def hmacTagsSpec : ChangeSpec := { name := "hmacTags", fn := fun _ => fun
  | [d1, d2, d3] => { results := [.lit (.bool true)], args := [d1, d2, d3] }
  | _ => none }
def hmacTagsRow : OpenClaim := { program := "ytjljpdniofiaaaa", sum := "49aea83db1c33daa2d84d86c9acc8914d2a0697dd4ace5e50777a4856cb53282", func := "casket/casketlaw14.HmacTags", spec := "hmacTags", apart := false }
def HmacTagsSaid : Prop := hmacTagsRow.holds Try.pinned (OpenSpec.ofChange hmacTagsSpec)

/-- ITS FALSE NEIGHBOUR: 'it returns false'. Refute it at one input. -/
def hmacTagsWrong : ChangeSpec := { name := "hmacTags", fn := fun _ => fun
  | [d1, d2, d3] => { results := [.lit (.bool false)], args := [d1, d2, d3] }
  | _ => none }
def HmacTagsWrongFalsely : Prop := hmacTagsRow.holds Try.pinned (OpenSpec.ofChange hmacTagsWrong)

/-- 'casketlaw14.HmacExpands': WHATEVER THE INPUT: true; the input reads as it did. -/
def hmacExpandsSpec : ChangeSpec := { name := "hmacExpands", fn := fun _ => fun
  | [d1, d2, d3] => { results := [.lit (.bool true)], args := [d1, d2, d3] }
  | _ => none }
def hmacExpandsRow : OpenClaim := { program := "ytjljpdniofiaaaa", sum := "49aea83db1c33daa2d84d86c9acc8914d2a0697dd4ace5e50777a4856cb53282", func := "casket/casketlaw14.HmacExpands", spec := "hmacExpands", unfollowed := true, recurses := true, apart := false }
def HmacExpandsSaid : Prop := hmacExpandsRow.holds Try.pinned (OpenSpec.ofChange hmacExpandsSpec)

/-- ITS FALSE NEIGHBOUR: 'it returns false'. Refute it at one input. -/
def hmacExpandsWrong : ChangeSpec := { name := "hmacExpands", fn := fun _ => fun
  | [d1, d2, d3] => { results := [.lit (.bool false)], args := [d1, d2, d3] }
  | _ => none }
def HmacExpandsWrongFalsely : Prop := hmacExpandsRow.holds Try.pinned (OpenSpec.ofChange hmacExpandsWrong)

/-- 'casketlaw14.HmacBits': WHATEVER THE INPUT: true; the input reads as it did. -/
def hmacBitsSpec : ChangeSpec := { name := "hmacBits", fn := fun _ => fun
  | [d1, d2, d3, d4] => { results := [.lit (.bool true)], args := [d1, d2, d3, d4] }
  | _ => none }
def hmacBitsRow : OpenClaim := { program := "ytjljpdniofiaaaa", sum := "49aea83db1c33daa2d84d86c9acc8914d2a0697dd4ace5e50777a4856cb53282", func := "casket/casketlaw14.HmacBits", spec := "hmacBits", apart := false }
def HmacBitsSaid : Prop := hmacBitsRow.holds Try.pinned (OpenSpec.ofChange hmacBitsSpec)

/-- ITS FALSE NEIGHBOUR: 'it returns false'. Refute it at one input. -/
def hmacBitsWrong : ChangeSpec := { name := "hmacBits", fn := fun _ => fun
  | [d1, d2, d3, d4] => { results := [.lit (.bool false)], args := [d1, d2, d3, d4] }
  | _ => none }
def HmacBitsWrongFalsely : Prop := hmacBitsRow.holds Try.pinned (OpenSpec.ofChange hmacBitsWrong)

/-- 'casketlaw14.HmacKeys': WHATEVER THE INPUT: true; the input reads as it did. -/
def hmacKeysSpec : ChangeSpec := { name := "hmacKeys", fn := fun _ => fun
  | [d1, d2, d3] => { results := [.lit (.bool true)], args := [d1, d2, d3] }
  | _ => none }
def hmacKeysRow : OpenClaim := { program := "ytjljpdniofiaaaa", sum := "49aea83db1c33daa2d84d86c9acc8914d2a0697dd4ace5e50777a4856cb53282", func := "casket/casketlaw14.HmacKeys", spec := "hmacKeys", apart := false }
def HmacKeysSaid : Prop := hmacKeysRow.holds Try.pinned (OpenSpec.ofChange hmacKeysSpec)

/-- ITS FALSE NEIGHBOUR: 'it returns false'. Refute it at one input. -/
def hmacKeysWrong : ChangeSpec := { name := "hmacKeys", fn := fun _ => fun
  | [d1, d2, d3] => { results := [.lit (.bool false)], args := [d1, d2, d3] }
  | _ => none }
def HmacKeysWrongFalsely : Prop := hmacKeysRow.holds Try.pinned (OpenSpec.ofChange hmacKeysWrong)

/-- 'casketlaw14.HmacLonger': WHATEVER THE INPUT: true; the input reads as it did. -/
def hmacLongerSpec : ChangeSpec := { name := "hmacLonger", fn := fun _ => fun
  | [d1, d2, d3, d4] => { results := [.lit (.bool true)], args := [d1, d2, d3, d4] }
  | _ => none }
def hmacLongerRow : OpenClaim := { program := "ytjljpdniofiaaaa", sum := "49aea83db1c33daa2d84d86c9acc8914d2a0697dd4ace5e50777a4856cb53282", func := "casket/casketlaw14.HmacLonger", spec := "hmacLonger", unfollowed := true, recurses := true, apart := false }
def HmacLongerSaid : Prop := hmacLongerRow.holds Try.pinned (OpenSpec.ofChange hmacLongerSpec)

/-- ITS FALSE NEIGHBOUR: 'it returns false'. Refute it at one input. -/
def hmacLongerWrong : ChangeSpec := { name := "hmacLonger", fn := fun _ => fun
  | [d1, d2, d3, d4] => { results := [.lit (.bool false)], args := [d1, d2, d3, d4] }
  | _ => none }
def HmacLongerWrongFalsely : Prop := hmacLongerRow.holds Try.pinned (OpenSpec.ofChange hmacLongerWrong)

/-- 'casketlaw14.HmacSame': WHATEVER THE INPUT: true; the input reads as it did. -/
def hmacSameSpec : ChangeSpec := { name := "hmacSame", fn := fun _ => fun
  | [d1, d2, d3, d4] => { results := [.lit (.bool true)], args := [d1, d2, d3, d4] }
  | _ => none }
def hmacSameRow : OpenClaim := { program := "ytjljpdniofiaaaa", sum := "49aea83db1c33daa2d84d86c9acc8914d2a0697dd4ace5e50777a4856cb53282", func := "casket/casketlaw14.HmacSame", spec := "hmacSame", apart := false }
def HmacSameSaid : Prop := hmacSameRow.holds Try.pinned (OpenSpec.ofChange hmacSameSpec)

/-- ITS FALSE NEIGHBOUR: 'it returns false'. Refute it at one input. -/
def hmacSameWrong : ChangeSpec := { name := "hmacSame", fn := fun _ => fun
  | [d1, d2, d3, d4] => { results := [.lit (.bool false)], args := [d1, d2, d3, d4] }
  | _ => none }
def HmacSameWrongFalsely : Prop := hmacSameRow.holds Try.pinned (OpenSpec.ofChange hmacSameWrong)

/- THE SECOND FORM. 'bulk': how many values and letters a reading holds, each counted each time it is reached (what is shared counts as often as it is met; a slice's spare places count too). A statement '..UptoSaid' is the law's where the arguments, and the package variables that the reading takes, are together of bulk at most 1048576: NARROWER than '..Said'. Prove '..Said' where nothing that the law and all that it calls make is longer than what came in: it says more and counts as full. Else prove '..UptoSaid'. A law counts once. -/
mutual
def uptoBulk {H : Type} : DataW H → Nat
  | .lit (.string bytes) => bytes.length + 1
  | .lit _ => 1
  | .nil => 1
  | .ptr d => uptoBulk d + 1
  | .slice elems spare => uptoBulkAll elems + uptoBulkAll spare + 1
  | .agg parts => uptoBulkAll parts + 1
  | .iface _ d => uptoBulk d + 1
  | .map entries => uptoBulkEntries entries + 1
  | .held _ => 1
def uptoBulkAll {H : Type} : List (DataW H) → Nat
  | [] => 0
  | d :: r => uptoBulk d + uptoBulkAll r
def uptoBulkEntries {H : Type} : List (Lit × DataW H) → Nat
  | [] => 0
  | x :: r => uptoBulkEntry x + uptoBulkEntries r
def uptoBulkEntry {H : Type} : Lit × DataW H → Nat
  | (.string bytes, d) => bytes.length + uptoBulk d + 1
  | (_, d) => uptoBulk d + 1
 end
def uptoSmall : (H : Type) → List (DataW H) → Bool := fun _ ds => decide (uptoBulkAll ds ≤ 1048576)
def OpenSpec.upto (s : _root_.Go.ChangeSpec) : _root_.Go.OpenSpec := { _root_.Go.OpenSpec.ofChange s with cond := some uptoSmall }

/-- 'casketlaw14.HmacTags', WHERE WHAT IT READS IS OF BULK AT MOST 1048576: true; the input reads as it did. -/
def hmacTagsUptoRow : OpenClaim := { program := "ytjljpdniofiaaaa", sum := "49aea83db1c33daa2d84d86c9acc8914d2a0697dd4ace5e50777a4856cb53282", func := "casket/casketlaw14.HmacTags", spec := "hmacTags", apart := false, narrowed := true }
def HmacTagsUptoSaid : Prop := hmacTagsUptoRow.holds Try.pinned (OpenSpec.upto hmacTagsSpec)

/-- 'casketlaw14.HmacExpands', WHERE WHAT IT READS IS OF BULK AT MOST 1048576: true; the input reads as it did. -/
def hmacExpandsUptoRow : OpenClaim := { program := "ytjljpdniofiaaaa", sum := "49aea83db1c33daa2d84d86c9acc8914d2a0697dd4ace5e50777a4856cb53282", func := "casket/casketlaw14.HmacExpands", spec := "hmacExpands", unfollowed := true, recurses := true, apart := false, narrowed := true }
def HmacExpandsUptoSaid : Prop := hmacExpandsUptoRow.holds Try.pinned (OpenSpec.upto hmacExpandsSpec)

/-- 'casketlaw14.HmacBits', WHERE WHAT IT READS IS OF BULK AT MOST 1048576: true; the input reads as it did. -/
def hmacBitsUptoRow : OpenClaim := { program := "ytjljpdniofiaaaa", sum := "49aea83db1c33daa2d84d86c9acc8914d2a0697dd4ace5e50777a4856cb53282", func := "casket/casketlaw14.HmacBits", spec := "hmacBits", apart := false, narrowed := true }
def HmacBitsUptoSaid : Prop := hmacBitsUptoRow.holds Try.pinned (OpenSpec.upto hmacBitsSpec)

/-- 'casketlaw14.HmacKeys', WHERE WHAT IT READS IS OF BULK AT MOST 1048576: true; the input reads as it did. -/
def hmacKeysUptoRow : OpenClaim := { program := "ytjljpdniofiaaaa", sum := "49aea83db1c33daa2d84d86c9acc8914d2a0697dd4ace5e50777a4856cb53282", func := "casket/casketlaw14.HmacKeys", spec := "hmacKeys", apart := false, narrowed := true }
def HmacKeysUptoSaid : Prop := hmacKeysUptoRow.holds Try.pinned (OpenSpec.upto hmacKeysSpec)

/-- 'casketlaw14.HmacLonger', WHERE WHAT IT READS IS OF BULK AT MOST 1048576: true; the input reads as it did. -/
def hmacLongerUptoRow : OpenClaim := { program := "ytjljpdniofiaaaa", sum := "49aea83db1c33daa2d84d86c9acc8914d2a0697dd4ace5e50777a4856cb53282", func := "casket/casketlaw14.HmacLonger", spec := "hmacLonger", unfollowed := true, recurses := true, apart := false, narrowed := true }
def HmacLongerUptoSaid : Prop := hmacLongerUptoRow.holds Try.pinned (OpenSpec.upto hmacLongerSpec)

/-- 'casketlaw14.HmacSame', WHERE WHAT IT READS IS OF BULK AT MOST 1048576: true; the input reads as it did. -/
def hmacSameUptoRow : OpenClaim := { program := "ytjljpdniofiaaaa", sum := "49aea83db1c33daa2d84d86c9acc8914d2a0697dd4ace5e50777a4856cb53282", func := "casket/casketlaw14.HmacSame", spec := "hmacSame", apart := false, narrowed := true }
def HmacSameUptoSaid : Prop := hmacSameUptoRow.holds Try.pinned (OpenSpec.upto hmacSameSpec)

end Rows
end Go.Proofs.Ytjljpdniofiaaaa

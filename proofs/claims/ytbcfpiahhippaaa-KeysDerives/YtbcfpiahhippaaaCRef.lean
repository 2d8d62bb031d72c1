/- Contracts of the reference for cursors: Byte, Bytes, Fixed, Varint, Block, Fix, Blocked. -/
import Derived.Test.YtbcfpiahhippaaaG1
import Derived.Test.YtbcfpiahhippaaaCu3
import Derived.Test.YtbcfpiahhippaaaVRef
import Derived.Deep.RegionLaw
import Derived.BigRegion
namespace Go.Proofs.Ytbcfpiahhippaaa
open Go.RowKit

theorem getD_mem (l : List Int) (k : Nat) (h : k < l.length) : l.getD k 0 ∈ l := by
  rw [List.getD_eq_getElem?_getD, List.getElem?_eq_getElem h]; simp
/-- a slice from n on, as the walk leaves it -/
theorem Bs.rest {k : IntKind} {w : World} {ao : Option Addr} {m cap n : Nat} {xs : List Int} (h : Bs k w (.slice ao m cap) xs) (hn : n ≤ m) : Bs k w (.slice (if cap = n then ao else ao.map (fun x => x.add n)) (m - n) (cap - n)) (xs.drop n) := by
  split
  · rename_i hc
    subst hc
    rw [Nat.sub_self]
    exact h.cut0 hn
  · exact h.cut hn
theorem NoCap.rest {ao : Option Addr} {m cap n m' : Nat} (h : NoCap (.slice ao m cap)) : NoCap (.slice (if cap = n then ao else ao.map (fun x => x.add n)) m' (cap - n)) := by
  cases ao with
  | none =>
    have := h m cap rfl
    subst this
    intro a b e
    simp at e
    omega
  | some x =>
    split
    · exact NoCap.some _ _ _
    · exact NoCap.some _ _ _

end Go.Proofs.Ytbcfpiahhippaaa

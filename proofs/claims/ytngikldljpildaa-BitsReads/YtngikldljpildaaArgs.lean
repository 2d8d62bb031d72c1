/- A slice of numbers that came in, as the walks are told of it. -/
import Derived.Test.YtngikldljpildaaBytes
import Derived.OpenShut
namespace Go.Proofs.Ytngikldljpildaa
open Go.RowKit
theorem Bs.of_take {k : IntKind} {w : World} {x : Addr} {len cap : Nat} {zs : List Int} (hl : len ≤ cap) (hz : zs.length = cap) (hc : ∀ i, i < zs.length → w.cell? (x.add i) = some (.int k (zs.getD i 0))) :
    Bs k w (.slice (some x) len cap) (zs.take len) := by
  have hlen : (zs.take len).length = len := by rw [List.length_take]; omega
  refine ⟨some x, cap, by rw [hlen], by omega, fun hne => ?_⟩
  have hp : 0 < zs.length := by
    cases zs with
    | nil => simp at hne
    | cons a t => simp
  obtain ⟨b, off, rfl, hcell⟩ := ints_at hc hp
  refine ⟨b, off, rfl, fun j hj => ?_⟩
  rw [hcell j (by omega)]
  congr 2
  rw [List.getD_eq_getElem?_getD, List.getD_eq_getElem?_getD, List.getElem?_take, if_pos (by omega)]
end Go.Proofs.Ytngikldljpildaa

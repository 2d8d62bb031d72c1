/- append, as one step of a region that draws; rows of one's own: what holds in every seat. -/
import Derived.Test.YtnifflnhbpfmnaaApb
import Derived.Test.YtnifflnhbpfmnaaAr0
import Derived.Deep.RegionHeld3
import Derived.Deep.RegionLaw
namespace Go.Proofs.Ytnifflnhbpfmnaa
open Go.RowKit

theorem u8_nat {p : List Int} (h : U8 p) (j : Nat) : ∃ a : Nat, p.getD j 0 = (a : Int) ∧ a < 256 := by
  have := h.at j
  exact ⟨(p.getD j 0).toNat, by omega, by omega⟩
theorem range_next {α : Type} (f : Nat → α) (t : Nat) : (List.range (t + 1)).map f = (List.range t).map f ++ [f t] := by
  rw [List.range_succ, List.map_append]; rfl
theorem grown_cell {W W4 : World} {row : Option Nat} (h : W.grownBy W4 row) {b o : Nat} {v : Value} (hb : row ≠ some b) (hc : W.cell? ⟨b, o, none⟩ = some v) : W4.cell? ⟨b, o, none⟩ = some v := by
  rw [← hc]
  exact World.cell?_of_block (h.block b (World.block_lt_of_cell? W _ hc) (fun e => hb e.symm))

theorem own_form {w : World} {lo : Nat} {E : TypeId} {v : Value} {n : Nat} {xs : List Value} (h : w.ownsRow lo E 1 v n xs) : ∃ ao cap, v = .slice ao n cap := by
  rcases h.2 with ⟨rfl, rfl⟩ | ⟨g, cap, cur, rfl, _⟩
  · exact ⟨none, 0, rfl⟩
  · exact ⟨_, cap, rfl⟩
end Go.Proofs.Ytnifflnhbpfmnaa

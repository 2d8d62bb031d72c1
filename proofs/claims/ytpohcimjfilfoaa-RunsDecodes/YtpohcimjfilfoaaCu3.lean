/- Contracts of package cursor: Fix, and Block of bytes. -/
import Derived.Test.YtpohcimjfilfoaaCu2
namespace Go.Proofs.Ytpohcimjfilfoaa
open Go.RowKit

/-- byte i of a number, the lowest one being 0 -/
def fixB (v : Int) (i : Nat) : Int := v / 2 ^ (8 * i) % 256
/-- n bytes, of which the k last are written -/
def fixAt (v : Int) (n k : Nat) : List Int := (List.range n).map fun j => if n ≤ j + k then fixB v (n - 1 - j) else 0
def fixL (v : Int) (n : Nat) : List Int := (List.range n).map fun j => fixB v (n - 1 - j)
theorem fixAt_len (v : Int) (n k : Nat) : (fixAt v n k).length = n := by simp [fixAt]
theorem fixL_len (v : Int) (n : Nat) : (fixL v n).length = n := by simp [fixL]
theorem fixAt_zero (v : Int) (n : Nat) : (fixAt v n 0).map (Value.int .u8) = (madeCells #[Value.int .u8 0] (n * 1)).toList := by
  apply List.ext_getElem?
  intro i
  by_cases h : i < n
  · simp [fixAt, madeCells, h, Nat.mod_one]
    omega
  · simp [fixAt, madeCells, h]
theorem fixAt_all (v : Int) (n : Nat) : fixAt v n n = fixL v n := by
  unfold fixAt fixL
  apply List.map_congr_left
  intro j _
  rw [if_pos (by omega)]
theorem fixAt_step (v : Int) (n k : Nat) (h : k < n) : (fixAt v n k).set (n - 1 - k) (fixB v k) = fixAt v n (k + 1) := by
  apply List.ext_getElem?
  intro i
  rw [List.getElem?_set, fixAt_len]
  by_cases hi : i < n
  · by_cases he : n - 1 - k = i
    · subst he
      rw [if_pos rfl, if_pos hi]
      simp only [fixAt, List.getElem?_map, List.getElem?_range hi, Option.map_some]
      rw [if_pos (by omega), show n - 1 - (n - 1 - k) = k by omega]
    · rw [if_neg he]
      simp only [fixAt, List.getElem?_map, List.getElem?_range hi, Option.map_some]
      by_cases h1 : n ≤ i + k
      · rw [if_pos h1, if_pos (by omega)]
      · rw [if_neg h1, if_neg (by omega)]
  · rw [if_neg (by omega), List.getElem?_eq_none (by rw [fixAt_len]; omega), List.getElem?_eq_none (by rw [fixAt_len]; omega)]
theorem fixB_range (v : Int) (i : Nat) : 0 ≤ fixB v i ∧ fixB v i ≤ 255 := by unfold fixB; omega
theorem fixL_range (v : Int) (n : Nat) : ∀ y ∈ fixL v n, 0 ≤ y ∧ y ≤ 255 := by
  intro y hy
  simp only [fixL, List.mem_map] at hy
  obtain ⟨j, _, rfl⟩ := hy
  exact fixB_range _ _

/-- bytes behind their number -/
def blk (b : List Int) : List Int := gs b.length ++ b
theorem blk_len (b : List Int) (h : b.length ≤ 1000000) : (blk b).length ≤ b.length + 10 := by
  have := gs_le10 (v := b.length) (by omega)
  simp only [blk, List.length_append]
  omega
theorem blk_range (b : List Int) (hr : ∀ y ∈ b, 0 ≤ y ∧ y ≤ 255) : ∀ y ∈ blk b, 0 ≤ y ∧ y ≤ 255 := by
  intro y hy
  simp only [blk, List.mem_append] at hy
  rcases hy with hy | hy
  · exact gs_range _ y hy
  · exact hr y hy

end Go.Proofs.Ytpohcimjfilfoaa

/- Plain facts on bytes that are filled bit by bit. -/
import Derived.Test.YtgnaeajfajineaaBRef2
namespace Go.Proofs.Ytgnaeajfajineaa
open Go.RowKit


/-- bytes as the reference makes them: the last one holds what there is so far -/
def pb8 (l : List Bool) : List Int := (List.range (nb l)).map fun j => (bnum ((l.drop (8 * j)).take 8) : Int)
theorem pb8_length (l : List Bool) : (pb8 l).length = nb l := by simp [pb8]
theorem pb8_get (l : List Bool) (i : Nat) : (pb8 l)[i]? = if i < nb l then some (bnum ((l.drop (8 * i)).take 8) : Int) else none := by
  unfold pb8
  by_cases h : i < nb l
  · simp [h]
  · simp [h]
theorem part_other (l : List Bool) (b : Bool) (j : Nat) (h : j < l.length / 8) : ((l ++ [b]).drop (8 * j)).take 8 = (l.drop (8 * j)).take 8 := by
  rw [List.drop_append_of_le_length (by omega), List.take_append_of_le_length (by rw [List.length_drop]; omega)]
theorem part_last (l : List Bool) : (l.drop (8 * (l.length / 8))).take 8 = l.drop (8 * (l.length / 8)) := List.take_of_length_le (by rw [List.length_drop]; omega)
theorem part_snoc (l : List Bool) (b : Bool) : ((l ++ [b]).drop (8 * (l.length / 8))).take 8 = l.drop (8 * (l.length / 8)) ++ [b] := by
  rw [List.drop_append_of_le_length (by omega), List.take_of_length_le]
  rw [List.length_append, List.length_drop]; simp; omega
/-- the last byte so far -/
def lastB (l : List Bool) : Nat := bnum (l.drop (8 * (l.length / 8)))
theorem lastB_lt (l : List Bool) : lastB l ≤ 127 := by
  unfold lastB
  have h1 := bnum_lt (l.drop (8 * (l.length / 8)))
  have h2 : (l.drop (8 * (l.length / 8))).length ≤ 7 := by rw [List.length_drop]; omega
  have h3 : 2 ^ (l.drop (8 * (l.length / 8))).length ≤ 2 ^ 7 := Nat.pow_le_pow_right (by omega) h2
  omega
theorem lastB_new (l : List Bool) (h : l.length % 8 = 0) : lastB l = 0 := by
  unfold lastB
  rw [List.drop_of_length_le (by omega)]; rfl
theorem pb8_set (l : List Bool) (b : Bool) : ((if l.length % 8 = 0 then pb8 l ++ [0] else pb8 l)).set (l.length / 8) ((lastB l : Int) * 2 + (b.toNat : Int)) = pb8 (l ++ [b]) := by
  have hv : (bnum (((l ++ [b]).drop (8 * (l.length / 8))).take 8) : Int) = (lastB l : Int) * 2 + (b.toNat : Int) := by
    rw [part_snoc, bnum_snoc]; unfold lastB; omega
  apply List.ext_getElem?
  intro i
  by_cases hr : l.length % 8 = 0
  · have hn : nb (l ++ [b]) = nb l + 1 := by rw [nb_snoc, if_pos hr]
    have hj : l.length / 8 = nb l := by unfold nb; omega
    rw [if_pos hr, List.getElem?_set, List.length_append, pb8_length, List.getElem?_append, pb8_get, pb8_get, pb8_length, hn]
    by_cases hi : l.length / 8 = i
    · subst hi; rw [if_pos rfl, if_pos (by simp; omega), if_pos (by omega), hv]
    · rw [if_neg hi]
      by_cases h1 : i < nb l
      · rw [if_pos h1, if_pos h1, if_pos (by omega), part_other l b i (by omega)]
      · rw [if_neg h1, if_neg (by omega), List.getElem?_eq_none (by simp; omega)]
  · have hn : nb (l ++ [b]) = nb l := by rw [nb_snoc, if_neg hr]
    have hj : l.length / 8 + 1 = nb l := by unfold nb; omega
    rw [if_neg hr, List.getElem?_set, pb8_length, pb8_get, pb8_get, hn]
    by_cases hi : l.length / 8 = i
    · subst hi; rw [if_pos rfl, if_pos (by omega), if_pos (by omega), hv]
    · rw [if_neg hi]
      by_cases h1 : i < nb l
      · rw [if_pos h1, if_pos h1, part_other l b i (by omega)]
      · rw [if_neg h1, if_neg h1]
theorem pb8_at (l : List Bool) (h : l.length % 8 ≠ 0) : (pb8 l)[l.length / 8]? = some (lastB l : Int) := by
  rw [pb8_get, if_pos (by unfold nb; omega), part_last]; rfl
theorem eight (l : List Bool) (j : Nat) (h : 8 * j + 8 ≤ l.length) : (l.drop (8 * j)).take 8 = [l.getD (8 * j) false, l.getD (8 * j + 1) false, l.getD (8 * j + 2) false, l.getD (8 * j + 3) false, l.getD (8 * j + 4) false, l.getD (8 * j + 5) false, l.getD (8 * j + 6) false, l.getD (8 * j + 7) false] := by
  have hg : ∀ i, i < 8 → ((l.drop (8 * j)).take 8)[i]? = some (l.getD (8 * j + i) false) := fun i hi => by
    rw [List.getElem?_take, if_pos hi, List.getElem?_drop, List.getD_eq_getElem?_getD, List.getElem?_eq_getElem (show 8 * j + i < l.length by omega)]; rfl
  apply List.ext_getElem?
  intro i
  by_cases hi : i < 8
  · rw [hg i hi]
    have hr : i = 0 ∨ i = 1 ∨ i = 2 ∨ i = 3 ∨ i = 4 ∨ i = 5 ∨ i = 6 ∨ i = 7 := by omega
    rcases hr with rfl | rfl | rfl | rfl | rfl | rfl | rfl | rfl <;> rfl
  · rw [List.getElem?_eq_none (by rw [List.length_take]; omega), List.getElem?_eq_none (by simp; omega)]
theorem pb8_full (l : List Bool) (h : l.length % 8 = 0) : pb8 l = bytesI l := by
  apply List.ext_getElem?
  intro i
  rw [pb8_get]
  by_cases hi : i < nb l
  · have h8 : 8 * i + 8 ≤ l.length := by unfold nb at hi; omega
    rw [if_pos hi, eight l i h8]
    simp only [bytesI, List.getElem?_map, List.getElem?_range hi, Option.map_some]
    congr 2
    simp only [bnum, List.foldl, byteAt]
    omega
  · rw [if_neg hi, List.getElem?_eq_none (by rw [bytesI_length]; omega)]
theorem getD_pad (l : List Bool) (t i : Nat) : (l ++ List.replicate t false).getD i false = l.getD i false := by
  rw [List.getD_eq_getElem?_getD, List.getD_eq_getElem?_getD, List.getElem?_append]
  by_cases h : i < l.length
  · rw [if_pos h]
  · rw [if_neg h, List.getElem?_replicate, List.getElem?_eq_none (show l.length ≤ i by omega)]
    split <;> rfl
theorem bytesI_pad (l : List Bool) (t : Nat) (h : nb (l ++ List.replicate t false) = nb l) : bytesI (l ++ List.replicate t false) = bytesI l := by
  unfold bytesI
  rw [h]
  apply List.map_congr_left
  intro j _
  simp only [byteAt, getD_pad]
theorem allBits_append (a b : List Int) : allBits (a ++ b) = allBits a ++ allBits b := by
  apply List.ext_getElem?
  intro i
  rw [List.getElem?_append, allBits_length]
  by_cases h : i < 8 * a.length
  · rw [if_pos h, allBits_get _ _ (by rw [List.length_append]; omega), allBits_get _ _ h]
    congr 1
    unfold bitB
    congr 2
    rw [List.getD_eq_getElem?_getD, List.getD_eq_getElem?_getD, List.getElem?_append, if_pos (by omega)]
  · rw [if_neg h]
    by_cases h2 : i < 8 * (a ++ b).length
    · rw [allBits_get _ _ h2, allBits_get _ _ (by rw [List.length_append] at h2; omega)]
      congr 1
      unfold bitB
      rw [List.getD_eq_getElem?_getD, List.getD_eq_getElem?_getD, List.getElem?_append, if_neg (by omega), show (i - 8 * a.length) / 8 = i / 8 - a.length by omega, show (i - 8 * a.length) % 8 = i % 8 by omega]
    · rw [List.getElem?_eq_none (by rw [allBits_length]; omega), List.getElem?_eq_none (by rw [allBits_length]; rw [List.length_append] at h2; omega)]

end Go.Proofs.Ytgnaeajfajineaa

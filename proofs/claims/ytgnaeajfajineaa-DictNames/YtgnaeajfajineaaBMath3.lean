/- Plain facts on bits and bytes. -/
import Derived.Test.YtgnaeajfajineaaBRd
namespace Go.Proofs.Ytgnaeajfajineaa
open Go.RowKit


theorem num_append (a b : List Bool) : bnum (a ++ b) = bnum a * 2 ^ b.length + bnum b := by
  induction h : b.length generalizing b with
  | zero => have : b = [] := List.eq_nil_of_length_eq_zero h
            subst this; simp [bnum]
  | succ n ih =>
    have hne : b ≠ [] := by intro h0; subst h0; simp at h
    obtain ⟨t, c, rfl⟩ : ∃ t c, b = t ++ [c] := ⟨b.dropLast, b.getLast hne, (List.dropLast_concat_getLast hne).symm⟩
    have hi := ih t (by simp at h; omega)
    rw [← List.append_assoc, bnum_snoc, bnum_snoc, hi, Nat.pow_succ, Nat.mul_add]
    have : 2 * (bnum a * 2 ^ n) = bnum a * (2 ^ n * 2) := by rw [Nat.mul_comm (2 ^ n) 2, Nat.mul_left_comm]
    omega
theorem bitsOf_succ (v n : Nat) : bitsOf v (n + 1) = bitsOf (v / 2) n ++ [v.testBit 0] := by
  apply List.ext_getElem?
  intro i
  rw [List.getElem?_append]
  simp only [bitsOf, List.length_map, List.length_range, List.getElem?_map]
  by_cases hi : i < n
  · rw [if_pos hi, List.getElem?_range (by omega), List.getElem?_range hi]
    simp only [Option.map_some]
    rw [show n + 1 - 1 - i = (n - 1 - i) + 1 by omega, Nat.testBit_succ]
  · rw [if_neg hi]
    by_cases h2 : i = n
    · subst h2; rw [List.getElem?_range (by omega)]; simp
    · rw [List.getElem?_eq_none (by simp; omega), List.getElem?_eq_none (by simp; omega)]; rfl
theorem num_bitsOf (v n : Nat) : bnum (bitsOf v n) = v % 2 ^ n := by
  induction n generalizing v with
  | zero => simp [bitsOf, bnum, Nat.mod_one]
  | succ n ih =>
    rw [bitsOf_succ, bnum_snoc, ih, Nat.pow_succ, Nat.mul_comm (2 ^ n) 2, Nat.mod_mul, Nat.testBit_zero]
    have : (decide (v % 2 = 1)).toNat = v % 2 := by
      rcases Nat.mod_two_eq_zero_or_one v with h | h <;> simp [h]
    omega
theorem bits_byte (ys : List Int) (i : Nat) (h : i < ys.length) : ((allBits ys).drop (8 * i)).take 8 = bitsOf (ys.getD i 0).toNat 8 := by
  apply List.ext_getElem?
  intro j
  by_cases hj : j < 8
  · rw [List.getElem?_take, if_pos hj, List.getElem?_drop, allBits_get ys _ (by omega)]
    simp only [bitsOf, List.getElem?_map, List.getElem?_range hj, Option.map_some, bitB]
    congr 2
    · congr 2; omega
    · omega
  · rw [List.getElem?_eq_none (by rw [List.length_take]; omega), List.getElem?_eq_none (by rw [bitsOf_length]; omega)]
theorem num_byte (ys : List Int) (i : Nat) (h : i < ys.length) (hr : ∀ y ∈ ys, 0 ≤ y ∧ y ≤ 255) : (bnum (((allBits ys).drop (8 * i)).take 8) : Int) = ys.getD i 0 := by
  rw [bits_byte ys i h, num_bitsOf]
  have hy : 0 ≤ ys.getD i 0 ∧ ys.getD i 0 ≤ 255 := by
    refine hr _ ?_
    rw [List.getD_eq_getElem?_getD, List.getElem?_eq_getElem h]; simp
  omega
theorem allBits_take (ys : List Int) (k : Nat) (h : k < ys.length) : (allBits ys).take (8 * (k + 1)) = (allBits ys).take (8 * k) ++ bitsOf (ys.getD k 0).toNat 8 := by
  rw [← bits_byte ys k h, show 8 * (k + 1) = 8 * k + 8 by omega, List.take_add]
theorem sum_bits : ∀ y : Fin 256, (y.val.testBit 7).toNat * 128 + (y.val.testBit 6).toNat * 64 + (y.val.testBit 5).toNat * 32 + (y.val.testBit 4).toNat * 16 + (y.val.testBit 3).toNat * 8 + (y.val.testBit 2).toNat * 4 + (y.val.testBit 1).toNat * 2 + (y.val.testBit 0).toNat = y.val := by decide +kernel
theorem getD_bits (ys : List Int) (j r : Nat) (hj : j < ys.length) (hr : r < 8) : (allBits ys).getD (8 * j + r) false = (ys.getD j 0).toNat.testBit (7 - r) := by
  rw [List.getD_eq_getElem?_getD, allBits_get ys _ (by omega)]
  simp only [Option.getD_some, bitB]
  congr 1
  · congr 2; omega
  · omega
theorem byteAt_all (ys : List Int) (j : Nat) (hj : j < ys.length) (hr : ∀ y ∈ ys, 0 ≤ y ∧ y ≤ 255) : (byteAt (allBits ys) j : Int) = ys.getD j 0 := by
  have hy : 0 ≤ ys.getD j 0 ∧ ys.getD j 0 ≤ 255 := by
    refine hr _ ?_
    rw [List.getD_eq_getElem?_getD, List.getElem?_eq_getElem hj]; simp
  have h := sum_bits ⟨(ys.getD j 0).toNat, by omega⟩
  have g0 := getD_bits ys j 0 hj (by omega)
  rw [Nat.add_zero] at g0
  unfold byteAt
  rw [g0, getD_bits ys j 1 hj (by omega), getD_bits ys j 2 hj (by omega), getD_bits ys j 3 hj (by omega), getD_bits ys j 4 hj (by omega), getD_bits ys j 5 hj (by omega), getD_bits ys j 6 hj (by omega), getD_bits ys j 7 hj (by omega)]
  simp only at h
  simp only [Nat.sub_zero, Nat.reduceSub]
  omega
theorem bytes_all (ys : List Int) (hr : ∀ y ∈ ys, 0 ≤ y ∧ y ≤ 255) : bytesI (allBits ys) = ys := by
  have hn : nb (allBits ys) = ys.length := by unfold nb; rw [allBits_length]; omega
  apply List.ext_getElem?
  intro i
  simp only [bytesI, hn, List.getElem?_map]
  by_cases hi : i < ys.length
  · rw [List.getElem?_range hi]
    simp only [Option.map_some]
    rw [byteAt_all ys i hi hr, List.getD_eq_getElem?_getD, List.getElem?_eq_getElem hi]
    simp
  · rw [List.getElem?_eq_none (by simp; omega), List.getElem?_eq_none (by omega)]; rfl
/-- bits that are written, read again: they, and what fills the last byte -/
theorem bits_back (l : List Bool) : allBits (bytesI l) = l ++ List.replicate (8 * nb l - l.length) false := by
  have hn : l.length ≤ 8 * nb l := by unfold nb; omega
  apply List.ext_getElem?
  intro i
  by_cases hi : i < 8 * nb l
  · rw [allBits_get _ _ (by rw [bytesI_length]; exact hi)]
    have hj : i / 8 < nb l := by omega
    have e : (l ++ List.replicate (8 * nb l - l.length) false)[i]? = some (l.getD i false) := by
      rw [List.getElem?_append]
      by_cases h1 : i < l.length
      · rw [if_pos h1, List.getD_eq_getElem?_getD, List.getElem?_eq_getElem h1]; rfl
      · rw [if_neg h1, List.getElem?_replicate, if_pos (by omega), getD_out l i (by omega)]
    rw [e]
    congr 1
    unfold bitB
    have e2 : (bytesI l).getD (i / 8) 0 = (byteAt l (i / 8) : Int) := by
      rw [List.getD_eq_getElem?_getD]; simp [bytesI, hj]
    rw [e2, Int.toNat_natCast]
    have key : ∀ (b0 b1 b2 b3 b4 b5 b6 b7 : Bool) (r : Fin 8), (b0.toNat * 128 + b1.toNat * 64 + b2.toNat * 32 + b3.toNat * 16 + b4.toNat * 8 + b5.toNat * 4 + b6.toNat * 2 + b7.toNat).testBit (7 - r.val) = [b0, b1, b2, b3, b4, b5, b6, b7].getD r.val false := by decide +kernel
    have hk := key (l.getD (8 * (i / 8)) false) (l.getD (8 * (i / 8) + 1) false) (l.getD (8 * (i / 8) + 2) false) (l.getD (8 * (i / 8) + 3) false) (l.getD (8 * (i / 8) + 4) false) (l.getD (8 * (i / 8) + 5) false) (l.getD (8 * (i / 8) + 6) false) (l.getD (8 * (i / 8) + 7) false) ⟨i % 8, by omega⟩
    simp only at hk
    unfold byteAt
    rw [hk]
    have hr : i % 8 = 0 ∨ i % 8 = 1 ∨ i % 8 = 2 ∨ i % 8 = 3 ∨ i % 8 = 4 ∨ i % 8 = 5 ∨ i % 8 = 6 ∨ i % 8 = 7 := by omega
    rcases hr with h | h | h | h | h | h | h | h <;> rw [h] <;> simp only [List.getD_cons_zero, List.getD_cons_succ] <;> congr 1 <;> omega
  · rw [List.getElem?_eq_none (by rw [allBits_length, bytesI_length]; omega), List.getElem?_eq_none (by simp; omega)]
theorem bytesI_rng (l : List Bool) : ∀ y ∈ bytesI l, 0 ≤ y ∧ y ≤ 255 := by
  intro y hy
  simp only [bytesI, List.mem_map] at hy
  obtain ⟨j, _, rfl⟩ := hy
  have := byteAt_lt l j
  omega
theorem wid_8 (y : Int) (h0 : 0 ≤ y) (h1 : y ≤ 255) : (wid y.toNat : Int) ≤ 8 := by
  have := wid_256 y.toNat (by omega); omega
theorem num_56 (l : List Bool) (h : l.length ≤ 56) : (bnum l : Int) ≤ 72057594037927935 := by
  have h1 := bnum_lt l
  have h2 : 2 ^ l.length ≤ 2 ^ 56 := Nat.pow_le_pow_right (by omega) h
  omega
theorem bnum_step (ys : List Int) (k : Nat) (h : k < ys.length) (hr : ∀ y ∈ ys, 0 ≤ y ∧ y ≤ 255) : (bnum ((allBits ys).take (8 * (k + 1))) : Int) = bnum ((allBits ys).take (8 * k)) * 256 + ys.getD k 0 := by
  have hb := num_byte ys k h hr
  rw [bits_byte ys k h] at hb
  rw [allBits_take ys k h, num_append, bitsOf_length]
  omega

end Go.Proofs.Ytgnaeajfajineaa

/- Contracts of package cursor: Byte, Fixed, Varint, Bytes, Block. -/
import Derived.Test.YtbcfpiahhippaaaCu
namespace Go.Proofs.Ytbcfpiahhippaaa
open Go.RowKit

theorem own_nil (N : Nat) : ∀ k, (Value.slice none 0 0).ownBlock = some k → N ≤ k := fun k hk => by cases hk
/-- bytes as a number, the first one the highest -/
def num (l : List Int) : Nat := l.foldl (fun a y => 256 * a + y.toNat) 0
theorem num_snoc (l : List Int) (y : Int) : num (l ++ [y]) = 256 * num l + y.toNat := by simp [num]
theorem num_lt (l : List Int) (hr : ∀ y ∈ l, 0 ≤ y ∧ y ≤ 255) : num l < 256 ^ l.length := by
  induction h : l.length generalizing l with
  | zero => have : l = [] := List.eq_nil_of_length_eq_zero h
            subst this; simp [num]
  | succ n ih =>
    have hne : l ≠ [] := by intro h0; subst h0; simp at h
    obtain ⟨t, b, rfl⟩ : ∃ t b, l = t ++ [b] := ⟨l.dropLast, l.getLast hne, (List.dropLast_concat_getLast hne).symm⟩
    have := ih t (fun y hy => hr y (by simp [hy])) (by simp at h; omega)
    have hb := hr b (by simp)
    rw [num_snoc, Nat.pow_succ]
    omega
theorem take_snoc (l : List Int) (k : Nat) (h : k < l.length) : l.take (k + 1) = l.take k ++ [l.getD k 0] := by
  rw [List.take_succ_eq_append_getElem h, List.getD_eq_getElem?_getD, List.getElem?_eq_getElem h]; rfl
theorem pow256 {k : Nat} (h : k ≤ 7) : 256 ^ k ≤ 72057594037927936 := by
  have h1 : 256 ^ k ≤ 256 ^ 7 := Nat.pow_le_pow_right (by omega) h
  have h2 : (256 : Nat) ^ 7 = 72057594037927936 := by decide
  omega
theorem num_step (zs : List Int) (k : Nat) (hr : ∀ y ∈ zs, 0 ≤ y ∧ y ≤ 255) (h8 : zs.length ≤ 8) (h : k < zs.length) :
    num (zs.take k) < 72057594037927936 ∧ bits .or .u64 ((num (zs.take k) : Int) * 256) (zs.getD k 0) = (num (zs.take (k + 1)) : Int) := by
  have hl := num_lt (zs.take k) (fun y hy => hr y (List.mem_of_mem_take hy))
  rw [List.length_take, Nat.min_eq_left (by omega)] at hl
  have hp := pow256 (k := k) (by omega)
  have hy := hr (zs.getD k 0) (by rw [List.getD_eq_getElem?_getD, List.getElem?_eq_getElem h]; simp)
  rw [take_snoc zs k h, num_snoc]
  generalize zs.getD k 0 = y at hy
  generalize num (zs.take k) = a at hl
  obtain ⟨m, rfl⟩ := Int.eq_ofNat_of_zero_le hy.1
  have e2 : ((a : Int) * 256) = ((256 * a : Nat) : Int) := by omega
  refine ⟨by omega, ?_⟩
  rw [e2, u64_or_nat _ _ (by omega) (by omega), nat_join 8 _ _ (by omega) (by omega), Int.toNat_natCast]

/-- what each call tells: the value, how many bytes are read, the error -/
def sByte (ys : List Int) : Int × Nat × Int := if ys.length = 0 then (0, 0, 2) else (ys.getD 0 0, 1, 0)
def sBytes (n : Int) (ys : List Int) : List Int × Nat × Int := if n < 0 then ([], 0, 1) else if (ys.length : Int) < n then ([], 0, 2) else (ys.take n.toNat, n.toNat, 0)
def sFixed (n : Int) (ys : List Int) : Int × Nat × Int := if n < 0 ∨ 8 < n then (0, 0, 1) else if (ys.length : Int) < n then (0, 0, 2) else (num (ys.take n.toNat), n.toNat, 0)
def sVarint (ys : List Int) : Int × Nat × Int := ((rd 0 0 ys).1, (rd 0 0 ys).2.1.toNat, (rd 0 0 ys).2.2)
def sBlock (most : Int) (ys : List Int) : List Int × Nat × Int :=
  if most < 0 then ([], 0, 1) else if (sVarint ys).2.2 ≠ 0 then ([], 0, (sVarint ys).2.2) else if most < (sVarint ys).1 then ([], 0, 4)
  else if (ys.length : Int) - (sVarint ys).2.1 < (sVarint ys).1 then ([], 0, 2) else ((ys.drop (sVarint ys).2.1).take (sVarint ys).1.toNat, (sVarint ys).2.1 + (sVarint ys).1.toNat, 0)

/-- what rd tells: an error, and zeroes beside it; or a number, and how many bytes it has -/
theorem rd_cases (ys : List Int) (hr : ∀ y ∈ ys, 0 ≤ y ∧ y ≤ 255) : (∃ c, rd 0 0 ys = (0, 0, c) ∧ (c = 2 ∨ c = 3)) ∨ (∃ a k : Nat, rd 0 0 ys = ((a : Int), (k : Int), 0) ∧ 1 ≤ k ∧ k ≤ ys.length ∧ k ≤ 10 ∧ a < 18446744073709551616 ∧ gs a = ys.take k) := by
  obtain ⟨r, n, c, h⟩ : ∃ r n c, rd 0 0 ys = (r, n, c) := ⟨_, _, _, rfl⟩
  rcases rd_err ys 0 0 with h0 | ⟨h1, h2, h3⟩
  · right
    rw [h] at h0
    simp at h0
    subst h0
    obtain ⟨a, k, e1, e2, k1, k2, hg, _, hv⟩ := rd_ok ys 0 0 r n (by omega) hr h
    simp at e1 e2 hv
    subst e1; subst e2
    refine ⟨a, k, h, k1, k2, ?_, hv, hg⟩
    have h10 := gs_le10 (v := a) hv
    rw [hg, List.length_take] at h10
    omega
  · left
    rw [h] at h1 h2 h3
    simp at h1 h2 h3
    subst h1; subst h2
    exact ⟨c, h, h3⟩

theorem sVarint_gs (v : Nat) (t : List Int) (h : v < 18446744073709551616) : sVarint (gs v ++ t) = ((v : Int), (gs v).length, 0) := by
  have := rd_gs t v 0 0 (by omega) (by simpa using h) (fun h => by omega)
  rw [sVarint, this]
  simp
end Go.Proofs.Ytbcfpiahhippaaa

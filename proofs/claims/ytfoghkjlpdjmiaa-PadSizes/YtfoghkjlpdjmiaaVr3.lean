/- Contract of package varint's Read: what is read of any bytes, or why nothing is. -/
import Derived.Test.YtfoghkjlpdjmiaaVr2
namespace Go.Proofs.Ytfoghkjlpdjmiaa
open Go.RowKit

theorem rd_at (xs : List Int) (k : Nat) (acc : Int) (h : k < xs.length) : rd k acc (xs.drop k) = if k = 9 ∧ 1 < xs.getD k 0 then (0, 0, 3) else if 128 ≤ xs.getD k 0 then rd (k + 1) (acc + xs.getD k 0 % 128 * 128 ^ k) (xs.drop (k + 1)) else if xs.getD k 0 = 0 ∧ 0 < k then (0, 0, 3) else (acc + xs.getD k 0 * 128 ^ k, (k : Int) + 1, 0) := by
  rw [List.drop_eq_getElem_cons h, rd_cons, List.getD_eq_getElem?_getD, List.getElem?_eq_getElem h]
  rfl

theorem v_or_step (k acc : Nat) (c : Int) (hk : k ≤ 9) (hacc : acc < 128 ^ k) (c0 : 0 ≤ c) (c1 : c ≤ 255) (h9 : k = 9 → c ≤ 1) :
    bits .or .u64 (acc : Int) (IntKind.u64.wrap (IntKind.u64.wrap (bits .and .u8 c 127) * 2 ^ (7 * k))) = ((acc + (c % 128).toNat * 128 ^ k : Nat) : Int) ∧ acc + (c % 128).toNat * 128 ^ k < 128 ^ (k + 1) := by
  obtain ⟨m, rfl⟩ := Int.eq_ofNat_of_zero_le c0
  have e : ((m : Int) % 128).toNat = m % 128 := by omega
  rw [e, show (127 : Int) = ((127 : Nat) : Int) from rfl, u8_and_nat _ _ (by omega) (by omega), nat_mask7]
  have w1 : IntKind.u64.wrap ((m % 128 : Nat) : Int) = ((m % 128 : Nat) : Int) := by rw [IntKind.wrap_u64]; omega
  have p1 : (2 : Nat) ^ (7 * k) = 128 ^ k := by rw [Nat.pow_mul]
  have w2 : ((m % 128 : Nat) : Int) * 2 ^ (7 * k) = ((m % 128 * 128 ^ k : Nat) : Int) := by
    rw [← p1]; simp
  have hlt : m % 128 * 128 ^ k < 18446744073709551616 := by
    rcases Nat.lt_or_ge k 9 with h | h
    · have h1 : m % 128 * 128 ^ k ≤ 127 * 128 ^ k := Nat.mul_le_mul_right _ (by omega)
      have h2 : 128 ^ k ≤ 128 ^ 8 := Nat.pow_le_pow_right (by omega) (by omega)
      have h3 : (128 : Nat) ^ 8 = 72057594037927936 := by decide
      omega
    · have hk : k = 9 := by omega
      subst hk
      have := h9 rfl
      have h3 : (128 : Nat) ^ 9 = 9223372036854775808 := by decide
      have h1 : m % 128 * 128 ^ 9 ≤ 1 * 128 ^ 9 := Nat.mul_le_mul_right _ (by omega)
      omega
  have hacc2 : acc < 18446744073709551616 := by
    have h2 : 128 ^ k ≤ 128 ^ 9 := Nat.pow_le_pow_right (by omega) (by omega)
    have h3 : (128 : Nat) ^ 9 = 9223372036854775808 := by decide
    omega
  have w3 : IntKind.u64.wrap ((m % 128 * 128 ^ k : Nat) : Int) = ((m % 128 * 128 ^ k : Nat) : Int) := by rw [IntKind.wrap_u64]; omega
  rw [w1, w2, w3, u64_or_nat _ _ hacc2 hlt, Nat.or_comm, nat_join (7 * k) _ _ (by rw [p1]; exact Nat.mul_mod_left _ _) (by rw [p1]; exact hacc), Nat.add_comm]
  refine ⟨rfl, ?_⟩
  rw [Nat.pow_succ]
  have h1 : m % 128 * 128 ^ k ≤ 127 * 128 ^ k := Nat.mul_le_mul_right _ (by omega)
  omega
theorem val_step (k acc : Nat) (c : Int) (c0 : 0 ≤ c) (h : c < 128) : ((acc + (c % 128).toNat * 128 ^ k : Nat) : Int) = acc + c * 128 ^ k := by
  obtain ⟨m, rfl⟩ := Int.eq_ofNat_of_zero_le c0
  have e : ((m : Int) % 128).toNat = m := by omega
  rw [e]; simp
theorem val_more (k acc : Nat) (c : Int) : ((acc + (c % 128).toNat * 128 ^ k : Nat) : Int) = acc + c % 128 * 128 ^ k := by
  have e : ((c % 128).toNat : Int) = c % 128 := by omega
  simp [e]

/-- what the tuple holds -/
def rdVal (r : Int × Int × Int) : Value := .tuple #[.int .u64 r.1, .int .i64 r.2.1, .int .i64 r.2.2]
theorem ret_rd {a b c : Int} {r : Int × Int × Int} (h1 : a = r.1) (h2 : b = r.2.1) (h3 : c = r.2.2) : Ending.returned (.tuple #[.int .u64 a, .int .i64 b, .int .i64 c]) = .returned (rdVal r) := by
  rw [h1, h2, h3]; rfl

end Go.Proofs.Ytfoghkjlpdjmiaa

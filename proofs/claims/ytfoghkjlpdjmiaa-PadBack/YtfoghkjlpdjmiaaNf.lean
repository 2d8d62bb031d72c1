/- Numbers in so many bytes, and back: plain facts. -/
import Derived.Test.YtfoghkjlpdjmiaaCu3
namespace Go.Proofs.Ytfoghkjlpdjmiaa
open Go.RowKit

theorem fixB_next (v : Int) (i : Nat) : fixB v (i + 1) = fixB (v / 256) i := by
  unfold fixB
  rw [show 8 * (i + 1) = 8 + 8 * i by omega, Int.pow_add, show (2 : Int) ^ 8 = 256 from rfl, Int.ediv_ediv_of_nonneg (by omega)]
theorem fixL_next (v : Int) (n : Nat) : fixL v (n + 1) = fixL (v / 256) n ++ [fixB v 0] := by
  unfold fixL
  rw [List.range_succ, List.map_append, List.map_singleton]
  congr 1
  · apply List.map_congr_left
    intro j hj
    rw [List.mem_range] at hj
    rw [← fixB_next]
    congr 1
    omega
  · simp
theorem num_fix (n : Nat) : ∀ v : Int, 0 ≤ v → (num (fixL v n) : Int) = v % ((256 ^ n : Nat) : Int) := by
  induction n with
  | zero => intro v _; simp [fixL, num]
  | succ n ih =>
    intro v hv
    have h0 := fixB_range v 0
    rw [fixL_next, num_snoc, Int.natCast_add, Int.natCast_mul, ih (v / 256) (by omega), Int.toNat_of_nonneg h0.1]
    obtain ⟨m, rfl⟩ := Int.eq_ofNat_of_zero_le hv
    have e1 : fixB (m : Int) 0 = ((m % 256 : Nat) : Int) := by simp [fixB]
    have e2 : ((m : Int) / 256) = ((m / 256 : Nat) : Int) := by omega
    rw [e1, e2, Nat.pow_succ, Nat.mul_comm (256 ^ n) 256, ← Int.natCast_emod, ← Int.natCast_emod, Nat.mod_mul]
    omega
theorem num_fix8 (v : Nat) (h : v < 18446744073709551616) : num (fixL v 8) = v := by
  have := num_fix 8 v (by omega)
  have e : ((256 ^ 8 : Nat) : Int) = 18446744073709551616 := by decide
  rw [e] at this
  omega
theorem num_fix4 (v : Nat) (h : v < 4294967296) : num (fixL v 4) = v := by
  have := num_fix 4 v (by omega)
  have e : ((256 ^ 4 : Nat) : Int) = 4294967296 := by decide
  rw [e] at this
  omega
end Go.Proofs.Ytfoghkjlpdjmiaa

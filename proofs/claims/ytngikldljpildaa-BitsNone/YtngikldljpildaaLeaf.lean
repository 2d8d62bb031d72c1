/- Contracts of the leaves: the width that a number needs, and what a width may be. -/
import Derived.Test.YtngikldljpildaaProg
import Derived.Test.YtngikldljpildaaMath
import Derived.WalkKit
namespace Go.Proofs.Ytngikldljpildaa
open Go.RowKit

theorem ret_int {k : IntKind} {a b : Int} (h : a = b) : Ending.returned (.int k a) = .returned (.int k b) := by rw [h]

theorem len8_lit (k : Nat) (h : k < 256) (hk9 : k < (⟨#[0, 1, 2, 2, 3, 3, 3, 3, 4, 4, 4, 4, 4, 4, 4, 4, 5, 5, 5, 5, 5, 5, 5, 5, 5, 5, 5, 5, 5, 5, 5, 5, 6, 6, 6, 6, 6, 6, 6, 6, 6, 6, 6, 6, 6, 6, 6, 6, 6, 6, 6, 6, 6, 6, 6, 6, 6, 6, 6, 6, 6, 6, 6, 6, 7, 7, 7, 7, 7, 7, 7, 7, 7, 7, 7, 7, 7, 7, 7, 7, 7, 7, 7, 7, 7, 7, 7, 7, 7, 7, 7, 7, 7, 7, 7, 7, 7, 7, 7, 7, 7, 7, 7, 7, 7, 7, 7, 7, 7, 7, 7, 7, 7, 7, 7, 7, 7, 7, 7, 7, 7, 7, 7, 7, 7, 7, 7, 7, 8, 8, 8, 8, 8, 8, 8, 8, 8, 8, 8, 8, 8, 8, 8, 8, 8, 8, 8, 8, 8, 8, 8, 8, 8, 8, 8, 8, 8, 8, 8, 8, 8, 8, 8, 8, 8, 8, 8, 8, 8, 8, 8, 8, 8, 8, 8, 8, 8, 8, 8, 8, 8, 8, 8, 8, 8, 8, 8, 8, 8, 8, 8, 8, 8, 8, 8, 8, 8, 8, 8, 8, 8, 8, 8, 8, 8, 8, 8, 8, 8, 8, 8, 8, 8, 8, 8, 8, 8, 8, 8, 8, 8, 8, 8, 8, 8, 8, 8, 8, 8, 8, 8, 8, 8, 8, 8, 8, 8, 8, 8, 8, 8, 8, 8, 8, 8, 8, 8, 8, 8, 8, 8, 8, 8, 8, 8, 8]⟩ : ByteArray).size) : ((⟨#[0, 1, 2, 2, 3, 3, 3, 3, 4, 4, 4, 4, 4, 4, 4, 4, 5, 5, 5, 5, 5, 5, 5, 5, 5, 5, 5, 5, 5, 5, 5, 5, 6, 6, 6, 6, 6, 6, 6, 6, 6, 6, 6, 6, 6, 6, 6, 6, 6, 6, 6, 6, 6, 6, 6, 6, 6, 6, 6, 6, 6, 6, 6, 6, 7, 7, 7, 7, 7, 7, 7, 7, 7, 7, 7, 7, 7, 7, 7, 7, 7, 7, 7, 7, 7, 7, 7, 7, 7, 7, 7, 7, 7, 7, 7, 7, 7, 7, 7, 7, 7, 7, 7, 7, 7, 7, 7, 7, 7, 7, 7, 7, 7, 7, 7, 7, 7, 7, 7, 7, 7, 7, 7, 7, 7, 7, 7, 7, 8, 8, 8, 8, 8, 8, 8, 8, 8, 8, 8, 8, 8, 8, 8, 8, 8, 8, 8, 8, 8, 8, 8, 8, 8, 8, 8, 8, 8, 8, 8, 8, 8, 8, 8, 8, 8, 8, 8, 8, 8, 8, 8, 8, 8, 8, 8, 8, 8, 8, 8, 8, 8, 8, 8, 8, 8, 8, 8, 8, 8, 8, 8, 8, 8, 8, 8, 8, 8, 8, 8, 8, 8, 8, 8, 8, 8, 8, 8, 8, 8, 8, 8, 8, 8, 8, 8, 8, 8, 8, 8, 8, 8, 8, 8, 8, 8, 8, 8, 8, 8, 8, 8, 8, 8, 8, 8, 8, 8, 8, 8, 8, 8, 8, 8, 8, 8, 8, 8, 8, 8, 8, 8, 8, 8, 8, 8, 8]⟩ : ByteArray)[k]'hk9).toNat = wid k := len8tab_at k h hk9

theorem wid_256 (k : Nat) (h : k < 256) : wid k ≤ 8 := (wid_le_iff k 8).2 (by simpa using h)

theorem wid_sh (v m : Int) (k : Nat) (hm : m = ((2 ^ k : Nat) : Int)) (h0 : 0 ≤ v) (h : m ≤ v) : wid v.toNat = wid (v / m).toNat + k := by
  subst hm
  have e : (v / ((2 ^ k : Nat) : Int)).toNat = v.toNat / 2 ^ k := by
    obtain ⟨n, rfl⟩ := Int.eq_ofNat_of_zero_le h0
    rw [← Int.natCast_ediv]; rfl
  rw [e]; exact wid_div _ _ (by omega)

theorem wclose (a : Int) (n : Nat) (ha : n ≤ 8) (h : 0 ≤ a) (h2 : a ≤ 56) : wrap64 (a + wrap64 n) = a + n := by
  rw [IntWalk.wrap64_in (n : Int) (by omega), IntWalk.wrap64_in _ (by omega)]
theorem wclose0 (n : Nat) (ha : n ≤ 8) : wrap64 (wrap64 n) = n := by
  rw [IntWalk.wrap64_in (n : Int) (by omega), IntWalk.wrap64_in _ (by omega)]

set_option maxHeartbeats 400000 in
set_option maxRecDepth 100000 in
theorem len64_any (v : Int) (w : World) (h0 : 0 ≤ v) (h1 : v ≤ 18446744073709551615) :
    Calls Try.prog 27 #[.int .u64 v] w fun e w' => e = .returned (.int .i64 (wid v.toNat)) ∧ w = w' := by
  go_enter Try.func27, Try.ntmps27
  go_wp2
  all_goals go_ret
  all_goals refine ⟨ret_int ?_, rfl⟩
  all_goals rw [len8_lit _ (by omega)]
  · rw [wclose _ _ (wid_256 _ (by omega)) (by omega) (by omega), wid_sh v 4294967296 32 rfl (by omega) (by omega), wid_sh (v / 4294967296) 65536 16 rfl (by omega) (by omega), wid_sh ((v / 4294967296) / 65536) 256 8 rfl (by omega) (by omega)]; omega
  · rw [wclose _ _ (wid_256 _ (by omega)) (by omega) (by omega), wid_sh v 4294967296 32 rfl (by omega) (by omega), wid_sh (v / 4294967296) 65536 16 rfl (by omega) (by omega)]; omega
  · rw [wclose _ _ (wid_256 _ (by omega)) (by omega) (by omega), wid_sh v 4294967296 32 rfl (by omega) (by omega), wid_sh (v / 4294967296) 256 8 rfl (by omega) (by omega)]; omega
  · rw [wclose _ _ (wid_256 _ (by omega)) (by omega) (by omega), wid_sh v 4294967296 32 rfl (by omega) (by omega)]; omega
  · rw [wclose _ _ (wid_256 _ (by omega)) (by omega) (by omega), wid_sh v 65536 16 rfl (by omega) (by omega), wid_sh (v / 65536) 256 8 rfl (by omega) (by omega)]; omega
  · rw [wclose _ _ (wid_256 _ (by omega)) (by omega) (by omega), wid_sh v 65536 16 rfl (by omega) (by omega)]; omega
  · rw [wclose _ _ (wid_256 _ (by omega)) (by omega) (by omega), wid_sh v 256 8 rfl (by omega) (by omega)]; omega
  · exact wclose0 _ (wid_256 _ (by omega))

theorem width_any (v : Int) (w : World) (h0 : 0 ≤ v) (h1 : v ≤ 18446744073709551615) :
    Calls Try.prog 12 #[.int .u64 v] w fun e w' => e = .returned (.int .i64 (wid v.toNat)) ∧ w = w' := by
  go_enter Try.func12, Try.ntmps12
  go_wp2_with (go_at_call 27; refine (len64_any _ _ h0 h1).mono ?_; rintro e w' ⟨rfl, rfl⟩)
  go_ret
  exact ⟨rfl, rfl⟩

theorem isWidth_yes (n : Int) (w : World) (h0 : 0 ≤ n) (h1 : n ≤ 64) :
    Calls Try.prog 25 #[.int .i64 n] w fun e w' => e = .returned (.bool true) ∧ w = w' := by
  go_enter Try.func25, Try.ntmps25
  go_wp2
  go_ret
  exact ⟨rfl, rfl⟩
theorem isWidth_no (n : Int) (w : World) (h : n < 0 ∨ 64 < n) :
    Calls Try.prog 25 #[.int .i64 n] w fun e w' => e = .returned (.bool false) ∧ w = w' := by
  rcases h with h | h
  · go_enter Try.func25, Try.ntmps25
    go_wp2
    go_ret
    exact ⟨rfl, rfl⟩
  · have h0 : ¬ n ≤ 64 := by omega
    have h1 : 0 ≤ n := by omega
    go_enter Try.func25, Try.ntmps25
    go_wp2
    go_ret
    exact ⟨rfl, rfl⟩
end Go.Proofs.Ytngikldljpildaa

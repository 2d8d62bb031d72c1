/- Contract of math/bits' Len64: how many bits a number needs. -/
import Derived.Test.YtnifflnhbpfmnaaProg
import Derived.Test.YtnifflnhbpfmnaaMath
import Derived.Test.YtnifflnhbpfmnaaBase
namespace Go.Proofs.Ytnifflnhbpfmnaa
open Go.RowKit

theorem len8_lit (k : Nat) (h : k < 256) (hk : k < (⟨#[0, 1, 2, 2, 3, 3, 3, 3, 4, 4, 4, 4, 4, 4, 4, 4, 5, 5, 5, 5, 5, 5, 5, 5, 5, 5, 5, 5, 5, 5, 5, 5, 6, 6, 6, 6, 6, 6, 6, 6, 6, 6, 6, 6, 6, 6, 6, 6, 6, 6, 6, 6, 6, 6, 6, 6, 6, 6, 6, 6, 6, 6, 6, 6, 7, 7, 7, 7, 7, 7, 7, 7, 7, 7, 7, 7, 7, 7, 7, 7, 7, 7, 7, 7, 7, 7, 7, 7, 7, 7, 7, 7, 7, 7, 7, 7, 7, 7, 7, 7, 7, 7, 7, 7, 7, 7, 7, 7, 7, 7, 7, 7, 7, 7, 7, 7, 7, 7, 7, 7, 7, 7, 7, 7, 7, 7, 7, 7, 8, 8, 8, 8, 8, 8, 8, 8, 8, 8, 8, 8, 8, 8, 8, 8, 8, 8, 8, 8, 8, 8, 8, 8, 8, 8, 8, 8, 8, 8, 8, 8, 8, 8, 8, 8, 8, 8, 8, 8, 8, 8, 8, 8, 8, 8, 8, 8, 8, 8, 8, 8, 8, 8, 8, 8, 8, 8, 8, 8, 8, 8, 8, 8, 8, 8, 8, 8, 8, 8, 8, 8, 8, 8, 8, 8, 8, 8, 8, 8, 8, 8, 8, 8, 8, 8, 8, 8, 8, 8, 8, 8, 8, 8, 8, 8, 8, 8, 8, 8, 8, 8, 8, 8, 8, 8, 8, 8, 8, 8, 8, 8, 8, 8, 8, 8, 8, 8, 8, 8, 8, 8, 8, 8, 8, 8, 8, 8]⟩ : ByteArray).size) : ((⟨#[0, 1, 2, 2, 3, 3, 3, 3, 4, 4, 4, 4, 4, 4, 4, 4, 5, 5, 5, 5, 5, 5, 5, 5, 5, 5, 5, 5, 5, 5, 5, 5, 6, 6, 6, 6, 6, 6, 6, 6, 6, 6, 6, 6, 6, 6, 6, 6, 6, 6, 6, 6, 6, 6, 6, 6, 6, 6, 6, 6, 6, 6, 6, 6, 7, 7, 7, 7, 7, 7, 7, 7, 7, 7, 7, 7, 7, 7, 7, 7, 7, 7, 7, 7, 7, 7, 7, 7, 7, 7, 7, 7, 7, 7, 7, 7, 7, 7, 7, 7, 7, 7, 7, 7, 7, 7, 7, 7, 7, 7, 7, 7, 7, 7, 7, 7, 7, 7, 7, 7, 7, 7, 7, 7, 7, 7, 7, 7, 8, 8, 8, 8, 8, 8, 8, 8, 8, 8, 8, 8, 8, 8, 8, 8, 8, 8, 8, 8, 8, 8, 8, 8, 8, 8, 8, 8, 8, 8, 8, 8, 8, 8, 8, 8, 8, 8, 8, 8, 8, 8, 8, 8, 8, 8, 8, 8, 8, 8, 8, 8, 8, 8, 8, 8, 8, 8, 8, 8, 8, 8, 8, 8, 8, 8, 8, 8, 8, 8, 8, 8, 8, 8, 8, 8, 8, 8, 8, 8, 8, 8, 8, 8, 8, 8, 8, 8, 8, 8, 8, 8, 8, 8, 8, 8, 8, 8, 8, 8, 8, 8, 8, 8, 8, 8, 8, 8, 8, 8, 8, 8, 8, 8, 8, 8, 8, 8, 8, 8, 8, 8, 8, 8, 8, 8, 8, 8]⟩ : ByteArray)[k]'hk).toNat = wid k := len8tab_at k h hk

theorem wid_256 (k : Nat) (h : k < 256) : wid k ≤ 8 := (wid_le_iff k 8).2 (by simpa using h)

theorem wid_sh (v m : Int) (k : Nat) (hm : m = ((2 ^ k : Nat) : Int)) (h0 : 0 ≤ v) (h : m ≤ v) : wid v.toNat = wid (v / m).toNat + k := by
  subst hm
  have e : (v / ((2 ^ k : Nat) : Int)).toNat = v.toNat / 2 ^ k := by
    obtain ⟨n, rfl⟩ := Int.eq_ofNat_of_zero_le h0
    rw [← Int.natCast_ediv]; rfl
  rw [e]; exact wid_div _ _ (by omega)

theorem wclose (a : Int) (n : Nat) (ha : n ≤ 8) (h : 0 ≤ a) (h2 : a ≤ 56) : wrap64 (a + wrap64 n) = a + n := by
  rw [IntWalk.wrap64_in (n : Int) (by omega), IntWalk.wrap64_in _ (by omega)]
theorem wclose0 (n : Nat) (ha : n ≤ 8) : wrap64 (wrap64 n) = n := by
  rw [IntWalk.wrap64_in (n : Int) (by omega), IntWalk.wrap64_in _ (by omega)]

set_option maxHeartbeats 400000 in
set_option maxRecDepth 100000 in
theorem len64_any (v : Int) (w : World) (h0 : 0 ≤ v) (h1 : v ≤ 18446744073709551615) :
    Calls Try.prog 72 #[.int .u64 v] w fun e w' => e = .returned (.int .i64 (wid v.toNat)) ∧ w = w' := by
  go_enter Try.func72, Try.ntmps72
  go_wp2
  all_goals go_ret
  all_goals refine ⟨ret_int ?_, rfl⟩
  all_goals rw [len8_lit _ (by omega)]
  · rw [wclose _ _ (wid_256 _ (by omega)) (by omega) (by omega), wid_sh v 4294967296 32 rfl (by omega) (by omega), wid_sh (v / 4294967296) 65536 16 rfl (by omega) (by omega), wid_sh ((v / 4294967296) / 65536) 256 8 rfl (by omega) (by omega)]; omega
  · rw [wclose _ _ (wid_256 _ (by omega)) (by omega) (by omega), wid_sh v 4294967296 32 rfl (by omega) (by omega), wid_sh (v / 4294967296) 65536 16 rfl (by omega) (by omega)]; omega
  · rw [wclose _ _ (wid_256 _ (by omega)) (by omega) (by omega), wid_sh v 4294967296 32 rfl (by omega) (by omega), wid_sh (v / 4294967296) 256 8 rfl (by omega) (by omega)]; omega
  · rw [wclose _ _ (wid_256 _ (by omega)) (by omega) (by omega), wid_sh v 4294967296 32 rfl (by omega) (by omega)]; omega
  · rw [wclose _ _ (wid_256 _ (by omega)) (by omega) (by omega), wid_sh v 65536 16 rfl (by omega) (by omega), wid_sh (v / 65536) 256 8 rfl (by omega) (by omega)]; omega
  · rw [wclose _ _ (wid_256 _ (by omega)) (by omega) (by omega), wid_sh v 65536 16 rfl (by omega) (by omega)]; omega
  · rw [wclose _ _ (wid_256 _ (by omega)) (by omega) (by omega), wid_sh v 256 8 rfl (by omega) (by omega)]; omega
  · exact wclose0 _ (wid_256 _ (by omega))

end Go.Proofs.Ytnifflnhbpfmnaa

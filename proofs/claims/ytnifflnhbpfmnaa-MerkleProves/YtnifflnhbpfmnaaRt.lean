/- Words of 32 bits: turned about. -/
import Derived.Test.YtnifflnhbpfmnaaSw
import Derived.Test.YtnifflnhbpfmnaaProg
import Derived.Test.YtnifflnhbpfmnaaBase
import Derived.Test.YtnifflnhbpfmnaaSh
namespace Go.Proofs.Ytnifflnhbpfmnaa
open Go.RowKit

theorem and31 (n : Nat) (h1 : 1 ≤ n) (h2 : n ≤ 31) : bits .and .u64 (IntKind.u64.wrap (-(n : Int))) 31 = ((32 - n : Nat) : Int) := by
  have e : IntKind.u64.wrap (-(n : Int)) = ((18446744073709551616 - n : Nat) : Int) := by
    simp [IntKind.wrap, IntKind.bits, IntKind.signed]; omega
  rw [e, show (31 : Int) = ((31 : Nat) : Int) from rfl, u64_and_nat _ _ (by omega) (by omega), show (31 : Nat) = 2 ^ 5 - 1 from rfl, Nat.and_two_pow_sub_one_eq_mod]
  omega
theorem rotw_lt (x n : Nat) (hx : x < 4294967296) : rotw x n < 4294967296 := by
  unfold rotw
  exact Nat.or_lt_two_pow (n := 32) (shr_lt x n hx) (Nat.mod_lt _ (by decide))
theorem and_lt' {x : Nat} (y : Nat) (hx : x < 4294967296) : x &&& y < 4294967296 := Nat.lt_of_le_of_lt Nat.and_le_left hx

set_option maxHeartbeats 400000 in
set_option maxRecDepth 100000 in
theorem rotl_any (x n : Nat) (w : World) (hx : x < 4294967296) (h1 : 1 ≤ n) (h2 : n ≤ 31) :
    Calls Try.prog 76 #[.int .u32 x, .int .i64 (-(n : Int))] w fun e w' => e = .returned (.int .u32 (rotw x n : Nat)) ∧ w = w' := by
  have hb := and31 n h1 h2
  obtain ⟨s, hs⟩ : ∃ s, s = 32 - n := ⟨_, rfl⟩
  rw [← hs] at hb
  have h3 : 1 ≤ s := by omega
  have h4 : s ≤ 31 := by omega
  have HS : Hid (n = 32 - s) := (by omega : n = 32 - s)
  clear hs h1 h2
  go_enter Try.func76, Try.ntmps76
  go_wp2
  go_ret
  refine ⟨ret_int ?_, rfl⟩
  rw [show ((x : Int) * 2 ^ s % 4294967296) = ((x * 2 ^ s % 4294967296 : Nat) : Int) by simp, show ((x : Int) / 2 ^ (32 - s)) = ((x / 2 ^ (32 - s) : Nat) : Int) by simp,
    u32_or_nat _ _ (Nat.mod_lt _ (by decide)) (shr_lt _ _ hx), HS.out]
  unfold rotw
  rw [Nat.or_comm, show 32 - (32 - s) = s by omega]

set_option maxHeartbeats 400000 in
set_option maxRecDepth 100000 in
theorem rot_any (x n : Nat) (w : World) (hx : x < 4294967296) (h1 : 1 ≤ n) (h2 : n ≤ 31) :
    Calls Try.prog 75 #[.int .u32 x, .int .i64 n] w fun e w' => e = .returned (.int .u32 (rotw x n : Nat)) ∧ w = w' := by
  have A := hideIt (rotl_any x n w hx h1 h2)
  go_enter Try.func75, Try.ntmps75
  go_wp2_with fail
  refine A.out.mono ?_
  rintro e w1 ⟨rfl, rfl⟩
  go_wp2
  go_ret
  exact ⟨rfl, rfl⟩

theorem sg0_int (x : Nat) (hx : x < 4294967296) : bits .xor .u32 (bits .xor .u32 (rotw x 7 : Nat) (rotw x 18 : Nat)) ((x : Int) / 8) = (sg0 x : Nat) := by
  rw [show ((x : Int) / 8) = ((x / 8 : Nat) : Int) from rfl, u32_xor_nat _ _ (rotw_lt _ _ hx) (rotw_lt _ _ hx), u32_xor_nat _ _ (xor_lt (rotw_lt _ _ hx) (rotw_lt _ _ hx)) (by omega)]; rfl
theorem sg1_int (x : Nat) (hx : x < 4294967296) : bits .xor .u32 (bits .xor .u32 (rotw x 17 : Nat) (rotw x 19 : Nat)) ((x : Int) / 1024) = (sg1 x : Nat) := by
  rw [show ((x : Int) / 1024) = ((x / 1024 : Nat) : Int) from rfl, u32_xor_nat _ _ (rotw_lt _ _ hx) (rotw_lt _ _ hx), u32_xor_nat _ _ (xor_lt (rotw_lt _ _ hx) (rotw_lt _ _ hx)) (by omega)]; rfl
theorem Sg0_int (x : Nat) (hx : x < 4294967296) : bits .xor .u32 (bits .xor .u32 (rotw x 2 : Nat) (rotw x 13 : Nat)) (rotw x 22 : Nat) = (Sg0 x : Nat) := by
  rw [u32_xor_nat _ _ (rotw_lt _ _ hx) (rotw_lt _ _ hx), u32_xor_nat _ _ (xor_lt (rotw_lt _ _ hx) (rotw_lt _ _ hx)) (rotw_lt _ _ hx)]; rfl
theorem Sg1_int (x : Nat) (hx : x < 4294967296) : bits .xor .u32 (bits .xor .u32 (rotw x 6 : Nat) (rotw x 11 : Nat)) (rotw x 25 : Nat) = (Sg1 x : Nat) := by
  rw [u32_xor_nat _ _ (rotw_lt _ _ hx) (rotw_lt _ _ hx), u32_xor_nat _ _ (xor_lt (rotw_lt _ _ hx) (rotw_lt _ _ hx)) (rotw_lt _ _ hx)]; rfl
theorem Sg0_lt (x : Nat) (hx : x < 4294967296) : Sg0 x < 4294967296 := xor_lt (xor_lt (rotw_lt _ _ hx) (rotw_lt _ _ hx)) (rotw_lt _ _ hx)
theorem Sg1_lt (x : Nat) (hx : x < 4294967296) : Sg1 x < 4294967296 := xor_lt (xor_lt (rotw_lt _ _ hx) (rotw_lt _ _ hx)) (rotw_lt _ _ hx)
theorem sg0_lt (x : Nat) (hx : x < 4294967296) : sg0 x < 4294967296 := xor_lt (xor_lt (rotw_lt _ _ hx) (rotw_lt _ _ hx)) (by omega)
theorem sg1_lt (x : Nat) (hx : x < 4294967296) : sg1 x < 4294967296 := xor_lt (xor_lt (rotw_lt _ _ hx) (rotw_lt _ _ hx)) (by omega)

set_option maxHeartbeats 400000 in
set_option maxRecDepth 100000 in
theorem sg0_any (x : Nat) (w : World) (hx : x < 4294967296) :
    Calls Try.prog 74 #[.int .u32 x] w fun e w' => e = .returned (.int .u32 (sg0 x : Nat)) ∧ w = w' := by
  have A := hideIt (rot_any x 7 w hx (by decide) (by decide))
  have B := hideIt (rot_any x 18 w hx (by decide) (by decide))
  have H := hideIt (sg0_int x hx)
  go_enter Try.func74, Try.ntmps74
  go_wp2_with fail
  refine A.out.mono ?_
  rintro e w1 ⟨rfl, rfl⟩
  go_wp2_with fail
  refine B.out.mono ?_
  rintro e w1 ⟨rfl, rfl⟩
  go_wp2
  go_ret
  exact ⟨ret_int H.out, rfl⟩

set_option maxHeartbeats 400000 in
set_option maxRecDepth 100000 in
theorem sg1_any (x : Nat) (w : World) (hx : x < 4294967296) :
    Calls Try.prog 73 #[.int .u32 x] w fun e w' => e = .returned (.int .u32 (sg1 x : Nat)) ∧ w = w' := by
  have A := hideIt (rot_any x 17 w hx (by decide) (by decide))
  have B := hideIt (rot_any x 19 w hx (by decide) (by decide))
  have H := hideIt (sg1_int x hx)
  go_enter Try.func73, Try.ntmps73
  go_wp2_with fail
  refine A.out.mono ?_
  rintro e w1 ⟨rfl, rfl⟩
  go_wp2_with fail
  refine B.out.mono ?_
  rintro e w1 ⟨rfl, rfl⟩
  go_wp2
  go_ret
  exact ⟨ret_int H.out, rfl⟩

set_option maxHeartbeats 400000 in
set_option maxRecDepth 100000 in
theorem Sg0_any (x : Nat) (w : World) (hx : x < 4294967296) :
    Calls Try.prog 70 #[.int .u32 x] w fun e w' => e = .returned (.int .u32 (Sg0 x : Nat)) ∧ w = w' := by
  have A := hideIt (rot_any x 2 w hx (by decide) (by decide))
  have B := hideIt (rot_any x 13 w hx (by decide) (by decide))
  have C := hideIt (rot_any x 22 w hx (by decide) (by decide))
  have H := hideIt (Sg0_int x hx)
  go_enter Try.func70, Try.ntmps70
  go_wp2_with fail
  refine A.out.mono ?_
  rintro e w1 ⟨rfl, rfl⟩
  go_wp2_with fail
  refine B.out.mono ?_
  rintro e w1 ⟨rfl, rfl⟩
  go_wp2_with fail
  refine C.out.mono ?_
  rintro e w1 ⟨rfl, rfl⟩
  go_wp2
  go_ret
  exact ⟨ret_int H.out, rfl⟩

set_option maxHeartbeats 400000 in
set_option maxRecDepth 100000 in
theorem Sg1_any (x : Nat) (w : World) (hx : x < 4294967296) :
    Calls Try.prog 69 #[.int .u32 x] w fun e w' => e = .returned (.int .u32 (Sg1 x : Nat)) ∧ w = w' := by
  have A := hideIt (rot_any x 6 w hx (by decide) (by decide))
  have B := hideIt (rot_any x 11 w hx (by decide) (by decide))
  have C := hideIt (rot_any x 25 w hx (by decide) (by decide))
  have H := hideIt (Sg1_int x hx)
  go_enter Try.func69, Try.ntmps69
  go_wp2_with fail
  refine A.out.mono ?_
  rintro e w1 ⟨rfl, rfl⟩
  go_wp2_with fail
  refine B.out.mono ?_
  rintro e w1 ⟨rfl, rfl⟩
  go_wp2_with fail
  refine C.out.mono ?_
  rintro e w1 ⟨rfl, rfl⟩
  go_wp2
  go_ret
  exact ⟨ret_int H.out, rfl⟩

end Go.Proofs.Ytnifflnhbpfmnaa

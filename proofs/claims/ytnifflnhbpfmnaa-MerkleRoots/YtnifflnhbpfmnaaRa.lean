/- The document's own answer: turning a word about, the constants. -/
import Derived.Test.YtnifflnhbpfmnaaEd
import Derived.Great.BuildSlice
namespace Go.Proofs.Ytnifflnhbpfmnaa
open Go.RowKit

set_option maxHeartbeats 400000 in
set_option maxRecDepth 100000 in
theorem rrot_any (x n : Nat) (w : World) (hx : x < 4294967296) (h1 : 1 ≤ n) (h2 : n ≤ 31) :
    Calls Try.prog 64 #[.int .u32 x, .int .u64 n] w fun e w' => e = .returned (.int .u32 (rotw x n : Nat)) ∧ w = w' := by
  go_enter Try.func64, Try.ntmps64
  go_wp2
  go_ret
  refine ⟨ret_int ?_, rfl⟩
  rw [show ((x : Int) * 2 ^ (32 - n) % 4294967296) = ((x * 2 ^ (32 - n) % 4294967296 : Nat) : Int) by simp, show ((x : Int) / 2 ^ n) = ((x / 2 ^ n : Nat) : Int) by simp,
    u32_or_nat _ _ (shr_lt _ _ hx) (Nat.mod_lt _ (by decide))]
  rfl
set_option maxHeartbeats 800000 in
set_option maxRecDepth 100000 in
theorem rconst_any (w : World) : Calls Try.prog 48 #[] w fun e w' => e = .returned (.tuple #[.slice (some ⟨w.heap.size, 0, none⟩) 64 64, .slice (some ⟨w.heap.size + 1, 0, none⟩) 8 8]) ∧ Blk w' w.heap.size 57 (wl shK) ∧ Blk w' (w.heap.size + 1) 57 (wl shH) ∧ Only (fun _ => False) w w' := by
  go_enter Try.func48, Try.ntmps48
  go_wp2_with (first | (refine wpList_buildSlice rfl 64 57 64 _ rfl (wl shK).toArray Try.t57 (.int .u32 0) Try.underlying64 (by kernel_rfl) (by kernel_rfl) (by decide) (by decide) (by kernel_rfl) ?_) | (refine wpList_buildSlice rfl 64 57 8 _ rfl (wl shH).toArray Try.t57 (.int .u32 0) Try.underlying64 (by kernel_rfl) (by kernel_rfl) (by decide) (by decide) (by kernel_rfl) ?_))
  go_ret2
  refine ⟨rfl, (Blk.new w 57 (wl shK)).alloc _, ?_, ((Only.refl _ _).alloc _).alloc _⟩
  have := Blk.new (w.alloc (.cells (wl shK).toArray 57)) 57 (wl shH)
  rw [size_alloc] at this
  exact this
end Go.Proofs.Ytnifflnhbpfmnaa

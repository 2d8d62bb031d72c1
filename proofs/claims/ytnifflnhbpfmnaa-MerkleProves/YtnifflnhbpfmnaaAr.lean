/- Arrays of words and of bytes as values and in memory; the constants. -/
import Derived.Test.YtnifflnhbpfmnaaAr0
import Derived.Test.YtnifflnhbpfmnaaRt
import Derived.Deep.WholeRow
import Derived.Deep.MidRow
namespace Go.Proofs.Ytnifflnhbpfmnaa
open Go.RowKit

theorem Try.size30 : (Try.prog.info? 58).map (·.size) = some 8 := by kernel_rfl
theorem Try.size31 : (Try.prog.info? 59).map (·.size) = some 64 := by kernel_rfl
theorem Try.size52 : (Try.prog.info? 80).map (·.size) = some 64 := by kernel_rfl
theorem Try.size33 : (Try.prog.info? 61).map (·.size) = some 73 := by kernel_rfl
theorem z30 : (wl (List.replicate 8 0)).toArray = #[.int .u32 0, .int .u32 0, .int .u32 0, .int .u32 0, .int .u32 0, .int .u32 0, .int .u32 0, .int .u32 0] := rfl

set_option maxHeartbeats 800000 in
set_option maxRecDepth 100000 in
theorem first_any (w : World) : Calls Try.prog 59 #[] w fun e w' => e = .returned (.agg (wl shH).toArray) ∧ Only (fun _ => False) w w' := by
  go_enter Try.func59, Try.ntmps59
  go_wp2_with (first | (refine wpList_build_as rfl 58 _ rfl (wl shH).toArray (by kernel_rfl) ?_) | (refine wpList_store_row rfl 58 (.tmp 0) (.tmp 1) rfl w.heap.size (wl shH).toArray rfl rfl 58 (wl (List.replicate 8 0)).toArray (heap_alloc_last w _) Try.size30 rfl (wl_all _) ?_))
  refine bodyPost_ret (v := .agg (wl shH).toArray) (results_cell_row rfl _ _ w.heap.size 58 (wl shH).toArray (0, 0) _ rfl (setRow_heap _ _ _ _ 58 _ (heap_alloc_last w _)) Try.underlying58 rfl Try.size30) rfl ⟨rfl, ?_⟩
  exact ((Only.refl _ _).alloc _).setRow (fun h => absurd h (Nat.lt_irrefl _)) _
def zK : List Value := wl (List.replicate 64 0)
set_option maxHeartbeats 800000 in
set_option maxRecDepth 100000 in
theorem constants_any (w : World) : Calls Try.prog 68 #[] w fun e w' => e = .returned (.agg (wl shK).toArray) ∧ Only (fun _ => False) w w' := by
  go_enter Try.func68, Try.ntmps68
  go_wp2_with (first | (refine wpList_build_as rfl 80 _ rfl (wl shK).toArray (by kernel_rfl) ?_) | (refine wpList_store_row rfl 80 (.tmp 0) (.tmp 1) rfl w.heap.size (wl shK).toArray rfl rfl 80 zK.toArray (heap_alloc_last w _) Try.size52 (by kernel_rfl) (wl_all _) ?_))
  refine bodyPost_ret (v := .agg (wl shK).toArray) (results_cell_row rfl _ _ w.heap.size 80 (wl shK).toArray (0, 0) _ rfl (setRow_heap _ _ zK.toArray _ 80 _ (heap_alloc_last w _)) Try.underlying80 rfl Try.size52) rfl ⟨rfl, ?_⟩
  exact ((Only.refl _ _).alloc _).setRow (fun h => absurd h (Nat.lt_irrefl _)) _
end Go.Proofs.Ytnifflnhbpfmnaa

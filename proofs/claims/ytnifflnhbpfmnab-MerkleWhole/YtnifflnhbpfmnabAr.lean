/- Arrays of words and of bytes as values and in memory; the constants. -/
import Derived.Test.YtnifflnhbpfmnabAr0
import Derived.Test.YtnifflnhbpfmnabRt
import Derived.Deep.WholeRow
import Derived.Deep.MidRow
namespace Go.Proofs.Ytnifflnhbpfmnab
open Go.RowKit

theorem Try.size30 : (Try.prog.info? 48).map (·.size) = some 8 := by kernel_rfl
theorem Try.size31 : (Try.prog.info? 49).map (·.size) = some 64 := by kernel_rfl
theorem Try.size52 : (Try.prog.info? 70).map (·.size) = some 64 := by kernel_rfl
theorem Try.size33 : (Try.prog.info? 51).map (·.size) = some 73 := by kernel_rfl
theorem z30 : (wl (List.replicate 8 0)).toArray = #[.int .u32 0, .int .u32 0, .int .u32 0, .int .u32 0, .int .u32 0, .int .u32 0, .int .u32 0, .int .u32 0] := rfl

set_option maxHeartbeats 800000 in
set_option maxRecDepth 100000 in
theorem first_any (w : World) : Calls Try.prog 43 #[] w fun e w' => e = .returned (.agg (wl shH).toArray) ∧ Only (fun _ => False) w w' := by
  go_enter Try.func43, Try.ntmps43
  go_wp2_with (first | (refine wpList_build_as rfl 48 _ rfl (wl shH).toArray (by kernel_rfl) ?_) | (refine wpList_store_row rfl 48 (.tmp 0) (.tmp 1) rfl w.heap.size (wl shH).toArray rfl rfl 48 (wl (List.replicate 8 0)).toArray (heap_alloc_last w _) Try.size30 rfl (wl_all _) ?_))
  refine bodyPost_ret (v := .agg (wl shH).toArray) (results_cell_row rfl _ _ w.heap.size 48 (wl shH).toArray (0, 0) _ rfl (setRow_heap _ _ _ _ 48 _ (heap_alloc_last w _)) Try.underlying48 rfl Try.size30) rfl ⟨rfl, ?_⟩
  exact ((Only.refl _ _).alloc _).setRow (fun h => absurd h (Nat.lt_irrefl _)) _
def zK : List Value := wl (List.replicate 64 0)
set_option maxHeartbeats 800000 in
set_option maxRecDepth 100000 in
theorem constants_any (w : World) : Calls Try.prog 52 #[] w fun e w' => e = .returned (.agg (wl shK).toArray) ∧ Only (fun _ => False) w w' := by
  go_enter Try.func52, Try.ntmps52
  go_wp2_with (first | (refine wpList_build_as rfl 70 _ rfl (wl shK).toArray (by kernel_rfl) ?_) | (refine wpList_store_row rfl 70 (.tmp 0) (.tmp 1) rfl w.heap.size (wl shK).toArray rfl rfl 70 zK.toArray (heap_alloc_last w _) Try.size52 (by kernel_rfl) (wl_all _) ?_))
  refine bodyPost_ret (v := .agg (wl shK).toArray) (results_cell_row rfl _ _ w.heap.size 70 (wl shK).toArray (0, 0) _ rfl (setRow_heap _ _ zK.toArray _ 70 _ (heap_alloc_last w _)) Try.underlying70 rfl Try.size52) rfl ⟨rfl, ?_⟩
  exact ((Only.refl _ _).alloc _).setRow (fun h => absurd h (Nat.lt_irrefl _)) _
end Go.Proofs.Ytnifflnhbpfmnab

/- Package simple: the sorts, and what room each has. -/
import Derived.Test.YtjfbokmbpmidbaaSm
import Derived.Deep.WholeRow
namespace Go.Proofs.Ytjfbokmbpmidbaa
open Go.RowKit

def sortCells : Array Value := #[.int .i64 240, .int .i64 0, .int .i64 120, .int .i64 0, .int .i64 60, .int .i64 1, .int .i64 30, .int .i64 2, .int .i64 20, .int .i64 3, .int .i64 15, .int .i64 4, .int .i64 12, .int .i64 5, .int .i64 10, .int .i64 6, .int .i64 8, .int .i64 7, .int .i64 7, .int .i64 8, .int .i64 6, .int .i64 10, .int .i64 5, .int .i64 12, .int .i64 4, .int .i64 15, .int .i64 3, .int .i64 20, .int .i64 2, .int .i64 30, .int .i64 1, .int .i64 60]
def zeroCells : Array Value := #[.int .i64 0, .int .i64 0, .int .i64 0, .int .i64 0, .int .i64 0, .int .i64 0, .int .i64 0, .int .i64 0, .int .i64 0, .int .i64 0, .int .i64 0, .int .i64 0, .int .i64 0, .int .i64 0, .int .i64 0, .int .i64 0, .int .i64 0, .int .i64 0, .int .i64 0, .int .i64 0, .int .i64 0, .int .i64 0, .int .i64 0, .int .i64 0, .int .i64 0, .int .i64 0, .int .i64 0, .int .i64 0, .int .i64 0, .int .i64 0, .int .i64 0, .int .i64 0]
theorem Try.size45 : (Try.prog.info? 45).map (·.size) = some sortCells.size := by kernel_rfl
theorem zero_sort : zeroCells.size = sortCells.size := by kernel_rfl
theorem one_sort : sortCells.all (·.oneCell') = true := by kernel_rfl
theorem results_cell {fn : Func} {p : Tmp} {ty : TypeId} (h : fn.results = #[.cell p ty]) (tmps : Array Value) (P : Program) (w : World) {a : Addr} {v : Value} (ha : tmps[p]?.getD undef = .pointer (some a)) (hl : (loadVar ty a).run P w = .ok v w) :
    (results fn tmps).run P w = .ok v w := by
  simp only [results, h]
  simp [ha, asAddr, hl]

set_option maxHeartbeats 800000 in
set_option maxRecDepth 100000 in
theorem sorts_any (w : World) : Calls Try.prog 25 #[] w fun e w' => e = .returned (.agg sortCells) ∧ w' = w.alloc (.cells sortCells 45) := by
  go_enter Try.func25, Try.ntmps25
  go_wp2_with (refine wpList_store_row rfl 45 (.tmp 0) (.tmp 17) rfl w.heap.size sortCells rfl rfl 45 zeroCells (heap_alloc_last w _) Try.size45 zero_sort one_sort ?_)
  rw [World.setRow_alloc_new]
  refine bodyPost_ret (v := .agg sortCells) (results_cell rfl _ _ _ rfl ?_) rfl ⟨rfl, rfl⟩
  exact run_loadVar_new w 45 sortCells 16 44 Try.underlying45 Try.size45

theorem room_ix (s : Nat) (h : s < 16) (w : World) : (Instr.index 45 (.agg sortCells) (.int .i64 s)).run Try.prog w = .ok (.agg #[.int .i64 (cn s), .int .i64 (wi s)]) w := by
  obtain rfl | rfl | rfl | rfl | rfl | rfl | rfl | rfl | rfl | rfl | rfl | rfl | rfl | rfl | rfl | rfl : s = 0 ∨ s = 1 ∨ s = 2 ∨ s = 3 ∨ s = 4 ∨ s = 5 ∨ s = 6 ∨ s = 7 ∨ s = 8 ∨ s = 9 ∨ s = 10 ∨ s = 11 ∨ s = 12 ∨ s = 13 ∨ s = 14 ∨ s = 15 := by omega
  all_goals kernel_rfl

set_option maxHeartbeats 800000 in
set_option maxRecDepth 100000 in
theorem room_no (s : Int) (w : World) (h : s < 0 ∨ 15 < s) : Calls Try.prog 12 #[.int .i64 s] w fun e w' => e = .returned (.tuple #[.int .i64 0, .int .i64 0]) ∧ w = w' := by
  by_cases h0 : s < 0
  · have d0 : decide (s < 0) = true := decide_eq_true h0
    clear h
    go_enter Try.func12, Try.ntmps12
    go_wp2
    go_ret2
    exact ⟨rfl, rfl⟩
  · have d0 : decide (s < 0) = false := decide_eq_false h0
    have d1 : decide (16 ≤ s) = true := decide_eq_true (by omega)
    clear h
    go_enter Try.func12, Try.ntmps12
    go_wp2
    go_ret2
    exact ⟨rfl, rfl⟩

set_option maxHeartbeats 800000 in
set_option maxRecDepth 100000 in
theorem room_at (s : Nat) (w : World) (h : s < 16) : Calls Try.prog 12 #[.int .i64 s] w fun e w' => e = .returned (.tuple #[.int .i64 (cn s), .int .i64 (wi s)]) ∧ Only (fun _ => False) w w' := by
  have d0 : decide ((s : Int) < 0) = false := by simp
  have d1 : decide (16 ≤ (s : Int)) = false := by simp; omega
  have A := hideIt (sorts_any w)
  have hix := room_ix s h
  go_enter Try.func12, Try.ntmps12
  go_wp2_with fail
  refine A.out.mono ?_
  rintro e w1 ⟨rfl, hw1⟩
  have O1 : Hid (Only (fun _ => False) w w1) := by rw [hw1]; exact (Only.refl _ _).alloc _
  clear hw1 A
  go_wp2
  go_quiet (fail)
  go_wp2
  go_ret2
  exact ⟨rfl, (O1.out.alloc _).drewN nq⟩
end Go.Proofs.Ytjfbokmbpmidbaa

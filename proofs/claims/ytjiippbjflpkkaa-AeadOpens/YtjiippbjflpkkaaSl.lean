/- One step of a region that draws: a call by its contract, a row that is loaded, made or stored. -/
import Derived.Test.YtjiippbjflpkkaaGa
import Derived.Deep.RegionHeld3
namespace Go.Proofs.Ytjiippbjflpkkaa
open Go.RowKit

theorem wp_alloc34 {o : Oper} {a : Act} {W : World} {K : Act → World → Prop} {Q : Exit → Act → World → Prop} (ho : o.op = .alloc 47)
    (h : K (a.put o.dst (.pointer (some ⟨W.heap.size, 0, none⟩))) (W.alloc (.cells z5.toArray 47))) : Oper.wp Try.prog o a W K Q := by
  unfold Oper.wp execOp
  have hzv := (zero_of_info (P := Try.prog) Try.zero34).1
  simp [ho, Instr.alloc, hzv, go_sem]
  exact h
theorem enter18 (vs : Array Value) (W : World) : (callFunc 38 vs).run Try.prog W = .ok (.enter 38 vs) W := by kernel_rfl
theorem enter17 (vs : Array Value) (W : World) : (callFunc 37 vs).run Try.prog W = .ok (.enter 37 vs) W := by kernel_rfl
theorem enter15 (vs : Array Value) (W : World) : (callFunc 35 vs).run Try.prog W = .ok (.enter 35 vs) W := by kernel_rfl
end Go.Proofs.Ytjiippbjflpkkaa

/- One step of a region that draws: a call by its contract, a row that is loaded, made or stored. -/
import Derived.Test.YtanobjnjgbhnjaaGa
import Derived.Deep.RegionHeld3
namespace Go.Proofs.Ytanobjnjgbhnjaa
open Go.RowKit

theorem wp_calls {o : Oper} {a : Act} {W : World} {K : Act → World → Prop} {Q : Exit → Act → World → Prop} (n : Nat) (xs : Array Operand) (ts : Array TypeId)
    (ho : o.op = .call { callee := .value (.func n), args := xs, argTypes := ts }) (hf : ∀ vs W, (callFunc n vs).run Try.prog W = .ok (.enter n vs) W) (vs : Array Value) (r : Value) (hx : xs.map a.eval = vs) {R : World → Prop}
    (hc : Calls Try.prog n vs W fun e w' => e = .returned r ∧ R w') (h : ∀ w', R w' → K (a.put o.dst r) w') : Oper.wp Try.prog o a W K Q := by
  subst hx
  unfold Oper.wp
  have e : a.eval (Operand.func n) = .func (.func n) #[] #[] := rfl
  have hf2 := hf (xs.map a.eval) W
  simp [execOp, ho, resolve, invoke, e, Oper.upon, Deferred.ofValue, hf2]
  refine Calls.mono hc ?_
  rintro e w' ⟨rfl, hR⟩
  exact h w' hR
theorem wp_alloc34 {o : Oper} {a : Act} {W : World} {K : Act → World → Prop} {Q : Exit → Act → World → Prop} (ho : o.op = .alloc 34)
    (h : K (a.put o.dst (.pointer (some ⟨W.heap.size, 0, none⟩))) (W.alloc (.cells z5.toArray 34))) : Oper.wp Try.prog o a W K Q := by
  unfold Oper.wp execOp
  have hzv := (zero_of_info (P := Try.prog) Try.zero34).1
  simp [ho, Instr.alloc, hzv, go_sem]
  exact h
theorem enter18 (vs : Array Value) (W : World) : (callFunc 18 vs).run Try.prog W = .ok (.enter 18 vs) W := by kernel_rfl
theorem enter17 (vs : Array Value) (W : World) : (callFunc 17 vs).run Try.prog W = .ok (.enter 17 vs) W := by kernel_rfl
theorem enter16 (vs : Array Value) (W : World) : (callFunc 16 vs).run Try.prog W = .ok (.enter 16 vs) W := by kernel_rfl
theorem enter15 (vs : Array Value) (W : World) : (callFunc 15 vs).run Try.prog W = .ok (.enter 15 vs) W := by kernel_rfl
end Go.Proofs.Ytanobjnjgbhnjaa

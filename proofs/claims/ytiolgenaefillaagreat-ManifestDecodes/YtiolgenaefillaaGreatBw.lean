/- What a walk leaves, as the row asks it. -/
import Derived.Test.YtiolgenaefillaaGreatProg
import Derived.Test.YtiolgenaefillaaGreatG1
namespace Go.Proofs.YtiolgenaefillaaGreat
open Go.RowKit

theorem below_of {f : Nat} {args : Array Value} {w : World} (h : Calls Tryz.prog f args w fun e w' => e = .returned (.bool true) ∧ Only (fun _ => False) w w') : Calls Tryz.prog f args w fun e w' => e = .returned (.bool true) ∧ Below w.heap.size w w' := by
  refine h.mono ?_
  rintro e w' ⟨rfl, o⟩
  exact ⟨rfl, o.low (Nat.le_refl _)⟩
end Go.Proofs.YtiolgenaefillaaGreat

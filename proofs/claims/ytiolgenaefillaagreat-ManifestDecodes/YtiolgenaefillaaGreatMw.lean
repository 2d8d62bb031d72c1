/- What a manifest's law asks of bytes and boxes. -/
import Derived.Test.YtiolgenaefillaaGreatAw21
import Derived.Test.YtiolgenaefillaaGreatNz
namespace Go.Proofs.YtiolgenaefillaaGreat
open Go.RowKit

theorem MD_cases (ys : List Int) (h8 : U8 ys) : (MDe ys = 0 ∧ MGD (MDv ys) ∧ MENC (MDv ys) = ys) ∨ (MDv ys = ⟨0, [], [], []⟩ ∧ ∃ c, MDEC ys = .error c ∧ MDe ys = c) := by
  cases h : MDEC ys with
  | ok m =>
    obtain ⟨e1, e2⟩ := MD_ok h
    rw [e1]
    exact .inl ⟨e2, MDEC_only h8 h⟩
  | error c =>
    obtain ⟨e1, e2⟩ := MD_err h
    exact .inr ⟨e1, c, rfl, e2⟩
theorem MGD.ok {m : MAN} (h : MGD m) : Mok m := ⟨by have := h.1; omega, h.2.1.2, h.2.2.1.2, fun e he => (h.2.2.2.2 e he).1.2⟩
theorem MDe_back {m : MAN} (h : MGD m) : MDv (MENC m) = m ∧ MDe (MENC m) = 0 := MD_ok (MDEC_back h)
theorem few_of {m : MAN} (h : FEWM m = true) : m.es.length ≤ 100 ∧ m.prev.length ≤ 300 ∧ m.root.length ≤ 300 ∧ ∀ e ∈ m.es, e.1.length ≤ 200 := of_decide_eq_true h
theorem box_cells {W : World} {N : Nat} {x0 x1 x2 x3 : Value} (h : W.heap[N]? = some (.cells #[x0, x1, x2, x3] 26 (0, 0))) : W.cell? ⟨N, 0, none⟩ = some x0 ∧ W.cell? ⟨N, 1, none⟩ = some x1 ∧ W.cell? ⟨N, 2, none⟩ = some x2 ∧ W.cell? ⟨N, 3, none⟩ = some x3 := (cells4 h).1
end Go.Proofs.YtiolgenaefillaaGreat

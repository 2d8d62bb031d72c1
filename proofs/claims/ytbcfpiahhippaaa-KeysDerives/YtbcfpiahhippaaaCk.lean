/- hmac.Check. -/
import Derived.Test.YtbcfpiahhippaaaTg
import Derived.Test.YtbcfpiahhippaaaHsa
namespace Go.Proofs.Ytbcfpiahhippaaa
open Go.RowKit

/-- a tag as a slice -/
theorem mac_form {w : World} {lo : Nat} {v : Value} {k b : List Int} (h : w.ownsRow lo 5 1 v 32 ((MACL k b).map (Value.int .u8))) : Bs .u8 w v (MACL k b) ∧ ∃ g cap, v = .slice (some ⟨g, 0, none⟩) 32 cap ∧ lo ≤ g := by
  refine ⟨Bs.of_own (by rw [MACL_len]; exact h), ?_⟩
  rcases h.2 with ⟨_, h0⟩ | ⟨g, cap, cur, hv, hb, _⟩
  · cases h0
  · exact ⟨g, cap, hv, hb⟩
theorem mac_at {w : World} {g cap : Nat} {k b : List Int} (h : Bs .u8 w (.slice (some ⟨g, 0, none⟩) 32 cap) (MACL k b)) (j : Nat) (hj : j < 32) : w.cell? ⟨g, j, none⟩ = some (.int .u8 ((MACL k b).getD j 0)) := by
  obtain ⟨b', off', cap', e, hc⟩ := h.at j (by rw [MACL_len]; exact hj)
  simp at e
  obtain ⟨⟨rfl, rfl⟩, _, rfl⟩ := e
  rwa [Nat.zero_add] at hc
end Go.Proofs.Ytbcfpiahhippaaa

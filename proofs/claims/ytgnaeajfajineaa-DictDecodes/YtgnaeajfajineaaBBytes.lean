/- Contracts of package bits: Len and Bytes of a writer. -/
import Derived.Test.YtgnaeajfajineaaBPut2
import Derived.Test.YtgnaeajfajineaaClone
namespace Go.Proofs.Ytgnaeajfajineaa
open Go.RowKit

set_option maxHeartbeats 400000 in
set_option maxRecDepth 100000 in
theorem bytes_nil (w : World) : Calls Try.prog 20 #[.pointer none] w fun e w' => e = .returned (.slice none 0 0) ∧ w = w' := by
  go_enter Try.func20, Try.ntmps20
  go_wp2
  go_ret
  exact ⟨rfl, rfl⟩

def bytesI (l : List Bool) : List Int := (List.range (nb l)).map fun j => (byteAt l j : Int)
theorem bytesI_vals (l : List Bool) : (bytesI l).map (Value.int .u8) = byteVals l := by simp [bytesI, byteVals, List.map_map, Function.comp_def]
theorem bytesI_length (l : List Bool) : (bytesI l).length = nb l := by simp [bytesI]
theorem WrAt.bs {T E : TypeId} {w : World} {lo B : Nat} {v : Value} {l : List Bool} (h : WrAt T E w lo B v l) : Bs .u8 w v (bytesI l) :=
  Bs.of_own (by rw [bytesI_vals, bytesI_length]; exact h.own)

set_option maxHeartbeats 400000 in
set_option maxRecDepth 100000 in
/-- THE WRITER's BYTES: new memory; the writer stands. -/
theorem bytes_wr {w : World} {lo B : Nat} {v : Value} {l : List Bool} (h : WrAt 43 5 w lo B v l) (hl : l.length ≤ 1000000000000) :
    Calls Try.prog 20 #[.pointer (some ⟨B, 0, none⟩)] w fun e w' => ∃ v', e = .returned v' ∧ w'.ownsRow w.heap.size 5 1 v' (bytesI l).length ((bytesI l).map (Value.int .u8)) ∧ Only (fun _ => False) w w' := by
  obtain ⟨c0, c1, f0, f1⟩ := two_cells h.cell
  have HB : Hid (Bs .u8 w v (bytesI l)) := h.bs
  have hle : (bytesI l).length ≤ 140737488355328 := by rw [bytesI_length]; unfold nb; omega
  clear h
  go_enter Try.func20, Try.ntmps20
  go_wp2_with (go_at_call 40; refine (clone_bs v (bytesI l) _ HB.out hle).mono ?_; rintro e w' ⟨v', rfl, h1, h2⟩)
  go_ret
  exact ⟨v', rfl, h1, h2⟩

theorem WrAt.foot_ge {T E : TypeId} {w : World} {lo B : Nat} {v : Value} {l : List Bool} (h : WrAt T E w lo B v l) {N : Nat} (hB : N ≤ B) : ∀ k, Foot B v k → N ≤ k := by
  intro k hk
  rcases hk with rfl | hk
  · exact hB
  · have := (h.own.lt k hk).1; have := h.lt; omega
theorem own_one {w : World} {lo : Nat} {v : Value} {x : Int} (h : w.ownsRow lo 5 1 v 1 [.int .u8 x]) : ∃ g cap, v = .slice (some ⟨g, 0, none⟩) 1 cap ∧ lo ≤ g ∧ w.cell? ⟨g, 0, none⟩ = some (.int .u8 x) ∧ w.frozen? ⟨g, 0, none⟩ = false ∧ 1 ≤ cap := by
  obtain ⟨g, cap, rfl, hlo, _⟩ := h.form (by omega)
  refine ⟨g, cap, rfl, hlo, ?_, h.frozenAt 0, ?_⟩
  · rw [h.cellAt 0 (by omega)]; rfl
  · rcases h.2 with ⟨h', _⟩ | ⟨_, _, _, h', _, _, hc, _⟩
    · cases h'
    · cases h'; exact hc

end Go.Proofs.Ytgnaeajfajineaa

/- A slice of slices of bytes that came in, as the walks are told of it. -/
import Derived.Test.YtmkfgfcncklchaaBase
import Derived.Test.YtmkfgfcncklchaaProg
import Derived.Deep.Matrix
import Derived.OpenShut
namespace Go.Proofs.Ytmkfgfcncklchaa
open Go.RowKit

/-- the slice v reads as the lists of bytes ls -/
def Rws (w : World) (v : Value) (ls : List (List Int)) : Prop :=
  ∃ ao cap, v = .slice ao ls.length cap ∧ (ls ≠ [] → ∃ b off, ao = some ⟨b, off, none⟩ ∧ ∀ j, j < ls.length → ∃ u, w.cell? ⟨b, off + j, none⟩ = some u ∧ Bs .u8 w u (ls.getD j []) ∧ NoCap u)
theorem Rws.len {w : World} {v : Value} {ls : List (List Int)} (h : Rws w v ls) : ∃ ao cap, v = .slice ao ls.length cap := by
  obtain ⟨ao, cap, rfl, _⟩ := h
  exact ⟨ao, cap, rfl⟩
theorem Rws.at {w : World} {ao : Option Addr} {m cap : Nat} {ls : List (List Int)} (h : Rws w (.slice ao m cap) ls) (j : Nat) (hj : j < ls.length) :
    ∃ b off ao' cap', ao = some ⟨b, off, none⟩ ∧ w.cell? ⟨b, off + j, none⟩ = some (.slice ao' (ls.getD j []).length cap') ∧ Bs .u8 w (.slice ao' (ls.getD j []).length cap') (ls.getD j []) ∧ NoCap (.slice ao' (ls.getD j []).length cap') := by
  obtain ⟨ao1, cap1, e, hr⟩ := h
  simp at e
  obtain ⟨rfl, _, _⟩ := e
  obtain ⟨b, off, rfl, hc⟩ := hr (by intro h0; subst h0; simp at hj)
  obtain ⟨u, h1, h2, h3⟩ := hc j hj
  obtain ⟨ao', cap', rfl⟩ := h2.len
  exact ⟨b, off, ao', cap', rfl, h1, h2, h3⟩

theorem rows_open {H : Type} {enc : TypeId × Value → H} {W : World} {a : Option Addr} {len cap : Nat} {d : DataW H} {p : List MemPlace}
    (h : DataW.Trod enc Try.prog W 0 (fun _ => true) true 27 (.slice a len cap) d p) :
    ∃ ls : List (List Int), Rws W (.slice a len cap) ls ∧ ∀ l ∈ ls, ∀ y ∈ l, 0 ≤ y ∧ y ≤ 255 := by
  obtain ⟨fuel, hf⟩ := h
  rcases Deep.open_int_rows Try.underlying27 Try.underlying22 Try.underlying5 (by kernel_rfl) (by kernel_rfl) hf with ⟨hcs, _⟩ | ⟨x, l, c, A, L, C, Z, hcs, _, hl, _, _, hall⟩
  · simp [Value.cells] at hcs
    obtain ⟨rfl, rfl, rfl⟩ := hcs
    exact ⟨[], ⟨none, 0, rfl, fun h => absurd rfl h⟩, by simp⟩
  · simp [Value.cells] at hcs
    obtain ⟨rfl, rfl, rfl⟩ := hcs
    have hget : ∀ j, j < len → ((List.range len).map fun r => (Z r).take (L r)).getD j [] = (Z j).take (L j) := fun j hj => by
      rw [List.getD_eq_getElem?_getD]; simp [hj]
    refine ⟨(List.range len).map fun r => (Z r).take (L r), ⟨some x, cap, by simp, fun hne => ?_⟩, ?_⟩
    · have hp : 0 < len := by
        cases len with
        | zero => simp at hne
        | succ n => omega
      obtain ⟨b, off, spot⟩ := x
      have hspot : spot = none := by simpa [Addr.add] using World.cell?_spot (hall 0 (by omega)).1
      subst hspot
      refine ⟨b, off, rfl, fun j hj => ?_⟩
      have hj' : j < len := by simpa using hj
      rw [hget j hj']
      obtain ⟨h0, h1, _, h3, _, h5, h6⟩ := hall j (by omega)
      rw [Go.WideShapes.add_plain] at h0
      refine ⟨_, h0, ?_, ?_⟩
      · cases hA : A j with
        | none =>
          have hc0 := h5 hA
          have hz : Z j = [] := List.eq_nil_of_length_eq_zero (by omega)
          have hl0 : L j = 0 := by omega
          rw [hz, hl0, hc0]
          exact Bs.nil _ _
        | some a' =>
          refine Bs.of_take h1 h3 (fun i hi => ?_)
          exact (h6 a' hA).2 i (by omega)
      · intro m c e
        simp at e
        have := h5 e.1
        omega
    · intro y hy z hz
      simp only [List.mem_map, List.mem_range] at hy
      obtain ⟨j, hj, rfl⟩ := hy
      have := (hall j (by omega)).2.2.2.2.1 z (List.mem_of_mem_take hz)
      simpa [Lit.wf, IntKind.min, IntKind.max, IntKind.signed, IntKind.bits] using this
end Go.Proofs.Ytmkfgfcncklchaa

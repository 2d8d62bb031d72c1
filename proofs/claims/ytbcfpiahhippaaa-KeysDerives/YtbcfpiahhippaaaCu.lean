/- Contracts of package cursor: what a cursor is in memory; New, left, skip, Left, End, next. -/
import Derived.Test.YtbcfpiahhippaaaVr3
import Derived.Test.YtbcfpiahhippaaaG1
namespace Go.Proofs.Ytbcfpiahhippaaa
open Go.RowKit

/-- a cursor in memory: the struct lies at block R, its slice is v, which reads as the bytes ys: what is left. -/
structure CurAt (T : TypeId) (w : World) (R : Nat) (v : Value) (ys : List Int) : Prop where
  bs : Bs .u8 w v ys
  rng : ∀ y ∈ ys, 0 ≤ y ∧ y ≤ 255
  cell : w.heap[R]? = some (.cells #[v] T (0, 0))
  ap : v.ownBlock ≠ some R
  len : ys.length ≤ 1000000000000
theorem CurAt.keep {T : TypeId} {w w' : World} {R : Nat} {v : Value} {ys : List Int} (h : CurAt T w R v ys) {S : Nat → Prop} (ho : Only S w w') (hR : ¬ S R) (hv : ∀ k, v.ownBlock = some k → ¬ S k) : CurAt T w' R v ys :=
  ⟨h.bs.keep ho hv, h.rng, ho.heap h.cell hR, h.ap, h.len⟩
theorem CurAt.form {T : TypeId} {w : World} {R : Nat} {v : Value} {ys : List Int} (h : CurAt T w R v ys) : ∃ ao cap, v = .slice ao ys.length cap := by
  obtain ⟨ao, cap, rfl, _⟩ := h.bs
  exact ⟨ao, cap, rfl⟩
theorem one_cell {w : World} {R : Nat} {v : Value} {T : TypeId} (h : w.heap[R]? = some (.cells #[v] T (0, 0))) : w.cell? ⟨R, 0, none⟩ = some v ∧ w.frozen? ⟨R, 0, none⟩ = false :=
  ⟨by simp [World.cell?, h], by simp [World.frozen?, h]⟩
theorem heap_one {w : World} {R : Nat} {v : Value} {T : TypeId} (h : w.heap[R]? = some (.cells #[v] T (0, 0))) (u : Value) : (w.setCell ⟨R, 0, none⟩ u).heap[R]? = some (.cells #[u] T (0, 0)) := by
  have h0 := heap_setCell_same w R 0 #[v] T u h
  simpa using h0

theorem own_any (ao : Option Addr) (m c m' c' : Nat) : (Value.slice ao m c).ownBlock = (Value.slice ao m' c').ownBlock := by cases ao <;> rfl
/-- what End says of the bytes that are left -/
def endV (ys : List Int) : Int := if 0 < ys.length then 3 else 0
end Go.Proofs.Ytbcfpiahhippaaa

/- A script of readings that came in, as the walk is told of it. -/
import Derived.Test.YtdpcmhgmgkelhaaCSt
import Derived.Test.YtdpcmhgmgkelhaaCRef2
import Derived.Deep.SlicePairs
import Derived.OpenShut
namespace Go.Proofs.Ytdpcmhgmgkelhaa
open Go.RowKit

/-- the slice v reads as the pairs of ints os -/
def Ops (w : World) (v : Value) (os : List (Int × Int)) : Prop :=
  ∃ ao cap, v = .slice ao os.length cap ∧ os.length ≤ cap ∧ (os ≠ [] → ∃ b off, ao = some ⟨b, off, none⟩ ∧ ∀ j, j < os.length →
    w.cell? ⟨b, off + j * 2, none⟩ = some (.int .i64 (os.getD j (0, 0)).1) ∧ w.cell? ⟨b, off + j * 2 + 1, none⟩ = some (.int .i64 (os.getD j (0, 0)).2))
theorem Ops.len {w : World} {v : Value} {os : List (Int × Int)} (h : Ops w v os) : ∃ ao cap, v = .slice ao os.length cap := by
  obtain ⟨ao, cap, rfl, _⟩ := h
  exact ⟨ao, cap, rfl⟩
theorem Ops.at {w : World} {ao : Option Addr} {m cap : Nat} {os : List (Int × Int)} (h : Ops w (.slice ao m cap) os) (j : Nat) (hj : j < os.length) : ∃ b off, ao = some ⟨b, off, none⟩ ∧
    w.cell? ⟨b, off + j * 2, none⟩ = some (.int .i64 (os.getD j (0, 0)).1) ∧ w.cell? ⟨b, off + j * 2 + 1, none⟩ = some (.int .i64 (os.getD j (0, 0)).2) := by
  obtain ⟨ao', cap', e, hc, hr⟩ := h
  simp at e
  obtain ⟨rfl, _, _⟩ := e
  obtain ⟨b, off, rfl, hcell⟩ := hr (by intro h0; subst h0; simp at hj)
  exact ⟨b, off, rfl, hcell j hj⟩

theorem ops_open {H : Type} {enc : TypeId × Value → H} {W : World} {a : Option Addr} {len cap : Nat} {d : DataW H} {p : List MemPlace}
    (h : DataW.Trod enc Try.prog W 0 (fun _ => true) true 23 (.slice a len cap) d p) :
    ∃ os : List (Int × Int), Ops W (.slice a len cap) os ∧ ∀ x ∈ os, x.2 ≤ 9223372036854775807 := by
  obtain ⟨fuel, hf⟩ := h
  rcases Deep.open_slice_pairs Try.underlying23 Try.underlying28 (by kernel_rfl) rfl rfl (by kernel_rfl) (by kernel_rfl) hf with ⟨hcs, _⟩ | ⟨x, l, c, m, n, V0, V1, D0, D1, P0, P1, hcs, _, hl, hm, hmm, _, hi⟩
  · simp [Value.cells] at hcs
    obtain ⟨rfl, rfl, rfl⟩ := hcs
    exact ⟨[], ⟨none, 0, rfl, Nat.le_refl _, fun h => absurd rfl h⟩, by simp⟩
  · simp [Value.cells] at hcs
    obtain ⟨rfl, rfl, rfl⟩ := hcs
    simp only [if_true] at hmm
    rw [hmm] at hi
    clear hmm
    have each : ∀ i, i < len → ∃ q : Int × Int, W.cell? (x.add (i * 2)) = some (.int .i64 q.1) ∧ W.cell? (x.add (i * 2 + 1)) = some (.int .i64 q.2) ∧ (Lit.int .i64 q.2).wf = true := by
      intro i hlt
      obtain ⟨c0, c1, t0, t1⟩ := hi i (by omega)
      obtain ⟨q0, e0, _, w0⟩ := DataW.trod_int Try.underlying3 t0
      obtain ⟨q1, e1, _, w1⟩ := DataW.trod_int Try.underlying3 t1
      simp at e0 e1
      exact ⟨(q0, q1), by rw [c0, e0], by rw [c1, e1], w1⟩
    obtain ⟨q, hq⟩ := Deep.choose_lt each
    have hget : ∀ j, j < len → ((List.range len).map q).getD j (0, 0) = q j := fun j hj => by
      rw [List.getD_eq_getElem?_getD]; simp [hj]
    refine ⟨(List.range len).map q, ⟨some x, cap, by simp, by simpa using hl, fun hne => ?_⟩, ?_⟩
    · have hp : 0 < len := by
        cases len with
        | zero => simp at hne
        | succ n => omega
      obtain ⟨b, off, spot⟩ := x
      have hspot : spot = none := by simpa [Addr.add] using World.cell?_spot (hq 0 hp).1
      subst hspot
      refine ⟨b, off, rfl, fun j hj => ?_⟩
      have hj' : j < len := by simpa using hj
      rw [hget j hj']
      have h0 := (hq j hj').1
      have h1 := (hq j hj').2.1
      rw [Go.WideShapes.add_plain] at h0 h1
      exact ⟨h0, by rw [Nat.add_assoc]; exact h1⟩
    · intro y hy
      simp only [List.mem_map, List.mem_range] at hy
      obtain ⟨j, hj, rfl⟩ := hy
      have := (hq j hj).2.2
      simp [Lit.wf, IntKind.min, IntKind.max, IntKind.signed, IntKind.bits] at this
      exact this.2

/-- bytes never lie where a cursor's struct lies: so they read the same behind the cursor's call -/
theorem St.past {w0 w w' : World} {R : Nat} {ys : List Int} (h : St w0 w R ys) (ho : Only (fun k => k = R) w w') {u : Value} {xs : List Int} (hu : Bs .u8 w u xs) : Bs .u8 w' u xs := by
  obtain ⟨v, hc, _⟩ := h.cur
  obtain ⟨ao, cap, rfl, hcap, hr⟩ := hu
  refine ⟨ao, cap, rfl, hcap, fun hx => ?_⟩
  obtain ⟨b, off, rfl, hcell⟩ := hr hx
  refine ⟨b, off, rfl, fun j hj => ?_⟩
  have h0 := hcell j hj
  rw [← h0]
  refine World.cell?_of_block (ho.block b (World.block_lt_of_cell? w _ h0) (fun e => ?_))
  subst e
  obtain ⟨ao2, cap2, rfl⟩ := hc.form
  have hcl := hc.cell
  simp only [World.cell?, hcl] at h0
  by_cases hz : off + j = 0
  · rw [hz] at h0
    simp at h0
  · rw [Array.getElem?_eq_none (by simp; omega)] at h0
    simp at h0
end Go.Proofs.Ytdpcmhgmgkelhaa

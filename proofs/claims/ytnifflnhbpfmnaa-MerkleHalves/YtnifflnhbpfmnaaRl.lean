/- A slice of slices of bytes, with its room. -/
import Derived.Test.YtnifflnhbpfmnaaPp
import Derived.Test.YtnifflnhbpfmnaaProg
import Derived.Deep.Matrix
import Derived.OpenShut
namespace Go.Proofs.Ytnifflnhbpfmnaa
open Go.RowKit

/-- the slice v reads as the lists of bytes ls -/
def RL (w : World) (v : Value) (ls : List (List Int)) : Prop :=
  ∃ ao cap, v = .slice ao ls.length cap ∧ ls.length ≤ cap ∧ (ls ≠ [] → ∃ b off, ao = some ⟨b, off, none⟩ ∧ ∀ j, j < ls.length → ∃ u, w.cell? ⟨b, off + j, none⟩ = some u ∧ Bs .u8 w u (ls.getD j []) ∧ NoCap u)
theorem RL.len {w : World} {v : Value} {ls : List (List Int)} (h : RL w v ls) : ∃ ao cap, v = .slice ao ls.length cap ∧ ls.length ≤ cap := by
  obtain ⟨ao, cap, rfl, hc, _⟩ := h
  exact ⟨ao, cap, rfl, hc⟩
/-- one that is not empty -/
theorem RL.form {w : World} {v : Value} {ls : List (List Int)} (h : RL w v ls) {n : Nat} (hn : ls.length = n) (h0 : 0 < n) : ∃ b off cap, v = .slice (some ⟨b, off, none⟩) n cap ∧ n ≤ cap := by
  obtain ⟨ao, cap, rfl, hc, hr⟩ := h
  obtain ⟨b, off, rfl, _⟩ := hr (by intro e; subst e; simp at hn; omega)
  exact ⟨b, off, cap, by rw [hn], by omega⟩
theorem RL.nil (w : World) : RL w (.slice none 0 0) [] := ⟨none, 0, rfl, Nat.le_refl _, fun h => absurd rfl h⟩
theorem RL.at {w : World} {b off m cap : Nat} {ls : List (List Int)} (h : RL w (.slice (some ⟨b, off, none⟩) m cap) ls) (j : Nat) (hj : j < ls.length) :
    ∃ u, w.cell? ⟨b, off + j, none⟩ = some u ∧ Bs .u8 w u (ls.getD j []) ∧ NoCap u := by
  obtain ⟨ao1, cap1, e, _, hr⟩ := h
  simp at e
  obtain ⟨rfl, _, _⟩ := e
  obtain ⟨b', off', e', hc⟩ := hr (by intro h0; subst h0; simp at hj)
  simp at e'
  obtain ⟨rfl, rfl⟩ := e'
  exact hc j hj
theorem RL.past {w w' : World} {v : Value} {ls : List (List Int)} (h : RL w v ls) (o : Only (fun _ => False) w w') : RL w' v ls := by
  obtain ⟨ao, cap, rfl, hc, hr⟩ := h
  refine ⟨ao, cap, rfl, hc, fun hx => ?_⟩
  obtain ⟨b, off, rfl, hcell⟩ := hr hx
  refine ⟨b, off, rfl, fun j hj => ?_⟩
  obtain ⟨u, h1, h2, h3⟩ := hcell j hj
  exact ⟨u, cell_past h1 o, h2.past o, h3⟩
theorem RL.length {w : World} {ao : Option Addr} {m cap : Nat} {ls : List (List Int)} (h : RL w (.slice ao m cap) ls) : m = ls.length := by
  obtain ⟨ao', cap', e, _⟩ := h
  simp at e
  exact e.2.1
theorem RL.room {w : World} {ao : Option Addr} {m cap : Nat} {ls : List (List Int)} (h : RL w (.slice ao m cap) ls) : m ≤ cap := by
  obtain ⟨ao', cap', e, hc, _⟩ := h
  simp at e
  obtain ⟨rfl, rfl, rfl⟩ := e
  exact hc
/-- v[a:b], not empty -/
theorem RL.part {w : World} {b off m cap : Nat} {ls : List (List Int)} (h : RL w (.slice (some ⟨b, off, none⟩) m cap) ls) (lo hi : Nat) (h1 : lo ≤ hi) (h2 : hi ≤ m) :
    RL w (.slice (some ⟨b, off + lo, none⟩) (hi - lo) (cap - lo)) ((ls.drop lo).take (hi - lo)) := by
  have hm := h.length
  have hr := h.room
  have hl : ((ls.drop lo).take (hi - lo)).length = hi - lo := by rw [List.length_take, List.length_drop]; omega
  refine ⟨_, _, by rw [hl], by omega, fun _ => ⟨b, off + lo, rfl, fun j hj => ?_⟩⟩
  rw [hl] at hj
  obtain ⟨u, c1, c2, c3⟩ := h.at (lo + j) (by omega)
  refine ⟨u, by rw [Nat.add_assoc]; exact c1, ?_, c3⟩
  have e : ((ls.drop lo).take (hi - lo)).getD j [] = ls.getD (lo + j) [] := by
    rw [List.getD_eq_getElem?_getD, List.getD_eq_getElem?_getD, List.getElem?_take, if_pos hj, List.getElem?_drop]
  rw [e]; exact c2
theorem RL.head {w : World} {b off m cap : Nat} {ls : List (List Int)} (h : RL w (.slice (some ⟨b, off, none⟩) m cap) ls) (n : Nat) (hn : n ≤ m) : RL w (.slice (some ⟨b, off, none⟩) n cap) (ls.take n) := by
  have := h.part 0 n (Nat.zero_le _) hn
  simpa using this
theorem RL.tail {w : World} {b off m cap : Nat} {ls : List (List Int)} (h : RL w (.slice (some ⟨b, off, none⟩) m cap) ls) (n : Nat) (hn : n ≤ m) : RL w (.slice (some ⟨b, off + n, none⟩) (m - n) (cap - n)) (ls.drop n) := by
  have hm := h.length
  have := h.part n m hn (Nat.le_refl _)
  rw [List.take_of_length_le (by rw [List.length_drop]; omega)] at this
  exact this
/-- bytes, and not too many -/
def R8 (ls : List (List Int)) : Prop := ∀ l ∈ ls, U8 l ∧ l.length ≤ 1000000000
theorem R8.take {ls : List (List Int)} (h : R8 ls) (n : Nat) : R8 (ls.take n) := fun l hl => h l (List.mem_of_mem_take hl)
theorem R8.drop {ls : List (List Int)} (h : R8 ls) (n : Nat) : R8 (ls.drop n) := fun l hl => h l (List.mem_of_mem_drop hl)
theorem R8.at {ls : List (List Int)} (h : R8 ls) (j : Nat) : U8 (ls.getD j []) ∧ (ls.getD j []).length ≤ 1000000000 := by
  rw [List.getD_eq_getElem?_getD]
  cases hj : ls[j]? with
  | none => exact ⟨fun y hy => by simp at hy, by simp⟩
  | some l => exact h l (List.mem_of_getElem? hj)
theorem RL.of_own {w : World} {lo : Nat} {v : Value} {vs : List Value} {ls : List (List Int)} (h : w.ownsRow lo 22 1 v ls.length vs) (hv : ∀ j u, vs[j]? = some u → Bs .u8 w u (ls.getD j []) ∧ NoCap u) : RL w v ls := by
  rcases h.2 with ⟨rfl, h0⟩ | ⟨g, cap, cur, rfl, _, _, hc, _⟩
  · have : ls = [] := List.eq_nil_of_length_eq_zero h0
    subst this
    exact RL.nil w
  · refine ⟨_, cap, rfl, hc, fun _ => ⟨g, 0, rfl, fun j hj => ?_⟩⟩
    have hl := h.1
    have hj' : j < vs.length := by omega
    refine ⟨vs[j], ?_, hv j _ (List.getElem?_eq_getElem hj')⟩
    rw [Nat.zero_add, h.cellAt j (by omega), List.getElem?_eq_getElem hj']

theorem rl_open {H : Type} {enc : TypeId × Value → H} {W : World} {a : Option Addr} {len cap : Nat} {d : DataW H} {p : List MemPlace}
    (h : DataW.Trod enc Try.prog W 0 (fun _ => true) true 23 (.slice a len cap) d p) :
    ∃ ls : List (List Int), RL W (.slice a len cap) ls ∧ NoCap (.slice a len cap) ∧ ∀ l ∈ ls, U8 l := by
  obtain ⟨fuel, hf⟩ := h
  rcases Deep.open_int_rows Try.underlying23 Try.underlying22 Try.underlying5 (by kernel_rfl) (by kernel_rfl) hf with ⟨hcs, _⟩ | ⟨x, l, c, A, L, C, Z, hcs, _, hl, _, _, hall⟩
  · simp [Value.cells] at hcs
    obtain ⟨rfl, rfl, rfl⟩ := hcs
    exact ⟨[], RL.nil W, NoCap.nil, by simp⟩
  · simp [Value.cells] at hcs
    obtain ⟨rfl, rfl, rfl⟩ := hcs
    have hget : ∀ j, j < len → ((List.range len).map fun r => (Z r).take (L r)).getD j [] = (Z j).take (L j) := fun j hj => by
      rw [List.getD_eq_getElem?_getD]; simp [hj]
    refine ⟨(List.range len).map fun r => (Z r).take (L r), ⟨some x, cap, by simp, by simpa using hl, fun hne => ?_⟩, NoCap.some _ _ _, ?_⟩
    · have hp : 0 < len := by
        cases len with
        | zero => simp at hne
        | succ n => omega
      obtain ⟨b, off, spot⟩ := x
      have hspot : spot = none := by simpa [Addr.add] using World.cell?_spot (hall 0 (by omega)).1
      subst hspot
      refine ⟨b, off, rfl, fun j hj => ?_⟩
      have hj' : j < len := by simpa using hj
      rw [hget j hj']
      obtain ⟨h0, h1, _, h3, _, h5, h6⟩ := hall j (by omega)
      rw [Go.WideShapes.add_plain] at h0
      refine ⟨_, h0, ?_, ?_⟩
      · cases hA : A j with
        | none =>
          have hc0 := h5 hA
          have hz : Z j = [] := List.eq_nil_of_length_eq_zero (by omega)
          have hl0 : L j = 0 := by omega
          rw [hz, hl0, hc0]
          exact Bs.nil _ _
        | some a' =>
          refine Bs.of_take h1 h3 (fun i hi => ?_)
          exact (h6 a' hA).2 i (by omega)
      · intro m c e
        simp at e
        have := h5 e.1
        omega
    · intro y hy z hz
      simp only [List.mem_map, List.mem_range] at hy
      obtain ⟨j, hj, rfl⟩ := hy
      have := (hall j (by omega)).2.2.2.2.1 z (List.mem_of_mem_take hz)
      simpa [Lit.wf, IntKind.min, IntKind.max, IntKind.signed, IntKind.bits] using this
end Go.Proofs.Ytnifflnhbpfmnaa

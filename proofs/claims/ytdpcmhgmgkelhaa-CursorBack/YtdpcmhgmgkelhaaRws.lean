/- A slice of slices of bytes that came in, as the walks are told of it; what Fix and Block write is read back. -/
import Derived.Test.YtdpcmhgmgkelhaaCutW
import Derived.Deep.Matrix
import Derived.OpenShut
namespace Go.Proofs.Ytdpcmhgmgkelhaa
open Go.RowKit

/-- the slice v reads as the lists of bytes ls -/
def Rws (w : World) (v : Value) (ls : List (List Int)) : Prop :=
  ∃ ao cap, v = .slice ao ls.length cap ∧ (ls ≠ [] → ∃ b off, ao = some ⟨b, off, none⟩ ∧ ∀ j, j < ls.length → ∃ u, w.cell? ⟨b, off + j, none⟩ = some u ∧ Bs .u8 w u (ls.getD j []) ∧ NoCap u)
theorem Rws.len {w : World} {v : Value} {ls : List (List Int)} (h : Rws w v ls) : ∃ ao cap, v = .slice ao ls.length cap := by
  obtain ⟨ao, cap, rfl, _⟩ := h
  exact ⟨ao, cap, rfl⟩
theorem Rws.at {w : World} {ao : Option Addr} {m cap : Nat} {ls : List (List Int)} (h : Rws w (.slice ao m cap) ls) (j : Nat) (hj : j < ls.length) :
    ∃ b off ao' cap', ao = some ⟨b, off, none⟩ ∧ w.cell? ⟨b, off + j, none⟩ = some (.slice ao' (ls.getD j []).length cap') ∧ Bs .u8 w (.slice ao' (ls.getD j []).length cap') (ls.getD j []) ∧ NoCap (.slice ao' (ls.getD j []).length cap') := by
  obtain ⟨ao1, cap1, e, hr⟩ := h
  simp at e
  obtain ⟨rfl, _, _⟩ := e
  obtain ⟨b, off, rfl, hc⟩ := hr (by intro h0; subst h0; simp at hj)
  obtain ⟨u, h1, h2, h3⟩ := hc j hj
  obtain ⟨ao', cap', rfl⟩ := h2.len
  exact ⟨b, off, ao', cap', rfl, h1, h2, h3⟩

theorem rows_open {H : Type} {enc : TypeId × Value → H} {W : World} {a : Option Addr} {len cap : Nat} {d : DataW H} {p : List MemPlace}
    (h : DataW.Trod enc Try.prog W 0 (fun _ => true) true 52 (.slice a len cap) d p) :
    ∃ ls : List (List Int), Rws W (.slice a len cap) ls ∧ ∀ l ∈ ls, ∀ y ∈ l, 0 ≤ y ∧ y ≤ 255 := by
  obtain ⟨fuel, hf⟩ := h
  rcases Deep.open_int_rows Try.underlying52 Try.underlying22 Try.underlying5 (by kernel_rfl) (by kernel_rfl) hf with ⟨hcs, _⟩ | ⟨x, l, c, A, L, C, Z, hcs, _, hl, _, _, hall⟩
  · simp [Value.cells] at hcs
    obtain ⟨rfl, rfl, rfl⟩ := hcs
    exact ⟨[], ⟨none, 0, rfl, fun h => absurd rfl h⟩, by simp⟩
  · simp [Value.cells] at hcs
    obtain ⟨rfl, rfl, rfl⟩ := hcs
    have hget : ∀ j, j < len → ((List.range len).map fun r => (Z r).take (L r)).getD j [] = (Z j).take (L j) := fun j hj => by
      rw [List.getD_eq_getElem?_getD]; simp [hj]
    refine ⟨(List.range len).map fun r => (Z r).take (L r), ⟨some x, cap, by simp, fun hne => ?_⟩, ?_⟩
    · have hp : 0 < len := by
        cases len with
        | zero => simp at hne
        | succ n => omega
      obtain ⟨b, off, spot⟩ := x
      have hspot : spot = none := by simpa [Addr.add] using World.cell?_spot (hall 0 (by omega)).1
      subst hspot
      refine ⟨b, off, rfl, fun j hj => ?_⟩
      have hj' : j < len := by simpa using hj
      rw [hget j hj']
      obtain ⟨h0, h1, _, h3, _, h5, h6⟩ := hall j (by omega)
      rw [Go.WideShapes.add_plain] at h0
      refine ⟨_, h0, ?_, ?_⟩
      · cases hA : A j with
        | none =>
          have hc0 := h5 hA
          have hz : Z j = [] := List.eq_nil_of_length_eq_zero (by omega)
          have hl0 : L j = 0 := by omega
          rw [hz, hl0, hc0]
          exact Bs.nil _ _
        | some a' =>
          refine Bs.of_take h1 h3 (fun i hi => ?_)
          exact (h6 a' hA).2 i (by omega)
      · intro m c e
        simp at e
        have := h5 e.1
        omega
    · intro y hy z hz
      simp only [List.mem_map, List.mem_range] at hy
      obtain ⟨j, hj, rfl⟩ := hy
      have := (hall j (by omega)).2.2.2.2.1 z (List.mem_of_mem_take hz)
      simpa [Lit.wf, IntKind.min, IntKind.max, IntKind.signed, IntKind.bits] using this

theorem fixB_next (v : Int) (i : Nat) : fixB (v / 256) i = fixB v (i + 1) := by
  unfold fixB
  rw [Int.ediv_ediv_of_nonneg (by omega), show 8 * (i + 1) = 8 + 8 * i by omega, Int.pow_add]
  rfl
theorem fixL_next (v : Int) (n : Nat) : fixL v (n + 1) = fixL (v / 256) n ++ [fixB v 0] := by
  unfold fixL
  rw [List.range_succ, List.map_append, List.map_singleton]
  congr 1
  · apply List.map_congr_left
    intro j hj
    rw [List.mem_range] at hj
    rw [fixB_next]
    congr 1
    omega
  · simp
theorem num_fix (n : Nat) : ∀ v : Int, 0 ≤ v → (num (fixL v n) : Int) = v % ((256 ^ n : Nat) : Int) := by
  induction n with
  | zero => intro v _; simp [fixL, num]
  | succ n ih =>
    intro v hv
    have h0 := fixB_range v 0
    rw [fixL_next, num_snoc, Int.natCast_add, Int.natCast_mul, ih (v / 256) (by omega), Int.toNat_of_nonneg h0.1]
    obtain ⟨m, rfl⟩ := Int.eq_ofNat_of_zero_le hv
    have e1 : fixB (m : Int) 0 = ((m % 256 : Nat) : Int) := by simp [fixB]
    have e2 : ((m : Int) / 256) = ((m / 256 : Nat) : Int) := by omega
    rw [e1, e2, Nat.pow_succ, Nat.mul_comm (256 ^ n) 256, ← Int.natCast_emod, ← Int.natCast_emod, Nat.mod_mul]
    omega
theorem fix_back (v : Int) (t : List Int) (h0 : 0 ≤ v) (h1 : v ≤ 18446744073709551615) : sFixed 8 (fixL v 8 ++ t) = (v, 8, 0) := by
  unfold sFixed
  rw [if_neg (by omega), if_neg (by rw [List.length_append, fixL_len]; omega)]
  rw [show (8 : Int).toNat = 8 from rfl, List.take_left' (fixL_len v 8), num_fix 8 v h0]
  have e : ((256 ^ 8 : Nat) : Int) = 18446744073709551616 := by decide
  rw [e]
  congr 1
  omega
/-- the blocks of lists, one behind the other -/
def blks (ls : List (List Int)) : List Int := ls.flatMap blk
theorem getD_of_lt (ls : List (List Int)) (k : Nat) (h : k < ls.length) : ls.getD k [] = ls[k] := by
  rw [List.getD_eq_getElem?_getD, List.getElem?_eq_getElem h]; rfl
theorem blks_take (ls : List (List Int)) (k : Nat) (h : k < ls.length) : blks (ls.take (k + 1)) = blks (ls.take k) ++ blk (ls.getD k []) := by
  rw [List.take_succ_eq_append_getElem h, getD_of_lt ls k h]
  unfold blks
  rw [List.flatMap_append, List.flatMap_singleton]
theorem blks_drop (ls : List (List Int)) (k : Nat) (h : k < ls.length) : blks (ls.drop k) = blk (ls.getD k []) ++ blks (ls.drop (k + 1)) := by
  rw [List.drop_eq_getElem_cons h, getD_of_lt ls k h]
  rfl
theorem blks_range (ls : List (List Int)) (hr : ∀ l ∈ ls, ∀ y ∈ l, 0 ≤ y ∧ y ≤ 255) : ∀ y ∈ blks ls, 0 ≤ y ∧ y ≤ 255 := by
  intro y hy
  simp only [blks, List.mem_flatMap] at hy
  obtain ⟨l, hl, hy⟩ := hy
  exact blk_range l (hr l hl) y hy
end Go.Proofs.Ytdpcmhgmgkelhaa

/- A slice of numbers with widths, as the walks are told of it; what a script of them writes. -/
import Derived.Test.YtgnaeajfajineaaBMath3
namespace Go.Proofs.Ytgnaeajfajineaa
open Go.RowKit


def Its (w : World) (v : Value) (its : List (Int × Int)) : Prop :=
  ∃ ao cap, v = .slice ao its.length cap ∧ its.length ≤ cap ∧ (its ≠ [] → ∃ b off, ao = some ⟨b, off, none⟩ ∧ ∀ j, j < its.length →
    w.cell? ⟨b, off + j * 2, none⟩ = some (.int .u64 (its.getD j (0, 0)).1) ∧ w.cell? ⟨b, off + j * 2 + 1, none⟩ = some (.int .i64 (its.getD j (0, 0)).2))
theorem Its.at {w : World} {v : Value} {its : List (Int × Int)} (h : Its w v its) (j : Nat) (hj : j < its.length) : ∃ b off cap, v = .slice (some ⟨b, off, none⟩) its.length cap ∧ b < w.heap.size ∧
    w.cell? ⟨b, off + j * 2, none⟩ = some (.int .u64 (its.getD j (0, 0)).1) ∧ w.cell? ⟨b, off + j * 2 + 1, none⟩ = some (.int .i64 (its.getD j (0, 0)).2) := by
  obtain ⟨ao, cap, rfl, hc, hr⟩ := h
  obtain ⟨b, off, rfl, hcell⟩ := hr (by intro h0; subst h0; simp at hj)
  exact ⟨b, off, cap, rfl, World.block_lt_of_cell? w _ (hcell j hj).1, hcell j hj⟩

/-- the bits of one number with its width; none where it is refused -/
def fits (x : Int × Int) : Prop := 0 ≤ x.2 ∧ x.2 ≤ 64 ∧ (wid x.1.toNat : Int) ≤ x.2
def pb (x : Int × Int) : List Bool := if 0 ≤ x.2 ∧ x.2 ≤ 64 ∧ (wid x.1.toNat : Int) ≤ x.2 then bitsOf x.1.toNat x.2.toNat else []
def allP (its : List (Int × Int)) : List Bool := its.flatMap pb
theorem allP_take (its : List (Int × Int)) (k : Nat) (h : k < its.length) : allP (its.take (k + 1)) = allP (its.take k) ++ pb (its.getD k (0, 0)) := by
  rw [List.take_succ_eq_append_getElem h, List.getD_eq_getElem?_getD, List.getElem?_eq_getElem h]
  unfold allP
  rw [List.flatMap_append, List.flatMap_singleton]; rfl
theorem pb_length (x : Int × Int) : (pb x).length ≤ 64 := by
  unfold pb
  split
  · rw [bitsOf_length]; omega
  · simp
theorem allP_length (its : List (Int × Int)) : (allP its).length ≤ 64 * its.length := by
  induction its with
  | nil => simp [allP]
  | cons a t ih =>
    have := pb_length a
    simp only [allP, List.flatMap_cons, List.length_append, List.length_cons] at ih ⊢
    omega

/-- PUT, whatever the number and the width: its bits, or nothing and ErrArg. -/
theorem put_any {w : World} {lo B : Nat} {v : Value} {l : List Bool} (h : WrAt 43 5 w lo B v l) (x width : Int) (x0 : 0 ≤ x) (x1 : x ≤ 18446744073709551615) (hl : l.length ≤ 1000000000) :
    Calls Try.prog 19 #[.pointer (some ⟨B, 0, none⟩), .int .u64 x, .int .i64 width] w fun e w' => ∃ z, e = .returned (.int .i64 z) ∧ Hid (z = if 0 ≤ width ∧ width ≤ 64 ∧ (wid x.toNat : Int) ≤ width then 0 else 1) ∧
      ∃ v', WrAt 43 5 w' lo B v' (l ++ pb (x, width)) ∧ Only (Foot B v) w w' ∧ Stays w v v' := by
  by_cases hf : 0 ≤ width ∧ width ≤ 64 ∧ (wid x.toNat : Int) ≤ width
  · refine (put_wr h x width hf.1 hf.2.1 x0 x1 hf.2.2 hl).mono ?_
    rintro e w' ⟨rfl, v', h1, h2, h3⟩
    refine ⟨0, rfl, by simp only [Hid]; rw [if_pos hf], v', ?_, h2, h3⟩
    have e : pb (x, width) = bitsOf x.toNat width.toNat := by unfold pb; rw [if_pos hf]
    rw [e]; exact h1
  · have e : pb (x, width) = [] := by unfold pb; rw [if_neg hf]
    rw [if_neg hf, e, List.append_nil]
    by_cases hw : width < 0 ∨ 64 < width
    · refine (put_width B x width w hw).mono ?_
      rintro e w' ⟨rfl, rfl⟩
      exact ⟨1, rfl, rfl, v, h, Only.refl _ _, Stays.refl _ _⟩
    · refine (put_big B x width w (by omega) (by omega) x0 x1 (by omega)).mono ?_
      rintro e w' ⟨rfl, rfl⟩
      exact ⟨1, rfl, rfl, v, h, Only.refl _ _, Stays.refl _ _⟩


theorem allP_split (its : List (Int × Int)) (k : Nat) : allP its = allP (its.take k) ++ allP (its.drop k) := by
  unfold allP
  rw [← List.flatMap_append, List.take_append_drop]
theorem back_split (its : List (Int × Int)) (j : Nat) (x y : Int) (hxy : allP (its.take (j + 1)) = allP (its.take j) ++ pb (x, y)) : allP its = allP (its.take j) ++ (pb (x, y) ++ allP (its.drop (j + 1))) := by
  rw [allP_split its (j + 1), hxy, List.append_assoc]
theorem back_num (its : List (Int × Int)) (j : Nat) (x y : Int) (hxy : allP (its.take (j + 1)) = allP (its.take j) ++ pb (x, y)) (hp : pb (x, y) = bitsOf x.toNat y.toNat) (x0 : 0 ≤ x) (hw : (wid x.toNat : Int) ≤ y) :
    (bnum (((allBits (bytesI (allP its))).drop (allP (its.take j)).length).take y.toNat) : Int) = x ∧ ((allP (its.take j)).length : Int) + y ≤ 8 * ((bytesI (allP its)).length : Int) := by
  have hs := back_split its j x y hxy
  have hl : (allP its).length ≤ 8 * nb (allP its) := by unfold nb; omega
  have hy : 0 ≤ y := by omega
  have hlen : (allP its).length = (allP (its.take j)).length + (y.toNat + (allP (its.drop (j + 1))).length) := by
    have e := congrArg List.length hs
    rw [List.length_append, List.length_append, hp, bitsOf_length] at e
    exact e
  refine ⟨?_, by rw [bytesI_length]; omega⟩
  have e : ((allBits (bytesI (allP its))).drop (allP (its.take j)).length).take y.toNat = bitsOf x.toNat y.toNat := by
    rw [bits_back]
    generalize List.replicate (8 * nb (allP its) - (allP its).length) false = z
    rw [hs, hp, List.append_assoc, List.drop_left, List.append_assoc, List.take_append_of_le_length (by rw [bitsOf_length]; omega), List.take_of_length_le (by rw [bitsOf_length]; omega)]
  rw [e, num_bitsOf, Nat.mod_eq_of_lt ((wid_le_iff _ _).1 (by omega))]
  omega
theorem back_end (l : List Bool) : bendV ((allBits (bytesI l)).drop l.length) = 0 := by
  rw [bits_back, List.drop_left]
  unfold bendV
  rw [if_neg]
  intro h
  rcases h with h | h
  · rw [List.length_replicate] at h; unfold nb at h; omega
  · have := List.eq_of_mem_replicate h; simp at this

theorem width_q (v : Int) (w : World) (h0 : 0 ≤ v) (h1 : v ≤ 18446744073709551615) :
    Calls Try.prog 37 #[.int .u64 v] w fun e w' => e = .returned (.int .i64 (wid v.toNat)) ∧ w' = w :=
  (width_any v w h0 h1).mono fun _ _ ⟨a, b⟩ => ⟨a, b.symm⟩
end Go.Proofs.Ytgnaeajfajineaa

/- The reference's Same of any two slices of bytes: whether they are the same; nothing is written. -/
import Derived.Test.YtnifflnhbpfmnaaSame
namespace Go.Proofs.Ytnifflnhbpfmnaa
open Go.RowKit

set_option maxHeartbeats 400000 in
set_option maxRecDepth 100000 in
theorem same_len (va vb : Value) (xs ys : List Int) (w : World) (ha : Bs .u8 w va xs) (hb : Bs .u8 w vb ys) (h : xs.length ≠ ys.length) :
    Calls Try.prog 30 #[va, vb] w fun e w' => e = .returned (.bool false) ∧ Only (fun _ => False) w w' := by
  obtain ⟨aoa, ca, rfl⟩ := ha.len
  obtain ⟨aob, cb, rfl⟩ := hb.len
  have hbn : ((xs.length : Int) != (ys.length : Int)) = true := by simp; omega
  clear ha hb h
  generalize xs.length = n at *
  generalize ys.length = m at *
  go_enter Try.func30, Try.ntmps30
  go_wp2
  go_ret
  exact ⟨rfl, Only.refl _ _⟩

set_option maxHeartbeats 400000 in
set_option maxRecDepth 100000 in
/-- as many, and one differs -/
theorem same_ne (va vb : Value) (xs ys : List Int) (w : World) (ha : Bs .u8 w va xs) (hb : Bs .u8 w vb ys) (hlen : ys.length = xs.length) (hl : xs.length ≤ 140737488355328) (hne : xs ≠ ys) :
    Calls Try.prog 30 #[va, vb] w fun e w' => e = .returned (.bool false) ∧ Only (fun _ => False) w w' := by
  obtain ⟨aoa, ca, rfl, hca, hra⟩ := ha
  obtain ⟨aob, cb, rfl, hcb, hrb⟩ := hb
  have hx : xs ≠ [] := by
    intro h0; subst h0
    exact hne (List.eq_nil_of_length_eq_zero hlen).symm
  have hy : ys ≠ [] := by
    intro h0; subst h0
    exact hx (List.eq_nil_of_length_eq_zero hlen.symm)
  obtain ⟨ba, oa, rfl, hcella⟩ := hra hx
  obtain ⟨bb, ob, rfl, hcellb⟩ := hrb hy
  have HD : Hid (¬ ∀ j, j < xs.length → xs.getD j 0 = ys.getD j 0) := by
    intro h
    apply hne
    apply List.ext_getElem hlen.symm
    intro i h1 h2
    have := h i h1
    rw [List.getD_eq_getElem?_getD, List.getD_eq_getElem?_getD, List.getElem?_eq_getElem h1, List.getElem?_eq_getElem h2] at this
    exact this
  rw [hlen] at hcb hcellb ⊢
  have hbn : ((xs.length : Int) != (xs.length : Int)) = false := by simp
  clear hra hrb hx hy hne hlen
  obtain ⟨n, hn⟩ : ∃ n, n = xs.length := ⟨_, rfl⟩
  rw [← hn] at hbn hca hcb hcella hcellb hl HD ⊢
  have HA : Hid (∀ j, j < n → w.cell? ⟨ba, oa + j, none⟩ = some (.int .u8 (xs.getD j 0))) := hcella
  have HB : Hid (∀ j, j < n → w.cell? ⟨bb, ob + j, none⟩ = some (.int .u8 (ys.getD j 0))) := hcellb
  clear hcella hcellb hn
  go_enter Try.func30, Try.ntmps30
  go_wp2
  go_loopw [5] (fun i wr => ∃ k : Nat, k ≤ n ∧ i = .int .i64 k ∧ Only (fun _ => False) w wr ∧ ∀ j, j < k → xs.getD j 0 = ys.getD j 0) (fun i _ => n - (intOf i).toNat)
  case atStart => exact ⟨0, Nat.zero_le _, rfl, Only.refl _ _, fun j hj => absurd hj (by omega)⟩
  case round =>
    obtain ⟨k, hk, rfl, hon, hall⟩ := hrel
    have HALL := hideIt hall
    clear hall
    by_cases hlt : k < n
    · obtain ⟨y, hy⟩ : ∃ y, y = xs.getD k 0 := ⟨_, rfl⟩
      obtain ⟨z, hz⟩ : ∃ z, z = ys.getD k 0 := ⟨_, rfl⟩
      have h1 : wr.cell? ⟨ba, oa + k, none⟩ = some (.int .u8 y) := by
        have := HA.out k hlt
        rw [World.cell?_of_block (hon.block ba (World.block_lt_of_cell? w _ this) (fun f => f)), hy]; exact this
      have h2 : wr.cell? ⟨bb, ob + k, none⟩ = some (.int .u8 z) := by
        have := HB.out k hlt
        rw [World.cell?_of_block (hon.block bb (World.block_lt_of_cell? w _ this) (fun f => f)), hz]; exact this
      have i0 : (0 : Int) ≤ (k : Int) := by omega
      have i1 : (k : Int) < (n : Int) := by omega
      by_cases hyz : y = z
      · have HE := hideIt (show xs.getD k 0 = ys.getD k 0 by rw [← hy, ← hz]; exact hyz)
        subst hyz
        have hy1 : (y != y) = false := by simp
        clear hy hz
        go_wp2
        go_quiet (fail)
        go_wp2
        go_roundw
        case rel => exact ⟨k + 1, by omega, by go_num, hon.drewN nq, fun j hj => by
          rcases Nat.lt_or_ge j k with h | h
          · exact HALL.out j h
          · rw [show j = k by omega]; exact HE.out⟩
        case measure => simp [intOf]; omega
      · have hy1 : (y != z) = true := by simpa using hyz
        clear hy hz hyz
        go_wp2
        go_quiet (fail)
        go_wp2
        go_ret
        exact ⟨rfl, hon.drewN nq⟩
    · exact absurd (fun j hj => HALL.out j (by omega)) HD.out

theorem same_any (va vb : Value) (xs ys : List Int) (w : World) (ha : Bs .u8 w va xs) (hb : Bs .u8 w vb ys) (hl : xs.length ≤ 140737488355328) :
    Calls Try.prog 30 #[va, vb] w fun e w' => e = .returned (.bool (decide (xs = ys))) ∧ Only (fun _ => False) w w' := by
  by_cases h : xs = ys
  · subst h
    rw [decide_eq_true rfl]
    exact same_eq va vb xs w ha hb hl
  · rw [decide_eq_false h]
    by_cases hlen : ys.length = xs.length
    · exact same_ne va vb xs ys w ha hb hlen hl h
    · exact same_len va vb xs ys w ha hb (fun e => hlen e.symm)
end Go.Proofs.Ytnifflnhbpfmnaa

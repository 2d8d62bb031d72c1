/- Contract of the reference's Same: equal bytes are the same. -/
import Derived.Test.YtnifflnhbpfmnaaProg
import Derived.Test.YtnifflnhbpfmnaaBase
namespace Go.Proofs.Ytnifflnhbpfmnaa
open Go.RowKit

set_option maxHeartbeats 400000 in
set_option maxRecDepth 100000 in
/-- EQUAL BYTES ARE THE SAME. -/
theorem same_eq (va vb : Value) (xs : List Int) (w : World) (ha : Bs .u8 w va xs) (hb : Bs .u8 w vb xs) (hl : xs.length ≤ 140737488355328) :
    Calls Try.prog 30 #[va, vb] w fun e w' => e = .returned (.bool true) ∧ Only (fun _ => False) w w' := by
  obtain ⟨aoa, ca, rfl, hca, hra⟩ := ha
  obtain ⟨aob, cb, rfl, hcb, hrb⟩ := hb
  have hbn : ((xs.length : Int) != (xs.length : Int)) = false := by simp
  by_cases hx : xs = []
  · subst hx
    clear hra hrb
    simp only [List.length_nil]
    go_enter Try.func30, Try.ntmps30
    go_wp2
    go_loop [5] (fun i => i = .int .i64 0) (fun _ => 0)
    case atStart => rfl
    case round =>
      subst hrel
      go_wp2
      go_ret
      exact ⟨rfl, Only.refl _ _⟩
  · obtain ⟨ba, oa, rfl, hcella⟩ := hra hx
    obtain ⟨bb, ob, rfl, hcellb⟩ := hrb hx
    clear hra hrb hx
    obtain ⟨n, hn⟩ : ∃ n, n = xs.length := ⟨_, rfl⟩
    rw [← hn] at hbn hca hcb hcella hcellb hl ⊢
    have HA : Hid (∀ j, j < n → w.cell? ⟨ba, oa + j, none⟩ = some (.int .u8 (xs.getD j 0))) := hcella
    have HB : Hid (∀ j, j < n → w.cell? ⟨bb, ob + j, none⟩ = some (.int .u8 (xs.getD j 0))) := hcellb
    clear hcella hcellb hn
    go_enter Try.func30, Try.ntmps30
    go_wp2
    go_loopw [5] (fun i wr => ∃ k : Nat, k ≤ n ∧ i = .int .i64 k ∧ Only (fun _ => False) w wr) (fun i _ => n - (intOf i).toNat)
    case atStart => exact ⟨0, Nat.zero_le _, rfl, Only.refl _ _⟩
    case round =>
      obtain ⟨k, hk, rfl, hon⟩ := hrel
      by_cases hlt : k < n
      · obtain ⟨y, hy⟩ : ∃ y, y = xs.getD k 0 := ⟨_, rfl⟩
        have h1 : wr.cell? ⟨ba, oa + k, none⟩ = some (.int .u8 y) := by
          have := HA.out k hlt
          rw [World.cell?_of_block (hon.block ba (World.block_lt_of_cell? w _ this) (fun f => f)), hy]; exact this
        have h2 : wr.cell? ⟨bb, ob + k, none⟩ = some (.int .u8 y) := by
          have := HB.out k hlt
          rw [World.cell?_of_block (hon.block bb (World.block_lt_of_cell? w _ this) (fun f => f)), hy]; exact this
        have i0 : (0 : Int) ≤ (k : Int) := by omega
        have i1 : (k : Int) < (n : Int) := by omega
        have hy1 : (y != y) = false := by simp
        clear hy
        go_wp2
        go_quiet (fail)
        go_wp2
        go_roundw
        case rel => exact ⟨k + 1, by omega, by go_num, hon.drewN nq⟩
        case measure => simp [intOf]; omega
      · go_wp2
        go_ret
        exact ⟨rfl, hon⟩
end Go.Proofs.Ytnifflnhbpfmnaa

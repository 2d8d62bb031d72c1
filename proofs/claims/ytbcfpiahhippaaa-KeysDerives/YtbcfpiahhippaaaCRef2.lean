/- Contracts of the reference for cursors: Fixed, Varint, Block, Fix, Blocked. -/
import Derived.Test.YtbcfpiahhippaaaCRef
namespace Go.Proofs.Ytbcfpiahhippaaa
open Go.RowKit

theorem sVarint_rd (ys : List Int) (hr : ∀ y ∈ ys, 0 ≤ y ∧ y ≤ 255) {a : Int} {k : Nat} {c : Int} (hs : sVarint ys = (a, k, c)) : rd 0 0 ys = (a, (k : Int), c) ∧ k ≤ ys.length := by
  rcases rd_cases ys hr with ⟨c', h, hc⟩ | ⟨a', k', h, h1, h2, _, h4, _⟩
  · rw [sVarint, h] at hs
    simp only [Prod.mk.injEq] at hs
    obtain ⟨rfl, rfl, rfl⟩ := hs
    exact ⟨h, by simp⟩
  · rw [sVarint, h] at hs
    simp only [Prod.mk.injEq, Int.toNat_natCast] at hs
    obtain ⟨rfl, rfl, rfl⟩ := hs
    exact ⟨h, h2⟩
theorem num_add (zs : List Int) (k : Nat) (hr : ∀ y ∈ zs, 0 ≤ y ∧ y ≤ 255) (h8 : zs.length ≤ 8) (h : k < zs.length) :
    (num (zs.take k) : Int) < 72057594037927936 ∧ (num (zs.take k) : Int) * 256 + zs.getD k 0 = (num (zs.take (k + 1)) : Int) := by
  have hl := num_lt (zs.take k) (fun y hy => hr y (List.mem_of_mem_take hy))
  rw [List.length_take, Nat.min_eq_left (by omega)] at hl
  have hp := pow256 (k := k) (by omega)
  have hy := hr (zs.getD k 0) (getD_mem zs k h)
  rw [take_snoc zs k h, num_snoc]
  refine ⟨by omega, ?_⟩
  generalize zs.getD k 0 = y at hy
  omega

set_option maxHeartbeats 400000 in
set_option maxRecDepth 100000 in
theorem rfix_none (v n : Int) (w : World) (h : n < 0 ∨ 8 < n) : Calls Try.prog 27 #[.int .u64 v, .int .i64 n] w fun e w' => e = .returned (.slice none 0 0) ∧ w = w' := by
  by_cases h0 : n < 0
  · clear h
    go_enter Try.func27, Try.ntmps27
    go_wp2
    go_ret
    exact ⟨rfl, rfl⟩
  · have h8 : 8 < n := by omega
    have d0 : decide (n < 0) = false := decide_eq_false h0
    clear h
    go_enter Try.func27, Try.ntmps27
    go_wp2
    go_ret
    exact ⟨rfl, rfl⟩

theorem fixL_take (v : Int) (n k : Nat) (h : k < n) : (fixL v n).take (k + 1) = (fixL v n).take k ++ [fixB v (n - 1 - k)] := by
  rw [take_snoc (fixL v n) k (by rw [fixL_len]; exact h)]
  congr 2
  rw [List.getD_eq_getElem?_getD]
  simp [fixL, h]

set_option maxHeartbeats 400000 in
set_option maxRecDepth 100000 in
theorem rfix_any (v : Int) (n : Nat) (w : World) (h : n ≤ 8) :
    Calls Try.prog 27 #[.int .u64 v, .int .i64 n] w fun e w' => ∃ u, e = .returned u ∧ w'.ownsRow w.heap.size 5 1 u (fixL v n).length ((fixL v n).map (Value.int .u8)) ∧ Only (fun _ => False) w w' := by
  obtain ⟨i0, hi, hz0, hz1, hz2⟩ := info_parts Try.infoU8
  have d0 : decide ((n : Int) < 0) = false := by simp
  have d8 : decide (8 < (n : Int)) = false := decide_eq_false (by omega)
  go_enter Try.func27, Try.ntmps27
  go_wp2
  go_loopw [5, 6] (fun o i wr => ∃ k : Nat, k ≤ n ∧ i = .int .i64 ((n : Int) - 1 - k) ∧ wr.ownsRow w.heap.size 5 1 o k (((fixL v n).map (Value.int .u8)).take k) ∧ Below w.heap.size w wr) (fun _ i _ => (intOf i + 1).toNat)
  case atStart => exact ⟨0, Nat.zero_le _, by go_num, World.ownsRow_nil _ _ _ _, Below.refl _ _⟩
  case round =>
    obtain ⟨k, hk, rfl, hown, hbel⟩ := hrel
    have hsz := hbel.size
    by_cases hlt : k < n
    · have dk : decide (0 ≤ (n : Int) - 1 - (k : Int)) = true := decide_eq_true (by omega)
      obtain ⟨j, hj⟩ : ∃ j : Nat, j = n - 1 - k := ⟨_, rfl⟩
      have ej : ((n : Int) - 1 - k) = (j : Int) := by omega
      have HJ := hideIt hj
      rw [ej] at dk
      rw [ej]
      have hj7 : j ≤ 7 := by omega
      clear hj ej hk
      go_wp2_with (at_builtin; refine wpList_append_lies _ rfl _ _ _ rfl w.heap.size 5 i0 (.int .u8 0) 1 1 Try.underlying22 hi hz0 hz1 hz2 rfl (by omega) _ k (((fixL v n).map (Value.int .u8)).take k) rfl (hown.alloc _) ⟨wr.heap.size, 0, none⟩ 1 1 [.int .u8 (v / 2 ^ (8 * j) % 256)] rfl rfl ?c1 ?c2 (by omega) ?c3 ?c4 ?c5 (wr.heap.size + 1) (by simp) ?_)
      case c1 => exact cell_one_new _ _ _
      case c2 => intro u hu; simp at hu; subst hu; rfl
      case c3 => unfold maxLen; omega
      case c4 => omega
      case c5 => simp; omega
      intro g cap1 w1 hown1 hgrow hat hg1
      have hb1 : Below w.heap.size w w1 := (hbel.alloc hbel.size _).grown hgrow (by simp; omega) (fun q hq => (hown.lt q hq).1)
      have hown2 : w1.ownsRow w.heap.size 5 1 (.slice (some ⟨g, 0, none⟩) (k + 1) cap1) (k + 1) (((fixL v n).map (Value.int .u8)).take (k + 1)) := by
        rw [← List.map_take, fixL_take v n k hlt, ← HJ.out, List.map_append, List.map_take]; exact hown1
      clear hown hown1 hgrow hat hbel
      go_wp2
      go_roundw
      case rel => exact ⟨k + 1, by omega, by have := HJ.out; go_num, hown2, hb1⟩
      case measure => have := HJ.out; simp [intOf]
    · have hkn : k = n := by omega
      subst hkn
      have dk : decide (0 ≤ (k : Int) - 1 - (k : Int)) = false := decide_eq_false (by omega)
      have F : Hid (wr.ownsRow w.heap.size 5 1 u5 (fixL v k).length ((fixL v k).map (Value.int .u8)) ∧ Only (fun _ => False) w wr) := by
        rw [List.take_of_length_le (by rw [List.length_map, fixL_len]; omega)] at hown
        rw [fixL_len]
        exact ⟨hown, only_of_below hbel⟩
      clear hown hbel
      go_wp2
      go_ret
      exact ⟨_, rfl, F.out⟩

set_option maxHeartbeats 400000 in
set_option maxRecDepth 100000 in
theorem rblocked_any (vb : Value) (ys : List Int) (w : World) (hb : Bs .u8 w vb ys) (nb : NoCap vb) (hl : ys.length ≤ 1000000) :
    Calls Try.prog 23 #[vb] w fun e w' => ∃ v', e = .returned v' ∧ w'.ownsRow w.heap.size 5 1 v' (blk ys).length ((blk ys).map (Value.int .u8)) ∧ Only (fun _ => False) w w' := by
  obtain ⟨i0, hi, hz0, hz1, hz2⟩ := info_parts Try.infoU8
  have HB := hideIt hb
  have NB := hideIt nb
  have A := hideIt (rappend_any (.slice none 0 0) [] ys.length w (Bs.nil _ _) NoCap.nil (by simp) (by omega) (by omega))
  rw [List.nil_append, Int.toNat_natCast] at A
  have H10 := hideIt (gs_le10 (v := ys.length) (by omega))
  obtain ⟨ab, cb, rfl⟩ := hb.len
  clear hb nb
  go_enter Try.func23, Try.ntmps23
  go_wp2_with fail
  refine A.out.mono ?_
  rintro e w1 ⟨v1, rfl, hown1, hon1⟩
  have O1 := hideIt (And.intro hon1 (HB.out.later (hon1.low (Nat.le_refl _))))
  have hsz := hon1.size
  clear hon1 A
  go_wp2_with (at_builtin; refine wpList_append_bs _ rfl _ _ _ rfl w.heap.size 5 i0 (.int .u8 0) 1 Try.underlying22 hi hz0 hz1 hz2 rfl _ (gs ys.length).length ((gs ys.length).map (Value.int .u8)) rfl hown1 .u8 _ ys rfl O1.out.2 NB.out ?c3 ?c4 hsz ?_)
  case c3 => have := H10.out; unfold maxLen; omega
  case c4 => have := H10.out; omega
  intro v' w2 hown2 hgrow _ _
  have F : Hid (w2.ownsRow w.heap.size 5 1 v' (blk ys).length ((blk ys).map (Value.int .u8)) ∧ Only (fun _ => False) w w2) := by
    refine ⟨?_, O1.out.1.grown hgrow (fun k hk e => ?_)⟩
    · rw [blk, List.length_append, List.map_append]; exact hown2
    · have := (hown1.lt k e).1
      omega
  clear hown1 hown2 hgrow O1
  go_wp2
  go_ret
  exact ⟨_, rfl, F.out⟩
end Go.Proofs.Ytbcfpiahhippaaa

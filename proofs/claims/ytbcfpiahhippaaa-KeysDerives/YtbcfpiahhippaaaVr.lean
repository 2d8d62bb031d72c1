/- Contracts of package varint: Size, Zig, Zag, groups. -/
import Derived.Test.YtbcfpiahhippaaaG1
import Derived.Test.YtbcfpiahhippaaaVMath
namespace Go.Proofs.Ytbcfpiahhippaaa
open Go.RowKit

theorem and7 (x : Nat) (h : x < 18446744073709551616) : bits .and .u64 (x : Int) 127 = ((x % 128 : Nat) : Int) := by
  rw [show (127 : Int) = ((127 : Nat) : Int) from rfl, u64_and_nat _ _ h (by omega), nat_mask7]

set_option maxHeartbeats 400000 in
set_option maxRecDepth 100000 in
/-- THE GROUPS of a number: new memory. -/
theorem groups_any (v : Int) (w : World) (h0 : 0 ≤ v) (h1 : v ≤ 18446744073709551615) :
    Calls Try.prog 50 #[.int .u64 v] w fun e w' => ∃ v', e = .returned v' ∧ w'.ownsRow w.heap.size 5 1 v' (gs v.toNat).length ((gs v.toNat).map (Value.int .u8)) ∧ Only (fun _ => False) w w' := by
  obtain ⟨i0, hi, hz0, hz1, hz2⟩ := info_parts Try.infoU8
  have hmk : ∀ w, (Instr.makeSlice 22 (.int .i64 0) (.int .i64 10)).run Try.prog w = .ok (.slice (some ⟨w.heap.size, 0, none⟩) 0 10) (w.alloc (.cells #[.int .u8 0, .int .u8 0, .int .u8 0, .int .u8 0, .int .u8 0, .int .u8 0, .int .u8 0, .int .u8 0, .int .u8 0, .int .u8 0] 5)) := fun _ => by kernel_rfl
  have START : Hid ((w.alloc (.cells #[.int .u8 0, .int .u8 0, .int .u8 0, .int .u8 0, .int .u8 0, .int .u8 0, .int .u8 0, .int .u8 0, .int .u8 0, .int .u8 0] 5)).ownsRow w.heap.size 5 1 (.slice (some ⟨w.heap.size, 0, none⟩) 0 10) 0 []) :=
    World.ownsRow_made w _ 10 (Nat.le_refl _) (by unfold maxLen; omega) rfl
  have H10 := hideIt (gs_le10 (v := v.toNat) (by omega))
  go_enter Try.func50, Try.ntmps50
  go_wp2
  go_loopw [0, 3] (fun a o wr => ∃ (x k : Nat) (p : List Int), a = .int .u64 x ∧ x < 18446744073709551616 ∧ p ++ gs x = gs v.toNat ∧ k = p.length ∧ wr.ownsRow w.heap.size 5 1 o k (p.map (Value.int .u8)) ∧ Below w.heap.size w wr) (fun a _ _ => (intOf a).toNat)
  case atStart => exact ⟨v.toNat, 0, [], by rw [Int.toNat_of_nonneg h0], by omega, rfl, rfl, START.out, (Below.refl _ _).alloc (Nat.le_refl _) _⟩
  case round =>
    obtain ⟨x, k, p, rfl, hx, hp, hk, hown, hbel⟩ := hrel
    have hk9 : k ≤ 9 := by
      have h := congrArg List.length hp
      have := H10.out
      have := gs_pos x
      rw [List.length_append] at h
      omega
    have HP := hideIt hp
    have HK := hideIt hk
    have hsz := hbel.size
    clear hp hk START
    by_cases hlt : 127 < x
    · have hlt' : decide (127 < (x : Int)) = true := by simp; omega
      have B7 := and7 x hx
      obtain ⟨r, hr⟩ : ∃ r : Nat, r = x % 128 := ⟨_, rfl⟩
      have hr1 : r < 128 := by omega
      rw [← hr] at B7
      have HR := hideIt hr
      clear hr
      go_wp2_with (at_builtin; refine wpList_append_lies _ rfl _ _ _ rfl w.heap.size 5 i0 (.int .u8 0) 1 1 Try.underlying22 hi hz0 hz1 hz2 rfl (by omega) _ k (p.map (Value.int .u8)) rfl (hown.alloc _) ⟨wr.heap.size, 0, none⟩ 1 1 [.int .u8 ((r : Int) + 128)] rfl rfl ?c1 ?c2 (by omega) ?c3 ?c4 ?c5 (wr.heap.size + 1) (by simp) ?_)
      case c1 => exact cell_one_new _ _ _
      case c2 => intro u hu; simp at hu; subst hu; rfl
      case c3 => unfold maxLen; omega
      case c4 => omega
      case c5 => simp; omega
      intro g cap1 w1 hown1 hgrow hat hg1
      have hb1 : Below w.heap.size w w1 := (hbel.alloc hbel.size _).grown hgrow (by simp; omega) (fun q hq => (hown.lt q hq).1)
      have hown2 : w1.ownsRow w.heap.size 5 1 (.slice (some ⟨g, 0, none⟩) (k + 1) cap1) (k + 1) ((p ++ [(r : Int) + 128]).map (Value.int .u8)) := by
        rw [List.map_append]; exact hown1
      clear hown hown1 hgrow hat hbel
      go_wp2
      go_roundw
      case rel =>
        refine ⟨x / 128, k + 1, p ++ [(r : Int) + 128], by go_num, by omega, ?_, by rw [List.length_append, ← HK.out]; rfl, hown2, hb1⟩
        rw [← HP.out, gs_big (v := x) (by omega), ← HR.out]
        simp
      case measure => simp [intOf]; omega
    · have hlt' : decide (127 < (x : Int)) = false := by simp; omega
      go_wp2_with (at_builtin; refine wpList_append_lies _ rfl _ _ _ rfl w.heap.size 5 i0 (.int .u8 0) 1 1 Try.underlying22 hi hz0 hz1 hz2 rfl (by omega) _ k (p.map (Value.int .u8)) rfl (hown.alloc _) ⟨wr.heap.size, 0, none⟩ 1 1 [.int .u8 (x : Int)] rfl rfl ?c1 ?c2 (by omega) ?c3 ?c4 ?c5 (wr.heap.size + 1) (by simp) ?_)
      case c1 => exact cell_one_new _ _ _
      case c2 => intro u hu; simp at hu; subst hu; rfl
      case c3 => unfold maxLen; omega
      case c4 => omega
      case c5 => simp; omega
      intro g cap1 w1 hown1 hgrow hat hg1
      have hb1 : Below w.heap.size w w1 := (hbel.alloc hbel.size _).grown hgrow (by simp; omega) (fun q hq => (hown.lt q hq).1)
      have hown2 : Hid (w1.ownsRow w.heap.size 5 1 (.slice (some ⟨g, 0, none⟩) (k + 1) cap1) (gs v.toNat).length ((gs v.toNat).map (Value.int .u8))) := by
        rw [← HP.out, gs_small (v := x) (by omega), List.length_append, ← HK.out, List.map_append]; exact hown1
      have hb2 := hideIt hb1
      clear hown hown1 hgrow hat hbel hb1
      go_wp2
      go_ret
      exact ⟨_, rfl, hown2.out, only_of_below hb2.out⟩
end Go.Proofs.Ytbcfpiahhippaaa

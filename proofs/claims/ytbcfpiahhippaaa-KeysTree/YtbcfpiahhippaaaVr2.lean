/- Contracts of slices.Grow of nothing, slices.Concat of two slices of bytes, and of package varint's Append. -/
import Derived.Test.YtbcfpiahhippaaaVr
import Derived.Lib.AppendZerosOnto
import Derived.Lib.SliceRun
namespace Go.Proofs.Ytbcfpiahhippaaa
open Go.RowKit

set_option maxHeartbeats 800000 in
set_option maxRecDepth 100000 in
theorem grow_nil (n : Nat) (w : World) (h0 : 0 < n) (h1 : n ≤ 140737488355328) :
    Calls Try.prog 41 #[.slice none 0 0, .int .i64 n] w fun e w' => ∃ G, e = .returned (.slice (some ⟨w.heap.size, 0, none⟩) 0 G) ∧ w'.ownsRow w.heap.size 5 1 (.slice (some ⟨w.heap.size, 0, none⟩) 0 G) 0 [] ∧ Only (fun _ => False) w w' := by
  obtain ⟨i0, hi, hz0, hz1, hz2⟩ := info_parts Try.infoU8
  have hrz : ∀ ty, (Builtin.append_ #[22, 3] ty #[.slice none 0 0, .int .i64 (n : Int)]).run Try.prog w =
      .ok (.slice (some ⟨w.heap.size, 0, none⟩) n (grownCap w n 0 5)) (w.drew.alloc (.cells (Builtin.zeroCells (Value.int .u8 0).cells n ++ Builtin.zeroCells (Value.int .u8 0).cells (grownCap w n 0 5 - n)) 5)) := fun ty =>
    Lib.run_append_nil_zeros w 22 3 ty 5 i0 (.int .u8 0) .i64 .i64 Try.underlying22 Try.underlying3 hi hz0 n h0 (by omega) (by omega) (by rw [hz2]; omega)
  have hGn : n ≤ grownCap w n 0 5 := grownCap_ge w _ _ _
  have hGm : grownCap w n 0 5 ≤ maxLen := grownCap_le_maxLen w n 0 5 (by unfold maxLen; omega)
  obtain ⟨G, hG⟩ : ∃ G, G = grownCap w n 0 5 := ⟨_, rfl⟩
  rw [← hG] at hrz hGn hGm
  have hG63 : G ≤ 9223372036854775807 := by unfold maxLen at hGm; omega
  have HM := hideIt hGm
  have d0 : decide ((n : Int) < 0) = false := by simp
  have d1 : decide (0 < (n : Int)) = true := by simp; omega
  obtain ⟨cs, hcs⟩ : ∃ cs, cs = Builtin.zeroCells (Value.int .u8 0).cells n ++ Builtin.zeroCells (Value.int .u8 0).cells (G - n) := ⟨_, rfl⟩
  have hsz : Hid (cs.size = G * 1) := by
    have hs : ∀ q, (Builtin.zeroCells (Value.int .u8 0).cells q).size = q := fun q => by simp [Builtin.zeroCells, Value.cells]
    simp only [Hid]
    rw [hcs, Array.size_append, hs, hs]; omega
  rw [← hcs] at hrz
  clear hG hGm hcs
  go_enter Try.func41, Try.ntmps41
  go_wp2_with (at_builtin; refine Lib.wpList_append_run _ rfl _ _ _ _ rfl _ _ rfl rfl _ _ (hrz _) ?_)
  go_ret
  exact ⟨G, rfl, World.ownsRow_made (w := w.drew) (base := w.heap.size) (e := 5) (size := 1) cs G (Nat.le_refl _) HM.out hsz.out, (Only.refl _ _).drew.alloc _⟩

set_option maxHeartbeats 1600000 in
set_option maxRecDepth 100000 in
/-- TWO SLICES OF BYTES, one behind the other: new memory. -/
theorem concat_two (B : Nat) (va vb : Value) (xs ys : List Int) (w : World) (c0 : w.cell? ⟨B, 0, none⟩ = some va) (c1 : w.cell? ⟨B, 1, none⟩ = some vb)
    (ha : Bs .u8 w va xs) (hb : Bs .u8 w vb ys) (na : NoCap va) (nb : NoCap vb) (hp : 0 < xs.length + ys.length) (hl : xs.length + ys.length ≤ 140737488355328) :
    Calls Try.prog 31 #[.slice (some ⟨B, 0, none⟩) 2 2] w fun e w' => ∃ v', e = .returned v' ∧ w'.ownsRow w.heap.size 5 1 v' (xs ++ ys).length ((xs ++ ys).map (Value.int .u8)) ∧ Only (fun _ => False) w w' := by
  obtain ⟨i0, hi, hz0, hz1, hz2⟩ := info_parts Try.infoU8
  have HA := hideIt ha
  have HB := hideIt hb
  have NA := hideIt na
  have NB := hideIt nb
  obtain ⟨aa, ca, rfl⟩ := ha.len
  obtain ⟨ab, cb, rfl⟩ := hb.len
  obtain ⟨n, hn⟩ : ∃ n, n = xs.length := ⟨_, rfl⟩
  obtain ⟨m, hm⟩ : ∃ m, m = ys.length := ⟨_, rfl⟩
  rw [← hn] at c0 hp hl HA NA
  rw [← hm] at c1 hp hl HB NB
  have HN := hideIt hn
  have HM := hideIt hm
  have hBw : B < w.heap.size := World.block_lt_of_cell? w _ c0
  clear ha hb na nb hn hm
  go_enter Try.func31, Try.ntmps31
  go_wp2
  go_loop [3, 11] (fun s i => (i = .int .i64 0 ∧ s = .int .i64 0) ∨ (i = .int .i64 1 ∧ s = .int .i64 n) ∨ (i = .int .i64 2 ∧ s = .int .i64 ((n : Int) + m))) (fun _ i => 2 - (intOf i).toNat)
  case atStart => exact .inl ⟨rfl, rfl⟩
  case round =>
    rcases hrel with ⟨rfl, rfl⟩ | ⟨rfl, rfl⟩ | ⟨rfl, rfl⟩
    · have d0 : decide ((n : Int) < 0) = false := by simp
      go_wp2
      go_round
      case rel => exact .inr (.inl ⟨rfl, rfl⟩)
      case measure => simp [intOf]
    · have d0 : decide ((n : Int) + m < 0) = false := by simp; omega
      go_wp2
      go_round
      case rel => exact .inr (.inr ⟨rfl, rfl⟩)
      case measure => simp [intOf]
    · have GN := hideIt (grow_nil (n + m) w (by omega) (by omega))
      go_wp2_with fail
      rw [show ((n : Int) + (m : Int)) = ((n + m : Nat) : Int) by omega]
      refine GN.out.mono ?_
      rintro e w2 ⟨G, rfl, hown, hon⟩
      have hbel : Below w.heap.size w w2 := hon.low (Nat.le_refl _)
      go_wp2
      go_loopw [6, 27] (fun o i wr => Below w.heap.size w wr ∧ ((i = .int .i64 0 ∧ wr.ownsRow w.heap.size 5 1 o 0 []) ∨ (i = .int .i64 1 ∧ wr.ownsRow w.heap.size 5 1 o n (xs.map (Value.int .u8))) ∨ (i = .int .i64 2 ∧ wr.ownsRow w.heap.size 5 1 o (n + m) ((xs ++ ys).map (Value.int .u8))))) (fun _ i _ => 2 - (intOf i).toNat)
      case atStart => exact ⟨hbel, .inl ⟨rfl, hown⟩⟩
      case round =>
        obtain ⟨hbw, hr⟩ := hrel
        clear hbel hown hon GN
        have d0 := (hbw.cell (p := ⟨B, 0, none⟩) hBw).trans c0
        have d1 := (hbw.cell (p := ⟨B, 1, none⟩) hBw).trans c1
        have hsz := hbw.size
        rcases hr with ⟨rfl, hown⟩ | ⟨rfl, hown⟩ | ⟨rfl, hown⟩
        · have HBA := hideIt (HA.out.later hbw)
          go_wp2_with (at_builtin; refine wpList_append_bs _ rfl _ _ _ rfl w.heap.size 5 i0 (.int .u8 0) 1 Try.underlying22 hi hz0 hz1 hz2 rfl _ 0 [] rfl hown .u8 _ xs rfl HBA.out NA.out ?c3 ?c4 hsz ?_)
          case c3 => rw [← HN.out]; unfold maxLen; omega
          case c4 => rw [← HN.out]; omega
          intro v' w3 hown1 hgrow _ _
          rw [← HN.out] at hown1
          have hb3 : Below w.heap.size w w3 := hbw.grown hgrow hsz (fun q hq => (hown.lt q hq).1)
          clear hown hgrow
          go_wp2
          go_roundw
          case rel => exact ⟨hb3, .inr (.inl ⟨rfl, by simpa using hown1⟩)⟩
          case measure => simp [intOf]
        · have HBB := hideIt (HB.out.later hbw)
          go_wp2_with (at_builtin; refine wpList_append_bs _ rfl _ _ _ rfl w.heap.size 5 i0 (.int .u8 0) 1 Try.underlying22 hi hz0 hz1 hz2 rfl _ n (xs.map (Value.int .u8)) rfl hown .u8 _ ys rfl HBB.out NB.out ?c3 ?c4 hsz ?_)
          case c3 => rw [← HM.out]; unfold maxLen; omega
          case c4 => rw [← HM.out]; omega
          intro v' w3 hown1 hgrow _ _
          rw [← HM.out, ← List.map_append] at hown1
          have hb3 : Below w.heap.size w w3 := hbw.grown hgrow hsz (fun q hq => (hown.lt q hq).1)
          clear hown hgrow
          go_wp2
          go_roundw
          case rel => exact ⟨hb3, .inr (.inr ⟨rfl, hown1⟩)⟩
          case measure => simp [intOf]
        · go_wp2
          go_ret
          refine ⟨_, rfl, ?_, only_of_below hbw⟩
          rw [List.length_append, ← HN.out, ← HM.out]; exact hown

set_option maxHeartbeats 400000 in
set_option maxRecDepth 100000 in
theorem appended_two (va vb : Value) (xs ys : List Int) (w : World)
    (ha : Bs .u8 w va xs) (hb : Bs .u8 w vb ys) (na : NoCap va) (nb : NoCap vb) (hp : 0 < xs.length + ys.length) (hl : xs.length + ys.length ≤ 140737488355328) :
    Calls Try.prog 49 #[va, vb] w fun e w' => ∃ v', e = .returned v' ∧ w'.ownsRow w.heap.size 5 1 v' (xs ++ ys).length ((xs ++ ys).map (Value.int .u8)) ∧ Only (fun _ => False) w w' := by
  have hbl : Below w.heap.size w (w.alloc (.cells #[va, vb] 22)) := (Below.refl _ _).alloc (Nat.le_refl _) _
  have CC := hideIt (concat_two w.heap.size va vb xs ys (w.alloc (.cells #[va, vb] 22)) (by go_cell) (by go_cell) (ha.later hbl) (hb.later hbl) na nb hp hl)
  obtain ⟨aa, ca, rfl⟩ := ha.len
  obtain ⟨ab, cb, rfl⟩ := hb.len
  clear ha hb
  go_enter Try.func49, Try.ntmps49
  go_wp2_with fail
  refine CC.out.mono ?_
  rintro e w2 ⟨v', rfl, hown, hon⟩
  have F : Hid (w2.ownsRow w.heap.size 5 1 v' (xs ++ ys).length ((xs ++ ys).map (Value.int .u8)) ∧ Only (fun _ => False) w w2) := by
    refine ⟨?_, ((Only.refl _ _).alloc _).trans hon (fun _ _ f => f)⟩
    refine ⟨hown.1, ?_⟩
    rcases hown.2 with h | ⟨g, cap, cur, e, h, r⟩
    · exact .inl h
    · exact .inr ⟨g, cap, cur, e, by simp at h; omega, r⟩
  clear hown hon
  go_wp2
  go_ret
  exact ⟨_, rfl, F.out⟩

set_option maxHeartbeats 400000 in
set_option maxRecDepth 100000 in
/-- APPEND: b, and behind it the groups of v; new memory. -/
theorem append_any (va : Value) (xs : List Int) (v : Int) (w : World) (ha : Bs .u8 w va xs) (na : NoCap va) (hl : xs.length ≤ 1000000000) (h0 : 0 ≤ v) (h1 : v ≤ 18446744073709551615) :
    Calls Try.prog 42 #[va, .int .u64 v] w fun e w' => ∃ v', e = .returned v' ∧ w'.ownsRow w.heap.size 5 1 v' (xs ++ gs v.toNat).length ((xs ++ gs v.toNat).map (Value.int .u8)) ∧ Only (fun _ => False) w w' := by
  have H10 := hideIt (gs_le10 (v := v.toNat) (by omega))
  have HP := hideIt (gs_pos v.toNat)
  have HA := hideIt ha
  obtain ⟨aa, ca, rfl⟩ := ha.len
  clear ha
  go_enter Try.func42, Try.ntmps42
  go_wp2_with fail
  refine (groups_any v _ h0 h1).mono ?_
  rintro e w1 ⟨v1, rfl, hown1, hon1⟩
  have AP := hideIt (appended_two _ v1 xs (gs v.toNat) w1 (HA.out.later (hon1.low (Nat.le_refl _))) (Bs.of_own hown1) na (NoCap.of_own hown1) (by have := HP.out; omega) (by have := H10.out; omega))
  have ON1 := hideIt hon1
  clear hown1 hon1
  go_wp2_with fail
  refine AP.out.mono ?_
  rintro e w2 ⟨v', rfl, hown, hon⟩
  have F : Hid (w2.ownsRow w.heap.size 5 1 v' (xs ++ gs v.toNat).length ((xs ++ gs v.toNat).map (Value.int .u8)) ∧ Only (fun _ => False) w w2) := by
    refine ⟨?_, ON1.out.trans hon (fun _ _ f => f)⟩
    refine ⟨hown.1, ?_⟩
    rcases hown.2 with h | ⟨g, cap, cur, e, h, r⟩
    · exact .inl h
    · exact .inr ⟨g, cap, cur, e, by have := ON1.out.size; omega, r⟩
  clear hown hon
  go_wp2
  go_ret
  exact ⟨_, rfl, F.out⟩
end Go.Proofs.Ytbcfpiahhippaaa

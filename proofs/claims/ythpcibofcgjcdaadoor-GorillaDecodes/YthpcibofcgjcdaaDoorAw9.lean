/- The document's example, and the statements' 'same'. -/
import Derived.Test.YthpcibofcgjcdaaDoorGd3
import Derived.Test.YthpcibofcgjcdaaDoorSame2
import Derived.Test.YthpcibofcgjcdaaDoorSameU
namespace Go.Proofs.YthpcibofcgjcdaaDoor
open Go.RowKit

set_option maxHeartbeats 400000 in
set_option maxRecDepth 100000 in
theorem lsame9_q (va vb : Value) (xs : List Int) (w : World) (ha : Bs .u64 w va xs) (hb : Bs .u64 w vb xs) (hl : xs.length ≤ 140737488355328) :
    Calls Tryd.prog 15 #[va, vb] w fun e w' => e = .returned (.bool true) ∧ ∃ m, w' = w.drewN m := by
  have A := hideIt (usame_q va vb xs w ha hb hl)
  clear ha hb
  go_enter Tryd.func15, Tryd.ntmps15
  go_wp2_with fail
  refine A.out.mono ?_
  rintro e w1 ⟨rfl, m, hm⟩
  have H := hideIt hm
  clear hm A
  go_wp2
  go_ret
  exact ⟨rfl, m, H.out⟩
theorem lsame9 (va vb : Value) (xs : List Int) (w : World) (ha : Bs .u64 w va xs) (hb : Bs .u64 w vb xs) (hl : xs.length ≤ 140737488355328) :
    Calls Tryd.prog 15 #[va, vb] w fun e w' => e = .returned (.bool true) ∧ Only (fun _ => False) w w' := by
  refine (lsame9_q va vb xs w ha hb hl).mono ?_
  rintro e w' ⟨rfl, m, rfl⟩
  exact ⟨rfl, (Only.refl _ _).drewN m⟩
set_option maxHeartbeats 800000 in
set_option maxRecDepth 100000 in
theorem awake_any (w : World) (hT : Tab w) :
    Calls Tryd.prog 9 #[] w fun e w' => e = .returned (.bool true) ∧ Only (fun _ => False) w w' := by
  have A := encode9_all (.slice (some ⟨w.heap.size, 0, none⟩) 2 2) [5, 5] (w.alloc (.cells #[.int .u64 5, .int .u64 5] 35)) (Bs.litN .u64 w 35 [5, 5] _ _ rfl rfl) u64_ex9 (hT.past ((Only.refl (fun _ => False) w).alloc _))
  rw [ENC9_ex] at A
  have A := hideIt A
  go_enter Tryd.func9, Tryd.ntmps9
  go_wp2_with fail
  refine A.out.mono ?_
  rintro e w1 ⟨v1, rfl, own1, o1⟩
  have O1 := hideIt (((Only.refl (fun _ => False) w).alloc (.cells #[.int .u64 5, .int .u64 5] 35)).same o1)
  have B1 := hideIt (Bs.of_own own1)
  have B := decode9_all (.slice (some ⟨w1.heap.size, 0, none⟩) 9 9) [0, 0, 0, 0, 0, 0, 0, 5, 0] 2 (w1.alloc (.cells #[.int .u8 0, .int .u8 0, .int .u8 0, .int .u8 0, .int .u8 0, .int .u8 0, .int .u8 0, .int .u8 5, .int .u8 0] 5)) (Bs.litN .u8 w1 5 [0, 0, 0, 0, 0, 0, 0, 5, 0] _ _ rfl rfl) (by intro x hx; simp at hx; omega) (by decide) ((hT.past O1.out).past ((Only.refl (fun _ => False) w1).alloc _))
  rw [DEC9_ex] at B
  have B := hideIt B
  obtain ⟨f1, c1, e1⟩ := B1.out.len
  subst e1
  clear A own1 o1
  go_wp2_with fail
  refine B.out.mono ?_
  rintro e w2 ⟨v2, rfl, own2, o2⟩
  have O2 := hideIt ((O1.out.alloc (.cells #[.int .u8 0, .int .u8 0, .int .u8 0, .int .u8 0, .int .u8 0, .int .u8 0, .int .u8 0, .int .u8 5, .int .u8 0] 5)).same o2)
  have B2 := hideIt (Bs.of_own own2)
  have on12 : Only (fun _ => False) w1 w2 := ((Only.refl (fun _ => False) w1).alloc (.cells #[.int .u8 0, .int .u8 0, .int .u8 0, .int .u8 0, .int .u8 0, .int .u8 0, .int .u8 0, .int .u8 5, .int .u8 0] 5)).same o2
  have SM := hideIt (same_eq _ (.slice (some ⟨w2.heap.size, 0, none⟩) 9 9) [0, 0, 0, 0, 0, 0, 0, 5, 0] (w2.alloc (.cells #[.int .u8 0, .int .u8 0, .int .u8 0, .int .u8 0, .int .u8 0, .int .u8 0, .int .u8 0, .int .u8 5, .int .u8 0] 5)) ((B1.out.past on12).later ((Below.refl _ _).alloc (Nat.le_refl _) _)) (Bs.litN .u8 w2 5 [0, 0, 0, 0, 0, 0, 0, 5, 0] _ _ rfl rfl) (by decide))
  obtain ⟨f2, c2, e2⟩ := B2.out.len
  subst e2
  clear B own2 o2 on12
  go_wp2_with fail
  refine SM.out.mono ?_
  rintro e w3 ⟨rfl, o3⟩
  have O3 := hideIt ((O2.out.alloc (.cells #[.int .u8 0, .int .u8 0, .int .u8 0, .int .u8 0, .int .u8 0, .int .u8 0, .int .u8 0, .int .u8 5, .int .u8 0] 5)).same o3)
  have on23 : Only (fun _ => False) w2 w3 := ((Only.refl (fun _ => False) w2).alloc (.cells #[.int .u8 0, .int .u8 0, .int .u8 0, .int .u8 0, .int .u8 0, .int .u8 0, .int .u8 0, .int .u8 5, .int .u8 0] 5)).same o3
  have SU := hideIt (lsame9 _ (.slice (some ⟨w3.heap.size, 0, none⟩) 2 2) [5, 5] (w3.alloc (.cells #[.int .u64 5, .int .u64 5] 35)) ((B2.out.past on23).later ((Below.refl _ _).alloc (Nat.le_refl _) _)) (Bs.litN .u64 w3 35 [5, 5] _ _ rfl rfl) (by decide))
  clear SM o3 on23
  go_wp2_with fail
  refine SU.out.mono ?_
  rintro e w4 ⟨rfl, o4⟩
  have O4 := hideIt ((O3.out.alloc (.cells #[.int .u64 5, .int .u64 5] 35)).same o4)
  clear SU o4
  go_wp2
  go_ret
  exact ⟨rfl, O4.out⟩
end Go.Proofs.YthpcibofcgjcdaaDoor

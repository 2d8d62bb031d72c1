/- The document's example, and the statements' 'same'. -/
import Derived.Test.YtgnaeajfajineaaDd2
import Derived.Test.YtgnaeajfajineaaSame2
import Derived.Test.YtgnaeajfajineaaSameU
namespace Go.Proofs.Ytgnaeajfajineaa
open Go.RowKit

set_option maxHeartbeats 400000 in
set_option maxRecDepth 100000 in
theorem lsame10_q (va vb : Value) (xs : List Int) (w : World) (ha : Bs .u64 w va xs) (hb : Bs .u64 w vb xs) (hl : xs.length ≤ 140737488355328) :
    Calls Try.prog 14 #[va, vb] w fun e w' => e = .returned (.bool true) ∧ ∃ m, w' = w.drewN m := by
  have A := hideIt (usame_q va vb xs w ha hb hl)
  clear ha hb
  go_enter Try.func14, Try.ntmps14
  go_wp2_with fail
  refine A.out.mono ?_
  rintro e w1 ⟨rfl, m, hm⟩
  have H := hideIt hm
  clear hm A
  go_wp2
  go_ret
  exact ⟨rfl, m, H.out⟩
theorem lsame10 (va vb : Value) (xs : List Int) (w : World) (ha : Bs .u64 w va xs) (hb : Bs .u64 w vb xs) (hl : xs.length ≤ 140737488355328) :
    Calls Try.prog 14 #[va, vb] w fun e w' => e = .returned (.bool true) ∧ Only (fun _ => False) w w' := by
  refine (lsame10_q va vb xs w ha hb hl).mono ?_
  rintro e w' ⟨rfl, m, rfl⟩
  exact ⟨rfl, (Only.refl _ _).drewN m⟩
set_option maxHeartbeats 800000 in
set_option maxRecDepth 100000 in
theorem awake_any (w : World) :
    Calls Try.prog 8 #[] w fun e w' => e = .returned (.bool true) ∧ Only (fun _ => False) w w' := by
  have WB := hideIt (Bs.litN .u8 w 5 [2, 0, 0, 0, 0, 0, 0, 0, 9, 0, 0, 0, 0, 0, 0, 0, 7, 32] _ _ rfl rfl)
  have WO := hideIt ((Only.refl (fun _ => False) w).alloc (.cells #[.int .u8 2, .int .u8 0, .int .u8 0, .int .u8 0, .int .u8 0, .int .u8 0, .int .u8 0, .int .u8 0, .int .u8 9, .int .u8 0, .int .u8 0, .int .u8 0, .int .u8 0, .int .u8 0, .int .u8 0, .int .u8 0, .int .u8 7, .int .u8 32] 5))
  have A := encode10_all (.slice (some ⟨w.heap.size + 1, 0, none⟩) 3 3) [9, 9, 7] ((w.alloc (.cells #[.int .u8 2, .int .u8 0, .int .u8 0, .int .u8 0, .int .u8 0, .int .u8 0, .int .u8 0, .int .u8 0, .int .u8 9, .int .u8 0, .int .u8 0, .int .u8 0, .int .u8 0, .int .u8 0, .int .u8 0, .int .u8 0, .int .u8 7, .int .u8 32] 5)).alloc (.cells #[.int .u64 9, .int .u64 9, .int .u64 7] 35)) (Bs.litN .u64 (w.alloc (.cells #[.int .u8 2, .int .u8 0, .int .u8 0, .int .u8 0, .int .u8 0, .int .u8 0, .int .u8 0, .int .u8 0, .int .u8 9, .int .u8 0, .int .u8 0, .int .u8 0, .int .u8 0, .int .u8 0, .int .u8 0, .int .u8 0, .int .u8 7, .int .u8 32] 5)) 35 [9, 9, 7] (w.heap.size + 1) 3 (Array.size_push ..) rfl) u64_ex10
  rw [ENC10_ex] at A
  have A := hideIt A
  go_enter Try.func8, Try.ntmps8
  go_wp2_with fail
  refine A.out.mono ?_
  rintro e w1 ⟨v1, rfl, own1, o1⟩
  have oA : Only (fun _ => False) (w.alloc (.cells #[.int .u8 2, .int .u8 0, .int .u8 0, .int .u8 0, .int .u8 0, .int .u8 0, .int .u8 0, .int .u8 0, .int .u8 9, .int .u8 0, .int .u8 0, .int .u8 0, .int .u8 0, .int .u8 0, .int .u8 0, .int .u8 0, .int .u8 7, .int .u8 32] 5)) w1 := ((Only.refl (fun _ => False) _).alloc (.cells #[.int .u64 9, .int .u64 9, .int .u64 7] 35)).same o1
  have O1 := hideIt (WO.out.same oA)
  have B1 := hideIt (Bs.of_own own1)
  have BW := hideIt (WB.out.past oA)
  have B := decode10_all (.slice (some ⟨w.heap.size, 0, none⟩) 18 18) [2, 0, 0, 0, 0, 0, 0, 0, 9, 0, 0, 0, 0, 0, 0, 0, 7, 32] 3 w1 BW.out (by intro x hx; simp at hx; omega) (by decide)
  rw [DEC10_ex] at B
  have B := hideIt B
  obtain ⟨f1, c1, e1⟩ := B1.out.len
  subst e1
  clear A own1 o1 oA WB WO
  go_wp2_with fail
  refine B.out.mono ?_
  rintro e w2 ⟨v2, rfl, own2, o2⟩
  have O2 := hideIt (O1.out.same o2)
  have B2 := hideIt (Bs.of_own own2)
  have SM := hideIt (same_eq _ (.slice (some ⟨w.heap.size, 0, none⟩) 18 18) [2, 0, 0, 0, 0, 0, 0, 0, 9, 0, 0, 0, 0, 0, 0, 0, 7, 32] w2 (B1.out.past o2) (BW.out.past o2) (by decide))
  obtain ⟨f2, c2, e2⟩ := B2.out.len
  subst e2
  clear B own2 o2
  go_wp2_with fail
  refine SM.out.mono ?_
  rintro e w3 ⟨rfl, o3⟩
  have O3 := hideIt (O2.out.same o3)
  have SU := hideIt (lsame10 _ (.slice (some ⟨w3.heap.size, 0, none⟩) 3 3) [9, 9, 7] (w3.alloc (.cells #[.int .u64 9, .int .u64 9, .int .u64 7] 35)) ((B2.out.past o3).later ((Below.refl _ _).alloc (Nat.le_refl _) _)) (Bs.litN .u64 w3 35 [9, 9, 7] _ _ rfl rfl) (by decide))
  clear SM o3
  go_wp2_with fail
  refine SU.out.mono ?_
  rintro e w4 ⟨rfl, o4⟩
  have O4 := hideIt ((O3.out.alloc (.cells #[.int .u64 9, .int .u64 9, .int .u64 7] 35)).same o4)
  clear SU o4
  go_wp2
  go_ret
  exact ⟨rfl, O4.out⟩
end Go.Proofs.Ytgnaeajfajineaa

/- The head of each statement on varints: the document's example holds. -/
import Derived.Test.YthnlcigjfdmejaaVr3
import Derived.Test.YthnlcigjfdmejaaSame
namespace Go.Proofs.Ythnlcigjfdmejaa
open Go.RowKit

theorem gs300 : gs (300 : Int).toNat = [172, 2] := by
  rw [show (300 : Int).toNat = 300 from rfl, gs_big (by omega), gs_small (by omega)]; rfl
theorem rd300 : rd 0 0 [172, 2] = (300, 2, 0) := by decide +kernel
theorem Bs.litN (k : IntKind) (w : World) (E : TypeId) (xs : List Int) (N n : Nat) (hN : w.heap.size = N) (hn : xs.length = n) : Bs k (w.alloc (.cells (xs.map (Value.int k)).toArray E)) (.slice (some ⟨N, 0, none⟩) n n) xs := by
  subst hN hn
  exact Bs.lit k w E xs
theorem zig1 : zig (-1) = 1 := by decide
theorem zag2 : zag 2 = 1 := by decide

set_option maxHeartbeats 800000 in
set_option maxRecDepth 100000 in
theorem awake_any (w : World) :
    Calls Try.prog 9 #[] w fun e w' => e = .returned (.bool true) ∧ Only (fun _ => False) w w' := by
  go_enter Try.func9, Try.ntmps9
  go_wp2_with fail
  refine (append_any _ [] 300 _ (Bs.nil _ _) NoCap.nil (by simp) (by omega) (by omega)).mono ?_
  rw [gs300, List.nil_append]
  rintro e w1 ⟨v1, rfl, hown1, hon1⟩
  have B1 := hideIt (Bs.of_own hown1)
  have O1 := hideIt hon1
  clear hown1 hon1
  go_wp2_with fail
  refine (read_as _ [172, 2] _ rd300 (Bs.lit .u8 _ 5 [172, 2]) (by simp)).mono ?_
  rintro e w2 ⟨rfl, rfl⟩
  have O2 := hideIt (O1.out.alloc (.cells #[.int .u8 172, .int .u8 2] 5))
  have O3 := hideIt (O2.out.alloc (.cells #[.int .u8 172, .int .u8 2] 5))
  have SM := hideIt (same_eq v1 (.slice (some ⟨w1.heap.size + 1, 0, none⟩) 2 2) [172, 2] ((w1.alloc (.cells #[.int .u8 172, .int .u8 2] 5)).alloc (.cells #[.int .u8 172, .int .u8 2] 5)) (B1.out.later (((Below.refl _ _).alloc (Nat.le_refl _) _).alloc (by simp) _)) (Bs.litN .u8 _ 5 [172, 2] _ _ (by simp) rfl) (by simp))
  go_wp2_with fail
  refine SM.out.mono ?_
  rintro e w3 ⟨rfl, ho3⟩
  have O4 := hideIt (O3.out.trans ho3 (fun _ _ f => f))
  clear ho3
  go_wp2_with fail
  refine (zig_any (-1) _ (by omega) (by omega)).mono ?_
  rw [zig1]
  rintro e w4 ⟨rfl, rfl⟩
  go_wp2_with fail
  refine (zag_any 2 _ (by omega) (by omega)).mono ?_
  rw [zag2]
  rintro e w4 ⟨rfl, rfl⟩
  go_wp2_with fail
  refine (size_any 300 _ (by omega) (by omega)).mono ?_
  rw [gs300]
  rintro e w4 ⟨rfl, rfl⟩
  go_wp2
  go_ret
  exact ⟨rfl, O4.out⟩
end Go.Proofs.Ythnlcigjfdmejaa

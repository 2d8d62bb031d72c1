/- The head of each statement on differences: the document's example holds. -/
import Derived.Test.YtlfioabaingfbaaDe2
import Derived.Test.YtlfioabaingfbaaSameI
namespace Go.Proofs.Ytlfioabaingfbaa
open Go.RowKit

theorem ex_d : D 2 [10, 12, 15] = [10, 2, 1] := by decide +kernel
theorem ex_s : S 2 [10, 2, 1] = [10, 12, 15] := by decide +kernel
theorem Bs.past {k : IntKind} {w w' : World} {v : Value} {xs : List Int} (h : Bs k w v xs) (ho : Only (fun _ => False) w w') : Bs k w' v xs := h.keep ho (fun _ _ f => f)

set_option maxHeartbeats 800000 in
set_option maxRecDepth 100000 in
theorem awake_any (w : World) : Calls Try.prog 8 #[] w fun e w' => e = .returned (.bool true) ∧ Only (fun _ => False) w w' := by
  have A := diff_in (.slice (some ⟨w.heap.size, 0, none⟩) 3 3) [10, 12, 15] 2 _ (Bs.lit .i64 w 3 [10, 12, 15]) (by decide) (by decide)
  rw [ex_d] at A
  have A := hideIt A
  go_enter Try.func8, Try.ntmps8
  go_wp2_with fail
  refine A.out.mono ?_
  rintro e w1 ⟨v1, rfl, own1, on1⟩
  have B1 := Bs.of_own (xs := [10, 2, 1]) own1
  have O1 := hideIt (((Only.refl (fun _ => False) w).alloc _).trans on1 (fun _ _ f => f))
  have B := sum_in v1 [10, 2, 1] 2 w1 B1 (by decide) (by decide)
  rw [ex_s] at B
  have B := hideIt B
  have HB1 := hideIt B1
  clear own1 on1 B1 A
  go_wp2_with fail
  refine B.out.mono ?_
  rintro e w2 ⟨v2, rfl, own2, on2⟩
  have B2 := hideIt (Bs.of_own (xs := [10, 12, 15]) own2)
  have O2 := hideIt (O1.out.trans on2 (fun _ _ f => f))
  have C := hideIt (lsame4 v1 (.slice (some ⟨w2.heap.size, 0, none⟩) 3 3) [10, 2, 1] _ ((HB1.out.past on2).past ((Only.refl _ _).alloc _)) (Bs.lit .i64 w2 3 [10, 2, 1]) (by decide))
  clear own2 on2 B
  go_wp2_with fail
  refine C.out.mono ?_
  rintro e w3 ⟨rfl, on3⟩
  have o3 := ((Only.refl (fun _ => False) w2).alloc _).trans on3 (fun _ _ f => f)
  have O3 := hideIt (O2.out.trans o3 (fun _ _ f => f))
  have E := hideIt (lsame4 v2 (.slice (some ⟨w3.heap.size, 0, none⟩) 3 3) [10, 12, 15] _ ((B2.out.past o3).past ((Only.refl _ _).alloc _)) (Bs.lit .i64 w3 3 [10, 12, 15]) (by decide))
  clear on3 o3 C
  go_wp2_with fail
  refine E.out.mono ?_
  rintro e w4 ⟨rfl, on4⟩
  have O4 := hideIt (O3.out.trans (((Only.refl (fun _ => False) w3).alloc _).trans on4 (fun _ _ f => f)) (fun _ _ f => f))
  clear on4 E
  go_wp2
  go_ret
  exact ⟨rfl, O4.out⟩
end Go.Proofs.Ytlfioabaingfbaa

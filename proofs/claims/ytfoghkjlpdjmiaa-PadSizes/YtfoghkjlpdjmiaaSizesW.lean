/- Sizes and buckets: the walk. -/
import Derived.Test.YtfoghkjlpdjmiaaAw19
import Derived.Test.YtfoghkjlpdjmiaaR19
namespace Go.Proofs.Ytfoghkjlpdjmiaa
open Go.RowKit

set_option maxHeartbeats 1600000 in
set_option maxRecDepth 100000 in
theorem sizes_walk (k n : Int) (w : World) : Calls Try.prog 3 #[.int .i64 k, .int .i64 n] w fun e w' => e = .returned (.bool true) ∧ Below w.heap.size w w' := by
  have A := hideIt (awake_any w)
  have B := hideIt (fun (W : World) => bucket_any n W)
  have R := hideIt (fun (W : World) => rbucket_any n W)
  have S := hideIt (fun (W : World) => size_any k W)
  have T := hideIt (fun (W : World) => rsize_any k W)
  generalize BKV n = q at B R
  generalize BKE n = p at B R
  generalize SZV k = z at S T
  go_enter Try.func3, Try.ntmps3
  go_wp2_with fail
  refine A.out.mono ?_
  rintro e w1 ⟨rfl, o1⟩
  have O1 := hideIt o1
  clear o1 A
  go_wp2_with fail
  refine (B.out w1).mono ?_
  rintro e w2 ⟨rfl, o2⟩
  have O2 := hideIt (O1.out.same o2)
  clear o2 O1 B
  go_wp2_with fail
  refine (R.out w2).mono ?_
  rintro e w3 ⟨rfl, rfl⟩
  clear R
  go_wp2_with fail
  refine (S.out w2).mono ?_
  rintro e w4 ⟨rfl, o4⟩
  have O4 := hideIt (O2.out.same o4)
  clear o4 O2 S
  go_wp2_with fail
  refine (T.out w4).mono ?_
  rintro e w5 ⟨rfl, rfl⟩
  clear T
  go_wp2
  go_ret
  exact ⟨rfl, O4.out.low (Nat.le_refl _)⟩
end Go.Proofs.Ytfoghkjlpdjmiaa

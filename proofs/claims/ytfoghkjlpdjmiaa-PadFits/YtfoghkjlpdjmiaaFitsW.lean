/- The bucket of so many bytes: the walk. -/
import Derived.Test.YtfoghkjlpdjmiaaAw19
namespace Go.Proofs.Ytfoghkjlpdjmiaa
open Go.RowKit

set_option maxHeartbeats 1600000 in
set_option maxRecDepth 100000 in
theorem fits_walk (n : Int) (w : World) : Calls Try.prog 8 #[.int .i64 n] w fun e w' => e = .returned (.bool true) ∧ Below w.heap.size w w' := by
  have A := hideIt (awake_any w)
  have B := hideIt (fun (W : World) => bucket_any n W)
  by_cases h0 : n < 0
  · have d0 : decide (n < 0) = true := decide_eq_true h0
    have e1 : BKV n = 0 ∧ BKE n = 1 := ⟨if_neg (by omega), if_pos h0⟩
    simp only [e1.1, e1.2] at B
    clear h0 e1
    go_enter Try.func8, Try.ntmps8
    go_wp2_with fail
    refine A.out.mono ?_
    rintro e w1 ⟨rfl, o1⟩
    have O1 := hideIt o1
    clear o1 A
    go_wp2_with fail
    refine (B.out w1).mono ?_
    rintro e w2 ⟨rfl, o2⟩
    have O2 := hideIt (O1.out.same o2)
    clear o2 O1 B
    go_wp2
    go_ret
    exact ⟨rfl, O2.out.low (Nat.le_refl _)⟩
  have d0 : decide (n < 0) = false := decide_eq_false h0
  by_cases h8 : 4194300 < n
  · have d8 : decide (4194300 < n) = true := decide_eq_true h8
    have e1 : BKV n = 0 ∧ BKE n = 4 := ⟨if_neg (by omega), by unfold BKE; rw [if_neg h0, if_pos h8]⟩
    simp only [e1.1, e1.2] at B
    clear h0 h8 e1
    go_enter Try.func8, Try.ntmps8
    go_wp2_with fail
    refine A.out.mono ?_
    rintro e w1 ⟨rfl, o1⟩
    have O1 := hideIt o1
    clear o1 A
    go_wp2_with fail
    refine (B.out w1).mono ?_
    rintro e w2 ⟨rfl, o2⟩
    have O2 := hideIt (O1.out.same o2)
    clear o2 O1 B
    go_wp2
    go_ret
    exact ⟨rfl, O2.out.low (Nat.le_refl _)⟩
  have d8 : decide (4194300 < n) = false := decide_eq_false h8
  obtain ⟨n, rfl⟩ := Int.eq_ofNat_of_zero_le (Int.not_lt.1 h0)
  have e1 := BKV_nat (n := n) (by omega)
  simp only [e1.1, e1.2] at B
  have S := hideIt (fun (W : World) => size_any (PBK n : Int) W)
  simp only [SZV_bk] at S
  have hge := PLN_ge n (by omega)
  have hle := PBK_le n
  have hn : n ≤ 4194300 := by omega
  have T := hideIt (fun (W : World) => size_any ((PBK n : Int) - 1) W)
  by_cases hk : PBK n = 0
  · rw [hk] at B S
    generalize PLN n = q at *
    clear T hk hle e1 h0 h8
    have dg : decide ((n : Int) + 4 ≤ (q : Int)) = true := decide_eq_true (by omega)
    go_enter Try.func8, Try.ntmps8
    go_wp2_with fail
    refine A.out.mono ?_
    rintro e w1 ⟨rfl, o1⟩
    have O1 := hideIt o1
    clear o1 A
    go_wp2_with fail
    refine (B.out w1).mono ?_
    rintro e w2 ⟨rfl, o2⟩
    have O2 := hideIt (O1.out.same o2)
    clear o2 O1 B
    go_wp2_with fail
    refine (S.out w2).mono ?_
    rintro e w3 ⟨rfl, o3⟩
    have O3 := hideIt (O2.out.same o3)
    clear o3 O2 S
    go_wp2
    go_ret
    exact ⟨rfl, O3.out.low (Nat.le_refl _)⟩
  · have hl := PBK_least n hk
    have e2 : SZV ((PBK n : Int) - 1) = (PSZ (PBK n - 1) : Int) := by
      unfold SZV
      rw [if_pos (by omega), show ((PBK n : Int) - 1).toNat = PBK n - 1 by omega]
    simp only [e2] at T
    generalize PSZ (PBK n - 1) = r at *
    generalize PLN n = q at *
    generalize PBK n = k at *
    have dg : decide ((n : Int) + 4 ≤ (q : Int)) = true := decide_eq_true (by omega)
    have dl : decide ((r : Int) < (n : Int) + 4) = true := decide_eq_true (by omega)
    have dk : ((k : Int) == 0) = false := by rw [beq_eq_false_iff_ne]; omega
    have dk0 : decide ((0 : Int) ≤ (k : Int)) = true := decide_eq_true (by omega)
    have dk8 : decide ((k : Int) ≤ 8) = true := decide_eq_true (by omega)
    clear e1 e2 h0 h8
    go_enter Try.func8, Try.ntmps8
    go_wp2_with fail
    refine A.out.mono ?_
    rintro e w1 ⟨rfl, o1⟩
    have O1 := hideIt o1
    clear o1 A
    go_wp2_with fail
    refine (B.out w1).mono ?_
    rintro e w2 ⟨rfl, o2⟩
    have O2 := hideIt (O1.out.same o2)
    clear o2 O1 B
    go_wp2_with fail
    refine (S.out w2).mono ?_
    rintro e w3 ⟨rfl, o3⟩
    have O3 := hideIt (O2.out.same o3)
    clear o3 O2 S
    go_wp2_with fail
    refine (T.out w3).mono ?_
    rintro e w4 ⟨rfl, o4⟩
    have O4 := hideIt (O3.out.same o4)
    clear o4 O3 T
    go_wp2
    go_ret
    exact ⟨rfl, O4.out.low (Nat.le_refl _)⟩
end Go.Proofs.Ytfoghkjlpdjmiaa

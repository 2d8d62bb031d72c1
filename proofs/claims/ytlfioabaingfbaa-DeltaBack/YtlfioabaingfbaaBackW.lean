/- The walk of the statement 'there and back'. -/
import Derived.Test.YtlfioabaingfbaaDAwake
namespace Go.Proofs.Ytlfioabaingfbaa
open Go.RowKit

set_option maxHeartbeats 800000 in
set_option maxRecDepth 100000 in
theorem back_any (v : Value) (xs : List Int) (k : Int) (w : World) (hb : Bs .i64 w v xs) (hg : ∀ x ∈ xs, G64 x) :
    Calls Try.prog 4 #[v, .int .i64 k] w fun e w' => e = .returned (.bool true) ∧ Only (fun _ => False) w w' := by
  have AW := hideIt (awake_any w)
  by_cases hlong : 1000 < xs.length
  · have h1 : decide ((1000 : Int) < xs.length) = true := decide_eq_true (by omega)
    obtain ⟨ao, cap, rfl⟩ := hb.len
    clear hb
    go_enter Try.func4, Try.ntmps4
    go_wp2_with fail
    refine AW.out.mono ?_
    rintro e w1 ⟨rfl, on1⟩
    have O1 := hideIt on1
    clear on1 AW
    go_wp2
    go_ret
    exact ⟨rfl, O1.out⟩
  · have h1 : decide ((1000 : Int) < xs.length) = false := decide_eq_false (by omega)
    by_cases hk : k < 0 ∨ 3 < k
    · have D0 := fun w1 => diff_out v k w1 hk
      have S0 := fun w1 => sum_out v k w1 hk
      have HD := hideIt D0
      have HS := hideIt S0
      clear D0 S0
      obtain ⟨ao, cap, rfl⟩ := hb.len
      clear hb
      have hk2 : (k < 0) ∨ (¬ k < 0 ∧ 3 < k) := by omega
      rcases hk2 with hk2 | ⟨hk2, hk3⟩
      · have t1 : decide (k < 0) = true := decide_eq_true hk2
        clear hk
        go_enter Try.func4, Try.ntmps4
        go_wp2_with fail
        refine AW.out.mono ?_
        rintro e w1 ⟨rfl, on1⟩
        have O1 := hideIt on1
        clear on1 AW
        go_wp2_with fail
        refine (HD.out w1).mono ?_
        rintro e w2 ⟨rfl, rfl⟩
        go_wp2_with fail
        refine (HS.out w1).mono ?_
        rintro e w2 ⟨rfl, rfl⟩
        go_wp2
        go_ret
        exact ⟨rfl, O1.out⟩
      · have t1 : decide (k < 0) = false := decide_eq_false hk2
        have t2 : decide (3 < k) = true := decide_eq_true hk3
        clear hk
        go_enter Try.func4, Try.ntmps4
        go_wp2_with fail
        refine AW.out.mono ?_
        rintro e w1 ⟨rfl, on1⟩
        have O1 := hideIt on1
        clear on1 AW
        go_wp2_with fail
        refine (HD.out w1).mono ?_
        rintro e w2 ⟨rfl, rfl⟩
        go_wp2_with fail
        refine (HS.out w1).mono ?_
        rintro e w2 ⟨rfl, rfl⟩
        go_wp2
        go_ret
        exact ⟨rfl, O1.out⟩
    · obtain ⟨m, hm, rfl⟩ := int_nat (k := k) (by omega) (by omega)
      have t1 : decide ((m : Int) < 0) = false := decide_eq_false (by omega)
      have t2 : decide (3 < (m : Int)) = false := decide_eq_false (by omega)
      clear hk
      have HB := hideIt hb
      have HG := hideIt hg
      obtain ⟨ao, cap, hv⟩ := hb.len
      obtain ⟨n, hn⟩ : ∃ n, n = xs.length := ⟨_, rfl⟩
      rw [← hn] at hv h1 hlong
      subst hv
      have HN := hideIt hn
      clear hb hg hn
      go_enter Try.func4, Try.ntmps4
      go_wp2_with fail
      refine AW.out.mono ?_
      rintro e w1 ⟨rfl, on1⟩
      have A := hideIt (diff_bs (.slice ao n cap) xs m w1 (HB.out.past on1) (by have := HN.out; omega) hm)
      have O1 := hideIt on1
      clear on1 AW
      go_wp2_with fail
      refine A.out.mono ?_
      rintro e w2 ⟨v2, rfl, b2, _, on2⟩
      have O2 := hideIt (O1.out.same on2)
      have B2 := hideIt b2
      have A3 := hideIt (sum_bs (.slice ao n cap) xs m w2 (HB.out.past O2.out) (by have := HN.out; omega) hm)
      clear on2 b2 A
      go_wp2_with fail
      refine A3.out.mono ?_
      rintro e w3 ⟨v3, rfl, b3, _, on3⟩
      have O3 := hideIt (O2.out.same on3)
      have B3 := hideIt b3
      have A4 := sum_bs v2 (D m xs) m w3 (B2.out.past on3) (by rw [D_length]; have := HN.out; omega) hm
      rw [S_D m xs HG.out] at A4
      have A4 := hideIt A4
      clear on3 b3 A3
      go_wp2_with fail
      refine A4.out.mono ?_
      rintro e w4 ⟨v4, rfl, b4, _, on4⟩
      have O4 := hideIt (O3.out.same on4)
      have B4 := hideIt b4
      have A5 := diff_bs v3 (S m xs) m w4 (B3.out.past on4) (by rw [S_length]; have := HN.out; omega) hm
      rw [D_S m xs HG.out] at A5
      have A5 := hideIt A5
      clear on4 b4 A4
      go_wp2_with fail
      refine A5.out.mono ?_
      rintro e w5 ⟨v5, rfl, b5, _, on5⟩
      have O5 := hideIt (O4.out.same on5)
      have B5 := hideIt b5
      have A6 := hideIt (lsame4 v4 (.slice ao n cap) xs w5 (B4.out.past on5) (HB.out.past O5.out) (by have := HN.out; omega))
      clear on5 b5 A5
      go_wp2_with fail
      refine A6.out.mono ?_
      rintro e w6 ⟨rfl, on6⟩
      have O6 := hideIt (O5.out.same on6)
      have A7 := hideIt (lsame4 v5 (.slice ao n cap) xs w6 (B5.out.past on6) (HB.out.past O6.out) (by have := HN.out; omega))
      clear on6 A6
      go_wp2_with fail
      refine A7.out.mono ?_
      rintro e w7 ⟨rfl, on7⟩
      have O7 := hideIt (O6.out.same on7)
      clear on7 A7
      go_wp2
      go_ret
      exact ⟨rfl, O7.out⟩
end Go.Proofs.Ytlfioabaingfbaa

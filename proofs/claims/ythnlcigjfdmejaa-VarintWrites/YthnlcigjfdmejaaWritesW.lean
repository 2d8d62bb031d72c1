/- The walk of VarintWrites: it answers true, and nothing that was there is turned. -/
import Derived.Test.YthnlcigjfdmejaaVRef
import Derived.Test.YthnlcigjfdmejaaVAwake
namespace Go.Proofs.Ythnlcigjfdmejaa
open Go.RowKit

set_option maxHeartbeats 1600000 in
set_option maxRecDepth 100000 in
theorem writes_walk (v0 : Value) (v n : Int) (ys : List Int) (w : World) (hb : Bs .u8 w v0 ys) (hnc : NoCap v0) (h0 : 0 ≤ v) (h1 : v ≤ 18446744073709551615) (h2 : -9223372036854775808 ≤ n) (h3 : n ≤ 9223372036854775807) :
    Calls Try.prog 3 #[v0, .int .u64 v, .int .i64 n] w fun e w' => e = .returned (.bool true) ∧ Below w.heap.size w w' := by
  have HB := hideIt hb
  have NC := hideIt hnc
  obtain ⟨ao, cap, hv0⟩ := hb.len
  obtain ⟨m, hm⟩ : ∃ m, m = ys.length := ⟨_, rfl⟩
  rw [← hm] at hv0
  have HM := hideIt hm
  clear hb hnc hm
  by_cases h300 : 300 < m
  · have d3 : decide (300 < (m : Int)) = true := by simp; omega
    subst hv0
    go_enter Try.func3, Try.ntmps3
    go_wp2_with fail
    refine (awake_any _).mono ?_
    rintro e w0 ⟨rfl, ho0⟩
    go_wp2
    go_ret
    exact ⟨rfl, ho0.low (Nat.le_refl _)⟩
  · have d3 : decide (300 < (m : Int)) = false := by simp; omega
    subst hv0
    have h10 := gs_le10 (v := v.toNat) (by omega)
    obtain ⟨k, hk⟩ : ∃ k, k = (gs v.toNat).length := ⟨_, rfl⟩
    have S1 := hideIt (fun w => size_any v w h0 h1)
    have S2 := hideIt (fun w => rsize_any v w h0 h1)
    rw [← hk] at h10 S1 S2
    have HK := hideIt hk
    have Z1 := hideIt (fun w => zig_any n w h2 h3)
    have Z2 := hideIt (fun w => rzig_any n w h2 h3)
    have Z3 := hideIt (fun w => zag_any v w h0 h1)
    have Z4 := hideIt (fun w => rzag_any v w h0 h1)
    clear hk
    generalize zig n = zn at Z1 Z2
    generalize zag v = zv at Z3 Z4
    have ev : (zn == zn) = true := by simp
    have en : (zv == zv) = true := by simp
    have ek : ((k : Int) == (k : Int)) = true := by simp
    go_enter Try.func3, Try.ntmps3
    go_wp2_with fail
    refine (awake_any _).mono ?_
    rintro e w0 ⟨rfl, ho0⟩
    have B0 := hideIt (ho0.low (Nat.le_refl _))
    clear ho0
    have A1 := hideIt (append_any _ ys v w0 (HB.out.later B0.out) NC.out (by have := HM.out; omega) h0 h1)
    go_wp2_with fail
    refine A1.out.mono ?_
    rintro e w1 ⟨v1, rfl, hown1, hon1⟩
    have B1 := hideIt (B0.out.trans (hon1.low B0.out.size))
    have A2 := hideIt (rappend_any _ ys v w1 (HB.out.later B1.out) NC.out (by have := HM.out; omega) h0 h1)
    have BS1 := hideIt (Bs.of_own hown1)
    clear hown1 hon1 A1
    go_wp2_with fail
    refine A2.out.mono ?_
    rintro e w2 ⟨v2, rfl, hown2, hon2⟩
    have B2 := hideIt (B1.out.trans (hon2.low B1.out.size))
    have SM := hideIt (same_eq v1 v2 (ys ++ gs v.toNat) w2 (BS1.out.later (hon2.low (Nat.le_refl _))) (Bs.of_own hown2) (by rw [List.length_append, ← HK.out, ← HM.out]; omega))
    clear hown2 hon2 A2
    go_wp2_with fail
    refine SM.out.mono ?_
    rintro e w3 ⟨rfl, hon3⟩
    have B3 := hideIt (B2.out.trans (hon3.low B2.out.size))
    clear hon3 SM
    go_wp2_with fail
    refine (S1.out _).mono ?_
    rintro e w4 ⟨rfl, rfl⟩
    go_wp2_with fail
    refine (S2.out _).mono ?_
    rintro e w4 ⟨rfl, hon4⟩
    have B4 := hideIt (B3.out.trans (hon4.low B3.out.size))
    clear hon4
    go_wp2_with fail
    refine (Z1.out _).mono ?_
    rintro e w5 ⟨rfl, rfl⟩
    go_wp2_with fail
    refine (Z2.out _).mono ?_
    rintro e w5 ⟨rfl, rfl⟩
    go_wp2_with fail
    refine (Z3.out _).mono ?_
    rintro e w5 ⟨rfl, rfl⟩
    go_wp2_with fail
    refine (Z4.out _).mono ?_
    rintro e w5 ⟨rfl, rfl⟩
    go_wp2
    go_ret
    exact ⟨rfl, B4.out⟩
end Go.Proofs.Ythnlcigjfdmejaa

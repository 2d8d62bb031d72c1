/- The walk of VarintBack: it answers true, and nothing that was there is turned. -/
import Derived.Test.YthnlcigjfdmejaaVAwake
namespace Go.Proofs.Ythnlcigjfdmejaa
open Go.RowKit

theorem zig_bounds (n : Int) (h0 : -9223372036854775808 ≤ n) (h1 : n ≤ 9223372036854775807) : 0 ≤ zig n ∧ zig n ≤ 18446744073709551615 := by
  unfold zig; split <;> omega
theorem zag_bounds (v : Int) (h0 : 0 ≤ v) (h1 : v ≤ 18446744073709551615) : -9223372036854775808 ≤ zag v ∧ zag v ≤ 9223372036854775807 := by
  unfold zag; split <;> omega

set_option maxHeartbeats 1600000 in
set_option maxRecDepth 100000 in
theorem back_walk (v n : Int) (v2 : Value) (ys : List Int) (w : World) (h0 : 0 ≤ v) (h1 : v ≤ 18446744073709551615) (h2 : -9223372036854775808 ≤ n) (h3 : n ≤ 9223372036854775807)
    (hb : Bs .u8 w v2 ys) (hnc : NoCap v2) (hys : ∀ x ∈ ys, 0 ≤ x ∧ x ≤ 255) :
    Calls Try.prog 5 #[.int .u64 v, .int .i64 n, v2] w fun e w' => e = .returned (.bool true) ∧ Below w.heap.size w w' := by
  obtain ⟨i0, hi, hz0, hz1, hz2⟩ := info_parts Try.infoU8
  have HB := hideIt hb
  have NC := hideIt hnc
  have HY := hideIt hys
  obtain ⟨ao, cap, hv2⟩ := hb.len
  obtain ⟨m, hm⟩ : ∃ m, m = ys.length := ⟨_, rfl⟩
  rw [← hm] at hv2
  have HM := hideIt hm
  clear hb hnc hys hm
  by_cases h300 : 300 < m
  · have d3 : decide (300 < (m : Int)) = true := by simp; omega
    subst hv2
    go_enter Try.func5, Try.ntmps5
    go_wp2_with fail
    refine (awake_any _).mono ?_
    rintro e w0 ⟨rfl, ho0⟩
    go_wp2
    go_ret
    exact ⟨rfl, ho0.low (Nat.le_refl _)⟩
  · have d3 : decide (300 < (m : Int)) = false := by simp; omega
    subst hv2
    have HG := hideIt (gs_range v.toNat)
    have h10 := gs_le10 (v := v.toNat) (by omega)
    have hp := gs_pos v.toNat
    have HRD := hideIt (rd_gs ys v.toNat 0 0 (by omega) (by omega) (by omega))
    obtain ⟨k, hk⟩ : ∃ k, k = (gs v.toNat).length := ⟨_, rfl⟩
    have SV := hideIt (fun w => size_any v w h0 h1)
    rw [← hk] at h10 hp HRD SV
    have HK := hideIt hk
    have Z1 := hideIt (fun w => zig_any n w h2 h3)
    have Z2 := hideIt (fun w => zag_any (zig n) w (zig_bounds n h2 h3).1 (zig_bounds n h2 h3).2)
    have Z3 := hideIt (fun w => zag_any v w h0 h1)
    have Z4 := hideIt (fun w => zig_any (zag v) w (zag_bounds v h0 h1).1 (zag_bounds v h0 h1).2)
    rw [zag_zig] at Z2
    rw [zig_zag v h0] at Z4
    clear hk
    have HRD2 : Hid (rd 0 0 (gs v.toNat ++ ys) = (v, (k : Int), 0)) := by
      have := HRD.out
      simp only [Hid]
      rw [this]
      simp [Int.toNat_of_nonneg h0]
    clear HRD
    generalize zig n = zn at Z1 Z2
    generalize zag v = zv at Z3 Z4
    have ev : (v == v) = true := by simp
    have en : (n == n) = true := by simp
    have ek : ((k : Int) == (k : Int)) = true := by simp
    go_enter Try.func5, Try.ntmps5
    go_wp2_with fail
    refine (awake_any _).mono ?_
    rintro e w0 ⟨rfl, ho0⟩
    have B0 := hideIt (ho0.low (Nat.le_refl _))
    clear ho0
    go_wp2_with fail
    refine (append_any _ [] v _ (Bs.nil _ _) NoCap.nil (by simp) h0 h1).mono ?_
    rw [List.nil_append]
    rw [← HK.out]
    rintro e w1 ⟨v1, rfl, hown1, hon1⟩
    have BS := hideIt (Bs.of_own (xs := gs v.toNat) (by rw [← HK.out]; exact hown1))
    have N1 := hideIt (NoCap.of_own hown1)
    obtain ⟨g, cap1, hv, _⟩ := hown1.form (by omega)
    subst hv
    have B1 := hideIt (B0.out.trans (hon1.low B0.out.size))
    have ho := World.ownsRow_made (base := w.heap.size) (e := 5) (size := 1) w1 #[] 0 B1.out.size (by unfold maxLen; omega) rfl
    have BA := hideIt (BS.out.later ((Below.refl _ _).alloc (Nat.le_refl _) (.cells #[] 5)))
    clear hown1 hon1 BS
    have hs1 := B1.out.size
    go_wp2_with (at_builtin; refine wpList_append_bs _ rfl _ _ _ rfl w.heap.size 5 i0 (.int .u8 0) 1 Try.underlying22 hi hz0 hz1 hz2 rfl _ 0 [] rfl ho .u8 _ (gs v.toNat) rfl BA.out N1.out ?c3 ?c4 ?c5 ?_)
    case c3 => rw [← HK.out]; unfold maxLen; omega
    case c4 => rw [← HK.out]; omega
    case c5 => simp; omega
    intro v' w2 hown2 hgrow2 _ _
    rw [← HK.out] at hown2
    have B2 : Hid (Below w.heap.size w w2) := (B1.out.alloc B1.out.size _).grown hgrow2 (by simp; omega) (fun q hq => by simp [Value.ownBlock] at hq; omega)
    have hs2 := B2.out.size
    have BB := hideIt (HB.out.later B2.out)
    clear hgrow2 ho
    go_wp2_with (at_builtin; refine wpList_append_bs _ rfl _ _ _ rfl w.heap.size 5 i0 (.int .u8 0) 1 Try.underlying22 hi hz0 hz1 hz2 rfl _ k ((gs v.toNat).map (Value.int .u8)) rfl hown2 .u8 _ ys rfl BB.out NC.out ?c3 ?c4 hs2 ?_)
    case c3 => rw [← HM.out]; unfold maxLen; omega
    case c4 => rw [← HM.out]; omega
    intro v'' w3 hown3 hgrow3 _ _
    have B3 : Hid (Below w.heap.size w w3) := B2.out.grown hgrow3 hs2 (fun q hq => (hown2.lt q hq).1)
    have BS3 : Hid (Bs .u8 w3 v'' (gs v.toNat ++ ys)) := by
      refine Bs.of_own (lo := w.heap.size) (E := 5) ?_
      rw [List.length_append, List.map_append, ← HK.out]; exact hown3
    clear hown2 hown3 hgrow3
    have RA := hideIt (read_as v'' (gs v.toNat ++ ys) w3 HRD2.out BS3.out (fun x hx => (List.mem_append.1 hx).elim (HG.out x) (HY.out x)))
    go_wp2_with fail
    refine RA.out.mono ?_
    rintro e w4 ⟨rfl, rfl⟩
    go_wp2_with fail
    refine (SV.out _).mono ?_
    rintro e w4 ⟨rfl, rfl⟩
    go_wp2_with fail
    refine (Z1.out _).mono ?_
    rintro e w4 ⟨rfl, rfl⟩
    go_wp2_with fail
    refine (Z2.out _).mono ?_
    rintro e w4 ⟨rfl, rfl⟩
    go_wp2_with fail
    refine (Z3.out _).mono ?_
    rintro e w4 ⟨rfl, rfl⟩
    go_wp2_with fail
    refine (Z4.out _).mono ?_
    rintro e w4 ⟨rfl, rfl⟩
    go_wp2
    go_ret
    exact ⟨rfl, B3.out⟩
end Go.Proofs.Ythnlcigjfdmejaa

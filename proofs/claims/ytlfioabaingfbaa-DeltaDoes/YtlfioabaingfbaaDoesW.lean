/- The walk of the statement 'either way'. -/
import Derived.Test.YtlfioabaingfbaaDAwake
import Derived.Test.YtlfioabaingfbaaDRef2
namespace Go.Proofs.Ytlfioabaingfbaa
open Go.RowKit

theorem rdiff_bs (v : Value) (xs : List Int) (k : Nat) (w : World) (hb : Bs .i64 w v xs) (nc : NoCap v) (hl : xs.length ≤ 1000000) (hg : ∀ x ∈ xs, G64 x) (hk : k ≤ 3) :
    Calls Try.prog 10 #[v, .int .i64 k] w fun e w' => ∃ v', e = .returned (.tuple #[v', .int .i64 0]) ∧ Bs .i64 w' v' (D k xs) ∧ Only (fun _ => False) w w' := by
  refine (rdiff_in v xs k w hb nc hl hg hk).mono ?_
  rintro e w' ⟨v', rfl, hown, hon⟩
  rw [← D_length k xs] at hown
  exact ⟨v', rfl, Bs.of_own hown, hon⟩
theorem rsum_bs (v : Value) (xs : List Int) (k : Nat) (w : World) (hb : Bs .i64 w v xs) (nc : NoCap v) (hl : xs.length ≤ 1000000) (hg : ∀ x ∈ xs, G64 x) (hk : k ≤ 3) :
    Calls Try.prog 12 #[v, .int .i64 k] w fun e w' => ∃ v', e = .returned (.tuple #[v', .int .i64 0]) ∧ Bs .i64 w' v' (S k xs) ∧ Only (fun _ => False) w w' := by
  refine (rsum_in v xs k w hb nc hl hg hk).mono ?_
  rintro e w' ⟨v', rfl, hown, hon⟩
  rw [← S_length k xs] at hown
  exact ⟨v', rfl, Bs.of_own hown, hon⟩

set_option maxHeartbeats 800000 in
set_option maxRecDepth 100000 in
theorem does_any (v : Value) (xs : List Int) (k : Int) (w : World) (hb : Bs .i64 w v xs) (nc : NoCap v) (hg : ∀ x ∈ xs, G64 x) :
    Calls Try.prog 3 #[v, .int .i64 k] w fun e w' => e = .returned (.bool true) ∧ Only (fun _ => False) w w' := by
  have AW := hideIt (awake_any w)
  by_cases hlong : 1000 < xs.length
  · have h1 : decide ((1000 : Int) < xs.length) = true := decide_eq_true (by omega)
    obtain ⟨ao, cap, rfl⟩ := hb.len
    clear hb nc
    go_enter Try.func3, Try.ntmps3
    go_wp2_with fail
    refine AW.out.mono ?_
    rintro e w1 ⟨rfl, on1⟩
    have O1 := hideIt on1
    clear on1 AW
    go_wp2
    go_ret
    exact ⟨rfl, O1.out⟩
  · have h1 : decide ((1000 : Int) < xs.length) = false := decide_eq_false (by omega)
    by_cases hk : k < 0 ∨ 3 < k
    · have HD := hideIt (fun w1 => diff_out v k w1 hk)
      have HD' := hideIt (fun w1 => rdiff_out v k w1 hk)
      have HS := hideIt (fun w1 => sum_out v k w1 hk)
      have HS' := hideIt (fun w1 => rsum_out v k w1 hk)
      have SM := hideIt (fun w1 => lsame4 (.slice none 0 0) (.slice none 0 0) [] w1 (Bs.nil _ _) (Bs.nil _ _) (by decide))
      obtain ⟨ao, cap, rfl⟩ := hb.len
      clear hb nc hk
      go_enter Try.func3, Try.ntmps3
      go_wp2_with fail
      refine AW.out.mono ?_
      rintro e w1 ⟨rfl, on1⟩
      have O1 := hideIt on1
      clear on1 AW
      go_wp2_with fail
      refine (HD.out w1).mono ?_
      rintro e w2 ⟨rfl, rfl⟩
      go_wp2_with fail
      refine (HD'.out w1).mono ?_
      rintro e w2 ⟨rfl, rfl⟩
      go_wp2_with fail
      refine (HS.out w1).mono ?_
      rintro e w2 ⟨rfl, rfl⟩
      go_wp2_with fail
      refine (HS'.out w1).mono ?_
      rintro e w2 ⟨rfl, rfl⟩
      go_wp2_with fail
      refine (SM.out w1).mono ?_
      rintro e w2 ⟨rfl, on2⟩
      have O2 := hideIt (O1.out.same on2)
      clear on2
      go_wp2_with fail
      refine (SM.out w2).mono ?_
      rintro e w3 ⟨rfl, on3⟩
      have O3 := hideIt (O2.out.same on3)
      clear on3
      go_wp2
      go_ret
      exact ⟨rfl, O3.out⟩
    · obtain ⟨m, hm, rfl⟩ := int_nat (k := k) (by omega) (by omega)
      clear hk
      have HB := hideIt hb
      have HG := hideIt hg
      have NC := hideIt nc
      obtain ⟨ao, cap, hv⟩ := hb.len
      obtain ⟨n, hn⟩ : ∃ n, n = xs.length := ⟨_, rfl⟩
      rw [← hn] at hv h1 hlong
      subst hv
      have HL : Hid (xs.length ≤ 1000000) := by rw [← hn]; exact (by omega : n ≤ 1000000)
      clear hb hg hn nc
      go_enter Try.func3, Try.ntmps3
      go_wp2_with fail
      refine AW.out.mono ?_
      rintro e w1 ⟨rfl, on1⟩
      have A := hideIt (diff_bs (.slice ao n cap) xs m w1 (HB.out.past on1) HL.out hm)
      have O1 := hideIt on1
      clear on1 AW
      go_wp2_with fail
      refine A.out.mono ?_
      rintro e w2 ⟨v2, rfl, b2, _, on2⟩
      have O2 := hideIt (O1.out.same on2)
      have B2 := hideIt b2
      have A3 := hideIt (rdiff_bs (.slice ao n cap) xs m w2 (HB.out.past O2.out) NC.out HL.out HG.out hm)
      clear on2 b2 A
      go_wp2_with fail
      refine A3.out.mono ?_
      rintro e w3 ⟨v3, rfl, b3, on3⟩
      have O3 := hideIt (O2.out.same on3)
      have B3 := hideIt (And.intro (B2.out.past on3) b3)
      have A4 := hideIt (sum_bs (.slice ao n cap) xs m w3 (HB.out.past O3.out) HL.out hm)
      clear on3 b3 A3 B2
      go_wp2_with fail
      refine A4.out.mono ?_
      rintro e w4 ⟨v4, rfl, b4, _, on4⟩
      have O4 := hideIt (O3.out.same on4)
      have B4 := hideIt (And.intro (B3.out.1.past on4) (And.intro (B3.out.2.past on4) b4))
      have A5 := hideIt (rsum_bs (.slice ao n cap) xs m w4 (HB.out.past O4.out) NC.out HL.out HG.out hm)
      clear on4 b4 A4 B3
      go_wp2_with fail
      refine A5.out.mono ?_
      rintro e w5 ⟨v5, rfl, b5, on5⟩
      have O5 := hideIt (O4.out.same on5)
      have B5 := hideIt (And.intro (B4.out.2.2.past on5) b5)
      have A6 := hideIt (lsame4 v2 v3 (D m xs) w5 (B4.out.1.past on5) (B4.out.2.1.past on5) (by rw [D_length]; have := HL.out; omega))
      clear on5 b5 A5 B4
      go_wp2_with fail
      refine A6.out.mono ?_
      rintro e w6 ⟨rfl, on6⟩
      have O6 := hideIt (O5.out.same on6)
      have A7 := hideIt (lsame4 v4 v5 (S m xs) w6 (B5.out.1.past on6) (B5.out.2.past on6) (by rw [S_length]; have := HL.out; omega))
      clear on6 A6
      go_wp2_with fail
      refine A7.out.mono ?_
      rintro e w7 ⟨rfl, on7⟩
      have O7 := hideIt (O6.out.same on7)
      clear on7 A7
      go_wp2
      go_ret
      exact ⟨rfl, O7.out⟩
end Go.Proofs.Ytlfioabaingfbaa

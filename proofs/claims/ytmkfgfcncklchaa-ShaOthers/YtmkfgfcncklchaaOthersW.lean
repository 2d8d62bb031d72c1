/- Two texts: the walk. -/
import Derived.Test.YtmkfgfcncklchaaSumsW
namespace Go.Proofs.Ytmkfgfcncklchaa
open Go.RowKit

set_option maxHeartbeats 800000 in
set_option maxRecDepth 100000 in
theorem others_walk (va vb : Value) (xs ys : List Int) (w : World) (ha : Bs .u8 w va xs) (na : NoCap va) (a8 : U8 xs) (hb : Bs .u8 w vb ys) (nb : NoCap vb) (b8 : U8 ys) :
    Calls Try.prog 8 #[va, vb] w fun e w' => e = .returned (.bool true) ∧ Below w.heap.size w w' := by
  obtain ⟨ao, cap, rfl⟩ := ha.len
  obtain ⟨bo, cbp, rfl⟩ := hb.len
  have A := hideIt (awake_any w)
  by_cases hl : 600 < xs.length ∨ 600 < ys.length
  · clear ha na a8 hb nb b8
    generalize xs.length = n at *
    generalize ys.length = m at *
    by_cases h1 : 600 < n
    · have d0 : decide ((600 : Int) < (n : Int)) = true := decide_eq_true (by omega)
      clear hl
      go_enter Try.func8, Try.ntmps8
      go_wp2_with fail
      refine A.out.mono ?_
      rintro e w1 ⟨rfl, o1⟩
      have O1 := hideIt o1
      clear o1 A
      go_wp2
      go_ret
      exact ⟨rfl, O1.out.low (Nat.le_refl _)⟩
    · have d0 : decide ((600 : Int) < (n : Int)) = false := decide_eq_false (by omega)
      have d1 : decide ((600 : Int) < (m : Int)) = true := decide_eq_true (by omega)
      clear hl
      go_enter Try.func8, Try.ntmps8
      go_wp2_with fail
      refine A.out.mono ?_
      rintro e w1 ⟨rfl, o1⟩
      have O1 := hideIt o1
      clear o1 A
      go_wp2
      go_ret
      exact ⟨rfl, O1.out.low (Nat.le_refl _)⟩
  · have d0 : decide ((600 : Int) < (xs.length : Int)) = false := decide_eq_false (by omega)
    have d1 : decide ((600 : Int) < (ys.length : Int)) = false := decide_eq_false (by omega)
    have HA := hideIt (And.intro ha (And.intro na a8))
    have HB := hideIt (And.intro hb (And.intro nb b8))
    have LA : Hid (xs.length ≤ 600) := (by omega : xs.length ≤ 600)
    have LB : Hid (ys.length ≤ 600) := (by omega : ys.length ≤ 600)
    clear ha na a8 hb nb b8 hl
    obtain ⟨n, hn⟩ : ∃ n, n = xs.length := ⟨_, rfl⟩
    obtain ⟨m, hm⟩ : ∃ m, m = ys.length := ⟨_, rfl⟩
    rw [← hn] at d0 HA ⊢
    rw [← hm] at d1 HB ⊢
    clear hn hm
    go_enter Try.func8, Try.ntmps8
    go_wp2_with fail
    refine A.out.mono ?_
    rintro e w1 ⟨rfl, o1⟩
    have O1 := hideIt o1
    clear o1 A
    have S1 := hideIt (sum_bs _ xs w1 (HA.out.1.past O1.out) HA.out.2.2 (Nat.le_trans LA.out (by decide)))
    go_wp2_with fail
    refine S1.out.mono ?_
    rintro e w2 ⟨v2, rfl, own2, o2⟩
    obtain ⟨b2, g2, c2, rfl, _⟩ := sum_form own2
    have O2 := hideIt (O1.out.same o2)
    have B2 := hideIt b2
    have S2 := hideIt (sum_bs _ ys w2 (HB.out.1.past O2.out) HB.out.2.2 (Nat.le_trans LB.out (by decide)))
    clear o2 own2 b2 S1
    go_wp2_with fail
    refine S2.out.mono ?_
    rintro e w3 ⟨v3, rfl, own3, o3⟩
    obtain ⟨b3, g3, c3, rfl, _⟩ := sum_form own3
    have O3 := hideIt (O2.out.same o3)
    have S3 := hideIt (lsame_any _ _ (SHA xs) (SHA ys) w3 (B2.out.past o3) b3 (sha32 _))
    obtain ⟨D, hD⟩ : ∃ D, D = decide (SHA xs = SHA ys) := ⟨_, rfl⟩
    rw [← hD] at S3
    have HD := hideIt hD
    clear hD
    cases D
    all_goals
      clear o3 own3 b3 S2 B2
      go_wp2_with fail
      refine S3.out.mono ?_
      rintro e w4 ⟨rfl, o4⟩
      have O4 := hideIt (O3.out.same o4)
      have S4 := hideIt (rsum_bs _ xs w4 (HA.out.1.past O4.out) HA.out.2.1 HA.out.2.2 (Nat.le_trans LA.out (by decide)))
      clear o4 S3
      go_wp2_with fail
      refine S4.out.mono ?_
      rintro e w5 ⟨v5, rfl, own5, o5⟩
      obtain ⟨b5, g5, c5, rfl, _⟩ := sum_form own5
      have O5 := hideIt (O4.out.same o5)
      have B5 := hideIt b5
      have S5 := hideIt (rsum_bs _ ys w5 (HB.out.1.past O5.out) HB.out.2.1 HB.out.2.2 (Nat.le_trans LB.out (by decide)))
      clear o5 own5 b5 S4
      go_wp2_with fail
      refine S5.out.mono ?_
      rintro e w6 ⟨v6, rfl, own6, o6⟩
      obtain ⟨b6, g6, c6, rfl, _⟩ := sum_form own6
      have O6 := hideIt (O5.out.same o6)
      have S6 := hideIt (lsame_any _ _ (SHA xs) (SHA ys) w6 (B5.out.past o6) b6 (sha32 _))
      rw [← HD.out] at S6
      clear o6 own6 b6 S5 B5
      go_wp2_with fail
      refine S6.out.mono ?_
      rintro e w7 ⟨rfl, o7⟩
      have O7 := hideIt (O6.out.same o7)
      have S7 := hideIt (sum_bs _ xs w7 (HA.out.1.past O7.out) HA.out.2.2 (Nat.le_trans LA.out (by decide)))
      clear o7 S6
      go_wp2_with fail
      refine S7.out.mono ?_
      rintro e w8 ⟨v8, rfl, own8, o8⟩
      obtain ⟨_, g8, c8, rfl, _⟩ := sum_form own8
      have O8 := hideIt (O7.out.same o8)
      clear o8 own8 S7
      go_wp2
      go_ret
      exact ⟨rfl, O8.out.low (Nat.le_refl _)⟩
end Go.Proofs.Ytmkfgfcncklchaa

/- The walk of the statement on what any patterns are encoded to. -/
import Derived.Test.YtgnaeajfajineaaAw10
import Derived.Test.YtgnaeajfajineaaRe10
namespace Go.Proofs.Ytgnaeajfajineaa
open Go.RowKit

set_option maxHeartbeats 800000 in
set_option maxRecDepth 100000 in
theorem encodes_any (v : Value) (xs : List Int) (w : World) (hb : Bs .u64 w v xs) (hu : U64 xs) :
    Calls Try.prog 3 #[v] w fun e w' => e = .returned (.bool true) ∧ Only (fun _ => False) w w' := by
  have AW := hideIt (awake_any w)
  have HB := hideIt hb
  obtain ⟨ao, cap, rfl⟩ := hb.len
  have HU := hideIt hu
  by_cases h2 : 300 < xs.length ∧ xs.length ≤ 65536
  · have d1 : decide ((300 : Int) < xs.length) = true := decide_eq_true (by omega)
    have d2 : decide ((xs.length : Int) ≤ 65536) = true := decide_eq_true (by omega)
    clear HB HU hb hu h2
    generalize xs.length = m at *
    go_enter Try.func3, Try.ntmps3
    go_wp2_with fail
    refine AW.out.mono ?_
    rintro e w1 ⟨rfl, on1⟩
    have O1 := hideIt on1
    clear on1 AW
    go_wp2
    go_ret
    exact ⟨rfl, O1.out⟩
  · have hd : decide ((300 : Int) < xs.length) = false ∨ (decide ((300 : Int) < xs.length) = true ∧ decide ((xs.length : Int) ≤ 65536) = false) := by
      by_cases h : 300 < xs.length
      · exact .inr ⟨decide_eq_true (by omega), decide_eq_false (by omega)⟩
      · exact .inl (decide_eq_false (by omega))
    have HEL := hideIt (ENC10_len xs)
    have PA := hideIt (fun (w1 : World) (o : Only (fun _ => False) w w1) => encode10_all (.slice ao xs.length cap) xs w1 (HB.out.past o) HU.out)
    have PR := hideIt (fun (w1 : World) (o : Only (fun _ => False) w w1) => rencode10_all (.slice ao xs.length cap) xs w1 (HB.out.past o) HU.out (by omega))
    obtain ⟨m, hm⟩ : ∃ m, m = xs.length := ⟨_, rfl⟩
    rw [← hm] at PA PR hd ⊢
    generalize ENC10 xs = E at *
    obtain ⟨l, c⟩ := E
    simp only at PA PR HEL
    have z0 : (c == c) = true := by simp
    clear HB hb hu h2 hm
    rcases hd with d1 | ⟨d1, d2⟩
    all_goals
      go_enter Try.func3, Try.ntmps3
      go_wp2_with fail
      refine AW.out.mono ?_
      rintro e w1 ⟨rfl, on1⟩
      have O1 := hideIt on1
      have A := hideIt (PA.out w1 on1)
      clear on1 AW PA
      go_wp2_with fail
      refine A.out.mono ?_
      rintro e w2 ⟨v2, rfl, own2, on2⟩
      have O2 := hideIt (O1.out.same on2)
      have B2 := hideIt (Bs.of_own own2)
      have R := hideIt (PR.out w2 O2.out)
      obtain ⟨f2, c2, e2⟩ := B2.out.len
      subst e2
      clear A own2 on2 PR
      go_wp2_with fail
      refine R.out.mono ?_
      rintro e w3 ⟨v3, rfl, own3, on3⟩
      have O3 := hideIt (O2.out.same on3)
      have SM := hideIt (same_eq _ v3 l w3 (B2.out.past on3) (Bs.of_own own3) (by have := HEL.out; omega))
      obtain ⟨f3, c3, e3⟩ := (Bs.of_own own3).len
      subst e3
      clear R own3 on3
      go_wp2_with fail
      refine SM.out.mono ?_
      rintro e w6 ⟨rfl, on6⟩
      have O6 := hideIt (O3.out.same on6)
      clear SM on6
      go_wp2
      go_ret
      exact ⟨rfl, O6.out⟩
end Go.Proofs.Ytgnaeajfajineaa

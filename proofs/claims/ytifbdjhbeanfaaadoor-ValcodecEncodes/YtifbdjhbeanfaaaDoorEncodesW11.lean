/- The walk of the statement on what any patterns are encoded to. -/
import Derived.Test.YtifbdjhbeanfaaaDoorG11
import Derived.Test.YtifbdjhbeanfaaaDoorG14
namespace Go.Proofs.YtifbdjhbeanfaaaDoor
open Go.RowKit

theorem ENC11_le (xs : List Int) : (ENC11 xs).1.length ≤ 1000000 := by
  by_cases h : 65536 < xs.length
  · rw [show ENC11 xs = ([], 4) from if_pos h]; simp
  · have := (ENC11_len (l := xs) (by omega)).1
    omega
set_option maxHeartbeats 800000 in
set_option maxRecDepth 100000 in
theorem encodes_any (v : Value) (xs : List Int) (w : World) (hb : Bs .u64 w v xs) (hu : U64 xs) (hT : Tab w) :
    Calls Tryd.prog 4 #[v] w fun e w' => e = .returned (.bool true) ∧ Only (fun _ => False) w w' := by
  have AW := hideIt (awake_any w hT)
  have HB := hideIt hb
  obtain ⟨ao, cap, rfl⟩ := hb.len
  have HU := hideIt hu
  by_cases h2 : 300 < xs.length ∧ xs.length ≤ 65536
  · have d1 : decide ((300 : Int) < xs.length) = true := decide_eq_true (by omega)
    have d2 : decide ((xs.length : Int) ≤ 65536) = true := decide_eq_true (by omega)
    clear HB HU hb hu h2
    generalize xs.length = m at *
    go_enter Tryd.func4, Tryd.ntmps4
    go_wp2_with fail
    refine AW.out.mono ?_
    rintro e w1 ⟨rfl, on1⟩
    have O1 := hideIt on1
    clear on1 AW
    go_wp2
    go_ret
    exact ⟨rfl, O1.out⟩
  · have hd : decide ((300 : Int) < xs.length) = false ∨ (decide ((300 : Int) < xs.length) = true ∧ decide ((xs.length : Int) ≤ 65536) = false) := by
      by_cases h : 300 < xs.length
      · exact .inr ⟨decide_eq_true (by omega), decide_eq_false (by omega)⟩
      · exact .inl (decide_eq_false (by omega))
    have HEL := hideIt (ENC11_le xs)
    have PA := hideIt (fun (w1 : World) (o : Only (fun _ => False) w w1) => encode11_all (.slice ao xs.length cap) xs w1 (HB.out.past o) HU.out (hT.past o))
    have PR := hideIt (fun (w1 : World) (o : Only (fun _ => False) w w1) => rencode11_all (.slice ao xs.length cap) xs w1 (HB.out.past o) HU.out (by omega))
    obtain ⟨m, hm⟩ : ∃ m, m = xs.length := ⟨_, rfl⟩
    rw [← hm] at PA PR hd ⊢
    generalize ENC11 xs = E at *
    obtain ⟨l, c⟩ := E
    simp only at PA PR HEL
    have z0 : (c == c) = true := by simp
    clear HB hb hu h2 hm
    rcases hd with d1 | ⟨d1, d2⟩
    all_goals
      go_enter Tryd.func4, Tryd.ntmps4
      go_wp2_with fail
      refine AW.out.mono ?_
      rintro e w1 ⟨rfl, on1⟩
      have O1 := hideIt on1
      have A := hideIt (PA.out w1 on1)
      clear on1 AW PA
      go_wp2_with fail
      refine A.out.mono ?_
      rintro e w2 ⟨v2, rfl, own2, on2⟩
      have O2 := hideIt (O1.out.same on2)
      have B2 := hideIt (Bs.of_own own2)
      have R := hideIt (PR.out w2 O2.out)
      obtain ⟨f2, c2, e2⟩ := B2.out.len
      subst e2
      clear A own2 on2 PR
      go_wp2_with fail
      refine R.out.mono ?_
      rintro e w3 ⟨v3, rfl, own3, on3⟩
      have O3 := hideIt (O2.out.same on3)
      have SM := hideIt (same_eq _ v3 l w3 (B2.out.past on3) (Bs.of_own own3) (by have := HEL.out; omega))
      obtain ⟨f3, c3, e3⟩ := (Bs.of_own own3).len
      subst e3
      clear R own3 on3
      go_wp2_with fail
      refine SM.out.mono ?_
      rintro e w6 ⟨rfl, on6⟩
      have O6 := hideIt (O3.out.same on6)
      clear SM on6
      go_wp2
      go_ret
      exact ⟨rfl, O6.out⟩
end Go.Proofs.YtifbdjhbeanfaaaDoor

/- The walk of the statement on what any patterns are, any way. -/
import Derived.Test.YtifbdjhbeanfaaaDoorG11
import Derived.Test.YtifbdjhbeanfaaaDoorG14
namespace Go.Proofs.YtifbdjhbeanfaaaDoor
open Go.RowKit

set_option maxHeartbeats 800000 in
set_option maxRecDepth 100000 in
theorem ways_any (v : Value) (xs : List Int) (tag : Int) (w : World) (hb : Bs .u64 w v xs) (hg : U64 xs) (hT : Tab w) :
    Calls Tryd.prog 3 #[v, .int .i64 tag] w fun e w' => e = .returned (.bool true) ∧ Only (fun _ => False) w w' := by
  have AW := hideIt (awake_any w hT)
  have HB := hideIt hb
  obtain ⟨ao, cap, rfl⟩ := hb.len
  by_cases h2 : 300 < xs.length ∧ xs.length ≤ 65536
  · have d1 : decide ((300 : Int) < xs.length) = true := decide_eq_true (by omega)
    have d2 : decide ((xs.length : Int) ≤ 65536) = true := decide_eq_true (by omega)
    clear HB hb hg h2
    generalize xs.length = m at *
    go_enter Tryd.func3, Tryd.ntmps3
    go_wp2_with fail
    refine AW.out.mono ?_
    rintro e w1 ⟨rfl, on1⟩
    have O1 := hideIt on1
    clear on1 AW
    go_wp2
    go_ret
    exact ⟨rfl, O1.out⟩
  · have hd : decide ((300 : Int) < xs.length) = false ∨ (decide ((300 : Int) < xs.length) = true ∧ decide ((xs.length : Int) ≤ 65536) = false) := by
      by_cases h : 300 < xs.length
      · exact .inr ⟨decide_eq_true (by omega), decide_eq_false (by omega)⟩
      · exact .inl (decide_eq_false (by omega))
    have HEL : Hid ((WAY11 xs tag).1.length ≤ 20000000) := by have := WAY11_len (l := xs) (tag := tag); simp only [Hid]; omega
    have PA := hideIt (fun (w1 : World) (o : Only (fun _ => False) w w1) => way11_any (.slice ao xs.length cap) xs tag w1 (HB.out.past o) hg (hT.past o))
    have PR := hideIt (fun (w1 : World) (o : Only (fun _ => False) w w1) => rway11_any (.slice ao xs.length cap) xs tag w1 (HB.out.past o) hg (by omega))
    obtain ⟨m, hm⟩ : ∃ m, m = xs.length := ⟨_, rfl⟩
    rw [← hm] at PA PR hd ⊢
    generalize WAY11 xs tag = E at *
    obtain ⟨l, c⟩ := E
    simp only at PA PR HEL
    have z0 : (c == c) = true := by simp
    clear HB hb hg h2 hm
    rcases hd with d1 | ⟨d1, d2⟩
    all_goals
      go_enter Tryd.func3, Tryd.ntmps3
      go_wp2_with fail
      refine AW.out.mono ?_
      rintro e w1 ⟨rfl, on1⟩
      have O1 := hideIt on1
      have A := hideIt (PA.out w1 on1)
      clear on1 AW PA
      go_wp2_with fail
      refine A.out.mono ?_
      rintro e w2 ⟨v2, rfl, own2, on2⟩
      have O2 := hideIt (O1.out.same on2)
      have B2 := hideIt (Bs.of_own own2)
      have R := hideIt (PR.out w2 O2.out)
      obtain ⟨f2, c2, e2⟩ := B2.out.len
      subst e2
      clear A own2 on2 PR
      go_wp2_with fail
      refine R.out.mono ?_
      rintro e w3 ⟨v3, rfl, own3, on3⟩
      have O3 := hideIt (O2.out.same on3)
      have SM := hideIt (same_eq _ v3 l w3 (B2.out.past on3) (Bs.of_own own3) (by have := HEL.out; omega))
      obtain ⟨f3, c3, e3⟩ := (Bs.of_own own3).len
      subst e3
      clear R own3 on3
      go_wp2_with fail
      refine SM.out.mono ?_
      rintro e w6 ⟨rfl, on6⟩
      have O6 := hideIt (O3.out.same on6)
      clear SM on6
      go_wp2
      go_ret
      exact ⟨rfl, O6.out⟩
end Go.Proofs.YtifbdjhbeanfaaaDoor

/- The walk of the statement on which patterns any bytes are. -/
import Derived.Test.YtifbdjhbeanfaaaDoorG11
import Derived.Test.YtifbdjhbeanfaaaDoorG18
namespace Go.Proofs.YtifbdjhbeanfaaaDoor
open Go.RowKit

set_option maxHeartbeats 800000 in
set_option maxRecDepth 100000 in
theorem decodes_any (v : Value) (ys : List Int) (n : Int) (w : World) (hb : Bs .u8 w v ys) (hr : ∀ y ∈ ys, 0 ≤ y ∧ y ≤ 255) (hT : Tab w) :
    Calls Tryd.prog 5 #[v, .int .i64 n] w fun e w' => e = .returned (.bool true) ∧ Only (fun _ => False) w w' := by
  have AW := hideIt (awake_any w hT)
  have HB := hideIt hb
  obtain ⟨ao, cap, rfl⟩ := hb.len
  by_cases h1 : 300 < ys.length ∨ (600 < n ∧ n ≤ 65536)
  · have hd : decide ((300 : Int) < ys.length) = true ∨ (decide ((300 : Int) < ys.length) = false ∧ decide ((600 : Int) < n) = true ∧ decide (n ≤ 65536) = true) := by
      by_cases h : 300 < ys.length
      · exact .inl (decide_eq_true (by omega))
      · exact .inr ⟨decide_eq_false (by omega), decide_eq_true (by omega), decide_eq_true (by omega)⟩
    clear HB hb hr h1
    generalize ys.length = m at *
    rcases hd with d1 | ⟨d1, d2, d3⟩
    all_goals
      go_enter Tryd.func5, Tryd.ntmps5
      go_wp2_with fail
      refine AW.out.mono ?_
      rintro e w1 ⟨rfl, on1⟩
      have O1 := hideIt on1
      clear on1 AW
      go_wp2
      go_ret
      exact ⟨rfl, O1.out⟩
  · have d1 : decide ((300 : Int) < ys.length) = false := decide_eq_false (by omega)
    have hd : decide ((600 : Int) < n) = false ∨ (decide ((600 : Int) < n) = true ∧ decide (n ≤ 65536) = false) := by
      by_cases h : 600 < n
      · exact .inr ⟨decide_eq_true (by omega), decide_eq_false (by omega)⟩
      · exact .inl (decide_eq_false (by omega))
    have PA := hideIt (fun (w1 : World) (o : Only (fun _ => False) w w1) => decode11_all (.slice ao ys.length cap) ys n w1 (HB.out.past o) hr (by omega) (hT.past o))
    have PR := hideIt (fun (w1 : World) (o : Only (fun _ => False) w w1) => rdecode11_all (.slice ao ys.length cap) ys n w1 (HB.out.past o) hr (by omega) (by omega))
    have HLN : Hid ((DEC11 ys n).1.length ≤ 65536) := by
      simp only [Hid]
      by_cases h0 : (DEC11 ys n).2 = 0
      · have := DEC11_ok hr h0; omega
      · rw [DEC11_err h0]; decide
    obtain ⟨m, hm⟩ : ∃ m, m = ys.length := ⟨_, rfl⟩
    rw [← hm] at PA PR d1 ⊢
    generalize DEC11 ys n = E at *
    obtain ⟨l, c⟩ := E
    simp only at PA PR HLN
    have z0 : (c == c) = true := by simp
    clear HB hb hr h1 hm
    rcases hd with d2 | ⟨d2, d3⟩
    all_goals
      go_enter Tryd.func5, Tryd.ntmps5
      go_wp2_with fail
      refine AW.out.mono ?_
      rintro e w1 ⟨rfl, on1⟩
      have O1 := hideIt on1
      have A := hideIt (PA.out w1 on1)
      clear on1 AW PA
      go_wp2_with fail
      refine A.out.mono ?_
      rintro e w2 ⟨v2, rfl, own2, on2⟩
      have O2 := hideIt (O1.out.same on2)
      have B2 := hideIt (Bs.of_own own2)
      have R := hideIt (PR.out w2 O2.out)
      obtain ⟨f2, c2, e2⟩ := B2.out.len
      subst e2
      clear A own2 on2 PR
      go_wp2_with fail
      refine R.out.mono ?_
      rintro e w3 ⟨v3, rfl, own3, on3⟩
      have b3 := Bs.of_own own3
      have O3 := hideIt (O2.out.same on3)
      have SM := hideIt (lsame11 _ v3 l w3 (B2.out.past on3) b3 (by have := HLN.out; omega))
      obtain ⟨f3, c3, e3⟩ := b3.len
      subst e3
      clear R b3 own3 on3
      go_wp2_with fail
      refine SM.out.mono ?_
      rintro e w6 ⟨rfl, on6⟩
      have O6 := hideIt (O3.out.same on6)
      clear SM on6
      go_wp2
      go_ret
      exact ⟨rfl, O6.out⟩
end Go.Proofs.YtifbdjhbeanfaaaDoor

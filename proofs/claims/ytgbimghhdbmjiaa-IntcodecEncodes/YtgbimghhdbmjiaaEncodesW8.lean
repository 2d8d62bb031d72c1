/- The walk of the statement on what any ints are encoded to. -/
import Derived.Test.YtgbimghhdbmjiaaG12
import Derived.Test.YtgbimghhdbmjiaaRe8
namespace Go.Proofs.Ytgbimghhdbmjiaa
open Go.RowKit

theorem ENC8_lim (l : List Int) : (ENC8 l).1.length ≤ 20000000 := by
  by_cases hl : l.length ≤ 65536
  · have := (ENC8_len hl).1; omega
  · unfold ENC8; rw [if_pos (by omega)]; decide
set_option maxHeartbeats 800000 in
set_option maxRecDepth 100000 in
theorem encodes_any (v : Value) (xs : List Int) (w : World) (hb : Bs .i64 w v xs) (nc : NoCap v) (hg : I64s xs) :
    Calls Try.prog 4 #[v] w fun e w' => e = .returned (.bool true) ∧ Only (fun _ => False) w w' := by
  have AW := hideIt (awake_any w)
  have HB := hideIt hb
  have NC := hideIt nc
  obtain ⟨ao, cap, rfl⟩ := hb.len
  by_cases h2 : 300 < xs.length ∧ xs.length ≤ 65536
  · have d1 : decide ((300 : Int) < xs.length) = true := decide_eq_true (by omega)
    have d2 : decide ((xs.length : Int) ≤ 65536) = true := decide_eq_true (by omega)
    clear HB NC hb hg h2 nc
    generalize xs.length = m at *
    go_enter Try.func4, Try.ntmps4
    go_wp2_with fail
    refine AW.out.mono ?_
    rintro e w1 ⟨rfl, on1⟩
    have O1 := hideIt on1
    clear on1 AW
    go_wp2
    go_ret
    exact ⟨rfl, O1.out⟩
  · have hd : decide ((300 : Int) < xs.length) = false ∨ (decide ((300 : Int) < xs.length) = true ∧ decide ((xs.length : Int) ≤ 65536) = false) := by
      by_cases h : 300 < xs.length
      · exact .inr ⟨decide_eq_true (by omega), decide_eq_false (by omega)⟩
      · exact .inl (decide_eq_false (by omega))
    have HEL : Hid ((ENC8 xs).1.length ≤ 20000000) := ENC8_lim xs
    have PA := hideIt (fun (w1 : World) (o : Only (fun _ => False) w w1) => encode8_all (.slice ao xs.length cap) xs w1 (HB.out.past o) hg)
    have PR := hideIt (fun (w1 : World) (o : Only (fun _ => False) w w1) => rencode8_all (.slice ao xs.length cap) xs w1 (HB.out.past o) NC.out hg (by omega))
    obtain ⟨m, hm⟩ : ∃ m, m = xs.length := ⟨_, rfl⟩
    rw [← hm] at PA PR hd ⊢
    generalize ENC8 xs = E at *
    obtain ⟨l, c⟩ := E
    simp only at PA PR HEL
    have z0 : (c == c) = true := by simp
    clear HB NC hb hg h2 hm nc
    rcases hd with d1 | ⟨d1, d2⟩
    all_goals
      go_enter Try.func4, Try.ntmps4
      go_wp2_with fail
      refine AW.out.mono ?_
      rintro e w1 ⟨rfl, on1⟩
      have O1 := hideIt on1
      have A := hideIt (PA.out w1 on1)
      clear on1 AW PA
      go_wp2_with fail
      refine A.out.mono ?_
      rintro e w2 ⟨v2, rfl, own2, on2⟩
      have O2 := hideIt (O1.out.same on2)
      have B2 := hideIt (Bs.of_own own2)
      have R := hideIt (PR.out w2 O2.out)
      obtain ⟨f2, c2, e2⟩ := B2.out.len
      subst e2
      clear A own2 on2 PR
      go_wp2_with fail
      refine R.out.mono ?_
      rintro e w3 ⟨v3, rfl, own3, on3⟩
      have O3 := hideIt (O2.out.same on3)
      have SM := hideIt (same_eq _ v3 l w3 (B2.out.past on3) (Bs.of_own own3) (by have := HEL.out; omega))
      obtain ⟨f3, c3, e3⟩ := (Bs.of_own own3).len
      subst e3
      clear R own3 on3
      go_wp2_with fail
      refine SM.out.mono ?_
      rintro e w6 ⟨rfl, on6⟩
      have O6 := hideIt (O3.out.same on6)
      clear SM on6
      go_wp2
      go_ret
      exact ⟨rfl, O6.out⟩
end Go.Proofs.Ytgbimghhdbmjiaa

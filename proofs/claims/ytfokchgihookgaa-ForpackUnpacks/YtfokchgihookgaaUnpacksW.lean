/- The walk of the statement on which numbers any bytes are. -/
import Derived.Test.YtfokchgihookgaaFAwake
import Derived.Test.YtfokchgihookgaaRUn
namespace Go.Proofs.Ytfokchgihookgaa
open Go.RowKit

set_option maxHeartbeats 800000 in
set_option maxRecDepth 100000 in
theorem unpacks_run (v : Value) (ys : List Int) (n : Int) (w : World) (hb : Bs .u8 w v ys) (hr : ∀ y ∈ ys, 0 ≤ y ∧ y ≤ 255) (h1 : ys.length ≤ 300) (hn : n ≤ 400 ∨ 65536 < n) :
    Calls Try.prog 4 #[v, .int .i64 n] w fun e w' => e = .returned (.bool true) ∧ Only (fun _ => False) w w' := by
  have AW := hideIt (awake_any w)
  have HB := hideIt hb
  obtain ⟨ao, cap, rfl⟩ := hb.len
  have HR := hideIt hr
  clear hb hr
  have d1 : decide ((300 : Int) < ys.length) = false := decide_eq_false (by omega)
  have HL : Hid ((UN ys n).2.length ≤ 140737488355328) := by
    simp only [Hid]
    by_cases h0 : (UN ys n).1 = 0
    · have := UN_ok h0; omega
    · rw [UN_err ys n h0]; decide
  have PA := fun (w1 : World) (o : Only (fun _ => False) w w1) => unpack_bs (.slice ao ys.length cap) ys n w1 (HB.out.past o) HR.out (by omega)
  have PR := fun (w1 : World) (o : Only (fun _ => False) w w1) => runpack_bs (.slice ao ys.length cap) ys n w1 (HB.out.past o) HR.out h1 hn
  have PA := hideIt PA
  have PR := hideIt PR
  have hd : decide (400 < n) = false ∨ (decide (400 < n) = true ∧ decide (n ≤ 65536) = false) := by
    rcases hn with h | h
    · exact .inl (decide_eq_false (by omega))
    · exact .inr ⟨decide_eq_true (by omega), decide_eq_false (by omega)⟩
  obtain ⟨m, hm⟩ : ∃ m, m = ys.length := ⟨_, rfl⟩
  rw [← hm] at HB PA PR d1 ⊢
  obtain ⟨U, hU⟩ : ∃ U, U = UN ys n := ⟨_, rfl⟩
  rw [← hU] at PA PR HL
  obtain ⟨c, l⟩ := U
  simp only at PA PR HL
  have z0 : (c == c) = true := by simp
  clear h1 hm hn hU
  rcases hd with d2 | ⟨d2, d3⟩
  · go_enter Try.func4, Try.ntmps4
    go_wp2_with fail
    refine AW.out.mono ?_
    rintro e w1 ⟨rfl, on1⟩
    have O1 := hideIt on1
    have A := hideIt (PA.out w1 on1)
    clear on1 AW PA
    go_wp2_with fail
    refine A.out.mono ?_
    rintro e w2 ⟨v2, rfl, own2, on2⟩
    have O2 := hideIt (O1.out.same on2)
    have B2 := hideIt (Bs.of_own own2)
    have R := hideIt (PR.out w2 O2.out)
    obtain ⟨f2, c2, e2⟩ := B2.out.len
    subst e2
    clear A own2 on2 PR
    go_wp2_with fail
    refine R.out.mono ?_
    rintro e w3 ⟨v3, rfl, b3, on3⟩
    have O3 := hideIt (O2.out.same on3)
    have SM := hideIt (lsame5 _ v3 l w3 (B2.out.past on3) b3 HL.out)
    obtain ⟨f3, c3, e3⟩ := b3.len
    subst e3
    clear R b3 on3
    go_wp2_with fail
    refine SM.out.mono ?_
    rintro e w4 ⟨rfl, on4⟩
    have O4 := hideIt (O3.out.same on4)
    clear SM on4
    go_wp2
    go_ret
    exact ⟨rfl, O4.out⟩
  · go_enter Try.func4, Try.ntmps4
    go_wp2_with fail
    refine AW.out.mono ?_
    rintro e w1 ⟨rfl, on1⟩
    have O1 := hideIt on1
    have A := hideIt (PA.out w1 on1)
    clear on1 AW PA
    go_wp2_with fail
    refine A.out.mono ?_
    rintro e w2 ⟨v2, rfl, own2, on2⟩
    have O2 := hideIt (O1.out.same on2)
    have B2 := hideIt (Bs.of_own own2)
    have R := hideIt (PR.out w2 O2.out)
    obtain ⟨f2, c2, e2⟩ := B2.out.len
    subst e2
    clear A own2 on2 PR
    go_wp2_with fail
    refine R.out.mono ?_
    rintro e w3 ⟨v3, rfl, b3, on3⟩
    have O3 := hideIt (O2.out.same on3)
    have SM := hideIt (lsame5 _ v3 l w3 (B2.out.past on3) b3 HL.out)
    obtain ⟨f3, c3, e3⟩ := b3.len
    subst e3
    clear R b3 on3
    go_wp2_with fail
    refine SM.out.mono ?_
    rintro e w4 ⟨rfl, on4⟩
    have O4 := hideIt (O3.out.same on4)
    clear SM on4
    go_wp2
    go_ret
    exact ⟨rfl, O4.out⟩

set_option maxHeartbeats 800000 in
set_option maxRecDepth 100000 in
theorem unpacks_any (v : Value) (ys : List Int) (n : Int) (w : World) (hb : Bs .u8 w v ys) (hr : ∀ y ∈ ys, 0 ≤ y ∧ y ≤ 255) :
    Calls Try.prog 4 #[v, .int .i64 n] w fun e w' => e = .returned (.bool true) ∧ Only (fun _ => False) w w' := by
  by_cases h1 : ys.length ≤ 300
  · by_cases hn : n ≤ 400 ∨ 65536 < n
    · exact unpacks_run v ys n w hb hr h1 hn
    · have AW := hideIt (awake_any w)
      obtain ⟨ao, cap, rfl⟩ := hb.len
      have d1 : decide ((300 : Int) < ys.length) = false := decide_eq_false (by omega)
      have d2 : decide (400 < n) = true := decide_eq_true (by omega)
      have d3 : decide (n ≤ 65536) = true := decide_eq_true (by omega)
      clear hb hr hn h1
      generalize ys.length = m at *
      go_enter Try.func4, Try.ntmps4
      go_wp2_with fail
      refine AW.out.mono ?_
      rintro e w1 ⟨rfl, on1⟩
      have O1 := hideIt on1
      clear on1 AW
      go_wp2
      go_ret
      exact ⟨rfl, O1.out⟩
  · have AW := hideIt (awake_any w)
    obtain ⟨ao, cap, rfl⟩ := hb.len
    have d1 : decide ((300 : Int) < ys.length) = true := decide_eq_true (by omega)
    clear hb hr h1
    generalize ys.length = m at *
    go_enter Try.func4, Try.ntmps4
    go_wp2_with fail
    refine AW.out.mono ?_
    rintro e w1 ⟨rfl, on1⟩
    have O1 := hideIt on1
    clear on1 AW
    go_wp2
    go_ret
    exact ⟨rfl, O1.out⟩
end Go.Proofs.Ytfokchgihookgaa

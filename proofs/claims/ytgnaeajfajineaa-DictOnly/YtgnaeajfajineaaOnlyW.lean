/- The walk of the statement 'one way alone'. -/
import Derived.Test.YtgnaeajfajineaaAw10
namespace Go.Proofs.Ytgnaeajfajineaa
open Go.RowKit

theorem DEC10_facts (ys : List Int) (n : Int) (hr : ∀ y ∈ ys, 0 ≤ y ∧ y ≤ 255) : (∃ c, DEC10 ys n = ([], c) ∧ c ≠ 0) ∨ ∃ l, DEC10 ys n = (l, 0) ∧ U64 l ∧ (l.length : Int) = n ∧ ENC10 l = (ys, 0) := by
  by_cases h : (DEC10 ys n).2 = 0
  · obtain ⟨_, _, h3, h4, h5⟩ := DEC10_ok hr h
    exact .inr ⟨_, Prod.ext rfl h, h4, h3, h5⟩
  · exact .inl ⟨_, Prod.ext (DEC10_err h) rfl, h⟩

set_option maxHeartbeats 800000 in
set_option maxRecDepth 100000 in
theorem only_long (v : Value) (ys : List Int) (n : Int) (w : World) (hb : Bs .u8 w v ys) (h1 : 300 < ys.length) :
    Calls Try.prog 6 #[v, .int .i64 n] w fun e w' => e = .returned (.bool true) ∧ Only (fun _ => False) w w' := by
  have AW := hideIt (awake_any w)
  obtain ⟨ao, cap, rfl⟩ := hb.len
  have d1 : decide ((300 : Int) < ys.length) = true := decide_eq_true (by omega)
  clear hb h1
  generalize ys.length = m at *
  go_enter Try.func6, Try.ntmps6
  go_wp2_with fail
  refine AW.out.mono ?_
  rintro e w1 ⟨rfl, on1⟩
  have O1 := hideIt on1
  clear on1 AW
  go_wp2
  go_ret
  exact ⟨rfl, O1.out⟩

set_option maxHeartbeats 800000 in
set_option maxRecDepth 100000 in
theorem only_great (v : Value) (ys : List Int) (n : Int) (w : World) (hb : Bs .u8 w v ys) (h1 : ys.length ≤ 300) (h2 : 600 < n) :
    Calls Try.prog 6 #[v, .int .i64 n] w fun e w' => e = .returned (.bool true) ∧ Only (fun _ => False) w w' := by
  have AW := hideIt (awake_any w)
  obtain ⟨ao, cap, rfl⟩ := hb.len
  have d1 : decide ((300 : Int) < ys.length) = false := decide_eq_false (by omega)
  have d2 : decide (600 < n) = true := decide_eq_true h2
  clear hb h1
  generalize ys.length = m at *
  go_enter Try.func6, Try.ntmps6
  go_wp2_with fail
  refine AW.out.mono ?_
  rintro e w1 ⟨rfl, on1⟩
  have O1 := hideIt on1
  clear on1 AW
  go_wp2
  go_ret
  exact ⟨rfl, O1.out⟩

set_option maxHeartbeats 800000 in
set_option maxRecDepth 100000 in
theorem only_run (v : Value) (ys : List Int) (n : Int) (w : World) (hb : Bs .u8 w v ys) (hr : ∀ y ∈ ys, 0 ≤ y ∧ y ≤ 255) (h1 : ys.length ≤ 300) (h2 : n ≤ 600) :
    Calls Try.prog 6 #[v, .int .i64 n] w fun e w' => e = .returned (.bool true) ∧ Only (fun _ => False) w w' := by
  have AW := hideIt (awake_any w)
  have HB := hideIt hb
  obtain ⟨ao, cap, rfl⟩ := hb.len
  have HR := hideIt hr
  have d1 : decide ((300 : Int) < ys.length) = false := decide_eq_false (by omega)
  have d2 : decide (600 < n) = false := decide_eq_false (by omega)
  have PA := hideIt (fun (w1 : World) (o : Only (fun _ => False) w w1) => decode10_all (.slice ao ys.length cap) ys n w1 (HB.out.past o) HR.out (by omega))
  have HF := hideIt (DEC10_facts ys n hr)
  have HL := hideIt h1
  obtain ⟨m, hm⟩ : ∃ m, m = ys.length := ⟨_, rfl⟩
  rw [← hm] at HB PA d1 ⊢
  clear hm h1 hb hr
  rcases HF.out with ⟨c, e0, hc⟩ | ⟨l, e0, hup, hln, hen⟩
  · rw [e0] at PA
    simp only at PA
    have z0 : (c != 0) = true := by simpa using hc
    clear HF e0 hc
    go_enter Try.func6, Try.ntmps6
    go_wp2_with fail
    refine AW.out.mono ?_
    rintro e w1 ⟨rfl, on1⟩
    have O1 := hideIt on1
    have A := hideIt (PA.out w1 on1)
    clear on1 AW PA
    go_wp2_with fail
    refine A.out.mono ?_
    rintro e w2 ⟨v2, rfl, own2, on2⟩
    have O2 := hideIt (O1.out.same on2)
    obtain ⟨f2, c2, e2⟩ := (Bs.of_own (k := .u64) (xs := []) own2).len
    subst e2
    clear A own2 on2
    go_wp2
    go_ret
    exact ⟨rfl, O2.out⟩
  · rw [e0] at PA
    simp only at PA
    have EN := fun (w2 : World) (v2 : Value) (b : Bs .u64 w2 v2 l) (o : Only (fun _ => False) w w2) => encode10_all v2 l w2 b hup
    rw [hen] at EN
    have EN := hideIt EN
    have z0 : ((l.length : Int) == n) = true := by simp; exact hln
    obtain ⟨q, hq⟩ : ∃ q, q = l.length := ⟨_, rfl⟩
    rw [← hq] at z0
    have HQ := hideIt hq
    clear HF e0 hup hln hen hq
    go_enter Try.func6, Try.ntmps6
    go_wp2_with fail
    refine AW.out.mono ?_
    rintro e w1 ⟨rfl, on1⟩
    have O1 := hideIt on1
    have A := hideIt (PA.out w1 on1)
    clear on1 AW PA
    go_wp2_with fail
    refine A.out.mono ?_
    rintro e w2 ⟨v2, rfl, own2, on2⟩
    have O2 := hideIt (O1.out.same on2)
    have B2 := hideIt (Bs.of_own own2)
    have B := hideIt (EN.out w2 v2 B2.out O2.out)
    obtain ⟨f2, c2, e2⟩ := B2.out.len
    rw [← HQ.out] at e2
    subst e2
    clear A own2 on2 EN
    go_wp2_with fail
    refine B.out.mono ?_
    rintro e w3 ⟨v3, rfl, own3, on3⟩
    have O3 := hideIt (O2.out.same on3)
    have SM := hideIt (same_eq v3 (.slice ao m cap) ys w3 (Bs.of_own own3) (HB.out.past O3.out) (by have := HL.out; omega))
    obtain ⟨f3, c3, e3⟩ := (Bs.of_own own3).len
    subst e3
    clear B own3 on3
    go_wp2_with fail
    refine SM.out.mono ?_
    rintro e w4 ⟨rfl, on4⟩
    have O4 := hideIt (O3.out.same on4)
    clear SM on4
    go_wp2
    go_ret
    exact ⟨rfl, O4.out⟩

theorem only_any (v : Value) (ys : List Int) (n : Int) (w : World) (hb : Bs .u8 w v ys) (hr : ∀ y ∈ ys, 0 ≤ y ∧ y ≤ 255) :
    Calls Try.prog 6 #[v, .int .i64 n] w fun e w' => e = .returned (.bool true) ∧ Only (fun _ => False) w w' := by
  by_cases h : 300 < ys.length
  · exact only_long v ys n w hb h
  · by_cases h2 : 600 < n
    · exact only_great v ys n w hb (by omega) h2
    · exact only_run v ys n w hb hr (by omega) (by omega)
end Go.Proofs.Ytgnaeajfajineaa

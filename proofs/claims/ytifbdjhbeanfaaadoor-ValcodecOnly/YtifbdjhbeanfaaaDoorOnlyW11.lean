/- The walk of the statement 'one way alone' on a list of patterns. -/
import Derived.Test.YtifbdjhbeanfaaaDoorG11
namespace Go.Proofs.YtifbdjhbeanfaaaDoor
open Go.RowKit

set_option maxHeartbeats 800000 in
set_option maxRecDepth 100000 in
theorem only_long (v : Value) (ys : List Int) (n tag : Int) (w : World) (hb : Bs .u8 w v ys) (h1 : 300 < ys.length ∨ 600 < n) (hT : Tab w) :
    Calls Tryd.prog 7 #[v, .int .i64 n, .int .i64 tag] w fun e w' => e = .returned (.bool true) ∧ Only (fun _ => False) w w' := by
  have AW := hideIt (awake_any w hT)
  obtain ⟨ao, cap, rfl⟩ := hb.len
  have hd : decide ((300 : Int) < ys.length) = true ∨ (decide ((300 : Int) < ys.length) = false ∧ decide ((600 : Int) < n) = true) := by
    by_cases h : 300 < ys.length
    · exact .inl (decide_eq_true (by omega))
    · exact .inr ⟨decide_eq_false (by omega), decide_eq_true (by omega)⟩
  clear hb h1
  generalize ys.length = m at *
  rcases hd with d1 | ⟨d1, d2⟩
  all_goals
    go_enter Tryd.func7, Tryd.ntmps7
    go_wp2_with fail
    refine AW.out.mono ?_
    rintro e w1 ⟨rfl, on1⟩
    have O1 := hideIt on1
    clear on1 AW
    go_wp2
    go_ret
    exact ⟨rfl, O1.out⟩

set_option maxHeartbeats 1600000 in
set_option maxRecDepth 100000 in
theorem only_run (v : Value) (ys : List Int) (n tag : Int) (w : World) (hb : Bs .u8 w v ys) (hr : (∀ y ∈ ys, 0 ≤ y ∧ y ≤ 255)) (h1 : ys.length ≤ 300) (h2 : n ≤ 600) (hT : Tab w) :
    Calls Tryd.prog 7 #[v, .int .i64 n, .int .i64 tag] w fun e w' => e = .returned (.bool true) ∧ Only (fun _ => False) w w' := by
  have AW := hideIt (awake_any w hT)
  have HB := hideIt hb
  obtain ⟨ao, cap, rfl⟩ := hb.len
  have d1 : decide ((300 : Int) < ys.length) = false := decide_eq_false (by omega)
  have d2 : decide ((600 : Int) < n) = false := decide_eq_false (by omega)
  have PA := hideIt (fun (w1 : World) (o : Only (fun _ => False) w w1) => decode11_all (.slice ao ys.length cap) ys n w1 (HB.out.past o) hr (by omega) (hT.past o))
  have HOK := hideIt (fun h0 => DEC11_ok (b := ys) (n := n) hr h0)
  have HER := hideIt (fun h0 => DEC11_err (b := ys) (n := n) h0)
  have HL := hideIt h1
  obtain ⟨m, hm⟩ : ∃ m, m = ys.length := ⟨_, rfl⟩
  rw [← hm] at HB PA d1 ⊢
  have HM := hideIt hm
  clear hm h1 hb hr h2
  generalize DEC11 ys n = DD at *
  obtain ⟨l, c⟩ := DD
  simp only at PA HOK HER
  by_cases hc : c = 0
  · subst hc
    obtain ⟨hn0, hn1, hln, hg, hen⟩ := HOK.out rfl
    have EN := fun (w2 : World) (v2 : Value) (b : Bs .u64 w2 v2 l) (o : Only (fun _ => False) w w2) => encode11_all v2 l w2 b hg (hT.past o)
    rw [hen] at EN
    have EN := hideIt EN
    have WY := hideIt (fun (w2 : World) (v2 : Value) (b : Bs .u64 w2 v2 l) (o : Only (fun _ => False) w w2) => way11_any v2 l tag w2 b hg (hT.past o))
    have HMIN : Hid ((WAY11 l tag).2 = 0 → ys.length ≤ (WAY11 l tag).1.length + 1) := fun h0 => by
      have := ENC11_min (l := l) (by omega) h0
      rw [hen] at this
      exact this
    have z0 : ((l.length : Int) == n) = true := by simp; exact hln
    have HWL := hideIt (WAY11_len (l := l) (tag := tag))
    obtain ⟨q, hq⟩ : ∃ q, q = l.length := ⟨_, rfl⟩
    rw [← hq] at z0
    have HQ := hideIt hq
    clear HOK HER hn0 hn1 hln hg hen hq
    generalize WAY11 l tag = W at *
    obtain ⟨W1, c2⟩ := W
    simp only at WY HMIN HWL
    rw [← HM.out] at HMIN
    go_enter Tryd.func7, Tryd.ntmps7
    go_wp2_with fail
    refine AW.out.mono ?_
    rintro e w1 ⟨rfl, on1⟩
    have O1 := hideIt on1
    have A := hideIt (PA.out w1 on1)
    clear on1 AW PA
    go_wp2_with fail
    refine A.out.mono ?_
    rintro e w2 ⟨v2, rfl, own2, on2⟩
    have O2 := hideIt (O1.out.same on2)
    have B2 := hideIt (Bs.of_own own2)
    have B := hideIt (EN.out w2 v2 B2.out O2.out)
    have WY2 : Hid (∀ w3, Only (fun _ => False) w2 w3 → Calls Tryd.prog 10 #[v2, .int .i64 tag] w3 fun e w' => ∃ u, e = .returned (.tuple #[u, .int .i64 c2]) ∧ w'.ownsRow w3.heap.size 5 1 u W1.length (W1.map (Value.int .u8)) ∧ Only (fun _ => False) w3 w') := fun w3 o => WY.out w3 v2 (B2.out.past o) (O2.out.same o)
    obtain ⟨f2, c2', e2⟩ := B2.out.len
    rw [← HQ.out] at e2
    subst e2
    clear A own2 on2 EN WY B2
    go_wp2_with fail
    refine B.out.mono ?_
    rintro e w3 ⟨v3, rfl, own3, on3⟩
    have O3 := hideIt (O2.out.same on3)
    have WW := hideIt (WY2.out w3 on3)
    have B3 := hideIt (Bs.of_own own3)
    obtain ⟨f3, c3, e3⟩ := B3.out.len
    rw [← HM.out] at e3
    subst e3
    clear B own3 on3 WY2
    go_wp2_with fail
    refine WW.out.mono ?_
    rintro e w4 ⟨v4, rfl, own4, on4⟩
    have O4 := hideIt (O3.out.same on4)
    have SM := hideIt (same_eq (.slice f3 m c3) (.slice ao m cap) ys w4 (B3.out.past on4) (HB.out.past O4.out) (by have := HL.out; omega))
    obtain ⟨f4, c4, e4⟩ := (Bs.of_own own4).len
    subst e4
    clear WW own4 on4 B3
    by_cases hc2 : c2 = 0
    · subst hc2
      have hmin := HMIN.out rfl
      have d3 : decide ((m : Int) ≤ (W1.length : Int) + 1) = true := decide_eq_true (by omega)
      have d4 : decide (m ≤ W1.length + 1) = true := decide_eq_true hmin
      have hwl := HWL.out
      go_wp2_with fail
      refine SM.out.mono ?_
      rintro e w5 ⟨rfl, on5⟩
      have O5 := hideIt (O4.out.same on5)
      clear SM on5
      go_wp2
      go_ret
      exact ⟨rfl, O5.out⟩
    · have dc : (c2 != 0) = true := by simp; exact hc2
      go_wp2_with fail
      refine SM.out.mono ?_
      rintro e w5 ⟨rfl, on5⟩
      have O5 := hideIt (O4.out.same on5)
      clear SM on5
      go_wp2
      go_ret
      exact ⟨rfl, O5.out⟩
  · have hl := HER.out hc
    subst hl
    have z0 : (c != 0) = true := by simp; exact hc
    clear HOK HER
    go_enter Tryd.func7, Tryd.ntmps7
    go_wp2_with fail
    refine AW.out.mono ?_
    rintro e w1 ⟨rfl, on1⟩
    have O1 := hideIt on1
    have A := hideIt (PA.out w1 on1)
    clear on1 AW PA
    go_wp2_with fail
    refine A.out.mono ?_
    rintro e w2 ⟨v2, rfl, own2, on2⟩
    have O2 := hideIt (O1.out.same on2)
    obtain ⟨f2, c2, e2⟩ := (Bs.of_own (k := .u64) (xs := []) own2).len
    subst e2
    clear A own2 on2
    go_wp2
    go_ret
    exact ⟨rfl, O2.out⟩

theorem only_any (v : Value) (ys : List Int) (n tag : Int) (w : World) (hb : Bs .u8 w v ys) (hr : ∀ y ∈ ys, 0 ≤ y ∧ y ≤ 255) (hT : Tab w) :
    Calls Tryd.prog 7 #[v, .int .i64 n, .int .i64 tag] w fun e w' => e = .returned (.bool true) ∧ Only (fun _ => False) w w' := by
  by_cases h : 300 < ys.length ∨ 600 < n
  · exact only_long v ys n tag w hb h hT
  · exact only_run v ys n tag w hb hr (by omega) (by omega) hT
end Go.Proofs.YtifbdjhbeanfaaaDoor

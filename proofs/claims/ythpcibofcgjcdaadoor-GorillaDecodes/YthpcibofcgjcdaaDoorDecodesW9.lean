/- The walk of the statement on which patterns any bytes are. -/
import Derived.Test.YthpcibofcgjcdaaDoorAw9
import Derived.Test.YthpcibofcgjcdaaDoorRd9
namespace Go.Proofs.YthpcibofcgjcdaaDoor
open Go.RowKit

theorem DEC9_len (ys : List Int) (n : Int) : (DEC9 ys n).1.length ≤ 140737488355328 := by
  by_cases h : (DEC9 ys n).2 = 0
  · obtain ⟨h1, h2, h3, _, _⟩ := DEC9_ok h
    omega
  · rw [DEC9_err h]; simp
set_option maxHeartbeats 800000 in
set_option maxRecDepth 100000 in
theorem decodes_out (v : Value) (ys : List Int) (n : Int) (w : World) (hb : Bs .u8 w v ys) (hT : Tab w) (h1 : 300 < ys.length) :
    Calls Tryd.prog 4 #[v, .int .i64 n] w fun e w' => e = .returned (.bool true) ∧ Only (fun _ => False) w w' := by
  have AW := hideIt (awake_any w hT)
  obtain ⟨ao, cap, rfl⟩ := hb.len
  have d1 : decide ((300 : Int) < ys.length) = true := decide_eq_true (by omega)
  clear hb h1
  generalize ys.length = m at *
  go_enter Tryd.func4, Tryd.ntmps4
  go_wp2_with fail
  refine AW.out.mono ?_
  rintro e w1 ⟨rfl, on1⟩
  have O1 := hideIt on1
  clear on1 AW
  go_wp2
  go_ret
  exact ⟨rfl, O1.out⟩

set_option maxHeartbeats 800000 in
set_option maxRecDepth 100000 in
theorem decodes_run (v : Value) (ys : List Int) (n : Int) (w : World) (hb : Bs .u8 w v ys) (hr : ∀ y ∈ ys, 0 ≤ y ∧ y ≤ 255) (hT : Tab w) (h1 : ys.length ≤ 300) :
    Calls Tryd.prog 4 #[v, .int .i64 n] w fun e w' => e = .returned (.bool true) ∧ Only (fun _ => False) w w' := by
  have AW := hideIt (awake_any w hT)
  have HB := hideIt hb
  obtain ⟨ao, cap, rfl⟩ := hb.len
  have HR := hideIt hr
  have d1 : decide ((300 : Int) < ys.length) = false := decide_eq_false (by omega)
  have HL := hideIt (DEC9_len ys n)
  have PA := hideIt (fun (w1 : World) (o : Only (fun _ => False) w w1) => decode9_all (.slice ao ys.length cap) ys n w1 (HB.out.past o) HR.out (by omega) (hT.past o))
  have PR := hideIt (fun (w1 : World) (o : Only (fun _ => False) w w1) => rdecode9_all (.slice ao ys.length cap) ys n w1 (HB.out.past o) HR.out (by omega))
  obtain ⟨m, hm⟩ : ∃ m, m = ys.length := ⟨_, rfl⟩
  rw [← hm] at PA PR d1 ⊢
  generalize DEC9 ys n = U at *
  obtain ⟨l, c⟩ := U
  simp only at PA PR HL
  have z0 : (c == c) = true := by simp
  clear h1 hm HB hb hr
  go_enter Tryd.func4, Tryd.ntmps4
  go_wp2_with fail
  refine AW.out.mono ?_
  rintro e w1 ⟨rfl, on1⟩
  have O1 := hideIt on1
  have A := hideIt (PA.out w1 on1)
  clear on1 AW PA
  go_wp2_with fail
  refine A.out.mono ?_
  rintro e w2 ⟨v2, rfl, own2, on2⟩
  have O2 := hideIt (O1.out.same on2)
  have B2 := hideIt (Bs.of_own own2)
  have R := hideIt (PR.out w2 O2.out)
  obtain ⟨f2, c2, e2⟩ := B2.out.len
  subst e2
  clear A own2 on2 PR
  go_wp2_with fail
  refine R.out.mono ?_
  rintro e w3 ⟨v3, rfl, own3, on3⟩
  have O3 := hideIt (O2.out.same on3)
  have SM := hideIt (lsame9 _ v3 l w3 (B2.out.past on3) (Bs.of_own own3) HL.out)
  obtain ⟨f3, c3, e3⟩ := (Bs.of_own own3).len
  subst e3
  clear R own3 on3
  go_wp2_with fail
  refine SM.out.mono ?_
  rintro e w4 ⟨rfl, on4⟩
  have O4 := hideIt (O3.out.same on4)
  clear SM on4
  go_wp2
  go_ret
  exact ⟨rfl, O4.out⟩

theorem decodes_any (v : Value) (ys : List Int) (n : Int) (w : World) (hb : Bs .u8 w v ys) (hr : ∀ y ∈ ys, 0 ≤ y ∧ y ≤ 255) (hT : Tab w) :
    Calls Tryd.prog 4 #[v, .int .i64 n] w fun e w' => e = .returned (.bool true) ∧ Only (fun _ => False) w w' := by
  by_cases h : 300 < ys.length
  · exact decodes_out v ys n w hb hT h
  · exact decodes_run v ys n w hb hr hT (by omega)
end Go.Proofs.YthpcibofcgjcdaaDoor

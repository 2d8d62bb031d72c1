/- Package gorilla's window: what fits it. -/
import Derived.Test.YthpcibofcgjcdaaDoorGt
namespace Go.Proofs.YthpcibofcgjcdaaDoor
open Go.RowKit

theorem trail_win (a z d : Nat) (w : World) (h : a + z + d = 64) :
    Calls Tryd.prog 36 #[.agg #[.int .i64 a, .int .i64 d]] w fun e w' => e = .returned (.int .i64 (z : Int)) ∧ Only (fun _ => False) w w' := by
  have := trail_any a d w (by omega) (by omega)
  rw [show (64 : Int) - (a : Int) - d = (z : Int) by omega] at this
  exact this
theorem dvd_tz {x z : Nat} (h0 : 0 < x) (hx : x < 18446744073709551616) (h : x / 2 ^ z * 2 ^ z = x) : z ≤ tz x := by
  rcases Nat.lt_or_ge (tz x) z with hlt | hge
  · exfalso
    have ho : x / 2 ^ tz x % 2 = 1 := tzF_odd 64 x h0 (by rw [p64]; exact hx)
    obtain ⟨j, rfl⟩ : ∃ j, z = tz x + 1 + j := ⟨z - tz x - 1, by omega⟩
    generalize tz x = t at *
    generalize x / 2 ^ (t + 1 + j) = y at *
    have e : x = 2 ^ t * (2 * (y * 2 ^ j)) := by
      rw [← h, Nat.pow_add, Nat.pow_succ]
      simp only [Nat.mul_assoc, Nat.mul_comm, Nat.mul_left_comm]
    rw [e, Nat.mul_div_cancel_left _ (Nat.two_pow_pos t)] at ho
    omega
  · exact hge
theorem fits_iff {x a z d : Nat} (h0 : 0 < x) (hx : x < 18446744073709551616) (h : a + z + d = 64) (hd : 0 < d) :
    fitsW x a z ↔ (x / 2 ^ z * 2 ^ z = x ∧ wid (x / 2 ^ z) ≤ d) := by
  have hw := wid_le64 x hx
  constructor
  · rintro ⟨h1, h2⟩
    have h3 := fits_lt (z := z) hx h1 (by omega)
    rw [show 64 - a - z = d by omega] at h3
    exact ⟨tz_back h2, (wid_le_iff _ d).2 h3⟩
  · rintro ⟨h1, h2⟩
    refine ⟨?_, dvd_tz h0 hx h1⟩
    have h3 := (wid_le_iff _ d).1 h2
    rw [Nat.div_lt_iff_lt_mul (Nat.two_pow_pos z), ← Nat.pow_add] at h3
    have h4 := (wid_le_iff x (d + z)).2 h3
    omega
theorem wrap_back {x z : Nat} (hx : x < 18446744073709551616) : IntKind.u64.wrap ((x : Int) / 2 ^ z * 2 ^ z) = ((x / 2 ^ z * 2 ^ z : Nat) : Int) := by
  have h1 : x / 2 ^ z * 2 ^ z ≤ x := Nat.div_mul_le_self x _
  have e : (x : Int) / 2 ^ z * 2 ^ z = ((x / 2 ^ z * 2 ^ z : Nat) : Int) := by push_cast; rfl
  rw [e, IntKind.wrap_u64]
  omega
set_option maxHeartbeats 1000000 in
theorem fits_yes (a z d x : Nat) (w : World) (h0 : 0 < x) (hx : x < 18446744073709551616) (h : a + z + d = 64) (hd : 0 < d) (he : x / 2 ^ z * 2 ^ z = x) :
    Calls Tryd.prog 34 #[.agg #[.int .i64 a, .int .i64 d], .int .u64 x] w fun e w' => e = .returned (.bool (decide (wid (x / 2 ^ z) ≤ d))) ∧ Only (fun _ => False) w w' := by
  have z64 : (z : Int) < 64 := by omega
  have T1 := hideIt (trail_win a z d (w.alloc (.cells #[.int .i64 a, .int .i64 d] 42)) h)
  have e1 := wrap_back (z := z) hx
  rw [he] at e1
  have e2 : (IntKind.u64.wrap ((x : Int) / 2 ^ z * 2 ^ z) == (x : Int)) = true := by rw [e1]; simp
  have e3 : (x : Int) / 2 ^ z = ((x / 2 ^ z : Nat) : Int) := by push_cast; rfl
  have y1 : x / 2 ^ z ≤ x := Nat.div_le_self _ _
  clear e1 he
  rw [e3] at e2
  generalize hy : x / 2 ^ z = y at *
  have E3 := hideIt e3
  clear e3 hy
  have WI := fun w => hideIt (width_any (y : Int) w (by omega) (by omega))
  simp only [Int.toNat_natCast] at WI
  generalize wid y = q at *
  go_enter Tryd.func34, Tryd.ntmps34
  go_wp2_with fail
  refine T1.out.mono ?_
  rintro e w1 ⟨rfl, o1⟩
  have g1 := o1.heap (heap_alloc_last w _) (fun f => f)
  obtain ⟨c0, c1, _, _⟩ := two_cells g1
  have O1 := hideIt ((Only.refl (fun _ => False) w).alloc (.cells #[.int .i64 a, .int .i64 d] 42) |>.same o1)
  clear T1 o1
  go_wp2
  rw [E3.out]
  go_region_with (first | (go_at_call 36; refine (trail_win a z d _ h).mono ?_; rintro e w2 ⟨rfl, o2⟩; have c2 := (two_cells (o2.heap (a := w1.drew) g1 (fun f => f))).2.1) | (go_at_call 31; refine (WI _).out.mono ?_; rintro e w3 ⟨rfl, rfl⟩))
  all_goals go_wp2
  all_goals go_ret
  all_goals exact ⟨rfl, O1.out.drew.same o2⟩
set_option maxHeartbeats 1000000 in
theorem fits_no (a z d x : Nat) (w : World) (hx : x < 18446744073709551616) (h : a + z + d = 64) (hd : 0 < d) (he : x / 2 ^ z * 2 ^ z ≠ x) :
    Calls Tryd.prog 34 #[.agg #[.int .i64 a, .int .i64 d], .int .u64 x] w fun e w' => e = .returned (.bool false) ∧ Only (fun _ => False) w w' := by
  have z64 : (z : Int) < 64 := by omega
  have T1 := hideIt (trail_win a z d (w.alloc (.cells #[.int .i64 a, .int .i64 d] 42)) h)
  have e1 := wrap_back (z := z) hx
  have e2 : (IntKind.u64.wrap ((x : Int) / 2 ^ z * 2 ^ z) == (x : Int)) = false := by rw [e1, beq_eq_false_iff_ne]; omega
  have e3 : (x : Int) / 2 ^ z = ((x / 2 ^ z : Nat) : Int) := by push_cast; rfl
  have y1 : x / 2 ^ z ≤ x := Nat.div_le_self _ _
  clear e1 he
  rw [e3] at e2
  generalize hy : x / 2 ^ z = y at *
  have E3 := hideIt e3
  clear e3 hy
  go_enter Tryd.func34, Tryd.ntmps34
  go_wp2_with fail
  refine T1.out.mono ?_
  rintro e w1 ⟨rfl, o1⟩
  have g1 := o1.heap (heap_alloc_last w _) (fun f => f)
  obtain ⟨c0, c1, _, _⟩ := two_cells g1
  have O1 := hideIt ((Only.refl (fun _ => False) w).alloc (.cells #[.int .i64 a, .int .i64 d] 42) |>.same o1)
  clear T1 o1
  go_wp2
  rw [E3.out]
  first | (go_region_with ((go_at_call 36; refine (trail_win a z d _ h).mono ?_; rintro e w2 ⟨rfl, o2⟩; have c2 := (two_cells (o2.heap (a := w1.drew) g1 (fun f => f))).2.1))) | fail
  all_goals go_wp2
  all_goals go_ret
  all_goals exact ⟨rfl, O1.out.drew.same o2⟩
theorem fits_any (a z d x : Nat) (w : World) (h0 : 0 < x) (hx : x < 18446744073709551616) (h : a + z + d = 64) (hd : 0 < d) :
    Calls Tryd.prog 34 #[.agg #[.int .i64 a, .int .i64 d], .int .u64 x] w fun e w' => e = .returned (.bool (decide (fitsW x a z))) ∧ Only (fun _ => False) w w' := by
  by_cases he : x / 2 ^ z * 2 ^ z = x
  · have e : decide (fitsW x a z) = decide (wid (x / 2 ^ z) ≤ d) := decide_eq_decide.2 ((fits_iff h0 hx h hd).trans (and_iff_right he))
    rw [e]
    exact fits_yes a z d x w h0 hx h hd he
  · have e : decide (fitsW x a z) = false := decide_eq_false (fun f => he ((fits_iff h0 hx h hd).1 f).1)
    rw [e]
    exact fits_no a z d x w hx h hd he
end Go.Proofs.YthpcibofcgjcdaaDoor

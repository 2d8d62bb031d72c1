/- Package gorilla: what differs, read, case by case. -/
import Derived.Test.YthpcibofcgjcdaaDoorGr
namespace Go.Proofs.YthpcibofcgjcdaaDoor
open Go.RowKit

/-- an answer with an error -/
def Bad (w : World) (R : Nat) (c : Int) (e : Ending) (w' : World) : Prop := ∃ x a d : Int, e = .returned (.tuple #[.int .u64 x, .agg #[.int .i64 a, .int .i64 d], .int .i64 c]) ∧ Only (fun k => k = R) w w'
/-- an answer without one: what differs, the window, where the reader stands -/
def Good (w : World) (R : Nat) (v : Value) (ys : List Int) (x : Nat) (a d : Nat) (r : List Bool) (e : Ending) (w' : World) : Prop :=
  e = .returned (.tuple #[.int .u64 x, .agg #[.int .i64 a, .int .i64 d], .int .i64 0]) ∧ (∃ p, RdAt 72 w' R v ys p ∧ (allBits ys).drop p = r) ∧ Only (fun k => k = R) w w'
theorem b_false (r : List Bool) : (bnum ((false :: r).take 1) : Nat) = 0 := by simp [bnum]
theorem b_true (r : List Bool) : (bnum ((true :: r).take 1) : Nat) = 1 := by simp [bnum]
theorem shl_back {y z d : Nat} (hy : y < 2 ^ d) (h : z + d ≤ 64) : IntKind.u64.wrap ((y : Int) * 2 ^ z) = ((y * 2 ^ z : Nat) : Int) := by
  have h1 : y * 2 ^ z < 2 ^ d * 2 ^ z := Nat.mul_lt_mul_of_pos_right hy (Nat.two_pow_pos z)
  rw [← Nat.pow_add] at h1
  have h2 : 2 ^ (d + z) ≤ 2 ^ 64 := Nat.pow_le_pow_right (by omega) (by omega)
  rw [p64] at h2
  have e : (y : Int) * 2 ^ z = ((y * 2 ^ z : Nat) : Int) := by push_cast; rfl
  rw [e, IntKind.wrap_u64]
  omega
theorem bnum_take_lt (r : List Bool) (d : Nat) : bnum (r.take d) < 2 ^ d := by
  have h1 := bnum_lt (r.take d)
  have h2 : 2 ^ (r.take d).length ≤ 2 ^ d := Nat.pow_le_pow_right (by omega) (by rw [List.length_take]; omega)
  omega
set_option maxHeartbeats 2000000 in
theorem read_end {w : World} {R : Nat} {v : Value} {ys : List Int} {p : Nat} (h : RdAt 72 w R v ys p) (hv : ∀ k, v.ownBlock = some k → k < w.heap.size) (a d : Nat) (hr : (allBits ys).drop p = []) :
    Calls Tryd.prog 40 #[.pointer (some ⟨R, 0, none⟩), .agg #[.int .i64 a, .int .i64 d]] w (Bad w R 2) := by
  have S0 := hideIt (Rs.start h hv a d)
  have G1 := hideIt (get_cut S0.out.rd 1 (by omega) [] hr (by simp))
  clear h hr
  go_enter Tryd.func40, Tryd.ntmps40
  go_wp2_with fail
  refine G1.out.mono ?_
  rintro e w1 ⟨rfl, o1⟩
  have S1 := hideIt (S0.out.past o1)
  clear o1 S0 G1
  obtain ⟨c0, c1, _, _⟩ := two_cells S1.out.box
  obtain ⟨c2, c3, f2, f3⟩ := two_cells S1.out.res
  go_wp2
  go_region
  all_goals
    go_wp2
    obtain ⟨g, r1, r2⟩ := (S1.out.past ((Only.refl (fun _ => False) w1).drew)).fin (.int .i64 a) (.int .i64 d) rfl
    exact bodyPost_ret (results_tct rfl _ _ (w.heap.size + 1) 42 _ (0, 0) _ rfl g Tryd.underlying42 rfl Tryd.sizeWin) rfl ⟨_, _, _, rfl, r2⟩
set_option maxHeartbeats 2000000 in
theorem read_same {w : World} {R : Nat} {v : Value} {ys : List Int} {p : Nat} (h : RdAt 72 w R v ys p) (hv : ∀ k, v.ownBlock = some k → k < w.heap.size) (a d : Nat) (r : List Bool) (hr : (allBits ys).drop p = false :: r) :
    Calls Tryd.prog 40 #[.pointer (some ⟨R, 0, none⟩), .agg #[.int .i64 a, .int .i64 d]] w (Good w R v ys 0 a d r) := by
  have S0 := hideIt (Rs.start h hv a d)
  have G1 := hideIt (get_at S0.out.rd 1 (by omega) _ hr (by simp))
  rw [b_false] at G1
  clear h hr
  go_enter Tryd.func40, Tryd.ntmps40
  go_wp2_with fail
  refine G1.out.mono ?_
  rintro e w1 ⟨rfl, h1, q1, o1⟩
  have S1 := hideIt (S0.out.get h1 o1)
  have Q1 := hideIt q1
  clear h1 o1 S0 G1 q1
  obtain ⟨c0, c1, _, _⟩ := two_cells S1.out.box
  obtain ⟨c2, c3, f2, f3⟩ := two_cells S1.out.res
  go_wp2
  go_region
  all_goals
    go_wp2
    obtain ⟨g, r1, r2⟩ := (S1.out.past ((Only.refl (fun _ => False) w1).drew)).fin (.int .i64 a) (.int .i64 d) rfl
    exact bodyPost_ret (results_tct rfl _ _ (w.heap.size + 1) 42 _ (0, 0) _ rfl g Tryd.underlying42 rfl Tryd.sizeWin) rfl ⟨rfl, ⟨_, r1, Q1.out⟩, r2⟩
set_option maxHeartbeats 2000000 in
theorem read_cut1 {w : World} {R : Nat} {v : Value} {ys : List Int} {p : Nat} (h : RdAt 72 w R v ys p) (hv : ∀ k, v.ownBlock = some k → k < w.heap.size) (a d : Nat) (hr : (allBits ys).drop p = [true]) :
    Calls Tryd.prog 40 #[.pointer (some ⟨R, 0, none⟩), .agg #[.int .i64 a, .int .i64 d]] w (Bad w R 2) := by
  have S0 := hideIt (Rs.start h hv a d)
  have G1 := hideIt (get_at S0.out.rd 1 (by omega) _ hr (by simp))
  rw [b_true] at G1
  clear h hr
  go_enter Tryd.func40, Tryd.ntmps40
  go_wp2_with fail
  refine G1.out.mono ?_
  rintro e w1 ⟨rfl, h1, q1, o1⟩
  have S1 := hideIt (S0.out.get h1 o1)
  have Q1 := hideIt q1
  clear h1 o1 S0 G1 q1
  have G2 := hideIt (get_cut S1.out.rd 1 (by omega) [] Q1.out (by simp))
  go_wp2_with fail
  refine G2.out.mono ?_
  rintro e w2 ⟨rfl, o2⟩
  have S2 := hideIt (S1.out.past o2)
  clear o2 S1 G2
  obtain ⟨c0, c1, _, _⟩ := two_cells S2.out.box
  obtain ⟨c2, c3, f2, f3⟩ := two_cells S2.out.res
  go_wp2
  go_region
  all_goals
    go_wp2
    obtain ⟨g, r1, r2⟩ := (S2.out.past ((Only.refl (fun _ => False) w2).drew)).fin (.int .i64 a) (.int .i64 d) rfl
    exact bodyPost_ret (results_tct rfl _ _ (w.heap.size + 1) 42 _ (0, 0) _ rfl g Tryd.underlying42 rfl Tryd.sizeWin) rfl ⟨_, _, _, rfl, r2⟩
set_option maxHeartbeats 2000000 in
theorem read_none {w : World} {R : Nat} {v : Value} {ys : List Int} {p : Nat} (h : RdAt 72 w R v ys p) (hv : ∀ k, v.ownBlock = some k → k < w.heap.size) (r : List Bool) (hr : (allBits ys).drop p = true :: false :: r) :
    Calls Tryd.prog 40 #[.pointer (some ⟨R, 0, none⟩), .agg #[.int .i64 0, .int .i64 0]] w (Bad w R 3) := by
  have S0 := hideIt (Rs.start h hv 0 0)
  have G1 := hideIt (get_at S0.out.rd 1 (by omega) _ hr (by simp))
  rw [b_true] at G1
  clear h hr
  go_enter Tryd.func40, Tryd.ntmps40
  go_wp2_with fail
  refine G1.out.mono ?_
  rintro e w1 ⟨rfl, h1, q1, o1⟩
  have S1 := hideIt (S0.out.get h1 o1)
  have Q1 := hideIt q1
  clear h1 o1 S0 G1 q1
  have G2 := hideIt (get_at S1.out.rd 1 (by omega) (false :: r) Q1.out (by simp))
  rw [b_false] at G2
  go_wp2_with fail
  refine G2.out.mono ?_
  rintro e w2 ⟨rfl, h2, q2, o2⟩
  have S2 := hideIt (S1.out.get h2 o2)
  have Q2 : Hid ((allBits ys).drop (p + 1 + 1) = r) := q2
  clear h2 o2 S1 G2 Q1 q2
  obtain ⟨c0, c1, _, _⟩ := two_cells S2.out.box
  go_wp2_with fail
  refine (isNone_yes _).mono ?_
  rintro e w3 ⟨rfl, o3⟩
  have S3 := hideIt (S2.out.past o3)
  clear o3 S2 c0 c1
  obtain ⟨c0, c1, _, _⟩ := two_cells S3.out.box
  obtain ⟨c2, c3, f2, f3⟩ := two_cells S3.out.res
  go_wp2
  go_region
  all_goals
    go_wp2
    obtain ⟨g, r1, r2⟩ := (S3.out.past ((Only.refl (fun _ => False) w3).drew)).fin (.int .i64 0) (.int .i64 0) rfl
    exact bodyPost_ret (results_tct rfl _ _ (w.heap.size + 1) 42 _ (0, 0) _ rfl g Tryd.underlying42 rfl Tryd.sizeWin) rfl ⟨_, _, _, rfl, r2⟩
set_option maxHeartbeats 2000000 in
theorem read_in_cut {w : World} {R : Nat} {v : Value} {ys : List Int} {p : Nat} (h : RdAt 72 w R v ys p) (hv : ∀ k, v.ownBlock = some k → k < w.heap.size) (a d : Nat) (z : Nat) (r : List Bool) (hs : a + z + d = 64) (hd : 0 < d) (hc : r.length < d) (hr : (allBits ys).drop p = true :: false :: r) :
    Calls Tryd.prog 40 #[.pointer (some ⟨R, 0, none⟩), .agg #[.int .i64 a, .int .i64 d]] w (Bad w R 2) := by
  have S0 := hideIt (Rs.start h hv a d)
  have G1 := hideIt (get_at S0.out.rd 1 (by omega) _ hr (by simp))
  rw [b_true] at G1
  have z64 : (z : Int) < 64 := by omega
  clear h hr
  go_enter Tryd.func40, Tryd.ntmps40
  go_wp2_with fail
  refine G1.out.mono ?_
  rintro e w1 ⟨rfl, h1, q1, o1⟩
  have S1 := hideIt (S0.out.get h1 o1)
  have Q1 := hideIt q1
  clear h1 o1 S0 G1 q1
  have G2 := hideIt (get_at S1.out.rd 1 (by omega) (false :: r) Q1.out (by simp))
  rw [b_false] at G2
  go_wp2_with fail
  refine G2.out.mono ?_
  rintro e w2 ⟨rfl, h2, q2, o2⟩
  have S2 := hideIt (S1.out.get h2 o2)
  have Q2 : Hid ((allBits ys).drop (p + 1 + 1) = r) := q2
  clear h2 o2 S1 G2 Q1 q2
  obtain ⟨c0, c1, _, _⟩ := two_cells S2.out.box
  go_wp2_with fail
  refine (isNone_no a d _ (by omega)).mono ?_
  rintro e w3 ⟨rfl, o3⟩
  have S3 := hideIt (S2.out.past o3)
  clear o3 S2 c0 c1
  have G9 := hideIt (get_cut S3.out.rd d (by omega) _ Q2.out (by omega))
  obtain ⟨c0, c1, _, _⟩ := two_cells S3.out.box
  go_wp2_with fail
  refine G9.out.mono ?_
  rintro e w4 ⟨rfl, o4⟩
  have S4 := hideIt (S3.out.past o4)
  clear o4 S3 G9 c0 c1
  obtain ⟨c0, c1, _, _⟩ := two_cells S4.out.box
  obtain ⟨c2, c3, f2, f3⟩ := two_cells S4.out.res
  have SD := hideIt (S4.out.past ((Only.refl (fun _ => False) w4).drew))
  go_wp2
  go_region_with ((go_at_call 36; refine (trail_win a z d _ hs).mono ?_; rintro e w9 ⟨rfl, o9⟩; have S9 := hideIt (SD.out.past o9); obtain ⟨_, _, _, _⟩ := two_cells S9.out.box; obtain ⟨_, _, _, _⟩ := two_cells S9.out.res))
  all_goals
    go_wp2
    obtain ⟨g, r1, r2⟩ := S9.out.fin (.int .i64 a) (.int .i64 d) rfl
    exact bodyPost_ret (results_tct rfl _ _ (w.heap.size + 1) 42 _ (0, 0) _ rfl g Tryd.underlying42 rfl Tryd.sizeWin) rfl ⟨_, _, _, rfl, r2⟩
set_option maxHeartbeats 2000000 in
theorem read_in {w : World} {R : Nat} {v : Value} {ys : List Int} {p : Nat} (h : RdAt 72 w R v ys p) (hv : ∀ k, v.ownBlock = some k → k < w.heap.size) (a d : Nat) (z : Nat) (r : List Bool) (hs : a + z + d = 64) (hd : 0 < d) (hc : d ≤ r.length) (hr : (allBits ys).drop p = true :: false :: r) :
    Calls Tryd.prog 40 #[.pointer (some ⟨R, 0, none⟩), .agg #[.int .i64 a, .int .i64 d]] w (Good w R v ys (bnum (r.take d) * 2 ^ z) a d (r.drop d)) := by
  have S0 := hideIt (Rs.start h hv a d)
  have G1 := hideIt (get_at S0.out.rd 1 (by omega) _ hr (by simp))
  rw [b_true] at G1
  have z64 : (z : Int) < 64 := by omega
  clear h hr
  go_enter Tryd.func40, Tryd.ntmps40
  go_wp2_with fail
  refine G1.out.mono ?_
  rintro e w1 ⟨rfl, h1, q1, o1⟩
  have S1 := hideIt (S0.out.get h1 o1)
  have Q1 := hideIt q1
  clear h1 o1 S0 G1 q1
  have G2 := hideIt (get_at S1.out.rd 1 (by omega) (false :: r) Q1.out (by simp))
  rw [b_false] at G2
  go_wp2_with fail
  refine G2.out.mono ?_
  rintro e w2 ⟨rfl, h2, q2, o2⟩
  have S2 := hideIt (S1.out.get h2 o2)
  have Q2 : Hid ((allBits ys).drop (p + 1 + 1) = r) := q2
  clear h2 o2 S1 G2 Q1 q2
  obtain ⟨c0, c1, _, _⟩ := two_cells S2.out.box
  go_wp2_with fail
  refine (isNone_no a d _ (by omega)).mono ?_
  rintro e w3 ⟨rfl, o3⟩
  have S3 := hideIt (S2.out.past o3)
  clear o3 S2 c0 c1
  have G9 := hideIt (get_at S3.out.rd d (by omega) _ Q2.out (by omega))
  obtain ⟨c0, c1, _, _⟩ := two_cells S3.out.box
  go_wp2_with fail
  refine G9.out.mono ?_
  rintro e w4 ⟨rfl, h4, q4, o4⟩
  have S4 := hideIt (S3.out.get h4 o4)
  have Q4 := hideIt q4
  clear h4 o4 S3 G9 c0 c1 q4
  have HS := hideIt (shl_back (z := z) (bnum_take_lt r d) (by omega))
  generalize bnum (r.take d) = y at *
  obtain ⟨c0, c1, _, _⟩ := two_cells S4.out.box
  obtain ⟨c2, c3, f2, f3⟩ := two_cells S4.out.res
  have SD := hideIt (S4.out.past ((Only.refl (fun _ => False) w4).drew))
  go_wp2
  go_region_with ((go_at_call 36; refine (trail_win a z d _ hs).mono ?_; rintro e w9 ⟨rfl, o9⟩; have S9 := hideIt (SD.out.past o9); obtain ⟨_, _, _, _⟩ := two_cells S9.out.box; obtain ⟨_, _, _, _⟩ := two_cells S9.out.res))
  all_goals
    go_wp2
    obtain ⟨g, r1, r2⟩ := S9.out.fin (.int .i64 a) (.int .i64 d) rfl
    exact bodyPost_ret (results_tct rfl _ _ (w.heap.size + 1) 42 _ (0, 0) _ rfl g Tryd.underlying42 rfl Tryd.sizeWin) rfl ⟨by rw [HS.out]; rfl, ⟨_, r1, Q4.out⟩, r2⟩
set_option maxHeartbeats 2000000 in
theorem read_new_cut {w : World} {R : Nat} {v : Value} {ys : List Int} {p : Nat} (h : RdAt 72 w R v ys p) (hv : ∀ k, v.ownBlock = some k → k < w.heap.size) (a d : Nat) (r : List Bool) (hc : r.length < 11) (hr : (allBits ys).drop p = true :: true :: r) :
    Calls Tryd.prog 40 #[.pointer (some ⟨R, 0, none⟩), .agg #[.int .i64 a, .int .i64 d]] w (Bad w R 2) := by
  have S0 := hideIt (Rs.start h hv a d)
  have G1 := hideIt (get_at S0.out.rd 1 (by omega) _ hr (by simp))
  rw [b_true] at G1
  clear h hr
  go_enter Tryd.func40, Tryd.ntmps40
  go_wp2_with fail
  refine G1.out.mono ?_
  rintro e w1 ⟨rfl, h1, q1, o1⟩
  have S1 := hideIt (S0.out.get h1 o1)
  have Q1 := hideIt q1
  clear h1 o1 S0 G1 q1
  have G2 := hideIt (get_at S1.out.rd 1 (by omega) (true :: r) Q1.out (by simp))
  rw [b_true] at G2
  go_wp2_with fail
  refine G2.out.mono ?_
  rintro e w2 ⟨rfl, h2, q2, o2⟩
  have S2 := hideIt (S1.out.get h2 o2)
  have Q2 : Hid ((allBits ys).drop (p + 1 + 1) = r) := q2
  clear h2 o2 S1 G2 Q1 q2
  have RW := hideIt (readWindow_cut S2.out.rd r Q2.out hc)
  go_wp2_with fail
  refine RW.out.mono ?_
  rintro e w3 ⟨rfl, o3⟩
  have g3 := o3.heap S2.out.box (fun e => by have := S2.out.lt; omega)
  have g4 := o3.heap S2.out.res (fun e => by have := S2.out.lt; omega)
  have O3 := hideIt (S2.out.on.trans o3 (fun _ _ e => e))
  obtain ⟨c0, c1, f0, f1⟩ := two_cells g3
  obtain ⟨c2, c3, f2, f3⟩ := two_cells g4
  have HG := hideIt g4
  clear o3 S2 RW g3 g4
  go_wp2
  go_region
  all_goals
    go_wp2
    refine bodyPost_ret (results_tct rfl _ _ (w.heap.size + 1) 42 _ (0, 0) _ rfl (setCell2_heap _ _ ((setCell2_only (S := fun k => k = w.heap.size) _ _ rfl).heap HG.out (fun f => by omega))) Tryd.underlying42 rfl Tryd.sizeWin) rfl ⟨_, _, _, rfl, ?_⟩
    refine (((O3.out.setCell (p := ⟨w.heap.size, 0, none⟩) (fun f => absurd f (Nat.lt_irrefl _)) _).setCell (p := ⟨w.heap.size, 1, none⟩) (fun f => absurd f (Nat.lt_irrefl _)) _).drew.setCell (p := ⟨w.heap.size + 1, 0, none⟩) (fun (f : w.heap.size + 1 < w.heap.size) => absurd f (by omega)) _).setCell (p := ⟨w.heap.size + 1, 1, none⟩) (fun (f : w.heap.size + 1 < w.heap.size) => absurd f (by omega)) _
set_option maxHeartbeats 2000000 in
theorem read_new_bad {w : World} {R : Nat} {v : Value} {ys : List Int} {p : Nat} (h : RdAt 72 w R v ys p) (hv : ∀ k, v.ownBlock = some k → k < w.heap.size) (a d : Nat) (r : List Bool) (h11 : 11 ≤ r.length) (hb : 63 < bnum (r.take 5) + bnum ((r.drop 5).take 6)) (hr : (allBits ys).drop p = true :: true :: r) :
    Calls Tryd.prog 40 #[.pointer (some ⟨R, 0, none⟩), .agg #[.int .i64 a, .int .i64 d]] w (Bad w R 3) := by
  have S0 := hideIt (Rs.start h hv a d)
  have G1 := hideIt (get_at S0.out.rd 1 (by omega) _ hr (by simp))
  rw [b_true] at G1
  clear h hr
  go_enter Tryd.func40, Tryd.ntmps40
  go_wp2_with fail
  refine G1.out.mono ?_
  rintro e w1 ⟨rfl, h1, q1, o1⟩
  have S1 := hideIt (S0.out.get h1 o1)
  have Q1 := hideIt q1
  clear h1 o1 S0 G1 q1
  have G2 := hideIt (get_at S1.out.rd 1 (by omega) (true :: r) Q1.out (by simp))
  rw [b_true] at G2
  go_wp2_with fail
  refine G2.out.mono ?_
  rintro e w2 ⟨rfl, h2, q2, o2⟩
  have S2 := hideIt (S1.out.get h2 o2)
  have Q2 : Hid ((allBits ys).drop (p + 1 + 1) = r) := q2
  clear h2 o2 S1 G2 Q1 q2
  have RW := hideIt (readWindow_bad S2.out.rd (fun k hk => Nat.lt_of_lt_of_le (S2.out.vb k hk) S2.out.on.size) r Q2.out h11 hb)
  go_wp2_with fail
  refine RW.out.mono ?_
  rintro e w3 ⟨rfl, h3, q3, o3⟩
  have S3 := hideIt (S2.out.get h3 o3)
  have S4 := hideIt (S3.out.set 0 0)
  obtain ⟨c0, c1, f0, f1⟩ := two_cells S3.out.box
  obtain ⟨c2, c3, f2, f3⟩ := two_cells S3.out.res
  clear o3 h3 q3 S2 RW S3
  go_wp2
  go_region
  all_goals
    go_wp2
    obtain ⟨g, r1, r2⟩ := (S4.out.past ((Only.refl (fun _ => False) _).drew)).fin (.int .i64 (0 : Nat)) (.int .i64 (0 : Nat)) rfl
    exact bodyPost_ret (results_tct rfl _ _ (w.heap.size + 1) 42 _ (0, 0) _ rfl g Tryd.underlying42 rfl Tryd.sizeWin) rfl ⟨_, _, _, rfl, r2⟩
set_option maxHeartbeats 2000000 in
theorem read_new_cut2 {w : World} {R : Nat} {v : Value} {ys : List Int} {p : Nat} (h : RdAt 72 w R v ys p) (hv : ∀ k, v.ownBlock = some k → k < w.heap.size) (a d : Nat) (a' z d' : Nat) (r : List Bool) (h11 : 11 ≤ r.length) (h5 : a' = bnum (r.take 5)) (h6 : (d' : Int) = (bnum ((r.drop 5).take 6) : Nat) + 1) (hs : a' + z + d' = 64) (hc : r.length < 11 + d') (hr : (allBits ys).drop p = true :: true :: r) :
    Calls Tryd.prog 40 #[.pointer (some ⟨R, 0, none⟩), .agg #[.int .i64 a, .int .i64 d]] w (Bad w R 2) := by
  have S0 := hideIt (Rs.start h hv a d)
  have G1 := hideIt (get_at S0.out.rd 1 (by omega) _ hr (by simp))
  rw [b_true] at G1
  have z64 : (z : Int) < 64 := by omega
  have hl11 : (r.drop 11).length = r.length - 11 := List.length_drop
  have hd0 : 0 < d' := by omega
  have hba : bnum (r.take 5) + bnum ((r.drop 5).take 6) ≤ 63 := by omega
  have HBA := hideIt hba
  have H5 := hideIt h5
  have H6 := hideIt h6
  clear h5 h6 hba
  clear h hr
  go_enter Tryd.func40, Tryd.ntmps40
  go_wp2_with fail
  refine G1.out.mono ?_
  rintro e w1 ⟨rfl, h1, q1, o1⟩
  have S1 := hideIt (S0.out.get h1 o1)
  have Q1 := hideIt q1
  clear h1 o1 S0 G1 q1
  have G2 := hideIt (get_at S1.out.rd 1 (by omega) (true :: r) Q1.out (by simp))
  rw [b_true] at G2
  go_wp2_with fail
  refine G2.out.mono ?_
  rintro e w2 ⟨rfl, h2, q2, o2⟩
  have S2 := hideIt (S1.out.get h2 o2)
  have Q2 : Hid ((allBits ys).drop (p + 1 + 1) = r) := q2
  clear h2 o2 S1 G2 Q1 q2
  have RW := readWindow_ok S2.out.rd (fun k hk => Nat.lt_of_lt_of_le (S2.out.vb k hk) S2.out.on.size) r Q2.out h11 HBA.out
  rw [← H5.out, ← H6.out] at RW
  have RW := hideIt RW
  go_wp2_with fail
  refine RW.out.mono ?_
  rintro e w3 ⟨rfl, h3, q3, o3⟩
  have S3 := hideIt (S2.out.get h3 o3)
  obtain ⟨c0, c1, f0, f1⟩ := two_cells S3.out.box
  have S5 := hideIt (S3.out.set a' d')
  have Q3 := hideIt q3
  clear o3 h3 q3 S2 RW S3
  go_wp2_with fail
  refine (isNone_no a' d' _ (by omega)).mono ?_
  rintro e w4 ⟨rfl, o4⟩
  have S6 := hideIt (S5.out.past o4)
  clear o4 S5 c0 c1 f0 f1
  have G9 := hideIt (get_cut S6.out.rd d' (by omega) _ Q3.out (by omega))
  obtain ⟨c0, c1, _, _⟩ := two_cells S6.out.box
  go_wp2_with fail
  refine G9.out.mono ?_
  rintro e w7 ⟨rfl, o4⟩
  have S7 := hideIt (S6.out.past o4)
  clear o4 S6 G9 c0 c1
  obtain ⟨c0, c1, _, _⟩ := two_cells S7.out.box
  obtain ⟨c2, c3, f2, f3⟩ := two_cells S7.out.res
  have SD := hideIt (S7.out.past ((Only.refl (fun _ => False) w7).drew))
  go_wp2
  go_region_with ((go_at_call 36; refine (trail_win a' z d' _ hs).mono ?_; rintro e w9 ⟨rfl, o9⟩; have S9 := hideIt (SD.out.past o9); obtain ⟨_, _, _, _⟩ := two_cells S9.out.box; obtain ⟨_, _, _, _⟩ := two_cells S9.out.res))
  all_goals
    go_wp2
    obtain ⟨g, r1, r2⟩ := S9.out.fin (.int .i64 a') (.int .i64 d') rfl
    exact bodyPost_ret (results_tct rfl _ _ (w.heap.size + 1) 42 _ (0, 0) _ rfl g Tryd.underlying42 rfl Tryd.sizeWin) rfl ⟨_, _, _, rfl, r2⟩
set_option maxHeartbeats 2000000 in
theorem read_new {w : World} {R : Nat} {v : Value} {ys : List Int} {p : Nat} (h : RdAt 72 w R v ys p) (hv : ∀ k, v.ownBlock = some k → k < w.heap.size) (a d : Nat) (a' z d' : Nat) (r : List Bool) (h11 : 11 ≤ r.length) (h5 : a' = bnum (r.take 5)) (h6 : (d' : Int) = (bnum ((r.drop 5).take 6) : Nat) + 1) (hs : a' + z + d' = 64) (hc : 11 + d' ≤ r.length) (hr : (allBits ys).drop p = true :: true :: r) :
    Calls Tryd.prog 40 #[.pointer (some ⟨R, 0, none⟩), .agg #[.int .i64 a, .int .i64 d]] w (Good w R v ys (bnum ((r.drop 11).take d') * 2 ^ z) a' d' (r.drop (11 + d'))) := by
  have S0 := hideIt (Rs.start h hv a d)
  have G1 := hideIt (get_at S0.out.rd 1 (by omega) _ hr (by simp))
  rw [b_true] at G1
  have z64 : (z : Int) < 64 := by omega
  have hl11 : (r.drop 11).length = r.length - 11 := List.length_drop
  have hd0 : 0 < d' := by omega
  have hba : bnum (r.take 5) + bnum ((r.drop 5).take 6) ≤ 63 := by omega
  have HBA := hideIt hba
  have H5 := hideIt h5
  have H6 := hideIt h6
  clear h5 h6 hba
  clear h hr
  go_enter Tryd.func40, Tryd.ntmps40
  go_wp2_with fail
  refine G1.out.mono ?_
  rintro e w1 ⟨rfl, h1, q1, o1⟩
  have S1 := hideIt (S0.out.get h1 o1)
  have Q1 := hideIt q1
  clear h1 o1 S0 G1 q1
  have G2 := hideIt (get_at S1.out.rd 1 (by omega) (true :: r) Q1.out (by simp))
  rw [b_true] at G2
  go_wp2_with fail
  refine G2.out.mono ?_
  rintro e w2 ⟨rfl, h2, q2, o2⟩
  have S2 := hideIt (S1.out.get h2 o2)
  have Q2 : Hid ((allBits ys).drop (p + 1 + 1) = r) := q2
  clear h2 o2 S1 G2 Q1 q2
  have RW := readWindow_ok S2.out.rd (fun k hk => Nat.lt_of_lt_of_le (S2.out.vb k hk) S2.out.on.size) r Q2.out h11 HBA.out
  rw [← H5.out, ← H6.out] at RW
  have RW := hideIt RW
  go_wp2_with fail
  refine RW.out.mono ?_
  rintro e w3 ⟨rfl, h3, q3, o3⟩
  have S3 := hideIt (S2.out.get h3 o3)
  obtain ⟨c0, c1, f0, f1⟩ := two_cells S3.out.box
  have S5 := hideIt (S3.out.set a' d')
  have Q3 := hideIt q3
  clear o3 h3 q3 S2 RW S3
  go_wp2_with fail
  refine (isNone_no a' d' _ (by omega)).mono ?_
  rintro e w4 ⟨rfl, o4⟩
  have S6 := hideIt (S5.out.past o4)
  clear o4 S5 c0 c1 f0 f1
  have G9 := hideIt (get_at S6.out.rd d' (by omega) _ Q3.out (by omega))
  obtain ⟨c0, c1, _, _⟩ := two_cells S6.out.box
  go_wp2_with fail
  refine G9.out.mono ?_
  rintro e w7 ⟨rfl, h4, q4, o4⟩
  have S7 := hideIt (S6.out.get h4 o4)
  have Q4 := hideIt q4
  clear h4 o4 S6 G9 c0 c1 q4
  have HS := hideIt (shl_back (z := z) (bnum_take_lt (r.drop 11) d') (by omega))
  generalize bnum ((r.drop 11).take d') = y at *
  obtain ⟨c0, c1, _, _⟩ := two_cells S7.out.box
  obtain ⟨c2, c3, f2, f3⟩ := two_cells S7.out.res
  have SD := hideIt (S7.out.past ((Only.refl (fun _ => False) w7).drew))
  go_wp2
  go_region_with ((go_at_call 36; refine (trail_win a' z d' _ hs).mono ?_; rintro e w9 ⟨rfl, o9⟩; have S9 := hideIt (SD.out.past o9); obtain ⟨_, _, _, _⟩ := two_cells S9.out.box; obtain ⟨_, _, _, _⟩ := two_cells S9.out.res))
  all_goals
    go_wp2
    obtain ⟨g, r1, r2⟩ := S9.out.fin (.int .i64 a') (.int .i64 d') rfl
    exact bodyPost_ret (results_tct rfl _ _ (w.heap.size + 1) 42 _ (0, 0) _ rfl g Tryd.underlying42 rfl Tryd.sizeWin) rfl ⟨by rw [HS.out]; rfl, ⟨_, r1, by rw [Q4.out, List.drop_drop]⟩, r2⟩
end Go.Proofs.YthpcibofcgjcdaaDoor

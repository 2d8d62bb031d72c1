/- Package gorilla: what differs, written with a window of its own. -/
import Derived.Test.YthpcibofcgjcdaaDoorGw
namespace Go.Proofs.YthpcibofcgjcdaaDoor
open Go.RowKit

theorem Ws.tab {w : World} {lo B : Nat} {v : Value} {w1 : World} {v1 : Value} {l1 : List Bool} {a d : Nat} (h : Ws w lo B v w1 v1 l1 a d) (hT : Tab w) (hB : 0 < B) (hv : ∀ k, v.ownBlock = some k → 0 < k) : Tab w1 :=
  hT.keep h.on (fun f => by
    rcases f with e | e
    · omega
    · exact absurd (hv 0 e) (by omega))
theorem wid_5 {n : Nat} (h : n ≤ 31) : wid n ≤ 5 := (wid_le_iff n 5).2 (by omega)
theorem wid_6 {n : Nat} (h : n ≤ 63) : wid n ≤ 6 := (wid_le_iff n 6).2 (by omega)
/-- a small number, put -/
theorem put_small {w w1 : World} {lo B : Nat} {v v1 : Value} {l1 : List Bool} {a d : Nat} (S : Ws w lo B v w1 v1 l1 a d) (x : Int) (n q : Nat) (e : x = (n : Int)) (hn : n < 18446744073709551616) (hq : q ≤ 64) (hw : wid n ≤ q) (hl : l1.length ≤ 1000000000) :
    Calls Tryd.prog 16 #[.pointer (some ⟨B, 0, none⟩), .int .u64 x, .int .i64 q] w1 fun e w' => e = .returned (.int .i64 0) ∧ ∃ v', Ws w lo B v w' v' (l1 ++ bitsOf n q) a d := by
  subst e
  refine (put_wr S.wr n q (by omega) (by omega) (by omega) (by omega) (by simpa using hw) hl).mono ?_
  rintro e w' ⟨rfl, v', h, o, s⟩
  simp only [Int.toNat_natCast] at h
  exact ⟨rfl, v', S.put h o s⟩
set_option maxHeartbeats 2000000 in
theorem write_first {w : World} {lo B : Nat} {v : Value} {l : List Bool} (h : WrAt 39 5 w lo B v l) (x : Nat) (hl : l.length ≤ 100000000) (h0 : 0 < x) (hx : x < 18446744073709551616) (hT : Tab w) (hB : 0 < B) :
    Calls Tryd.prog 17 #[.pointer (some ⟨B, 0, none⟩), .int .u64 x, .agg #[.int .i64 0, .int .i64 0]] w fun e w' => e = .returned (.agg #[.int .i64 (ldz x : Nat), .int .i64 (64 - ldz x - tz x : Nat)]) ∧
      ∃ v', WrAt 39 5 w' lo B v' (l ++ [true] ++ [true] ++ bitsOf (ldz x) 5 ++ bitsOf (63 - ldz x - tz x) 6 ++ bitsOf (x / 2 ^ tz x) (64 - ldz x - tz x)) ∧ Only (Foot B v) w w' ∧ Stays w v v' := by
  have S0 := hideIt (Ws.start h 0 0)
  have P1 := hideIt (put_wr S0.out.wr 1 1 (by omega) (by omega) (by omega) (by omega) (by decide) (by omega))
  rw [bits_11] at P1
  have hne : ((x : Int) == 0) = false := by rw [beq_eq_false_iff_ne]; omega
  have hv0 : ∀ k, v.ownBlock = some k → 0 < k := fun k hk => by have := (h.own.lt k hk).1; have := h.lt; omega
  obtain ⟨n1, n2, n3⟩ := win_new h0 hx
  have WO := fun w hT => hideIt (windowOf_any (x : Int) w (by omega) (by omega) hT)
  simp only [Int.toNat_natCast] at WO
  have e3 : Hid ((x : Int) / 2 ^ tz x = ((x / 2 ^ tz x : Nat) : Int)) := by simp only [Hid]; push_cast; rfl
  have y1 : x / 2 ^ tz x ≤ x := Nat.div_le_self _ _
  have y2 : wid (x / 2 ^ tz x) ≤ 64 - ldz x - tz x := (wid_le_iff _ _).2 (fits_lt hx n2 n3)
  generalize hy : x / 2 ^ tz x = y at *
  generalize ldz x = a' at *
  generalize tz x = z' at *
  obtain ⟨d', hd'⟩ : ∃ d', d' = 64 - a' - z' := ⟨_, rfl⟩
  rw [show 63 - a' - z' = d' - 1 by omega, ← hd']
  rw [← hd'] at WO y2
  have hs' : a' + z' + d' = 64 := by omega
  have hp' : 0 < d' := by omega
  clear h hy hd' n2 n3
  have z64 : (z' : Int) < 64 := by omega
  have dd : (d' : Int) - 1 = ((d' - 1 : Nat) : Int) := by omega
  go_enter Tryd.func17, Tryd.ntmps17
  go_wp2_with fail
  refine P1.out.mono ?_
  rintro e w1 ⟨rfl, v1, h1, o1, s1⟩
  have S1 := hideIt (S0.out.put h1 o1 s1)
  clear h1 o1 s1 S0 P1
  obtain ⟨c0, c1, _, _⟩ := two_cells S1.out.box
  go_wp2_with fail
  refine (isNone_yes _).mono ?_
  rintro e w3 ⟨rfl, o2⟩
  have S3 := hideIt (S1.out.past o2)
  clear S1 o2 c0 c1
  have W3 := WO w3 (S3.out.tab hT hB hv0)
  clear WO
  go_wp2_with fail
  refine W3.out.mono ?_
  rintro e w4 ⟨rfl, o4⟩
  have S4 := hideIt (S3.out.past o4)
  clear S3 o4 W3
  obtain ⟨c0, c1, f0, f1⟩ := two_cells S4.out.box
  have S5 := hideIt (S4.out.set a' d')
  have P5 := hideIt (put_small S5.out 1 1 1 rfl (by omega) (by omega) (by decide) (by simp; omega))
  rw [show bitsOf 1 1 = [true] by decide] at P5
  clear S4
  go_wp2_with fail
  refine P5.out.mono ?_
  rintro e w6 ⟨rfl, v6, s6⟩
  have S6 := hideIt s6
  clear s6 S5 P5 c0 c1 f0 f1
  obtain ⟨c0, c1, _, _⟩ := two_cells S6.out.box
  have P6 := hideIt (put_small S6.out (a' : Int) a' 5 rfl (by omega) (by omega) (wid_5 n1) (by simp; omega))
  go_wp2_with fail
  refine P6.out.mono ?_
  rintro e w7 ⟨rfl, v7, s7⟩
  have S7 := hideIt s7
  clear s7 S6 P6 c0 c1
  obtain ⟨c0, c1, _, _⟩ := two_cells S7.out.box
  have P7 := hideIt (put_small S7.out ((d' - 1 : Nat) : Int) (d' - 1) 6 rfl (by omega) (by omega) (wid_6 (by omega)) (by simp [bitsOf_length]; omega))
  go_wp2_with fail
  refine P7.out.mono ?_
  rintro e w8 ⟨rfl, v8, s8⟩
  have S8 := hideIt s8
  clear s8 S7 P7 c0 c1
  obtain ⟨c0, c1, _, _⟩ := two_cells S8.out.box
  go_wp2
  have SD := hideIt (S8.out.past ((Only.refl (fun _ => False) w8).drew))
  have hl4 : (l ++ [true] ++ [true] ++ bitsOf a' 5 ++ bitsOf (d' - 1) 6).length ≤ 1000000000 := by simp [bitsOf_length]; omega
  go_region_with (first | (go_at_call 36; refine (trail_win a' z' d' _ hs').mono ?_; rintro e w5 ⟨rfl, o5⟩; have S5 := hideIt (SD.out.past o5); have c2 := (two_cells S5.out.box).2.1) | (go_at_call 16; refine (put_in S5.out (x : Int) y z' e3.out (by omega) (by omega) y2 hl4).mono ?_; rintro e w6 ⟨rfl, v6, S6⟩))
  all_goals
    have S9 := hideIt S6
    clear S6
    clear c0 c1
    obtain ⟨c0, c1, _, _⟩ := two_cells S9.out.box
    obtain ⟨c2, c3, f2, f3⟩ := two_cells S9.out.res
    go_wp2
    obtain ⟨g, r1, r2, r3⟩ := S9.out.fin (.int .i64 a') (.int .i64 d') rfl
    exact bodyPost_ret (results_cell_row rfl _ _ (w.heap.size + 1) 42 _ (0, 0) _ rfl g Tryd.underlying42 rfl Tryd.sizeWin) rfl ⟨rfl, v6, r1, r2, r3⟩
set_option maxHeartbeats 2000000 in
theorem write_other {w : World} {lo B : Nat} {v : Value} {l : List Bool} (h : WrAt 39 5 w lo B v l) (x : Nat) (a z d : Nat) (hs : a + z + d = 64) (hd : 0 < d) (hf : ¬ fitsW x a z) (hl : l.length ≤ 100000000) (h0 : 0 < x) (hx : x < 18446744073709551616) (hT : Tab w) (hB : 0 < B) :
    Calls Tryd.prog 17 #[.pointer (some ⟨B, 0, none⟩), .int .u64 x, .agg #[.int .i64 a, .int .i64 d]] w fun e w' => e = .returned (.agg #[.int .i64 (ldz x : Nat), .int .i64 (64 - ldz x - tz x : Nat)]) ∧
      ∃ v', WrAt 39 5 w' lo B v' (l ++ [true] ++ [true] ++ bitsOf (ldz x) 5 ++ bitsOf (63 - ldz x - tz x) 6 ++ bitsOf (x / 2 ^ tz x) (64 - ldz x - tz x)) ∧ Only (Foot B v) w w' ∧ Stays w v v' := by
  have S0 := hideIt (Ws.start h a d)
  have P1 := hideIt (put_wr S0.out.wr 1 1 (by omega) (by omega) (by omega) (by omega) (by decide) (by omega))
  rw [bits_11] at P1
  have hne : ((x : Int) == 0) = false := by rw [beq_eq_false_iff_ne]; omega
  have hv0 : ∀ k, v.ownBlock = some k → 0 < k := fun k hk => by have := (h.own.lt k hk).1; have := h.lt; omega
  obtain ⟨n1, n2, n3⟩ := win_new h0 hx
  have WO := fun w hT => hideIt (windowOf_any (x : Int) w (by omega) (by omega) hT)
  simp only [Int.toNat_natCast] at WO
  have e3 : Hid ((x : Int) / 2 ^ tz x = ((x / 2 ^ tz x : Nat) : Int)) := by simp only [Hid]; push_cast; rfl
  have y1 : x / 2 ^ tz x ≤ x := Nat.div_le_self _ _
  have y2 : wid (x / 2 ^ tz x) ≤ 64 - ldz x - tz x := (wid_le_iff _ _).2 (fits_lt hx n2 n3)
  have FI := fun w => hideIt (fits_any a z d x w h0 hx hs hd)
  rw [decide_eq_false hf] at FI
  clear hf
  generalize hy : x / 2 ^ tz x = y at *
  generalize ldz x = a' at *
  generalize tz x = z' at *
  obtain ⟨d', hd'⟩ : ∃ d', d' = 64 - a' - z' := ⟨_, rfl⟩
  rw [show 63 - a' - z' = d' - 1 by omega, ← hd']
  rw [← hd'] at WO y2
  have hs' : a' + z' + d' = 64 := by omega
  have hp' : 0 < d' := by omega
  clear h hy hd' n2 n3
  have z64 : (z' : Int) < 64 := by omega
  have dd : (d' : Int) - 1 = ((d' - 1 : Nat) : Int) := by omega
  go_enter Tryd.func17, Tryd.ntmps17
  go_wp2_with fail
  refine P1.out.mono ?_
  rintro e w1 ⟨rfl, v1, h1, o1, s1⟩
  have S1 := hideIt (S0.out.put h1 o1 s1)
  clear h1 o1 s1 S0 P1
  obtain ⟨c0, c1, _, _⟩ := two_cells S1.out.box
  go_wp2_with fail
  refine (isNone_no a d _ (by omega)).mono ?_
  rintro e w2 ⟨rfl, o2⟩
  have S2 := hideIt (S1.out.past o2)
  clear S1 o2 c0 c1
  obtain ⟨c0, c1, _, _⟩ := two_cells S2.out.box
  go_wp2_with fail
  refine (FI _).out.mono ?_
  rintro e w3 ⟨rfl, o3⟩
  have S3 := hideIt (S2.out.past o3)
  clear S2 o3 c0 c1 FI
  have W3 := WO w3 (S3.out.tab hT hB hv0)
  clear WO
  go_wp2_with fail
  refine W3.out.mono ?_
  rintro e w4 ⟨rfl, o4⟩
  have S4 := hideIt (S3.out.past o4)
  clear S3 o4 W3
  obtain ⟨c0, c1, f0, f1⟩ := two_cells S4.out.box
  have S5 := hideIt (S4.out.set a' d')
  have P5 := hideIt (put_small S5.out 1 1 1 rfl (by omega) (by omega) (by decide) (by simp; omega))
  rw [show bitsOf 1 1 = [true] by decide] at P5
  clear S4
  go_wp2_with fail
  refine P5.out.mono ?_
  rintro e w6 ⟨rfl, v6, s6⟩
  have S6 := hideIt s6
  clear s6 S5 P5 c0 c1 f0 f1
  obtain ⟨c0, c1, _, _⟩ := two_cells S6.out.box
  have P6 := hideIt (put_small S6.out (a' : Int) a' 5 rfl (by omega) (by omega) (wid_5 n1) (by simp; omega))
  go_wp2_with fail
  refine P6.out.mono ?_
  rintro e w7 ⟨rfl, v7, s7⟩
  have S7 := hideIt s7
  clear s7 S6 P6 c0 c1
  obtain ⟨c0, c1, _, _⟩ := two_cells S7.out.box
  have P7 := hideIt (put_small S7.out ((d' - 1 : Nat) : Int) (d' - 1) 6 rfl (by omega) (by omega) (wid_6 (by omega)) (by simp [bitsOf_length]; omega))
  go_wp2_with fail
  refine P7.out.mono ?_
  rintro e w8 ⟨rfl, v8, s8⟩
  have S8 := hideIt s8
  clear s8 S7 P7 c0 c1
  obtain ⟨c0, c1, _, _⟩ := two_cells S8.out.box
  go_wp2
  have SD := hideIt (S8.out.past ((Only.refl (fun _ => False) w8).drew))
  have hl4 : (l ++ [true] ++ [true] ++ bitsOf a' 5 ++ bitsOf (d' - 1) 6).length ≤ 1000000000 := by simp [bitsOf_length]; omega
  go_region_with (first | (go_at_call 36; refine (trail_win a' z' d' _ hs').mono ?_; rintro e w5 ⟨rfl, o5⟩; have S5 := hideIt (SD.out.past o5); have c2 := (two_cells S5.out.box).2.1) | (go_at_call 16; refine (put_in S5.out (x : Int) y z' e3.out (by omega) (by omega) y2 hl4).mono ?_; rintro e w6 ⟨rfl, v6, S6⟩))
  all_goals
    have S9 := hideIt S6
    clear S6
    clear c0 c1
    obtain ⟨c0, c1, _, _⟩ := two_cells S9.out.box
    obtain ⟨c2, c3, f2, f3⟩ := two_cells S9.out.res
    go_wp2
    obtain ⟨g, r1, r2, r3⟩ := S9.out.fin (.int .i64 a') (.int .i64 d') rfl
    exact bodyPost_ret (results_cell_row rfl _ _ (w.heap.size + 1) 42 _ (0, 0) _ rfl g Tryd.underlying42 rfl Tryd.sizeWin) rfl ⟨rfl, v6, r1, r2, r3⟩
/-- what differs, written: the window behind it, and the bits -/
theorem write_any {w : World} {lo B : Nat} {v : Value} {l : List Bool} (h : WrAt 39 5 w lo B v l) (x : Nat) (wn : Option (Nat × Nat)) (a d : Nat) (hwn : W2 wn a d) (hl : l.length ≤ 100000000) (hx : x < 18446744073709551616) (hT : Tab w) (hB : 0 < B) :
    Calls Tryd.prog 17 #[.pointer (some ⟨B, 0, none⟩), .int .u64 x, .agg #[.int .i64 a, .int .i64 d]] w fun e w' => ∃ a' d' : Nat, e = .returned (.agg #[.int .i64 a', .int .i64 d']) ∧ W2 (gx x wn).2 a' d' ∧
      ∃ v', WrAt 39 5 w' lo B v' (l ++ (gx x wn).1) ∧ Only (Foot B v) w w' ∧ Stays w v v' := by
  by_cases h0 : x = 0
  · subst h0
    have e : gx 0 wn = ([false], wn) := by unfold gx; rw [if_pos rfl]
    rw [e]
    refine (write_zero h a d hl).mono ?_
    rintro e w' ⟨rfl, r⟩
    exact ⟨a, d, rfl, hwn, r⟩
  · obtain ⟨n1, n2, n3⟩ := win_new (Nat.pos_of_ne_zero h0) hx
    have hw : W2 (some (ldz x, tz x)) (ldz x) (64 - ldz x - tz x) := .inr ⟨tz x, rfl, n1, by omega, by omega⟩
    have hN : ∀ m : List Bool, m ++ [true] ++ [true] ++ bitsOf (ldz x) 5 ++ bitsOf (63 - ldz x - tz x) 6 ++ bitsOf (x / 2 ^ tz x) (64 - ldz x - tz x) = m ++ newW x := fun m => by unfold newW; simp
    rcases hwn with ⟨rfl, rfl, rfl⟩ | ⟨z, rfl, h1, h2, h3⟩
    · have e : gx x none = (newW x, some (ldz x, tz x)) := by unfold gx; rw [if_neg h0]
      rw [e]
      refine (write_first h x hl (Nat.pos_of_ne_zero h0) hx hT hB).mono ?_
      rintro e w' ⟨rfl, v', r⟩
      rw [hN] at r
      exact ⟨_, _, rfl, hw, v', r⟩
    · by_cases hf : fitsW x a z
      · have e : gx x (some (a, z)) = (true :: false :: bitsOf (x / 2 ^ z) (64 - a - z), some (a, z)) := by unfold gx; rw [if_neg h0]; simp only; rw [if_pos hf]
        rw [e]
        refine (write_fit h a z d x hl (Nat.pos_of_ne_zero h0) hx h2 h3 hf).mono ?_
        rintro e w' ⟨rfl, v', r⟩
        rw [show l ++ [true] ++ [false] ++ bitsOf (x / 2 ^ z) d = l ++ true :: false :: bitsOf (x / 2 ^ z) (64 - a - z) by rw [show 64 - a - z = d by omega]; simp] at r
        exact ⟨a, d, rfl, .inr ⟨z, rfl, h1, h2, h3⟩, v', r⟩
      · have e : gx x (some (a, z)) = (newW x, some (ldz x, tz x)) := by unfold gx; rw [if_neg h0]; simp only; rw [if_neg hf]
        rw [e]
        refine (write_other h x a z d h2 h3 hf hl (Nat.pos_of_ne_zero h0) hx hT hB).mono ?_
        rintro e w' ⟨rfl, v', r⟩
        rw [hN] at r
        exact ⟨_, _, rfl, hw, v', r⟩
end Go.Proofs.YthpcibofcgjcdaaDoor

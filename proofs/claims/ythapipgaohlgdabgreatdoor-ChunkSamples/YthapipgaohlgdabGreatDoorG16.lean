/- Several texts in one: Gw2, Ge, Vw2, Ro, Vi. -/
import Derived.Test.YthapipgaohlgdabGreatDoorG15
import Derived.Laws.Bits64
import Derived.RangeFuncBox
import Derived.RangeFuncNested
import Derived.RangeFuncBound
import Derived.RangeFuncCalls
import Derived.RangeFuncLeaves
import Derived.Shelf.Abstract
import Derived.Shelf.RegionOpen
import Derived.WalkKit
import Derived.OwnWalkIn
import Derived.TacticsInMore
import Derived.LoopNIn
import Derived.LoopIn
import Derived.Test.YthapipgaohlgdabGreatDoorProg
import Derived.Test.YthapipgaohlgdabGreatDoorG1

/- Package gorilla: what differs, written with a window of its own. -/
namespace Go.Proofs.YthapipgaohlgdabGreatDoor
open Go.RowKit

theorem Ws.tab {w : World} {lo B : Nat} {v : Value} {w1 : World} {v1 : Value} {l1 : List Bool} {a d : Nat} (h : Ws w lo B v w1 v1 l1 a d) (hT : Tab w) (hB : 0 < B) (hv : ∀ k, v.ownBlock = some k → 0 < k) : Tab w1 :=
  hT.keep h.on (fun f => by
    rcases f with e | e
    · omega
    · exact absurd (hv 0 e) (by omega))
theorem wid_5 {n : Nat} (h : n ≤ 31) : wid n ≤ 5 := (wid_le_iff n 5).2 (by omega)
theorem wid_6 {n : Nat} (h : n ≤ 63) : wid n ≤ 6 := (wid_le_iff n 6).2 (by omega)
/-- a small number, put -/
theorem put_small {w w1 : World} {lo B : Nat} {v v1 : Value} {l1 : List Bool} {a d : Nat} (S : Ws w lo B v w1 v1 l1 a d) (x : Int) (n q : Nat) (e : x = (n : Int)) (hn : n < 18446744073709551616) (hq : q ≤ 64) (hw : wid n ≤ q) (hl : l1.length ≤ 1000000000) :
    Calls Tryz.prog 83 #[.pointer (some ⟨B, 0, none⟩), .int .u64 x, .int .i64 q] w1 fun e w' => e = .returned (.int .i64 0) ∧ ∃ v', Ws w lo B v w' v' (l1 ++ bitsOf n q) a d := by
  subst e
  refine (put_wr S.wr n q (by omega) (by omega) (by omega) (by omega) (by simpa using hw) hl).mono ?_
  rintro e w' ⟨rfl, v', h, o, s⟩
  simp only [Int.toNat_natCast] at h
  exact ⟨rfl, v', S.put h o s⟩
set_option maxHeartbeats 2000000 in
theorem write_first {w : World} {lo B : Nat} {v : Value} {l : List Bool} (h : WrAt 112 5 w lo B v l) (x : Nat) (hl : l.length ≤ 100000000) (h0 : 0 < x) (hx : x < 18446744073709551616) (hT : Tab w) (hB : 0 < B) :
    Calls Tryz.prog 92 #[.pointer (some ⟨B, 0, none⟩), .int .u64 x, .agg #[.int .i64 0, .int .i64 0]] w fun e w' => e = .returned (.agg #[.int .i64 (ldz x : Nat), .int .i64 (64 - ldz x - tz x : Nat)]) ∧
      ∃ v', WrAt 112 5 w' lo B v' (l ++ [true] ++ [true] ++ bitsOf (ldz x) 5 ++ bitsOf (63 - ldz x - tz x) 6 ++ bitsOf (x / 2 ^ tz x) (64 - ldz x - tz x)) ∧ Only (Foot B v) w w' ∧ Stays w v v' := by
  have S0 := hideIt (Ws.start h 0 0)
  have P1 := hideIt (put_wr S0.out.wr 1 1 (by omega) (by omega) (by omega) (by omega) (by decide) (by omega))
  rw [bits_11] at P1
  have hne : ((x : Int) == 0) = false := by rw [beq_eq_false_iff_ne]; omega
  have hv0 : ∀ k, v.ownBlock = some k → 0 < k := fun k hk => by have := (h.own.lt k hk).1; have := h.lt; omega
  obtain ⟨n1, n2, n3⟩ := win_new h0 hx
  have WO := fun w hT => hideIt (windowOf_any (x : Int) w (by omega) (by omega) hT)
  simp only [Int.toNat_natCast] at WO
  have e3 : Hid ((x : Int) / 2 ^ tz x = ((x / 2 ^ tz x : Nat) : Int)) := by simp only [Hid]; push_cast; rfl
  have y1 : x / 2 ^ tz x ≤ x := Nat.div_le_self _ _
  have y2 : wid (x / 2 ^ tz x) ≤ 64 - ldz x - tz x := (wid_le_iff _ _).2 (fits_lt hx n2 n3)
  generalize hy : x / 2 ^ tz x = y at *
  generalize ldz x = a' at *
  generalize tz x = z' at *
  obtain ⟨d', hd'⟩ : ∃ d', d' = 64 - a' - z' := ⟨_, rfl⟩
  rw [show 63 - a' - z' = d' - 1 by omega, ← hd']
  rw [← hd'] at WO y2
  have hs' : a' + z' + d' = 64 := by omega
  have hp' : 0 < d' := by omega
  clear h hy hd' n2 n3
  have z64 : (z' : Int) < 64 := by omega
  have dd : (d' : Int) - 1 = ((d' - 1 : Nat) : Int) := by omega
  go_enter Tryz.func92, Tryz.ntmps92
  go_wp2_with fail
  refine P1.out.mono ?_
  rintro e w1 ⟨rfl, v1, h1, o1, s1⟩
  have S1 := hideIt (S0.out.put h1 o1 s1)
  clear h1 o1 s1 S0 P1
  obtain ⟨c0, c1, _, _⟩ := two_cells S1.out.box
  go_wp2_with fail
  refine (isNone_yes _).mono ?_
  rintro e w3 ⟨rfl, o2⟩
  have S3 := hideIt (S1.out.past o2)
  clear S1 o2 c0 c1
  have W3 := WO w3 (S3.out.tab hT hB hv0)
  clear WO
  go_wp2_with fail
  refine W3.out.mono ?_
  rintro e w4 ⟨rfl, o4⟩
  have S4 := hideIt (S3.out.past o4)
  clear S3 o4 W3
  obtain ⟨c0, c1, f0, f1⟩ := two_cells S4.out.box
  have S5 := hideIt (S4.out.set a' d')
  have P5 := hideIt (put_small S5.out 1 1 1 rfl (by omega) (by omega) (by decide) (by simp; omega))
  rw [show bitsOf 1 1 = [true] by decide] at P5
  clear S4
  go_wp2_with fail
  refine P5.out.mono ?_
  rintro e w6 ⟨rfl, v6, s6⟩
  have S6 := hideIt s6
  clear s6 S5 P5 c0 c1 f0 f1
  obtain ⟨c0, c1, _, _⟩ := two_cells S6.out.box
  have P6 := hideIt (put_small S6.out (a' : Int) a' 5 rfl (by omega) (by omega) (wid_5 n1) (by simp; omega))
  go_wp2_with fail
  refine P6.out.mono ?_
  rintro e w7 ⟨rfl, v7, s7⟩
  have S7 := hideIt s7
  clear s7 S6 P6 c0 c1
  obtain ⟨c0, c1, _, _⟩ := two_cells S7.out.box
  have P7 := hideIt (put_small S7.out ((d' - 1 : Nat) : Int) (d' - 1) 6 rfl (by omega) (by omega) (wid_6 (by omega)) (by simp [bitsOf_length]; omega))
  go_wp2_with fail
  refine P7.out.mono ?_
  rintro e w8 ⟨rfl, v8, s8⟩
  have S8 := hideIt s8
  clear s8 S7 P7 c0 c1
  obtain ⟨c0, c1, _, _⟩ := two_cells S8.out.box
  go_wp2
  have SD := hideIt (S8.out.past ((Only.refl (fun _ => False) w8).drew))
  have hl4 : (l ++ [true] ++ [true] ++ bitsOf a' 5 ++ bitsOf (d' - 1) 6).length ≤ 1000000000 := by simp [bitsOf_length]; omega
  go_region_with (first | (go_at_call 114; refine (trail_win a' z' d' _ hs').mono ?_; rintro e w5 ⟨rfl, o5⟩; have S5 := hideIt (SD.out.past o5); have c2 := (two_cells S5.out.box).2.1) | (go_at_call 83; refine (put_in S5.out (x : Int) y z' e3.out (by omega) (by omega) y2 hl4).mono ?_; rintro e w6 ⟨rfl, v6, S6⟩))
  all_goals
    have S9 := hideIt S6
    clear S6
    clear c0 c1
    obtain ⟨c0, c1, _, _⟩ := two_cells S9.out.box
    obtain ⟨c2, c3, f2, f3⟩ := two_cells S9.out.res
    go_wp2
    obtain ⟨g, r1, r2, r3⟩ := S9.out.fin (.int .i64 a') (.int .i64 d') rfl
    exact bodyPost_ret (results_cell_row rfl _ _ (w.heap.size + 1) 124 _ (0, 0) _ rfl g Tryz.underlying124 rfl Tryz.sizeWin) rfl ⟨rfl, v6, r1, r2, r3⟩
set_option maxHeartbeats 2000000 in
theorem write_other {w : World} {lo B : Nat} {v : Value} {l : List Bool} (h : WrAt 112 5 w lo B v l) (x : Nat) (a z d : Nat) (hs : a + z + d = 64) (hd : 0 < d) (hf : ¬ fitsW x a z) (hl : l.length ≤ 100000000) (h0 : 0 < x) (hx : x < 18446744073709551616) (hT : Tab w) (hB : 0 < B) :
    Calls Tryz.prog 92 #[.pointer (some ⟨B, 0, none⟩), .int .u64 x, .agg #[.int .i64 a, .int .i64 d]] w fun e w' => e = .returned (.agg #[.int .i64 (ldz x : Nat), .int .i64 (64 - ldz x - tz x : Nat)]) ∧
      ∃ v', WrAt 112 5 w' lo B v' (l ++ [true] ++ [true] ++ bitsOf (ldz x) 5 ++ bitsOf (63 - ldz x - tz x) 6 ++ bitsOf (x / 2 ^ tz x) (64 - ldz x - tz x)) ∧ Only (Foot B v) w w' ∧ Stays w v v' := by
  have S0 := hideIt (Ws.start h a d)
  have P1 := hideIt (put_wr S0.out.wr 1 1 (by omega) (by omega) (by omega) (by omega) (by decide) (by omega))
  rw [bits_11] at P1
  have hne : ((x : Int) == 0) = false := by rw [beq_eq_false_iff_ne]; omega
  have hv0 : ∀ k, v.ownBlock = some k → 0 < k := fun k hk => by have := (h.own.lt k hk).1; have := h.lt; omega
  obtain ⟨n1, n2, n3⟩ := win_new h0 hx
  have WO := fun w hT => hideIt (windowOf_any (x : Int) w (by omega) (by omega) hT)
  simp only [Int.toNat_natCast] at WO
  have e3 : Hid ((x : Int) / 2 ^ tz x = ((x / 2 ^ tz x : Nat) : Int)) := by simp only [Hid]; push_cast; rfl
  have y1 : x / 2 ^ tz x ≤ x := Nat.div_le_self _ _
  have y2 : wid (x / 2 ^ tz x) ≤ 64 - ldz x - tz x := (wid_le_iff _ _).2 (fits_lt hx n2 n3)
  have FI := fun w => hideIt (fits_any a z d x w h0 hx hs hd)
  rw [decide_eq_false hf] at FI
  clear hf
  generalize hy : x / 2 ^ tz x = y at *
  generalize ldz x = a' at *
  generalize tz x = z' at *
  obtain ⟨d', hd'⟩ : ∃ d', d' = 64 - a' - z' := ⟨_, rfl⟩
  rw [show 63 - a' - z' = d' - 1 by omega, ← hd']
  rw [← hd'] at WO y2
  have hs' : a' + z' + d' = 64 := by omega
  have hp' : 0 < d' := by omega
  clear h hy hd' n2 n3
  have z64 : (z' : Int) < 64 := by omega
  have dd : (d' : Int) - 1 = ((d' - 1 : Nat) : Int) := by omega
  go_enter Tryz.func92, Tryz.ntmps92
  go_wp2_with fail
  refine P1.out.mono ?_
  rintro e w1 ⟨rfl, v1, h1, o1, s1⟩
  have S1 := hideIt (S0.out.put h1 o1 s1)
  clear h1 o1 s1 S0 P1
  obtain ⟨c0, c1, _, _⟩ := two_cells S1.out.box
  go_wp2_with fail
  refine (isNone_no a d _ (by omega)).mono ?_
  rintro e w2 ⟨rfl, o2⟩
  have S2 := hideIt (S1.out.past o2)
  clear S1 o2 c0 c1
  obtain ⟨c0, c1, _, _⟩ := two_cells S2.out.box
  go_wp2_with fail
  refine (FI _).out.mono ?_
  rintro e w3 ⟨rfl, o3⟩
  have S3 := hideIt (S2.out.past o3)
  clear S2 o3 c0 c1 FI
  have W3 := WO w3 (S3.out.tab hT hB hv0)
  clear WO
  go_wp2_with fail
  refine W3.out.mono ?_
  rintro e w4 ⟨rfl, o4⟩
  have S4 := hideIt (S3.out.past o4)
  clear S3 o4 W3
  obtain ⟨c0, c1, f0, f1⟩ := two_cells S4.out.box
  have S5 := hideIt (S4.out.set a' d')
  have P5 := hideIt (put_small S5.out 1 1 1 rfl (by omega) (by omega) (by decide) (by simp; omega))
  rw [show bitsOf 1 1 = [true] by decide] at P5
  clear S4
  go_wp2_with fail
  refine P5.out.mono ?_
  rintro e w6 ⟨rfl, v6, s6⟩
  have S6 := hideIt s6
  clear s6 S5 P5 c0 c1 f0 f1
  obtain ⟨c0, c1, _, _⟩ := two_cells S6.out.box
  have P6 := hideIt (put_small S6.out (a' : Int) a' 5 rfl (by omega) (by omega) (wid_5 n1) (by simp; omega))
  go_wp2_with fail
  refine P6.out.mono ?_
  rintro e w7 ⟨rfl, v7, s7⟩
  have S7 := hideIt s7
  clear s7 S6 P6 c0 c1
  obtain ⟨c0, c1, _, _⟩ := two_cells S7.out.box
  have P7 := hideIt (put_small S7.out ((d' - 1 : Nat) : Int) (d' - 1) 6 rfl (by omega) (by omega) (wid_6 (by omega)) (by simp [bitsOf_length]; omega))
  go_wp2_with fail
  refine P7.out.mono ?_
  rintro e w8 ⟨rfl, v8, s8⟩
  have S8 := hideIt s8
  clear s8 S7 P7 c0 c1
  obtain ⟨c0, c1, _, _⟩ := two_cells S8.out.box
  go_wp2
  have SD := hideIt (S8.out.past ((Only.refl (fun _ => False) w8).drew))
  have hl4 : (l ++ [true] ++ [true] ++ bitsOf a' 5 ++ bitsOf (d' - 1) 6).length ≤ 1000000000 := by simp [bitsOf_length]; omega
  go_region_with (first | (go_at_call 114; refine (trail_win a' z' d' _ hs').mono ?_; rintro e w5 ⟨rfl, o5⟩; have S5 := hideIt (SD.out.past o5); have c2 := (two_cells S5.out.box).2.1) | (go_at_call 83; refine (put_in S5.out (x : Int) y z' e3.out (by omega) (by omega) y2 hl4).mono ?_; rintro e w6 ⟨rfl, v6, S6⟩))
  all_goals
    have S9 := hideIt S6
    clear S6
    clear c0 c1
    obtain ⟨c0, c1, _, _⟩ := two_cells S9.out.box
    obtain ⟨c2, c3, f2, f3⟩ := two_cells S9.out.res
    go_wp2
    obtain ⟨g, r1, r2, r3⟩ := S9.out.fin (.int .i64 a') (.int .i64 d') rfl
    exact bodyPost_ret (results_cell_row rfl _ _ (w.heap.size + 1) 124 _ (0, 0) _ rfl g Tryz.underlying124 rfl Tryz.sizeWin) rfl ⟨rfl, v6, r1, r2, r3⟩
/-- what differs, written: the window behind it, and the bits -/
theorem write_any {w : World} {lo B : Nat} {v : Value} {l : List Bool} (h : WrAt 112 5 w lo B v l) (x : Nat) (wn : Option (Nat × Nat)) (a d : Nat) (hwn : W2 wn a d) (hl : l.length ≤ 100000000) (hx : x < 18446744073709551616) (hT : Tab w) (hB : 0 < B) :
    Calls Tryz.prog 92 #[.pointer (some ⟨B, 0, none⟩), .int .u64 x, .agg #[.int .i64 a, .int .i64 d]] w fun e w' => ∃ a' d' : Nat, e = .returned (.agg #[.int .i64 a', .int .i64 d']) ∧ W2 (gx x wn).2 a' d' ∧
      ∃ v', WrAt 112 5 w' lo B v' (l ++ (gx x wn).1) ∧ Only (Foot B v) w w' ∧ Stays w v v' := by
  by_cases h0 : x = 0
  · subst h0
    have e : gx 0 wn = ([false], wn) := by unfold gx; rw [if_pos rfl]
    rw [e]
    refine (write_zero h a d hl).mono ?_
    rintro e w' ⟨rfl, r⟩
    exact ⟨a, d, rfl, hwn, r⟩
  · obtain ⟨n1, n2, n3⟩ := win_new (Nat.pos_of_ne_zero h0) hx
    have hw : W2 (some (ldz x, tz x)) (ldz x) (64 - ldz x - tz x) := .inr ⟨tz x, rfl, n1, by omega, by omega⟩
    have hN : ∀ m : List Bool, m ++ [true] ++ [true] ++ bitsOf (ldz x) 5 ++ bitsOf (63 - ldz x - tz x) 6 ++ bitsOf (x / 2 ^ tz x) (64 - ldz x - tz x) = m ++ newW x := fun m => by unfold newW; simp
    rcases hwn with ⟨rfl, rfl, rfl⟩ | ⟨z, rfl, h1, h2, h3⟩
    · have e : gx x none = (newW x, some (ldz x, tz x)) := by unfold gx; rw [if_neg h0]
      rw [e]
      refine (write_first h x hl (Nat.pos_of_ne_zero h0) hx hT hB).mono ?_
      rintro e w' ⟨rfl, v', r⟩
      rw [hN] at r
      exact ⟨_, _, rfl, hw, v', r⟩
    · by_cases hf : fitsW x a z
      · have e : gx x (some (a, z)) = (true :: false :: bitsOf (x / 2 ^ z) (64 - a - z), some (a, z)) := by unfold gx; rw [if_neg h0]; simp only; rw [if_pos hf]
        rw [e]
        refine (write_fit h a z d x hl (Nat.pos_of_ne_zero h0) hx h2 h3 hf).mono ?_
        rintro e w' ⟨rfl, v', r⟩
        rw [show l ++ [true] ++ [false] ++ bitsOf (x / 2 ^ z) d = l ++ true :: false :: bitsOf (x / 2 ^ z) (64 - a - z) by rw [show 64 - a - z = d by omega]; simp] at r
        exact ⟨a, d, rfl, .inr ⟨z, rfl, h1, h2, h3⟩, v', r⟩
      · have e : gx x (some (a, z)) = (newW x, some (ldz x, tz x)) := by unfold gx; rw [if_neg h0]; simp only; rw [if_neg hf]
        rw [e]
        refine (write_other h x a z d h2 h3 hf hl (Nat.pos_of_ne_zero h0) hx hT hB).mono ?_
        rintro e w' ⟨rfl, v', r⟩
        rw [hN] at r
        exact ⟨_, _, rfl, hw, v', r⟩
end Go.Proofs.YthapipgaohlgdabGreatDoor

/- Package gorilla's Encode. -/
namespace Go.Proofs.YthapipgaohlgdabGreatDoor
open Go.RowKit

/-! the window and the last pattern behind a list -/
def gW : Nat → Option (Nat × Nat) → List Int → Option (Nat × Nat)
  | _, wn, [] => wn
  | p, wn, y :: t => gW y.toNat (gx (p ^^^ y.toNat) wn).2 t
def gL : Nat → List Int → Nat
  | p, [] => p
  | _, y :: t => gL y.toNat t
theorem gE_snoc (l : List Int) (y : Int) : ∀ (p : Nat) (wn : Option (Nat × Nat)), gE p wn (l ++ [y]) = gE p wn l ++ (gx (gL p l ^^^ y.toNat) (gW p wn l)).1 ∧ gW p wn (l ++ [y]) = (gx (gL p l ^^^ y.toNat) (gW p wn l)).2 := by
  induction l with
  | nil => intro p wn; simp [gE, gW, gL]
  | cons z t ih =>
    intro p wn
    obtain ⟨h1, h2⟩ := ih z.toNat (gx (p ^^^ z.toNat) wn).2
    constructor
    · rw [List.cons_append, gE, h1, gE, gL, gW, List.append_assoc]
    · rw [List.cons_append, gW, h2, gL, gW]
theorem take_one (t : List Int) (k : Nat) (h : k < t.length) : t.take (k + 1) = t.take k ++ [t.getD k 0] := by
  rw [List.take_add_one, List.getD_eq_getElem?_getD, List.getElem?_eq_getElem h]; rfl
theorem gL_take (t : List Int) : ∀ (x0 : Int) (k : Nat), k ≤ t.length → gL x0.toNat (t.take k) = ((x0 :: t).getD k 0).toNat := by
  induction t with
  | nil =>
    intro x0 k hk
    obtain rfl : k = 0 := by simpa using hk
    rfl
  | cons y t ih =>
    intro x0 k hk
    cases k with
    | zero => rfl
    | succ k =>
      rw [List.take_succ_cons, gL, ih y k (by simpa using hk)]
      rfl
theorem gE_step (x0 : Int) (t : List Int) (k : Nat) (h : k < t.length) :
    gE x0.toNat none (t.take (k + 1)) = gE x0.toNat none (t.take k) ++ (gx (((x0 :: t).getD k 0).toNat ^^^ (t.getD k 0).toNat) (gW x0.toNat none (t.take k))).1 ∧
    gW x0.toNat none (t.take (k + 1)) = (gx (((x0 :: t).getD k 0).toNat ^^^ (t.getD k 0).toNat) (gW x0.toNat none (t.take k))).2 := by
  rw [take_one t k h, ← gL_take t x0 k (by omega)]
  exact gE_snoc _ _ _ _
theorem xor_i {x y : Int} (x0 : 0 ≤ x) (x1 : x ≤ 18446744073709551615) (y0 : 0 ≤ y) (y1 : y ≤ 18446744073709551615) : bits .xor .u64 y x = ((x.toNat ^^^ y.toNat : Nat) : Int) := by
  have := bits_xor_u64_nat y.toNat x.toNat (by omega) (by omega)
  rw [Int.toNat_of_nonneg x0, Int.toNat_of_nonneg y0] at this
  rw [this, Nat.xor_comm]

theorem cell_in {w : World} {b i : Nat} {v : Value} (h : w.cell? ⟨b, i, none⟩ = some v) : b < w.heap.size := by
  rcases Nat.lt_or_ge b w.heap.size with e | e
  · exact e
  · have e2 : w.heap[b]? = none := Array.getElem?_eq_none e
    simp [World.cell?, e2] at h
/-- Encode under way: the writer, and the window in its block K -/
structure Es (w : World) (K : Nat) (wr : World) (vw : Value) (l : List Bool) (wn : Option (Nat × Nat)) (a d : Nat) : Prop where
  be : Below w.heap.size w wr
  wt : WrAt 112 5 wr (w.heap.size + 1) w.heap.size vw l
  nb : ∀ q, vw.ownBlock = some q → q ≠ K
  gt : w.heap.size < K
  box : wr.heap[K]? = some (.cells #[.int .i64 a, .int .i64 d] 124 (0, 0))
  wi : W2 wn a d
theorem Es.lt {w : World} {K : Nat} {wr : World} {vw : Value} {l : List Bool} {wn : Option (Nat × Nat)} {a d : Nat} (h : Es w K wr vw l wn a d) : K < wr.heap.size := by
  rcases Nat.lt_or_ge K wr.heap.size with e | e
  · exact e
  · have := h.box
    rw [Array.getElem?_eq_none e] at this
    cases this
theorem Es.drew {w : World} {K : Nat} {wr : World} {vw : Value} {l : List Bool} {wn : Option (Nat × Nat)} {a d : Nat} (h : Es w K wr vw l wn a d) : Es w K wr.drew vw l wn a d :=
  ⟨h.be.drew, h.wt.keep ((Only.refl (fun _ => False) wr).drew) (fun f => f) (fun _ _ f => f), h.nb, h.gt, h.box, h.wi⟩
theorem Es.off {w : World} {K : Nat} {wr : World} {vw : Value} {l : List Bool} {wn : Option (Nat × Nat)} {a d : Nat} (h : Es w K wr vw l wn a d) (f : Foot w.heap.size vw K) : False := by
  rcases f with e | e
  · have := h.gt; omega
  · exact h.nb _ e rfl
theorem Es.next {w : World} {K : Nat} {wr w2 : World} {vw v2 : Value} {l l2 : List Bool} {wn wn2 : Option (Nat × Nat)} {a d a2 d2 : Nat} (h : Es w K wr vw l wn a d)
    (h2 : WrAt 112 5 w2 (w.heap.size + 1) w.heap.size v2 l2) (o : Only (Foot w.heap.size vw) wr w2) (s : Stays wr vw v2) (hw : W2 wn2 a2 d2) :
    Es w K ((w2.setCell ⟨K, 0, none⟩ (.int .i64 a2)).setCell ⟨K, 1, none⟩ (.int .i64 d2)) v2 l2 wn2 a2 d2 := by
  have hnb : ∀ q, v2.ownBlock = some q → q ≠ K := fun q hq => by
    rcases s with e | e
    · rw [e] at hq; exact h.nb q hq
    · have := e q hq; have := h.lt; omega
  have hbox := o.heap h.box (fun f => by
    rcases f with e | e
    · have := h.gt; omega
    · exact h.nb _ e rfl)
  have hg := h.gt
  refine ⟨?_, h2.keep (setCell2_only (S := fun k => k = K) _ _ rfl) (fun f => by omega) (fun k hk f => hnb k hk f), hnb, h.gt, setCell2_heap _ _ hbox, hw⟩
  exact (h.be.trans (o.below (B := w.heap.size) h.be.size (h.wt.foot_ge (Nat.le_refl _)))).trans ((setCell2_only (S := fun k => k = K) (.int .i64 a2) (.int .i64 d2) rfl).below (B := w.heap.size) (Nat.le_trans h.be.size o.size) (fun k e => by omega))

set_option maxHeartbeats 400000 in
theorem encode9_long (v : Value) (xs : List Int) (w : World) (h : Bs .u64 w v xs) (hl : 65536 < xs.length) :
    Calls Tryz.prog 69 #[v] w fun e w' => e = .returned (.tuple #[.slice none 0 0, .int .i64 4]) ∧ w = w' := by
  obtain ⟨ao, cap, rfl⟩ := h.len
  clear h
  have d0 : decide (65536 < (xs.length : Int)) = true := by simp; omega
  generalize xs.length = m at *
  clear hl
  go_enter Tryz.func69, Tryz.ntmps69
  go_wp2
  go_ret2
  exact ⟨rfl, rfl⟩
set_option maxHeartbeats 400000 in
theorem encode9_nil (v : Value) (w : World) (h : Bs .u64 w v []) :
    Calls Tryz.prog 69 #[v] w fun e w' => e = .returned (.tuple #[.slice none 0 0, .int .i64 0]) ∧ w = w' := by
  obtain ⟨ao, cap, rfl⟩ := h.len
  clear h
  go_enter Tryz.func69, Tryz.ntmps69
  go_wp2
  go_ret2
  exact ⟨rfl, rfl⟩
set_option maxHeartbeats 4000000 in
set_option maxRecDepth 100000 in
theorem encode9_cons (v : Value) (x0 : Int) (t : List Int) (w : World) (h : Bs .u64 w v (x0 :: t)) (hu : U64 (x0 :: t)) (hl : (x0 :: t).length ≤ 65536) (hT : Tab w) :
    Calls Tryz.prog 69 #[v] w fun e w' => ∃ v', e = .returned (.tuple #[v', .int .i64 0]) ∧ w'.ownsRow w.heap.size 5 1 v' (bytesI (GB (x0 :: t))).length ((bytesI (GB (x0 :: t))).map (Value.int .u8)) ∧ Only (fun _ => False) w w' := by
  obtain ⟨b, off, cap, rfl, c0⟩ := h.at 0 (by simp)
  have HB := hideIt h
  have HU := hideIt hu
  obtain ⟨u0, u1⟩ := hu x0 List.mem_cons_self
  simp only [List.getD_cons_zero, Nat.add_zero] at c0
  have hbw := cell_in c0
  obtain ⟨m, hm⟩ : ∃ m, m = t.length := ⟨_, rfl⟩
  have HM := hideIt hm
  have hlen : (x0 :: t).length = m + 1 := by rw [hm]; rfl
  rw [hlen] at HB hl
  rw [hlen]
  have hcap : m + 1 ≤ cap := by
    obtain ⟨ao, cap', e, hc, _⟩ := h
    simp only [Value.slice.injEq] at e
    omega
  obtain ⟨n, hn⟩ : ∃ n, n = m + 1 := ⟨_, rfl⟩
  rw [← hn] at HB hl hcap
  rw [← hn]
  have n0 : 0 < n := by omega
  have HN := hideIt hn
  obtain ⟨G, hG⟩ : ∃ G, G = bytesI (GB (x0 :: t)) := ⟨_, rfl⟩
  rw [← hG]
  have HG := hideIt hG
  have d0 : decide (65536 < (n : Int)) = false := by simp; omega
  have d1 : ((n : Int) == 0) = false := by rw [beq_eq_false_iff_ne]; omega
  have x64 : (wid x0.toNat : Int) ≤ 64 := by have := wid_le64 x0.toNat (by omega); omega
  have W0 := hideIt (WrAt.new (T := 112) (E := 5) w)
  have P0 := hideIt (put_wr W0.out x0 64 (by omega) (by omega) u0 u1 x64 (by simp))
  have HB0 : Hid (Below w.heap.size w (w.alloc (.cells #[.slice none 0 0, .int .i64 0] 112))) := (Below.refl _ _).alloc (Nat.le_refl _) _
  clear h hu hm hlen hG hn
  go_enter Tryz.func69, Tryz.ntmps69
  go_wp2_with fail
  refine P0.out.mono ?_
  rintro e w1 ⟨rfl, v1, h1, o1, s1⟩
  have hb64 : ([] : List Bool) ++ bitsOf x0.toNat (Int.toNat 64) = bitsOf x0.toNat 64 ++ gE x0.toNat none (t.take 0) := by simp [gE]
  rw [hb64] at h1
  have B1 := hideIt (HB0.out.trans (o1.below (B := w.heap.size) HB0.out.size (W0.out.foot_ge (Nat.le_refl _))))
  have S1 : Hid (Es w w1.heap.size (w1.alloc (.cells #[.int .i64 0, .int .i64 0] 124)) v1 (bitsOf x0.toNat 64 ++ gE x0.toNat none (t.take 0)) (gW x0.toNat none (t.take 0)) 0 0) :=
    ⟨B1.out.alloc B1.out.size _, h1.keep ((Only.refl (fun _ => False) w1).alloc _) (fun f => f) (fun _ _ f => f), fun q hq => by have := (h1.own.lt q hq).2; omega, h1.lt_size, heap_alloc_last _ _, W2.none⟩
  have hKw : Hid (w.heap.size < w1.heap.size) := h1.lt_size
  clear h1 o1 s1 P0 W0 HB0 hb64
  have e1 : n - 1 = m := by have := HN.out; omega
  have HV : Hid (∀ k, k < m → w.cell? ⟨b, off + 1 + k, none⟩ = some (.int .u64 (t.getD k 0)) ∧ w.cell? ⟨b, off + k, none⟩ = some (.int .u64 ((x0 :: t).getD k 0))) := by
    intro k hk
    obtain ⟨ao, cap', e, _, hc0⟩ := HB.out
    obtain ⟨b', off', rfl, hc⟩ := hc0 (List.cons_ne_nil _ _)
    clear hc0
    simp only [Value.slice.injEq, Option.some.injEq, Addr.mk.injEq, and_true] at e
    obtain ⟨⟨rfl, rfl⟩, _, rfl⟩ := e
    have hm := HM.out
    have := hc (k + 1) (by simp; omega)
    rw [List.getD_cons_succ] at this
    refine ⟨?_, hc k (by simp; omega)⟩
    rw [show off + 1 + k = off + (k + 1) by omega]
    exact this
  clear B1 c0
  go_wp2
  case inl =>
    obtain rfl : m = 0 := by have := HN.out; omega
    go_loopw [22] (fun i wr => ∃ k : Nat, k ≤ 0 ∧ i = .int .i64 k ∧ ∃ vw a d, Es w w1.heap.size wr vw (bitsOf x0.toNat 64 ++ gE x0.toNat none (t.take k)) (gW x0.toNat none (t.take k)) a d) (fun i _ => 0 - (intOf i).toNat)
    case atStart => exact ⟨0, Nat.zero_le _, rfl, v1, 0, 0, S1.out⟩
    case round =>
      clear S1
      obtain ⟨k, hk, rfl, vw, a, d, hes⟩ := hrel
      obtain rfl : k = 0 := by omega
      have hkm : (0 : Nat) = 0 := rfl
      have HE := hideIt hes
      have hlq : (bitsOf x0.toNat 64 ++ gE x0.toNat none (t.take 0)).length ≤ 1000000000000 := by
        have := (gE_len (t.take 0) x0.toNat none).1
        rw [List.length_append, bitsOf_length]
        rw [List.length_take] at this
        omega
      have BY := hideIt (bytes_wr hes.wt hlq)
      have hbits : Hid (bytesI (bitsOf x0.toNat 64 ++ gE x0.toNat none (t.take 0)) = G) := by
        simp only [Hid]; rw [HG.out, hkm, HM.out, List.take_length]; rfl
      rw [hbits.out] at BY
      clear hes hlq
      go_wp2_with fail
      refine BY.out.mono ?_
      rintro e w4 ⟨v4, rfl, own4, on4⟩
      have OW := hideIt (own_low own4 HE.out.be.size)
      have ON := hideIt ((only_of_below HE.out.be).same on4)
      clear BY own4 on4
      go_wp2
      go_ret2
      exact ⟨v4, rfl, OW.out, ON.out⟩
  case inr =>
    go_loopw [22] (fun i wr => ∃ k : Nat, k ≤ m ∧ i = .int .i64 k ∧ ∃ vw a d, Es w w1.heap.size wr vw (bitsOf x0.toNat 64 ++ gE x0.toNat none (t.take k)) (gW x0.toNat none (t.take k)) a d) (fun i _ => m - (intOf i).toNat)
    case atStart => exact ⟨0, Nat.zero_le _, rfl, v1, 0, 0, S1.out⟩
    case round =>
      clear S1
      obtain ⟨k, hk, rfl, vw, a, d, hes⟩ := hrel
      by_cases hlt : k < m
      · obtain ⟨q1, q2⟩ := HV.out k hlt
        have c1 := (hes.be.cell (p := ⟨b, off + 1 + k, none⟩) hbw).trans q1
        have c2 := (hes.be.drew.cell (p := ⟨b, off + k, none⟩) hbw).trans q2
        have HE := hideIt hes.drew
        obtain ⟨b0, b1, _, _⟩ := two_cells hes.drew.box
        obtain ⟨s1, s2⟩ := gE_step x0 t k (by rw [← HM.out]; exact hlt)
        have G1 := hideIt s1
        have G2 := hideIt s2
        have hmem : ∀ j, j < (x0 :: t).length → 0 ≤ (x0 :: t).getD j 0 ∧ (x0 :: t).getD j 0 ≤ 18446744073709551615 := fun j hj => HU.out _ (by rw [List.getD_eq_getElem?_getD, List.getElem?_eq_getElem hj]; simp)
        have hmt := HM.out
        obtain ⟨p0, p1⟩ := hmem k (by simp; omega)
        obtain ⟨y0, y1⟩ := hmem (k + 1) (by simp; omega)
        rw [List.getD_cons_succ] at y0 y1
        have hlq : (bitsOf x0.toNat 64 ++ gE x0.toNat none (t.take k)).length ≤ 100000000 := by
          have := (gE_len (t.take k) x0.toNat none).1
          rw [List.length_append, bitsOf_length]
          rw [List.length_take] at this
          omega
        have HT := hideIt (hT.below hes.be.drew hT.pos)
        have hxx := xor_i p0 p1 y0 y1
        have hxl := xor_lt (a := ((x0 :: t).getD k 0).toNat) (b := (t.getD k 0).toNat) (by omega) (by omega)
        generalize (x0 :: t).getD k 0 = p at *
        generalize t.getD k 0 = y at *
        have WR := hideIt (write_any HE.out.wt (p.toNat ^^^ y.toNat) _ a d HE.out.wi hlq hxl HT.out hT.pos)
        rw [← hxx] at WR
        have WL := hideIt HE.out.wi.le
        clear hmem hmt s1 s2 hlq hxx hxl hes q1 q2
        have dlt : decide ((k : Int) < (m : Int)) = true := by simp; omega
        have i0 : (k : Int) < (n : Int) := by have := HN.out; omega
        go_wp2
        go_region_with ((go_at_call 92; refine WR.out.mono ?_; rintro e w2 ⟨a2, d2, rfl, wi2, v2, h2, o2, s2⟩; have E2 := hideIt (HE.out.next h2 o2 s2 wi2); have g2 := two_cells (o2.heap HE.out.box (fun f => HE.out.off f)); obtain ⟨_, _, _, _⟩ := g2))
        all_goals
          have hL : Hid (bitsOf x0.toNat 64 ++ gE x0.toNat none (t.take k) ++ (gx (p.toNat ^^^ y.toNat) (gW x0.toNat none (t.take k))).1 = bitsOf x0.toNat 64 ++ gE x0.toNat none (t.take (k + 1))) := by
            simp only [Hid]; rw [G1.out, List.append_assoc]
          rw [hL.out, ← G2.out] at E2
          clear WR wi2 h2 o2 s2
          go_wp2
          go_roundw
          case rel => exact ⟨k + 1, by omega, by simp, v2, a2, d2, E2.out⟩
          case measure => simp [intOf]; omega
      · obtain rfl : k = m := by omega
        have hkm : k = k := rfl
        have dlt : decide ((k : Int) < (k : Int)) = false := by simp
        have HE := hideIt hes
        have hlq : (bitsOf x0.toNat 64 ++ gE x0.toNat none (t.take k)).length ≤ 1000000000000 := by
          have := (gE_len (t.take k) x0.toNat none).1
          rw [List.length_append, bitsOf_length]
          rw [List.length_take] at this
          omega
        have BY := hideIt (bytes_wr hes.wt hlq)
        have hbits : Hid (bytesI (bitsOf x0.toNat 64 ++ gE x0.toNat none (t.take k)) = G) := by
          simp only [Hid]; rw [HG.out, hkm, HM.out, List.take_length]; rfl
        rw [hbits.out] at BY
        clear hes hlq
        go_wp2_with fail
        refine BY.out.mono ?_
        rintro e w4 ⟨v4, rfl, own4, on4⟩
        have OW := hideIt (own_low own4 HE.out.be.size)
        have ON := hideIt ((only_of_below HE.out.be).same on4)
        clear BY own4 on4
        go_wp2
        go_ret2
        exact ⟨v4, rfl, OW.out, ON.out⟩
/-- Encode of any list -/
theorem encode9_all (v : Value) (xs : List Int) (w : World) (h : Bs .u64 w v xs) (hu : U64 xs) (hT : Tab w) :
    Calls Tryz.prog 69 #[v] w fun e w' => ∃ v', e = .returned (.tuple #[v', .int .i64 (ENC9 xs).2]) ∧ w'.ownsRow w.heap.size 5 1 v' (ENC9 xs).1.length ((ENC9 xs).1.map (Value.int .u8)) ∧ Only (fun _ => False) w w' := by
  by_cases hl : 65536 < xs.length
  · have e : ENC9 xs = ([], 4) := if_pos hl
    rw [e]
    refine (encode9_long v xs w h hl).mono ?_
    rintro e w' ⟨rfl, rfl⟩
    exact ⟨_, rfl, World.ownsRow_nil _ _ _ _, Only.refl _ _⟩
  · rw [ENC9_of (by omega)]
    cases xs with
    | nil =>
      refine (encode9_nil v w h).mono ?_
      rintro e w' ⟨rfl, rfl⟩
      exact ⟨_, rfl, World.ownsRow_nil _ _ _ _, Only.refl _ _⟩
    | cons x0 t => exact encode9_cons v x0 t w h hu (by omega) hT
end Go.Proofs.YthapipgaohlgdabGreatDoor

/- Package valcodec: Way. -/
namespace Go.Proofs.YthapipgaohlgdabGreatDoor
open Go.RowKit

set_option maxHeartbeats 400000 in
set_option maxRecDepth 100000 in
theorem vway_arg (v : Value) (tag : Int) (w : World) (h : tag < 0 ∨ 3 < tag) : Calls Tryz.prog 46 #[v, .int .i64 tag] w fun e w' => e = .returned (.tuple #[.slice none 0 0, .int .i64 1]) ∧ w = w' := by
  have A := hideIt (vtag_no tag w h)
  clear h
  go_enter Tryz.func46, Tryz.ntmps46
  go_wp2_with fail
  refine A.out.mono ?_
  rintro e w1 ⟨rfl, rfl⟩
  go_wp2
  go_ret2
  exact ⟨rfl, rfl⟩
set_option maxHeartbeats 400000 in
set_option maxRecDepth 100000 in
theorem vway_long (v : Value) (l : List Int) (tag : Int) (w : World) (h : Bs .u64 w v l) (h0 : 0 ≤ tag) (h3 : tag ≤ 3) (hl : 65536 < l.length) : Calls Tryz.prog 46 #[v, .int .i64 tag] w fun e w' => e = .returned (.tuple #[.slice none 0 0, .int .i64 4]) ∧ w = w' := by
  have A := hideIt (vtag_yes tag w h0 h3)
  obtain ⟨ao, cap, rfl⟩ := h.len
  have d1 : decide ((65536 : Int) < (l.length : Int)) = true := decide_eq_true (by omega)
  have d1' : decide (65536 < l.length) = true := decide_eq_true hl
  clear h h0 h3 hl
  go_enter Tryz.func46, Tryz.ntmps46
  go_wp2_with fail
  refine A.out.mono ?_
  rintro e w1 ⟨rfl, rfl⟩
  go_wp2
  go_ret2
  exact ⟨rfl, rfl⟩
set_option maxHeartbeats 800000 in
set_option maxRecDepth 100000 in
theorem vway_0 (v : Value) (l : List Int) (w : World) (h : Bs .u64 w v l) (hl : l.length ≤ 65536) :
    Calls Tryz.prog 46 #[v, .int .i64 0] w fun e w' => ∃ u, e = .returned (.tuple #[u, .int .i64 0]) ∧ w'.ownsRow w.heap.size 5 1 u (fx8 l).length ((fx8 l).map (Value.int .u8)) ∧ Only (fun _ => False) w w' := by
  have A := hideIt (vtag_yes 0 w (by omega) (by omega))
  have F := hideIt (vfixed_any v l w h hl)
  obtain ⟨ao, cap, rfl⟩ := h.len
  have d1 : decide ((65536 : Int) < (l.length : Int)) = false := decide_eq_false (by omega)
  have d1' : decide (65536 < l.length) = false := decide_eq_false (by omega)
  clear h hl
  go_enter Tryz.func46, Tryz.ntmps46
  go_wp2_with fail
  refine A.out.mono ?_
  rintro e w1 ⟨rfl, rfl⟩
  clear A
  go_wp2_with fail
  refine F.out.mono ?_
  rintro e w2 ⟨u, rfl, own2, o2⟩
  have R := hideIt (And.intro own2 o2)
  clear own2 o2 F
  go_wp2
  go_ret2
  exact ⟨u, rfl, R.out.1, R.out.2⟩
set_option maxHeartbeats 800000 in
set_option maxRecDepth 100000 in
theorem vway_1no (v : Value) (l : List Int) (w : World) (h : Bs .u64 w v l) (hl : l.length ≤ 65536) (hs : l = [] ∨ ¬ allSame l) :
    Calls Tryz.prog 46 #[v, .int .i64 1] w fun e w' => e = .returned (.tuple #[.slice none 0 0, .int .i64 1]) ∧ w = w' := by
  have A := hideIt (vtag_yes 1 w (by omega) (by omega))
  have F := areSame_bs v l w h hl
  rw [show decide (¬ (l = [] ∨ ¬ allSame l)) = false from decide_eq_false (fun c => c hs)] at F
  have F := hideIt F
  obtain ⟨ao, cap, rfl⟩ := h.len
  have d1 : decide ((65536 : Int) < (l.length : Int)) = false := decide_eq_false (by omega)
  have d1' : decide (65536 < l.length) = false := decide_eq_false (by omega)
  clear h hl hs
  go_enter Tryz.func46, Tryz.ntmps46
  go_wp2_with fail
  refine A.out.mono ?_
  rintro e w1 ⟨rfl, rfl⟩
  clear A
  go_wp2_with fail
  refine F.out.mono ?_
  rintro e w2 ⟨rfl, rfl⟩
  clear F
  go_wp2
  go_ret2
  exact ⟨rfl, rfl⟩
set_option maxHeartbeats 800000 in
set_option maxRecDepth 100000 in
theorem vway_1 (v : Value) (l : List Int) (w : World) (h : Bs .u64 w v l) (hl : l.length ≤ 65536) (hs : ¬ (l = [] ∨ ¬ allSame l)) :
    Calls Tryz.prog 46 #[v, .int .i64 1] w fun e w' => ∃ u, e = .returned (.tuple #[u, .int .i64 0]) ∧ w'.ownsRow w.heap.size 5 1 u (fixL (l.getD 0 0) 8).length ((fixL (l.getD 0 0) 8).map (Value.int .u8)) ∧ Only (fun _ => False) w w' := by
  have A := hideIt (vtag_yes 1 w (by omega) (by omega))
  have F := areSame_bs v l w h hl
  rw [show decide (¬ (l = [] ∨ ¬ allSame l)) = true from decide_eq_true hs] at F
  have F := hideIt F
  have hne : l ≠ [] := fun e => hs (.inl e)
  have hp : 0 < l.length := List.length_pos_iff.2 hne
  have e1 : fx8 (l.take 1) = fixL (l.getD 0 0) 8 := by
    cases l with
    | nil => exact absurd rfl hne
    | cons y t => simp [fx8]
  have hcap : ∃ ao cap, v = .slice ao l.length cap ∧ l.length ≤ cap := by obtain ⟨ao, cap, e, hc, _⟩ := h; exact ⟨ao, cap, e, hc⟩
  obtain ⟨ao, cap, rfl, hc⟩ := hcap
  have X := vfixed_any _ (l.take 1) w (h.head (n := 1) (by omega)) (by rw [List.length_take]; omega)
  rw [e1] at X
  have X := hideIt X
  have d1 : decide ((65536 : Int) < (l.length : Int)) = false := decide_eq_false (by omega)
  have d1' : decide (65536 < l.length) = false := decide_eq_false (by omega)
  have b1 : (1 : Int) ≤ (cap : Int) := by omega
  have b2 : 1 ≤ cap := by omega
  generalize fixL (l.getD 0 0) 8 = G at *
  generalize l.length = n at *
  clear h hl hs hne hp e1 hc
  go_enter Tryz.func46, Tryz.ntmps46
  go_wp2_with fail
  refine A.out.mono ?_
  rintro e w1 ⟨rfl, rfl⟩
  clear A
  go_wp2_with fail
  refine F.out.mono ?_
  rintro e w2 ⟨rfl, rfl⟩
  clear F
  go_wp2_with fail
  refine X.out.mono ?_
  rintro e w2 ⟨u, rfl, own2, o2⟩
  have R := hideIt (And.intro own2 o2)
  clear own2 o2 X
  go_wp2
  go_ret2
  exact ⟨u, rfl, R.out.1, R.out.2⟩
set_option maxHeartbeats 800000 in
set_option maxRecDepth 100000 in
theorem vway_2 (v : Value) (l : List Int) (w : World) (h : Bs .u64 w v l) (hu : U64 l) (hl : l.length ≤ 65536) :
    Calls Tryz.prog 46 #[v, .int .i64 2] w fun e w' => ∃ u, e = .returned (.tuple #[u, .int .i64 (ENC10 l).2]) ∧ w'.ownsRow w.heap.size 5 1 u (ENC10 l).1.length ((ENC10 l).1.map (Value.int .u8)) ∧ Only (fun _ => False) w w' := by
  have A := hideIt (vtag_yes 2 w (by omega) (by omega))
  have F := hideIt (encode10_all v l w h hu)
  obtain ⟨ao, cap, rfl⟩ := h.len
  have d1 : decide ((65536 : Int) < (l.length : Int)) = false := decide_eq_false (by omega)
  have d1' : decide (65536 < l.length) = false := decide_eq_false (by omega)
  generalize ENC10 l = E at *
  obtain ⟨E1, E2⟩ := E
  simp only at F ⊢
  clear h hl hu
  go_enter Tryz.func46, Tryz.ntmps46
  go_wp2_with fail
  refine A.out.mono ?_
  rintro e w1 ⟨rfl, rfl⟩
  clear A
  go_wp2_with fail
  refine F.out.mono ?_
  rintro e w2 ⟨u, rfl, own2, o2⟩
  have R := hideIt (And.intro own2 o2)
  clear own2 o2 F
  go_wp2
  go_ret2
  exact ⟨u, rfl, R.out.1, R.out.2⟩
set_option maxHeartbeats 800000 in
set_option maxRecDepth 100000 in
theorem vway_3 (v : Value) (l : List Int) (w : World) (h : Bs .u64 w v l) (hu : U64 l) (hl : l.length ≤ 65536) (hT : Tab w) :
    Calls Tryz.prog 46 #[v, .int .i64 3] w fun e w' => ∃ u, e = .returned (.tuple #[u, .int .i64 (ENC9 l).2]) ∧ w'.ownsRow w.heap.size 5 1 u (ENC9 l).1.length ((ENC9 l).1.map (Value.int .u8)) ∧ Only (fun _ => False) w w' := by
  have A := hideIt (vtag_yes 3 w (by omega) (by omega))
  have F := hideIt (encode9_all v l w h hu hT)
  obtain ⟨ao, cap, rfl⟩ := h.len
  have d1 : decide ((65536 : Int) < (l.length : Int)) = false := decide_eq_false (by omega)
  have d1' : decide (65536 < l.length) = false := decide_eq_false (by omega)
  generalize ENC9 l = E at *
  obtain ⟨E1, E2⟩ := E
  simp only at F ⊢
  clear h hl hu hT
  go_enter Tryz.func46, Tryz.ntmps46
  go_wp2_with fail
  refine A.out.mono ?_
  rintro e w1 ⟨rfl, rfl⟩
  clear A
  go_wp2_with fail
  refine F.out.mono ?_
  rintro e w2 ⟨u, rfl, own2, o2⟩
  have R := hideIt (And.intro own2 o2)
  clear own2 o2 F
  go_wp2
  go_ret2
  exact ⟨u, rfl, R.out.1, R.out.2⟩
/-- PATTERNS ONE WAY, whatever comes in. -/
theorem way11_any (v : Value) (l : List Int) (tag : Int) (w : World) (h : Bs .u64 w v l) (hu : U64 l) (hT : Tab w) :
    Calls Tryz.prog 46 #[v, .int .i64 tag] w fun e w' => ∃ u, e = .returned (.tuple #[u, .int .i64 (WAY11 l tag).2]) ∧ w'.ownsRow w.heap.size 5 1 u (WAY11 l tag).1.length ((WAY11 l tag).1.map (Value.int .u8)) ∧ Only (fun _ => False) w w' := by
  unfold WAY11
  by_cases ht : tag < 0 ∨ 3 < tag
  · rw [if_pos ht]
    refine (vway_arg v tag w ht).mono ?_
    rintro e w' ⟨rfl, rfl⟩
    exact ⟨_, rfl, World.ownsRow_nil _ _ _ _, Only.refl _ _⟩
  · rw [if_neg ht]
    by_cases hl : 65536 < l.length
    · rw [if_pos hl]
      refine (vway_long v l tag w h (by omega) (by omega) hl).mono ?_
      rintro e w' ⟨rfl, rfl⟩
      exact ⟨_, rfl, World.ownsRow_nil _ _ _ _, Only.refl _ _⟩
    · rw [if_neg hl]
      obtain ⟨t, rfl⟩ := Int.eq_ofNat_of_zero_le (show 0 ≤ tag by omega)
      rw [Int.toNat_natCast]
      rcases tag_cases (t := t) (by omega) with rfl | rfl | rfl | rfl
      · rw [W11_0]; exact vway_0 v l w h (by omega)
      · rw [W11_1]
        by_cases hs : l = [] ∨ ¬ allSame l
        · rw [if_pos hs]
          refine (vway_1no v l w h (by omega) hs).mono ?_
          rintro e w' ⟨rfl, rfl⟩
          exact ⟨_, rfl, World.ownsRow_nil _ _ _ _, Only.refl _ _⟩
        · rw [if_neg hs]; exact vway_1 v l w h (by omega) hs
      · rw [W11_2]; exact vway_2 v l w h hu (by omega)
      · rw [W11_3]; exact vway_3 v l w h hu (by omega) hT
theorem way11_nat (v : Value) (l : List Int) (t : Nat) (w : World) (h : Bs .u64 w v l) (hu : U64 l) (hT : Tab w) (hl : l.length ≤ 65536) (ht : t ≤ 3) :
    Calls Tryz.prog 46 #[v, .int .i64 t] w fun e w' => ∃ u, e = .returned (.tuple #[u, .int .i64 (W11 l t).2]) ∧ w'.ownsRow w.heap.size 5 1 u (W11 l t).1.length ((W11 l t).1.map (Value.int .u8)) ∧ Only (fun _ => False) w w' := by
  have := way11_any v l t w h hu hT
  rw [WAY11_nat hl t ht] at this
  exact this
end Go.Proofs.YthapipgaohlgdabGreatDoor

/- A range over a function whose iterator hands over slices of its own making: what holds between two rounds, and what is known of what is handed over. -/
namespace Go.Proofs.YthapipgaohlgdabGreatDoor
open Go.RowKit Go.Shelf

theorem Only.putObj {S : Nat → Prop} {a b : World} (h : Only S a b) (l : Nat) (o : Obj) (hl : l < a.heap.size → S l) : Only S a (b.putObj l o) :=
  h.grown (grownBy_putObj' b l o) (fun k hk e => by cases e; exact hl hk)
/-- a slice of numbers lies in no loop's record -/
theorem Bs.loop {k : IntKind} {A B : World} {v : Value} {xs : List Int} (h : Bs k A v xs) {l : Nat} {r : Loop} (hl : A.heap[l]? = some (.loop r)) (o : Only (fun j => j = l) A B) : Bs k B v xs := by
  obtain ⟨ao, cap, rfl, hc, hr⟩ := h
  refine ⟨ao, cap, rfl, hc, fun hx => ?_⟩
  obtain ⟨b, off, rfl, hcell⟩ := hr hx
  refine ⟨b, off, rfl, fun j hj => ?_⟩
  have h0 := hcell j hj
  rw [← h0]
  refine World.cell?_of_block (o.block b (World.block_lt_of_cell? A _ h0) ?_)
  intro e
  subst e
  obtain ⟨o', ho', hc'⟩ := cells_of_cell h0
  rw [hl] at ho'; cases ho'; cases hc'
theorem box_keep {A B : World} {b : Nat} {t : TypeId} {v : Value} (h : Boxed A b t v) {S : Nat → Prop} (o : Only S A B) (hs : ¬ S b) : Boxed B b t v := o.heap h hs
/-- how a round's body is left: off its end -/
def goesOn {σ : Type} (B : Nat) (I : σ → World → Prop) (s : σ) (W : World) : Exit → Act → World → Prop
  | .normal, _, W' => Only (fun k => k < B) W W' ∧ I s W'
  | _, _, _ => False

theorem range_over {σ α : Type} {P : Program} {n : Nat} {g : Operand} {ps : Array Tmp} {assign body : Code} {Q : Exit → Act → World → Prop} {a : Act} {w : World}
    {gf : Nat} {lb : Array Value} (hg : a.eval g = .func (.func gf) #[] lb) (eg : ∀ args w, (callFunc gf args).run P w = .ok (.enter gf args) w)
    (encs : α → Array Value) (hps : ∀ x, (encs x).size = ps.size) (I : σ → World → Prop) (V : σ → α → σ → World → Prop) (s0 s1 : σ)
    (hI : ∀ s A B r, I s A → A.heap[w.heap.size + 1]? = some (.loop r) → Only (fun k => k = w.heap.size + 1) A B → I s B)
    (hIn : ∀ s A B, I s A → Only (fun _ => False) A B → I s B)
    (hV : ∀ s x s' A B r, V s x s' A → A.heap[w.heap.size + 1]? = some (.loop r) → Only (fun k => k = w.heap.size + 1) A B → V s x s' B)
    (h0 : I s0 w)
    (hit : ∀ (J : σ → World → Prop) (W : World), (∀ s A, J s A → I s A) → (∀ s A B, J s A → Only (fun _ => False) A B → J s B) → (∀ s s' A, J s A → I s' A → J s' A) →
      (∀ s x s' A, J s A → V s x s' A → YieldAt Fence.wide (n - 1 - 1) P (w.heap.size + 1) (encs x) A fun e B => e = .returned (.bool true) ∧ J s' B) → J s0 W →
      CallsIn Fence.wide (n - 1) P gf (#[.func (.yield (w.heap.size + 1)) #[] #[]] ++ lb) W fun e B => (∃ v, e = .returned v) ∧ J s1 B)
    (a₁ : α → Act)
    (hassign : ∀ (x : α) (W : World) (K : Act → World → Prop), K (a₁ x) W →
      assign.wpIn (Fence.wide.inRound (w.heap.size + 1)) (n - 1 - 1) P (Exit.then K (fun _ _ _ => False)) { tmps := (ps.zip (encs x)).foldl (fun t (p, v) => t.setIfInBounds p v) a.tmps, defers := [] } W)
    (hbody : ∀ (s : σ) (x : α) (s' : σ) (W : World), I s W → V s x s' W → body.wpIn (Fence.wide.inRound (w.heap.size + 1)) (n - 1 - 1) P (goesOn w.heap.size I s' W) (a₁ x) W)
    (hdone : ∀ (W : World), I s1 W → W.heap[w.heap.size]? = some (.deferred (some [])) → Q .normal { a with defers := { target := .collected w.heap.size, args := #[] } :: a.defers } W) :
    (Code.rangeFunc g ps assign body).wpIn Fence.wide n P Q a w := by
  refine wpIn_rangeFunc fun fn hfn => ?_
  obtain ⟨rc, hrc⟩ : ∃ rc : LoopState → Option Code → Loop, rc = fun st pe => { state := st, pending := pe, fn, tmps := a.tmps, params := ps, assign, body, defers := w.heap.size } := ⟨_, rfl⟩
  obtain ⟨W1, hW1⟩ : ∃ W1, (w.alloc (.deferred (some []))).alloc (.loop (rc .ready none)) = W1 := ⟨_, rfl⟩
  have hL : W1.heap[w.heap.size + 1]? = some (.loop (rc .ready none)) := by
    have := World.alloc_heap_new (w.alloc (.deferred (some []))) (.loop (rc .ready none))
    rw [World.size_alloc, hW1] at this
    exact this
  have hD : W1.heap[w.heap.size]? = some (.deferred (some [])) := by
    rw [← hW1]
    exact (Below.heap_alloc _ _ _ (by simp)).trans (World.alloc_heap_new w _)
  have hO : Only (fun _ => False) w W1 := by
    rw [← hW1]
    exact ((Only.refl _ w).alloc _).alloc _
  refine ⟨w.heap.size + 1, [{ target := .collected w.heap.size, args := #[] }], W1, { target := .fn (.func gf) lb, args := #[.func (.yield (w.heap.size + 1)) #[] #[]] }, W1, gf, #[.func (.yield (w.heap.size + 1)) #[] #[]] ++ lb, W1, ?_, ?_, fun _ _ => trivial, ?_, (fun h => by cases h), ?_⟩
  · rw [← hW1, hrc]
    exact run_enterLoop_outer _ _ _ _ _
  · simp only [resolve, hg]
    simp [go_sem]
  · simp [invoke, go_sem, eg]
  refine (hit (fun s W => I s W ∧ W.heap[w.heap.size + 1]? = some (.loop (rc .ready none)) ∧ W.heap[w.heap.size]? = some (.deferred (some []))) W1 (fun _ _ h => h.1)
    (fun s A B h o => ⟨hIn s A B h.1 o, o.heap h.2.1 (fun f => f), o.heap h.2.2 (fun f => f)⟩) (fun _ _ _ h i => ⟨i, h.2⟩) ?_ ⟨hIn _ _ _ h0 hO, hL, hD⟩).mono ?_
  · rintro s x s' A ⟨hi, hl, hd⟩ hv
    have hlt : w.heap.size + 1 < A.heap.size := (Array.getElem?_eq_some_iff.1 hl).1
    have hy := run_yield (P := P) (args := encs x) hl (by rw [hrc]; exact hps x)
    rw [hrc] at hy
    refine ⟨fn, _, assign, body, hy, roundIn_of_wpIn hfn (hassign x A _ ⟨_, run_beginRound hl (by rw [hrc]), ?_⟩)⟩
    obtain ⟨A2, hA2⟩ : ∃ A2, A.putObj (w.heap.size + 1) (.loop { rc .ready none with state := .busy }) = A2 := ⟨_, rfl⟩
    have o2 : Only (fun k => k = w.heap.size + 1) A A2 := by rw [← hA2]; exact (Only.refl _ A).putObj _ _ (fun _ => rfl)
    have l2 : A2.heap[w.heap.size + 1]? = some (.loop { rc .ready none with state := .busy }) := by rw [← hA2]; exact World.putObj_heap_same hlt
    have d2 : A2.heap[w.heap.size]? = some (.deferred (some [])) := o2.heap hd (by omega)
    rw [hA2]
    refine wpIn_mono (hbody s x s' A2 (hI s A A2 _ hi hl o2) (hV s x s' A A2 _ hv hl o2)) ?_
    intro ex a3 A3 h
    cases ex
    case normal =>
      obtain ⟨o3, i3⟩ := h
      have l3 := o3.heap l2 (by omega)
      have d3 := o3.heap d2 (by omega)
      have hr := run_endRound (P := P) none l3
      have h4 : A3.putObj (w.heap.size + 1) (.loop (rc .ready none)) = A3.putObj (w.heap.size + 1) (.loop { rc .ready none with state := if (none : Option Code).isNone then .ready else .done, pending := none }) := by rw [hrc]; rfl
      have o4 : Only (fun k => k = w.heap.size + 1) A3 (A3.putObj (w.heap.size + 1) (.loop (rc .ready none))) := (Only.refl _ A3).putObj _ _ (fun _ => rfl)
      refine ⟨_, _, hr, rfl, ?_⟩
      have h5 : I s' (A3.putObj (w.heap.size + 1) (.loop (rc .ready none))) ∧ (A3.putObj (w.heap.size + 1) (.loop (rc .ready none))).heap[w.heap.size + 1]? = some (.loop (rc .ready none)) ∧ (A3.putObj (w.heap.size + 1) (.loop (rc .ready none))).heap[w.heap.size]? = some (.deferred (some [])) :=
        ⟨hI s' A3 _ _ i3 l3 o4, World.putObj_heap_same (Array.getElem?_eq_some_iff.1 l3).1, o4.heap d3 (by omega)⟩
      rw [h4] at h5
      exact h5
    all_goals exact h.elim
  · rintro e A ⟨⟨v, rfl⟩, hi, hl, hd⟩
    have hr := run_endLoop (P := P) hl (by rw [hrc]; simp)
    have hp : (rc .ready none).pending = none := by rw [hrc]
    refine ⟨none, _, by rw [hr, hp], hdone _ (hI _ _ _ _ hi hl ((Only.refl _ A).putObj _ _ (fun _ => rfl))) ?_⟩
    exact (World.putObj_heap_other (by omega)).trans hd
end Go.Proofs.YthapipgaohlgdabGreatDoor

/- Package valcodec: the ways, gone through by an iterator. -/
namespace Go.Proofs.YthapipgaohlgdabGreatDoor
open Go.RowKit Go.Shelf
attribute [local go_sem] Oper.semAt_some

set_option maxHeartbeats 1000000 in
theorem vways_in (n : Nat) (a : Option Addr) (len cap : Nat) (w : World) :
    CallsIn Fence.wide n Tryz.prog 20 #[.slice a len cap] w fun e w' => e = .returned (.func (.func 45) #[] #[.pointer (some ⟨w.heap.size, 0, none⟩)]) ∧ w' = w.alloc (.cells #[.slice a len cap] 39) := by
  refine callsIn_of_wp Tryz.func20 rfl trivial ?_ rfl
  simp only [Tryz.ntmps20, List.size_toArray, List.length_cons, List.length_nil, Nat.reduceAdd, Nat.reduceSub, Array.replicate_succ, Array.replicate_zero, List.push_toArray, List.append_toArray, List.nil_append, List.cons_append]
  gi_wp2
  go_ret
  exact ⟨rfl, rfl⟩

set_option maxRecDepth 100000 in
set_option maxHeartbeats 2000000 in
/-- THE ITERATOR: each way that the list has, the least tag first. -/
theorem vways1_in (n L Bv : Nat) (v : Value) (l : List Int) (hu : U64 l) (hl : l.length ≤ 65536) (J : Nat → World → Prop)
    (hJ : ∀ s A, J s A → Boxed A Bv 39 v ∧ Bs .u64 A v l ∧ Tab A)
    (hJo : ∀ s A B, J s A → Only (fun _ => False) A B → J s B)
    (hJs : ∀ s A, s ≤ 3 → J s A → (W11 l s).2 ≠ 0 → J (s + 1) A)
    (hY : ∀ (s : Nat) u A, s ≤ 3 → J s A → (W11 l s).2 = 0 → Bs .u8 A u (W11 l s).1 → NoCap u → YieldAt Fence.wide (n - 1) Tryz.prog L #[.int .i64 s, u] A fun e B => e = .returned (.bool true) ∧ J (s + 1) B)
    (W : World) (h0 : J 0 W) :
    CallsIn Fence.wide n Tryz.prog 45 #[.func (.yield L) #[] #[], .pointer (some ⟨Bv, 0, none⟩)] W fun e B => (∃ v, e = .returned v) ∧ J 4 B := by
  have HJ := hideIt hJ
  have HJo := hideIt hJo
  have HJs := hideIt hJs
  have HY := hideIt hY
  have H0 := hideIt h0
  clear hJ hJo hJs hY h0
  refine callsIn_of_wp Tryz.func45 rfl trivial ?_ rfl
  simp only [Tryz.ntmps45, List.size_toArray, List.length_cons, List.length_nil, Nat.reduceAdd, Nat.reduceSub, Array.replicate_succ, Array.replicate_zero, List.push_toArray, List.append_toArray, List.nil_append, List.cons_append]
  gi_wp2
  gi_loopw [6] (fun i wr => ∃ t : Nat, t ≤ 4 ∧ i = .int .i64 t ∧ Hid (J t wr)) (fun i _ => 4 - (intOf i).toNat)
  case atStart => exact ⟨0, by omega, rfl, H0⟩
  case round =>
    obtain ⟨t, ht, rfl, HT⟩ := hrel
    by_cases hlt : t < 4
    · have dlt : decide ((t : Int) < 4) = true := decide_eq_true (by omega)
      obtain ⟨hbx, hbs, htab⟩ := HJ.out t wr HT.out
      have hc := hbx.cell
      have A := hideIt (way11_nat v l t wr hbs hu htab hl (by omega))
      by_cases he : (W11 l t).2 = 0
      · have HE := hideIt he
        rw [he] at A
        clear hbx hbs htab he
        gi_wp2_with fail
        refine ⟨trivial, (fun h => by cases h), (callsIn_wide.2 A.out).mono ?_⟩
        rintro e w2 ⟨u, rfl, own2, o2⟩
        obtain ⟨fn, tmps, assign, body, hy, hR⟩ := HY.out t u w2 (by omega) (HJo.out _ _ _ HT.out o2) HE.out (Bs.of_own own2) (NoCap.of_own own2)
        have HR := hideIt hR
        clear own2 o2 A hR
        gi_wp2
        refine ⟨(fun h => by cases h), HR.out.mono ?_⟩
        rintro e w3 ⟨rfl, hJ3⟩
        have H3 := hideIt hJ3
        clear HR hJ3
        gi_wp2
        go_roundw
        case rel => exact ⟨t + 1, by omega, by go_num, H3⟩
        case measure => simp [intOf]; omega
      · have HE := hideIt he
        have de : ((W11 l t).2 == 0) = false := by simp [he]
        obtain ⟨c, hcc⟩ : ∃ c, c = (W11 l t).2 := ⟨_, rfl⟩
        rw [← hcc] at A de
        clear hbx hbs htab he hcc
        gi_wp2_with fail
        refine ⟨trivial, (fun h => by cases h), (callsIn_wide.2 A.out).mono ?_⟩
        rintro e w2 ⟨u, rfl, own2, o2⟩
        have H3 := hideIt (HJs.out t w2 (by omega) (HJo.out _ _ _ HT.out o2) HE.out)
        clear own2 o2 A
        gi_wp2
        refine ⟨fun _ h => (by cases h), ?_⟩
        gi_wp2
        go_roundw
        case rel => exact ⟨t + 1, by omega, by go_num, H3⟩
        case measure => simp [intOf]; omega
    · obtain rfl : t = 4 := by omega
      gi_wp2
      go_end0
      exact ⟨⟨_, rfl⟩, HT.out⟩
end Go.Proofs.YthapipgaohlgdabGreatDoor

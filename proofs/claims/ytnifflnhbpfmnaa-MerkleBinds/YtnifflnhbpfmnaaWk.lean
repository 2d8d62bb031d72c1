/- The walk: what its closure holds; and how many tops are told (proofLength). -/
import Derived.Test.YtnifflnhbpfmnaaMr
import Derived.Deep.RegionHeld3
namespace Go.Proofs.Ytnifflnhbpfmnaa
open Go.RowKit

/-- what the walk's closure has captured -/
structure WK (w : World) (b0 b1 b2 b3 b4 b5 i j : Nat) (fa fb fc fp : Value) : Prop where
  c0 : w.cell? ⟨b0, 0, none⟩ = some (.int .i64 i)
  c1 : w.cell? ⟨b1, 0, none⟩ = some (.int .i64 j)
  c2 : w.cell? ⟨b2, 0, none⟩ = some fa
  c3 : w.cell? ⟨b3, 0, none⟩ = some fb
  c4 : w.cell? ⟨b4, 0, none⟩ = some fc
  c5 : w.cell? ⟨b5, 0, none⟩ = some fp
theorem WK.past {w w' : World} {b0 b1 b2 b3 b4 b5 i j : Nat} {fa fb fc fp : Value} (h : WK w b0 b1 b2 b3 b4 b5 i j fa fb fc fp) (o : Only (fun _ => False) w w') : WK w' b0 b1 b2 b3 b4 b5 i j fa fb fc fp :=
  ⟨cell_past h.c0 o, cell_past h.c1 o, cell_past h.c2 o, cell_past h.c3 o, cell_past h.c4 o, cell_past h.c5 o⟩
theorem MNY_size : ∀ (f lo hi i j : Nat), lo < hi → MNY f lo hi i j ≤ hi - lo
  | 0, _, _, _, _, _ => Nat.zero_le _
  | f + 1, lo, hi, i, j, h => by
    unfold MNY
    split
    · omega
    · split
      · omega
      · have h3 : 2 ≤ hi - lo := part_two h (by assumption) (by assumption)
        have a := HALF_lt h3
        have b := HALF_pos (hi - lo)
        have := MNY_size f lo (lo + HALF (hi - lo)) i j (by omega)
        have := MNY_size f (lo + HALF (hi - lo)) hi i j (by omega)
        omega

set_option maxHeartbeats 400000 in
set_option maxRecDepth 100000 in
theorem pl1 (x y : Int) (w : World) : Calls Try.prog 54 #[.int .i64 x, .int .i64 y] w fun e w' => e = .returned (.int .i64 0) ∧ w = w' := by
  go_enter Try.func54, Try.ntmps54
  go_wp2
  go_ret
  exact ⟨rfl, rfl⟩
set_option maxHeartbeats 400000 in
set_option maxRecDepth 100000 in
theorem pl2 (x y : Int) (w : World) : Calls Try.prog 55 #[.int .i64 x, .int .i64 y] w fun e w' => e = .returned (.int .i64 1) ∧ w = w' := by
  go_enter Try.func55, Try.ntmps55
  go_wp2
  go_ret
  exact ⟨rfl, rfl⟩
set_option maxHeartbeats 400000 in
set_option maxRecDepth 100000 in
theorem pl3 (x y : Nat) (w : World) (hx : x ≤ 1000000000) (hy : y ≤ 1000000000) : Calls Try.prog 56 #[.int .i64 x, .int .i64 y] w fun e w' => e = .returned (.int .i64 ((x + y : Nat) : Int)) ∧ w = w' := by
  go_enter Try.func56, Try.ntmps56
  go_wp2
  go_ret
  exact ⟨ret_int (by omega), rfl⟩

set_option maxHeartbeats 1600000 in
set_option maxRecDepth 100000 in
theorem plp (b0 b1 b2 b3 b4 b5 i j : Nat) (hij : i ≤ j) : ∀ (k lo hi : Nat) (w : World), lo < hi → hi - lo ≤ k → hi ≤ 1000000000 →
    WK w b0 b1 b2 b3 b4 b5 i j (.func (.func 54) #[] #[]) (.func (.func 55) #[] #[]) (.func (.func 56) #[] #[]) (.func (.func 66) #[] #[.pointer (some ⟨b0, 0, none⟩), .pointer (some ⟨b1, 0, none⟩), .pointer (some ⟨b2, 0, none⟩), .pointer (some ⟨b3, 0, none⟩), .pointer (some ⟨b4, 0, none⟩), .pointer (some ⟨b5, 0, none⟩)]) →
    Calls Try.prog 66 #[.int .i64 lo, .int .i64 hi, .pointer (some ⟨b0, 0, none⟩), .pointer (some ⟨b1, 0, none⟩), .pointer (some ⟨b2, 0, none⟩), .pointer (some ⟨b3, 0, none⟩), .pointer (some ⟨b4, 0, none⟩), .pointer (some ⟨b5, 0, none⟩)] w
      fun e w' => e = .returned (.int .i64 ((MNY (k + 1) lo hi i j : Nat) : Int)) ∧ Only (fun _ => False) w w' := by
  intro k
  induction k with
  | zero => intro lo hi w h1 h2; omega
  | succ k ih =>
    intro lo hi w hlt hk hh hw
    have HW := hideIt hw
    obtain ⟨c0, c1, c2, c3, c4, c5⟩ := hw
    obtain ⟨x, hx⟩ : ∃ x, x = hi - 1 := ⟨_, rfl⟩
    have ex : (hi : Int) - 1 = (x : Int) := by omega
    by_cases hA : i ≤ lo ∧ hi ≤ j + 1
    · skip
      have e : MNY (k + 1 + 1) lo hi i j = 0 := by rw [MNY, if_pos hA]
      rw [e]
      have A := hideIt (pl1 lo hi w)
      have d1 : decide (i ≤ lo) = true := decide_eq_true (by omega)
      have d1' : decide ((i : Int) ≤ (lo : Int)) = true := decide_eq_true (by omega)
      have d2 : decide (x ≤ j) = true := decide_eq_true (by omega)
      have d2' : decide ((x : Int) ≤ (j : Int)) = true := decide_eq_true (by omega)
      have hxb : (x : Int) ≤ 1000000000 := by omega
      have hlb : (lo : Int) ≤ 1000000000 := by omega
      have hhb : (hi : Int) ≤ 1000000000 := by omega
      clear ih hlt hk hh hx hA HW e hij
      go_enter Try.func66, Try.ntmps66
      go_wp2_with fail
      refine A.out.mono ?_
      rintro e w1 ⟨rfl, rfl⟩
      go_wp2
      go_ret
      exact ⟨rfl, Only.refl _ _⟩
    · by_cases hB : j < lo ∨ hi ≤ i
      · by_cases hB1 : hi ≤ i
        · skip
          have e : MNY (k + 1 + 1) lo hi i j = 1 := by rw [MNY, if_neg hA, if_pos hB]
          rw [e]
          have A := hideIt (pl2 lo hi w)
          have d1 : decide (i ≤ lo) = false := decide_eq_false (by omega)
          have d1' : decide ((i : Int) ≤ (lo : Int)) = false := decide_eq_false (by omega)
          have d3 : decide (x < i) = true := decide_eq_true (by omega)
          have d3' : decide ((x : Int) < (i : Int)) = true := decide_eq_true (by omega)
          have hxb : (x : Int) ≤ 1000000000 := by omega
          have hlb : (lo : Int) ≤ 1000000000 := by omega
          have hhb : (hi : Int) ≤ 1000000000 := by omega
          clear ih hlt hk hh hx hA HW e hij hB hB1
          go_enter Try.func66, Try.ntmps66
          go_wp2_with fail
          refine A.out.mono ?_
          rintro e w1 ⟨rfl, rfl⟩
          go_wp2
          go_ret
          exact ⟨rfl, Only.refl _ _⟩
        · skip
          have e : MNY (k + 1 + 1) lo hi i j = 1 := by rw [MNY, if_neg hA, if_pos hB]
          rw [e]
          have A := hideIt (pl2 lo hi w)
          have d1 : decide (i ≤ lo) = true := decide_eq_true (by omega)
          have d1' : decide ((i : Int) ≤ (lo : Int)) = true := decide_eq_true (by omega)
          have d2 : decide (x ≤ j) = false := decide_eq_false (by omega)
          have d2' : decide ((x : Int) ≤ (j : Int)) = false := decide_eq_false (by omega)
          have d3 : decide (x < i) = false := decide_eq_false (by omega)
          have d3' : decide ((x : Int) < (i : Int)) = false := decide_eq_false (by omega)
          have d4 : decide (j < lo) = true := decide_eq_true (by omega)
          have d4' : decide ((j : Int) < (lo : Int)) = true := decide_eq_true (by omega)
          have hxb : (x : Int) ≤ 1000000000 := by omega
          have hlb : (lo : Int) ≤ 1000000000 := by omega
          have hhb : (hi : Int) ≤ 1000000000 := by omega
          clear ih hlt hk hh hx hA HW e hij hB hB1
          go_enter Try.func66, Try.ntmps66
          go_wp2_with fail
          refine A.out.mono ?_
          rintro e w1 ⟨rfl, rfl⟩
          go_wp2
          go_ret
          exact ⟨rfl, Only.refl _ _⟩
      · have h3 := part_two hlt hA hB
        by_cases hC : i ≤ lo
        · skip
          obtain ⟨n, hn⟩ : ∃ n, n = hi - lo := ⟨_, rfl⟩
          obtain ⟨q, hq⟩ : ∃ q, q = HALF n := ⟨_, rfl⟩
          have q1 := HALF_pos n
          have q2 := HALF_lt (n := n) (by omega)
          rw [← hq] at q1 q2
          obtain ⟨m, hm⟩ : ∃ m, m = lo + q := ⟨_, rfl⟩
          have es : (hi : Int) - (lo : Int) = (n : Int) := by omega
          have em : (lo : Int) + (q : Int) = (m : Int) := by omega
          have AL := hideIt (fun (W : World) => left_any n (by omega) (by omega) W)
          rw [← hq] at AL
          have e : MNY (k + 1 + 1) lo hi i j = MNY (k + 1) lo m i j + MNY (k + 1) m hi i j := by rw [MNY, if_neg hA, if_neg hB, hm, hq, hn]
          rw [e]
          have s1 := MNY_size (k + 1) lo m i j (by omega)
          have s2 := MNY_size (k + 1) m hi i j (by omega)
          have T1 := hideIt (fun (W : World) (o : Only (fun _ => False) w W) => ih lo m W (by omega) (by omega) (by omega) (HW.out.past o))
          have T2 := hideIt (fun (W : World) (o : Only (fun _ => False) w W) => ih m hi W (by omega) (by omega) (by omega) (HW.out.past o))
          obtain ⟨y, hy⟩ : ∃ y, y = MNY (k + 1) lo m i j := ⟨_, rfl⟩
          obtain ⟨z, hz⟩ : ∃ z, z = MNY (k + 1) m hi i j := ⟨_, rfl⟩
          rw [← hy] at T1 s1 ⊢
          rw [← hz] at T2 s2 ⊢
          have T3 := hideIt (fun (W : World) => pl3 y z W (by omega) (by omega))
          have hqb : (q : Int) ≤ 1000000000 := by omega
          have hmb : (m : Int) ≤ 1000000000 := by omega
          have hnb : (n : Int) ≤ 1000000000 := by omega
          have d1 : decide (i ≤ lo) = true := decide_eq_true (by omega)
          have d1' : decide ((i : Int) ≤ (lo : Int)) = true := decide_eq_true (by omega)
          have d2 : decide (x ≤ j) = false := decide_eq_false (by omega)
          have d2' : decide ((x : Int) ≤ (j : Int)) = false := decide_eq_false (by omega)
          have d3 : decide (x < i) = false := decide_eq_false (by omega)
          have d3' : decide ((x : Int) < (i : Int)) = false := decide_eq_false (by omega)
          have d4 : decide (j < lo) = false := decide_eq_false (by omega)
          have d4' : decide ((j : Int) < (lo : Int)) = false := decide_eq_false (by omega)
          have hxb : (x : Int) ≤ 1000000000 := by omega
          have hlb : (lo : Int) ≤ 1000000000 := by omega
          have hhb : (hi : Int) ≤ 1000000000 := by omega
          clear ih hlt hk hh hx hA HW e hij hB hC h3 hn hq hm hy hz s1 s2 q1 q2
          go_enter Try.func66, Try.ntmps66
          go_wp2_with fail
          refine (AL.out _).mono ?_
          rintro e w1 ⟨rfl, rfl⟩
          clear AL
          go_wp2_with fail
          go_region_held3 (fun W => W.cell? ⟨b4, 0, none⟩ = some (.func (.func 56) #[] #[]) ∧ W.cell? ⟨b5, 0, none⟩ = some (.func (.func 66) #[] #[.pointer (some ⟨b0, 0, none⟩), .pointer (some ⟨b1, 0, none⟩), .pointer (some ⟨b2, 0, none⟩), .pointer (some ⟨b3, 0, none⟩), .pointer (some ⟨b4, 0, none⟩), .pointer (some ⟨b5, 0, none⟩)])) (go_keep) (first | (go_at_call 66; refine (T1.out _ ((Only.refl _ _).drew)).mono ?_; rintro e w1 ⟨rfl, o1⟩; have O1 := hideIt (((Only.refl (fun _ => False) w).drew).same o1); have k4 := cell_past c4 O1.out; have k5 := cell_past c5 O1.out; clear o1 T1) | (go_at_call 66; refine (T2.out _ O1.out).mono ?_; rintro e w2 ⟨rfl, o2⟩; have O2 := hideIt (O1.out.same o2); have k4' := cell_past c4 O2.out; have k5' := cell_past c5 O2.out; clear o2 T2) | (go_at_call 56; refine (T3.out _).mono ?_; rintro e w3 ⟨rfl, rfl⟩; clear T3))
          go_wp2
          go_ret
          exact ⟨rfl, O2.out⟩
        · skip
          obtain ⟨n, hn⟩ : ∃ n, n = hi - lo := ⟨_, rfl⟩
          obtain ⟨q, hq⟩ : ∃ q, q = HALF n := ⟨_, rfl⟩
          have q1 := HALF_pos n
          have q2 := HALF_lt (n := n) (by omega)
          rw [← hq] at q1 q2
          obtain ⟨m, hm⟩ : ∃ m, m = lo + q := ⟨_, rfl⟩
          have es : (hi : Int) - (lo : Int) = (n : Int) := by omega
          have em : (lo : Int) + (q : Int) = (m : Int) := by omega
          have AL := hideIt (fun (W : World) => left_any n (by omega) (by omega) W)
          rw [← hq] at AL
          have e : MNY (k + 1 + 1) lo hi i j = MNY (k + 1) lo m i j + MNY (k + 1) m hi i j := by rw [MNY, if_neg hA, if_neg hB, hm, hq, hn]
          rw [e]
          have s1 := MNY_size (k + 1) lo m i j (by omega)
          have s2 := MNY_size (k + 1) m hi i j (by omega)
          have T1 := hideIt (fun (W : World) (o : Only (fun _ => False) w W) => ih lo m W (by omega) (by omega) (by omega) (HW.out.past o))
          have T2 := hideIt (fun (W : World) (o : Only (fun _ => False) w W) => ih m hi W (by omega) (by omega) (by omega) (HW.out.past o))
          obtain ⟨y, hy⟩ : ∃ y, y = MNY (k + 1) lo m i j := ⟨_, rfl⟩
          obtain ⟨z, hz⟩ : ∃ z, z = MNY (k + 1) m hi i j := ⟨_, rfl⟩
          rw [← hy] at T1 s1 ⊢
          rw [← hz] at T2 s2 ⊢
          have T3 := hideIt (fun (W : World) => pl3 y z W (by omega) (by omega))
          have hqb : (q : Int) ≤ 1000000000 := by omega
          have hmb : (m : Int) ≤ 1000000000 := by omega
          have hnb : (n : Int) ≤ 1000000000 := by omega
          have d1 : decide (i ≤ lo) = false := decide_eq_false (by omega)
          have d1' : decide ((i : Int) ≤ (lo : Int)) = false := decide_eq_false (by omega)
          have d3 : decide (x < i) = false := decide_eq_false (by omega)
          have d3' : decide ((x : Int) < (i : Int)) = false := decide_eq_false (by omega)
          have d4 : decide (j < lo) = false := decide_eq_false (by omega)
          have d4' : decide ((j : Int) < (lo : Int)) = false := decide_eq_false (by omega)
          have hxb : (x : Int) ≤ 1000000000 := by omega
          have hlb : (lo : Int) ≤ 1000000000 := by omega
          have hhb : (hi : Int) ≤ 1000000000 := by omega
          clear ih hlt hk hh hx hA HW e hij hB hC h3 hn hq hm hy hz s1 s2 q1 q2
          go_enter Try.func66, Try.ntmps66
          go_wp2_with fail
          refine (AL.out _).mono ?_
          rintro e w1 ⟨rfl, rfl⟩
          clear AL
          go_wp2_with fail
          go_region_held3 (fun W => W.cell? ⟨b4, 0, none⟩ = some (.func (.func 56) #[] #[]) ∧ W.cell? ⟨b5, 0, none⟩ = some (.func (.func 66) #[] #[.pointer (some ⟨b0, 0, none⟩), .pointer (some ⟨b1, 0, none⟩), .pointer (some ⟨b2, 0, none⟩), .pointer (some ⟨b3, 0, none⟩), .pointer (some ⟨b4, 0, none⟩), .pointer (some ⟨b5, 0, none⟩)])) (go_keep) (first | (go_at_call 66; refine (T1.out _ ((Only.refl _ _).drew)).mono ?_; rintro e w1 ⟨rfl, o1⟩; have O1 := hideIt (((Only.refl (fun _ => False) w).drew).same o1); have k4 := cell_past c4 O1.out; have k5 := cell_past c5 O1.out; clear o1 T1) | (go_at_call 66; refine (T2.out _ O1.out).mono ?_; rintro e w2 ⟨rfl, o2⟩; have O2 := hideIt (O1.out.same o2); have k4' := cell_past c4 O2.out; have k5' := cell_past c5 O2.out; clear o2 T2) | (go_at_call 56; refine (T3.out _).mono ?_; rintro e w3 ⟨rfl, rfl⟩; clear T3))
          go_wp2
          go_ret
          exact ⟨rfl, O2.out⟩
end Go.Proofs.Ytnifflnhbpfmnaa

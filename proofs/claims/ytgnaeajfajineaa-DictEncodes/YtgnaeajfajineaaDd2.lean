/- Package dict: Decode. -/
import Derived.Test.YtgnaeajfajineaaDd
import Derived.Test.YtgnaeajfajineaaRm
namespace Go.Proofs.Ytgnaeajfajineaa
open Go.RowKit Go.Maps

theorem rd10_all {w : World} {R : Nat} {v : Value} {ys : List Int} (h : CurAt 79 w R v ys) (hv : ∀ k, v.ownBlock = some k → k < w.heap.size) (n : Nat) (hn : n ≤ 65536) :
    Calls Try.prog 27 #[.pointer (some ⟨R, 0, none⟩), .int .i64 n] w fun e w' => ∃ u, e = .returned (.tuple #[u, .int .i64 (RD10 ys n).2]) ∧ w'.ownsRow w.heap.size 35 1 u (RD10 ys n).1.length ((RD10 ys n).1.map (Value.int .u64)) ∧ Only (fun k => k = R) w w' := by
  rcases sVarint_cases h.rng with ⟨c, hs, hc⟩ | ⟨a, k, hs, _, _, ha, _⟩
  · have e : RD10 ys n = ([], c) := by unfold RD10; rw [hs]; exact if_pos (show c ≠ 0 by omega)
    rw [e]
    have RD := hideIt (rdict_err h n hs (by omega))
    have dc : (c != 0) = true := by simp; omega
    clear h hv hs hc e
    go_enter Try.func27, Try.ntmps27
    go_wp2_with fail
    refine RD.out.mono ?_
    rintro e w1 ⟨rfl, o1⟩
    have O1 := hideIt o1
    clear o1 RD
    go_wp2
    go_ret2
    exact ⟨_, rfl, World.ownsRow_nil _ _ _ _, O1.out⟩
  · by_cases hb : n < a
    · have e : RD10 ys n = ([], 3) := by unfold RD10; rw [hs]; simp only [ne_eq, not_true_eq_false, if_false]; exact if_pos (by omega)
      rw [e]
      have RD := hideIt (rdict_many h n hs hn hb)
      clear h hv hs e hb
      go_enter Try.func27, Try.ntmps27
      go_wp2_with fail
      refine RD.out.mono ?_
      rintro e w1 ⟨rfl, o1⟩
      have O1 := hideIt o1
      clear o1 RD
      go_wp2
      go_ret2
      exact ⟨_, rfl, World.ownsRow_nil _ _ _ _, O1.out⟩
    · have e : RD10 ys n = RB a n (ys.drop k) := by unfold RD10; rw [hs]; simp only [ne_eq, not_true_eq_false, if_false, Int.toNat_natCast]; exact if_neg (by omega)
      rw [e]
      exact read10_bs h hv n hs hn (by omega) _ rfl
set_option maxHeartbeats 400000 in
theorem decode10_arg (v : Value) (n : Int) (w : World) (h : n < 0 ∨ 65536 < n) :
    Calls Try.prog 12 #[v, .int .i64 n] w fun e w' => e = .returned (.tuple #[.slice none 0 0, .int .i64 1]) ∧ w = w' := by
  by_cases h0 : n < 0
  · have d0 : decide (n < 0) = true := decide_eq_true h0
    clear h
    go_enter Try.func12, Try.ntmps12
    go_wp2
    go_ret2
    exact ⟨rfl, rfl⟩
  · have d0 : decide (n < 0) = false := decide_eq_false h0
    have d1 : decide (65536 < n) = true := decide_eq_true (by omega)
    clear h
    go_enter Try.func12, Try.ntmps12
    go_wp2
    go_ret2
    exact ⟨rfl, rfl⟩
set_option maxHeartbeats 1000000 in
theorem decode10_bs (v : Value) (ys : List Int) (N : Nat) (w : World) (h : Bs .u8 w v ys) (hr : ∀ y ∈ ys, 0 ≤ y ∧ y ≤ 255) (hl : ys.length ≤ 1000000000) (hN : N ≤ 65536) :
    Calls Try.prog 12 #[v, .int .i64 N] w fun e w' => ∃ u, e = .returned (.tuple #[u, .int .i64 (DEC10 ys N).2]) ∧ w'.ownsRow w.heap.size 35 1 u (DEC10 ys N).1.length ((DEC10 ys N).1.map (Value.int .u64)) ∧ Only (fun _ => False) w w' := by
  obtain ⟨D, hD⟩ : ∃ D, D = DEC10 ys N := ⟨_, rfl⟩
  rw [← hD]
  rw [DEC10_RD ys N hN] at hD
  have d0 : decide ((N : Int) < 0) = false := by simp
  have d1 : decide (65536 < (N : Int)) = false := by simp; omega
  have HD := hideIt hD
  have HB := hideIt h
  have HR := hideIt hr
  have HU := hideIt (RD10_u64 (n := N) hr)
  have NR := hideIt (new_bs v ys w h hr (by omega))
  clear h hr hD
  go_enter Try.func12, Try.ntmps12
  go_wp2_with fail
  refine NR.out.mono ?_
  rintro e w1 ⟨R, v1, rfl, r1, o1, g1, g2, g3⟩
  have RA := hideIt (rd10_all r1 (fun k hk => (g3 k hk).2) N hN)
  have O1 := hideIt o1
  have S1 := o1.size
  clear NR r1 o1 g3
  go_wp2_with fail
  refine RA.out.mono ?_
  rintro e w2 ⟨u, rfl, own2, o2⟩
  have B2 := hideIt ((O1.out.low (Nat.le_refl _)).trans (o2.below (B := w.heap.size) S1 (fun k e => by omega)))
  have OW2 := hideIt (own_low own2 S1)
  clear RA o2 O1 own2
  by_cases hb : (RD10 ys N).2 ≠ 0
  · have HD2 : Hid (D = ([], (RD10 ys N).2)) := by simp only [Hid]; rw [HD.out, if_pos hb]
    have dc : ((RD10 ys N).2 != 0) = true := by simpa using hb
    obtain ⟨c, hc⟩ : ∃ c, c = (RD10 ys N).2 := ⟨_, rfl⟩
    rw [← hc] at HD2 dc ⊢
    clear HD hb hc
    go_wp2
    go_ret2
    have hD := HD2.out
    subst hD
    exact ⟨_, rfl, World.ownsRow_nil _ _ _ _, only_of_below B2.out⟩
  · have hz : (RD10 ys N).2 = 0 := by simpa using hb
    rw [hz]
    obtain ⟨L, hL⟩ : ∃ L, L = (RD10 ys N).1 := ⟨_, rfl⟩
    have HD2 : Hid (D = if (ENC10 L).1 = ys then (L, 0) else ([], 3)) := by simp only [Hid]; rw [HD.out, if_neg hb, ← hL]
    rw [← hL] at OW2 HU
    have EN := hideIt (encode10_all u L w2 (Bs.of_own OW2.out) HU.out)
    clear HD hb hz hL
    obtain ⟨a6, c6, e6⟩ := (Bs.of_own OW2.out).len
    subst e6
    obtain ⟨m, hm⟩ : ∃ m, m = L.length := ⟨_, rfl⟩
    rw [← hm] at EN ⊢
    have HM := hideIt hm
    clear hm
    go_wp2_with fail
    refine EN.out.mono ?_
    rintro e w3 ⟨v3, rfl, own3, o3⟩
    have EQ := hideIt (equal_bs v3 v (ENC10 L).1 ys w3 (Bs.of_own own3) ((HB.out.later B2.out).past o3) (ENC10_rng L) HR.out)
    have O3 := hideIt ((only_of_below B2.out).same o3)
    have OW3 := hideIt (o3.own OW2.out (fun _ _ f => f))
    obtain ⟨a7, c7, e7⟩ := (Bs.of_own own3).len
    subst e7
    clear EN own3 o3 OW2
    generalize (ENC10 L).2 = EC at *
    generalize (ENC10 L).1 = E at *
    by_cases he : E = ys
    · rw [decide_eq_true he] at EQ
      have hD := HD2.out
      rw [if_pos he] at hD
      clear HD2 he
      have HD3 := hideIt hD
      clear hD
      obtain ⟨m2, hm2⟩ : ∃ m2, m2 = E.length := ⟨_, rfl⟩
      rw [← hm2] at EQ ⊢
      clear hm2
      go_wp2_with fail
      refine EQ.out.mono ?_
      rintro e w4 ⟨rfl, rfl⟩
      clear EQ
      go_wp2
      go_ret2
      have hD := HD3.out
      subst hD
      exact ⟨_, rfl, by have := OW3.out; rw [HM.out]; exact this, O3.out⟩
    · rw [decide_eq_false he] at EQ
      have hD := HD2.out
      rw [if_neg he] at hD
      clear HD2 he
      have HD3 := hideIt hD
      clear hD
      obtain ⟨m2, hm2⟩ : ∃ m2, m2 = E.length := ⟨_, rfl⟩
      rw [← hm2] at EQ ⊢
      clear hm2
      go_wp2_with fail
      refine EQ.out.mono ?_
      rintro e w4 ⟨rfl, rfl⟩
      clear EQ
      go_wp2
      go_ret2
      have hD := HD3.out
      subst hD
      exact ⟨_, rfl, World.ownsRow_nil _ _ _ _, O3.out⟩
theorem decode10_all (v : Value) (ys : List Int) (n : Int) (w : World) (h : Bs .u8 w v ys) (hr : ∀ y ∈ ys, 0 ≤ y ∧ y ≤ 255) (hl : ys.length ≤ 1000000000) :
    Calls Try.prog 12 #[v, .int .i64 n] w fun e w' => ∃ u, e = .returned (.tuple #[u, .int .i64 (DEC10 ys n).2]) ∧ w'.ownsRow w.heap.size 35 1 u (DEC10 ys n).1.length ((DEC10 ys n).1.map (Value.int .u64)) ∧ Only (fun _ => False) w w' := by
  by_cases hn : n < 0 ∨ 65536 < n
  · have e : DEC10 ys n = ([], 1) := if_pos hn
    rw [e]
    refine (decode10_arg v n w hn).mono ?_
    rintro e w' ⟨rfl, rfl⟩
    exact ⟨_, rfl, World.ownsRow_nil _ _ _ _, Only.refl _ _⟩
  · obtain ⟨N, rfl⟩ := Int.eq_ofNat_of_zero_le (show 0 ≤ n by omega)
    exact decode10_bs v ys N w h hr hl (by omega)
end Go.Proofs.Ytgnaeajfajineaa

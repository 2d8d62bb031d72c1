/- Package gorilla's Decode. -/
import Derived.Test.YthpcibofcgjcdaaDoorGd2
import Derived.Test.YthpcibofcgjcdaaDoorEq
namespace Go.Proofs.YthpcibofcgjcdaaDoor
open Go.RowKit

theorem readAll_all {w : World} {R : Nat} {v : Value} {ys : List Int} (h : RdAt 72 w R v ys 0) (hv : ∀ k, v.ownBlock = some k → k < w.heap.size) (N : Nat) (hN2 : N ≤ 65536) :
    Calls Tryd.prog 24 #[.pointer (some ⟨R, 0, none⟩), .int .i64 N] w fun e w' => ∃ u, e = .returned (.tuple #[u, .int .i64 (gRd (allBits ys) N).2]) ∧
      w'.ownsRow w.heap.size 35 1 u (gRd (allBits ys) N).1.length ((gRd (allBits ys) N).1.map (Value.int .u64)) ∧ Only (fun k => k = R) w w' := by
  by_cases h0 : N = 0
  · subst h0
    have e : gRd (allBits ys) 0 = ([], 0) := by unfold gRd; rw [if_pos rfl]
    rw [e]
    refine (readAll_nil R).mono ?_
    rintro e w' ⟨rfl, rfl⟩
    exact ⟨_, rfl, World.ownsRow_nil _ _ _ _, Only.refl _ _⟩
  · by_cases hs : (allBits ys).length < 64
    · have e : gRd (allBits ys) N = ([], 2) := by unfold gRd; rw [if_neg h0, if_pos hs]
      rw [e]
      refine (readAll_cut h N (by omega) hs).mono ?_
      rintro e w' ⟨rfl, o⟩
      exact ⟨_, rfl, World.ownsRow_nil _ _ _ _, o⟩
    · exact readAll_any h hv N (by omega) hN2 (by omega)
set_option maxHeartbeats 400000 in
theorem decode9_arg (v : Value) (n : Int) (w : World) (h : n < 0 ∨ 65536 < n) :
    Calls Tryd.prog 13 #[v, .int .i64 n] w fun e w' => e = .returned (.tuple #[.slice none 0 0, .int .i64 1]) ∧ w = w' := by
  by_cases h0 : n < 0
  · have d0 : decide (n < 0) = true := decide_eq_true h0
    clear h
    go_enter Tryd.func13, Tryd.ntmps13
    go_wp2
    go_ret2
    exact ⟨rfl, rfl⟩
  · have d0 : decide (n < 0) = false := decide_eq_false h0
    have d1 : decide (65536 < n) = true := decide_eq_true (by omega)
    clear h
    go_enter Tryd.func13, Tryd.ntmps13
    go_wp2
    go_ret2
    exact ⟨rfl, rfl⟩
set_option maxHeartbeats 1000000 in
theorem decode9_bs (v : Value) (ys : List Int) (N : Nat) (w : World) (h : Bs .u8 w v ys) (hr : ∀ y ∈ ys, 0 ≤ y ∧ y ≤ 255) (hl : ys.length ≤ 1000000000) (hN : N ≤ 65536) (hT : Tab w) :
    Calls Tryd.prog 13 #[v, .int .i64 N] w fun e w' => ∃ u, e = .returned (.tuple #[u, .int .i64 (DEC9 ys N).2]) ∧ w'.ownsRow w.heap.size 35 1 u (DEC9 ys N).1.length ((DEC9 ys N).1.map (Value.int .u64)) ∧ Only (fun _ => False) w w' := by
  obtain ⟨D, hD⟩ : ∃ D, D = DEC9 ys N := ⟨_, rfl⟩
  rw [← hD]
  unfold DEC9 at hD
  rw [if_neg (by omega), Int.toNat_natCast] at hD
  have d0 : decide ((N : Int) < 0) = false := by simp
  have d1 : decide (65536 < (N : Int)) = false := by simp; omega
  have HD := hideIt hD
  have HB := hideIt h
  have HR := hideIt hr
  have NR := hideIt (newReader_bs v ys w h hr (by omega))
  clear h hr hD
  go_enter Tryd.func13, Tryd.ntmps13
  go_wp2_with fail
  refine NR.out.mono ?_
  rintro e w1 ⟨R, v1, rfl, r1, o1, g1, g2, g3⟩
  have RA := hideIt (readAll_all r1 (fun k hk => (g3 k hk).2) N hN)
  have O1 := hideIt o1
  have S1 := o1.size
  clear NR r1 o1 g3
  go_wp2_with fail
  refine RA.out.mono ?_
  rintro e w2 ⟨u, rfl, own2, o2⟩
  have B2 := hideIt ((O1.out.low (Nat.le_refl _)).trans (o2.below (B := w.heap.size) S1 (fun k e => by omega)))
  have OW2 := hideIt (own_low own2 S1)
  clear RA o2 O1
  by_cases hb : (gRd (allBits ys) N).2 ≠ 0
  · have HD2 : Hid (D = ([], (gRd (allBits ys) N).2)) := by simp only [Hid]; rw [HD.out, if_pos hb]
    have dc : ((gRd (allBits ys) N).2 != 0) = true := by simpa using hb
    obtain ⟨c, hc⟩ : ∃ c, c = (gRd (allBits ys) N).2 := ⟨_, rfl⟩
    rw [← hc] at HD2 dc ⊢
    clear HD hb hc own2
    go_wp2
    go_ret2
    have hD := HD2.out
    subst hD
    exact ⟨_, rfl, World.ownsRow_nil _ _ _ _, only_of_below B2.out⟩
  · have hok := gRd_ok (l := allBits ys) (n := N) (by simpa using hb)
    have hz : (gRd (allBits ys) N).2 = 0 := by simpa using hb
    rw [hz]
    obtain ⟨L, hL⟩ : ∃ L, L = (gRd (allBits ys) N).1 := ⟨_, rfl⟩
    have HD2 : Hid (D = if (ENC9 L).1 = ys then (L, 0) else ([], 3)) := by simp only [Hid]; rw [HD.out, if_neg hb, ← hL]
    rw [← hL] at hok OW2
    have EN := hideIt (encode9_all u L w2 (Bs.of_own OW2.out) hok.1 (hT.below B2.out hT.pos))
    clear HD hb hz hL own2 hok
    obtain ⟨a6, c6, e6⟩ := (Bs.of_own OW2.out).len
    subst e6
    obtain ⟨m, hm⟩ : ∃ m, m = L.length := ⟨_, rfl⟩
    rw [← hm] at EN ⊢
    have HM := hideIt hm
    clear hm
    go_wp2_with fail
    refine EN.out.mono ?_
    rintro e w3 ⟨v3, rfl, own3, o3⟩
    have EQ := hideIt (equal_bs v3 v (ENC9 L).1 ys w3 (Bs.of_own own3) ((HB.out.later B2.out).past o3) (ENC9_rng L) HR.out)
    have O3 := hideIt ((only_of_below B2.out).same o3)
    have OW3 := hideIt (o3.own OW2.out (fun _ _ f => f))
    obtain ⟨a7, c7, e7⟩ := (Bs.of_own own3).len
    subst e7
    clear EN own3 o3 OW2
    generalize (ENC9 L).1 = E at *
    by_cases he : E = ys
    · rw [decide_eq_true he] at EQ
      have hD := HD2.out
      rw [if_pos he] at hD
      clear HD2 he
      have HD3 := hideIt hD
      clear hD
      obtain ⟨m2, hm2⟩ : ∃ m2, m2 = E.length := ⟨_, rfl⟩
      rw [← hm2] at EQ ⊢
      clear hm2
      go_wp2_with fail
      refine EQ.out.mono ?_
      rintro e w4 ⟨rfl, rfl⟩
      clear EQ
      go_wp2
      go_ret2
      have hD := HD3.out
      subst hD
      exact ⟨_, rfl, by have := OW3.out; rw [HM.out]; exact this, O3.out⟩
    · rw [decide_eq_false he] at EQ
      have hD := HD2.out
      rw [if_neg he] at hD
      clear HD2 he
      have HD3 := hideIt hD
      clear hD
      obtain ⟨m2, hm2⟩ : ∃ m2, m2 = E.length := ⟨_, rfl⟩
      rw [← hm2] at EQ ⊢
      clear hm2
      go_wp2_with fail
      refine EQ.out.mono ?_
      rintro e w4 ⟨rfl, rfl⟩
      clear EQ
      go_wp2
      go_ret2
      have hD := HD3.out
      subst hD
      exact ⟨_, rfl, World.ownsRow_nil _ _ _ _, O3.out⟩
theorem decode9_all (v : Value) (ys : List Int) (n : Int) (w : World) (h : Bs .u8 w v ys) (hr : ∀ y ∈ ys, 0 ≤ y ∧ y ≤ 255) (hl : ys.length ≤ 1000000000) (hT : Tab w) :
    Calls Tryd.prog 13 #[v, .int .i64 n] w fun e w' => ∃ u, e = .returned (.tuple #[u, .int .i64 (DEC9 ys n).2]) ∧ w'.ownsRow w.heap.size 35 1 u (DEC9 ys n).1.length ((DEC9 ys n).1.map (Value.int .u64)) ∧ Only (fun _ => False) w w' := by
  by_cases hn : n < 0 ∨ 65536 < n
  · have e : DEC9 ys n = ([], 1) := if_pos hn
    rw [e]
    refine (decode9_arg v n w hn).mono ?_
    rintro e w' ⟨rfl, rfl⟩
    exact ⟨_, rfl, World.ownsRow_nil _ _ _ _, Only.refl _ _⟩
  · obtain ⟨N, rfl⟩ := Int.eq_ofNat_of_zero_le (show 0 ≤ n by omega)
    exact decode9_bs v ys N w h hr hl (by omega) hT
end Go.Proofs.YthpcibofcgjcdaaDoor

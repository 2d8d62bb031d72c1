/- The walk of the statement on what any numbers are encoded to, and what room any sort has. -/
import Derived.Test.YtjfbokmbpmidbaaTot
import Derived.Test.YtjfbokmbpmidbaaREnc2
namespace Go.Proofs.Ytjfbokmbpmidbaa
open Go.RowKit

theorem rencode_all (v : Value) (xs : List Int) (w : World) (h : Bs .u64 w v xs) (hu : U64 xs) :
    Calls Try.prog 11 #[v] w fun e w' => ∃ v', e = .returned (.tuple #[v', .int .i64 (ENC xs).2]) ∧ w'.ownsRow w.heap.size 5 1 v' (ENC xs).1.length ((ENC xs).1.map (Value.int .u8)) ∧ Only (fun _ => False) w w' := by
  unfold ENC
  by_cases hl : 65536 < xs.length
  · rw [if_pos hl]
    refine (rencode_long v xs w h hl).mono ?_
    rintro e w' ⟨rfl, rfl⟩
    exact ⟨_, rfl, World.ownsRow_nil _ _ _ _, Only.refl _ _⟩
  · rw [if_neg hl]
    by_cases hs : small 60 xs = true
    · rw [if_pos hs]
      exact rencode_bs v xs w h (small_up hs (fun x hx => (hu x hx).1)) (by omega)
    · rw [if_neg hs]
      refine (rencode_arg v xs w h hu (by omega) (by simpa using hs)).mono ?_
      rintro e w' ⟨rfl, rfl⟩
      exact ⟨_, rfl, World.ownsRow_nil _ _ _ _, Only.refl _ _⟩
theorem rroom_all (s : Int) (w : World) : Calls Try.prog 13 #[.int .i64 s] w fun e w' => e = .returned (.tuple #[.int .i64 (ROOM s).1, .int .i64 (ROOM s).2]) ∧ Only (fun _ => False) w w' := by
  unfold ROOM
  by_cases hs : s < 0 ∨ 15 < s
  · rw [if_pos hs]
    exact rroom_no s w hs
  · rw [if_neg hs]
    obtain ⟨m, rfl⟩ := Int.eq_ofNat_of_zero_le (show 0 ≤ s by omega)
    exact rroom_at m w (by omega)

set_option maxHeartbeats 800000 in
set_option maxRecDepth 100000 in
theorem encodes_any (v : Value) (xs : List Int) (s : Int) (w : World) (hb : Bs .u64 w v xs) (hu : U64 xs) :
    Calls Try.prog 3 #[v, .int .i64 s] w fun e w' => e = .returned (.bool true) ∧ Only (fun _ => False) w w' := by
  have AW := hideIt (awake_any w)
  have HB := hideIt hb
  obtain ⟨ao, cap, rfl⟩ := hb.len
  have HU := hideIt hu
  by_cases h2 : 600 < xs.length ∧ xs.length ≤ 65536
  · have d1 : decide ((600 : Int) < xs.length) = true := decide_eq_true (by omega)
    have d2 : decide ((xs.length : Int) ≤ 65536) = true := decide_eq_true (by omega)
    clear HB HU hb hu h2
    generalize xs.length = m at *
    go_enter Try.func3, Try.ntmps3
    go_wp2_with fail
    refine AW.out.mono ?_
    rintro e w1 ⟨rfl, on1⟩
    have O1 := hideIt on1
    clear on1 AW
    go_wp2
    go_ret
    exact ⟨rfl, O1.out⟩
  · have hd : decide ((600 : Int) < xs.length) = false ∨ (decide ((600 : Int) < xs.length) = true ∧ decide ((xs.length : Int) ≤ 65536) = false) := by
      by_cases h : 600 < xs.length
      · exact .inr ⟨decide_eq_true (by omega), decide_eq_false (by omega)⟩
      · exact .inl (decide_eq_false (by omega))
    have HEL := hideIt (ENC_len (fun x hx => (hu x hx).1))
    have PA := hideIt (fun (w1 : World) (o : Only (fun _ => False) w w1) => encode_all (.slice ao xs.length cap) xs w1 (HB.out.past o) HU.out)
    have PR := hideIt (fun (w1 : World) (o : Only (fun _ => False) w w1) => rencode_all (.slice ao xs.length cap) xs w1 (HB.out.past o) HU.out)
    have RA := hideIt (room_all s)
    have RB := hideIt (rroom_all s)
    obtain ⟨m, hm⟩ : ∃ m, m = xs.length := ⟨_, rfl⟩
    rw [← hm] at PA PR hd ⊢
    generalize ENC xs = E at *
    obtain ⟨l, c⟩ := E
    generalize ROOM s = T at *
    obtain ⟨p, q⟩ := T
    simp only at PA PR RA RB HEL
    have z0 : (c == c) = true := by simp
    have z1 : (p == p) = true := by simp
    have z2 : (q == q) = true := by simp
    clear HB hb hu h2 hm
    rcases hd with d1 | ⟨d1, d2⟩
    all_goals
      go_enter Try.func3, Try.ntmps3
      go_wp2_with fail
      refine AW.out.mono ?_
      rintro e w1 ⟨rfl, on1⟩
      have O1 := hideIt on1
      have A := hideIt (PA.out w1 on1)
      clear on1 AW PA
      go_wp2_with fail
      refine A.out.mono ?_
      rintro e w2 ⟨v2, rfl, own2, on2⟩
      have O2 := hideIt (O1.out.same on2)
      have B2 := hideIt (Bs.of_own own2)
      have R := hideIt (PR.out w2 O2.out)
      obtain ⟨f2, c2, e2⟩ := B2.out.len
      subst e2
      clear A own2 on2 PR
      go_wp2_with fail
      refine R.out.mono ?_
      rintro e w3 ⟨v3, rfl, own3, on3⟩
      have O3 := hideIt (O2.out.same on3)
      have B3 := hideIt (Bs.of_own own3)
      have B23 := hideIt (B2.out.past on3)
      obtain ⟨f3, c3, e3⟩ := B3.out.len
      subst e3
      clear R own3 on3
      go_wp2_with fail
      refine (RA.out w3).mono ?_
      rintro e w4 ⟨rfl, on4⟩
      have O4 := hideIt (O3.out.same on4)
      have B4 := hideIt (And.intro (B23.out.past on4) (B3.out.past on4))
      clear RA on4
      go_wp2_with fail
      refine (RB.out w4).mono ?_
      rintro e w5 ⟨rfl, on5⟩
      have O5 := hideIt (O4.out.same on5)
      have SM := hideIt (same_eq _ _ l w5 (B4.out.1.past on5) (B4.out.2.past on5) (by have := HEL.out; omega))
      clear RB on5 B2 B3 B23 B4
      go_wp2_with fail
      refine SM.out.mono ?_
      rintro e w6 ⟨rfl, on6⟩
      have O6 := hideIt (O5.out.same on6)
      clear SM on6
      go_wp2
      go_ret
      exact ⟨rfl, O6.out⟩
end Go.Proofs.Ytjfbokmbpmidbaa

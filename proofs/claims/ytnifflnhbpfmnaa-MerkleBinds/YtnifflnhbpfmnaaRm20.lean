/- The document's own answer: what leaves and a proof come to. -/
import Derived.Test.YtnifflnhbpfmnaaRw20
namespace Go.Proofs.Ytnifflnhbpfmnaa
open Go.RowKit
set_option linter.unusedVariables false

set_option maxHeartbeats 3200000 in
set_option maxRecDepth 100000 in
theorem rmade_in (i j bx ox mx cx : Nat) (x : List (List Int)) (x5 : R5 x) (hmx : x.length = mx) (hx0 : 0 < mx) (hcapx : mx ≤ cx) (hin : i + mx ≤ 1000000000) (hj : j = i + mx - 1) :
    ∀ (k lo hi : Nat) (p : List (List Int)) (vp : Value) (w : World), lo < hi → hi - lo ≤ k → hi ≤ 1000000000 → MNY (k + 1) lo hi i j ≤ p.length → R5 p → RL w (.slice (some ⟨bx, ox, none⟩) mx cx) x → RL w vp p →
    Calls Try.prog 44 #[.int .i64 lo, .int .i64 hi, .int .i64 i, .slice (some ⟨bx, ox, none⟩) mx cx, vp] w
      fun e w' => ∃ v u, e = .returned (.tuple #[v, u]) ∧ Bs .u8 w' v (MAD (k + 1) lo hi i x p).1 ∧ NoCap v ∧ RL w' u (MAD (k + 1) lo hi i x p).2 ∧ Only (fun _ => False) w w' := by
  intro k
  induction k with
  | zero => intro lo hi p vp w h1 h2; omega
  | succ k ih =>
    intro lo hi p vp w hlt hk hh ham p5 rx rp
    obtain ⟨x0, hxx⟩ : ∃ x, x = hi - 1 := ⟨_, rfl⟩
    have ex : (hi : Int) - 1 = (x0 : Int) := by omega
    by_cases hB : j < lo ∨ hi ≤ i
    · by_cases hB1 : j < lo
      · skip
        obtain ⟨t, ht⟩ : ∃ t, t = i + mx := ⟨_, rfl⟩
        have e2 : (i : Int) + (mx : Int) = (t : Int) := by omega
        have e3 : (t : Int) - 1 = (j : Int) := by omega
        have tb : (t : Int) ≤ 1000000000 := by omega
        have jb : (j : Int) ≤ 1000000000 := by omega
        have hxb : (x0 : Int) ≤ 1000000000 := by omega
        have hlb : (lo : Int) ≤ 1000000000 := by omega
        have hhb : (hi : Int) ≤ 1000000000 := by omega
        have e : (MAD (k + 1 + 1) lo hi i x p).1 = p.getD 0 [] := by rw [MAD, if_pos (by omega)]; exact head_at p
        have e' : (MAD (k + 1 + 1) lo hi i x p).2 = p.drop 1 := by rw [MAD, if_pos (by omega)]; exact List.drop_one.symm
        rw [e, e']
        have em : MNY (k + 1 + 1) lo hi i j = 1 := by rw [MNY, if_neg (by omega), if_pos (by omega)]
        rw [em] at ham
        obtain ⟨mp, hmp⟩ : ∃ mp, p.length = mp := ⟨_, rfl⟩
        obtain ⟨bp, op, cp, rfl, hcp⟩ := rp.form hmp (by omega)
        obtain ⟨u, hu, hbu, nu⟩ := rp.at 0 (by omega)
        rw [Nat.add_zero] at hu
        obtain ⟨ao, cu, rfl⟩ := hbu.len
        have F0 := hideIt (fun (W : World) (o : Only (fun _ => False) w W) => And.intro (hbu.past o) (And.intro nu o))
        have a1 : (1 : Int) ≤ (mp : Int) := by omega
        have a2 : (0 : Int) < (mp : Int) := by omega
        have a3 : (1 : Int) ≤ (cp : Int) := by omega
        obtain ⟨mu, hmu⟩ : ∃ mu, mu = (p.getD 0 []).length := ⟨_, rfl⟩
        rw [← hmu] at hu F0
        have d4 : decide (j < lo) = true := decide_eq_true (by omega)
        have d4' : decide ((j : Int) < (lo : Int)) = true := decide_eq_true (by omega)
        by_cases hc1 : cp = 1
        · have R0 := hideIt (fun (W : World) => (⟨some ⟨bp, op, none⟩, 0, by rw [List.length_drop, hmp, show mp - 1 = 0 by omega], by rw [List.length_drop, hmp]; omega, fun h => absurd (List.drop_of_length_le (by omega)) h⟩ : RL W (.slice (some ⟨bp, op, none⟩) 0 0) (p.drop 1)))
          obtain rfl : mp = 1 := by omega
          subst hc1
          clear ih hlt hk hh hxx ham rx rp x5 p5 hx0 hj hmx hcapx hin ht e e' em hmp hcp hbu nu hmu hB hB1
          go_enter Try.func44, Try.ntmps44
          go_wp2_with fail
          go_quiet (fail)
          go_wp2
          go_ret2
          exact ⟨_, _, rfl, (F0.out _ ((Only.refl _ _).drewN _)).1, (F0.out w (Only.refl _ _)).2.1, R0.out _, (Only.refl _ _).drewN _⟩
        · have R0 := hideIt (fun (W : World) (o : Only (fun _ => False) w W) => (rp.past o).tail 1 (by omega))
          clear ih hlt hk hh hxx ham rx rp x5 p5 hx0 hj hmx hcapx hin ht e e' em hmp hcp hbu nu hmu hB hB1
          go_enter Try.func44, Try.ntmps44
          go_wp2_with fail
          go_quiet (fail)
          go_wp2
          go_ret2
          exact ⟨_, _, rfl, (F0.out _ ((Only.refl _ _).drewN _)).1, (F0.out w (Only.refl _ _)).2.1, R0.out _ ((Only.refl _ _).drewN _), (Only.refl _ _).drewN _⟩
      · skip
        obtain ⟨t, ht⟩ : ∃ t, t = i + mx := ⟨_, rfl⟩
        have e2 : (i : Int) + (mx : Int) = (t : Int) := by omega
        have e3 : (t : Int) - 1 = (j : Int) := by omega
        have tb : (t : Int) ≤ 1000000000 := by omega
        have jb : (j : Int) ≤ 1000000000 := by omega
        have hxb : (x0 : Int) ≤ 1000000000 := by omega
        have hlb : (lo : Int) ≤ 1000000000 := by omega
        have hhb : (hi : Int) ≤ 1000000000 := by omega
        have e : (MAD (k + 1 + 1) lo hi i x p).1 = p.getD 0 [] := by rw [MAD, if_pos (by omega)]; exact head_at p
        have e' : (MAD (k + 1 + 1) lo hi i x p).2 = p.drop 1 := by rw [MAD, if_pos (by omega)]; exact List.drop_one.symm
        rw [e, e']
        have em : MNY (k + 1 + 1) lo hi i j = 1 := by rw [MNY, if_neg (by omega), if_pos (by omega)]
        rw [em] at ham
        obtain ⟨mp, hmp⟩ : ∃ mp, p.length = mp := ⟨_, rfl⟩
        obtain ⟨bp, op, cp, rfl, hcp⟩ := rp.form hmp (by omega)
        obtain ⟨u, hu, hbu, nu⟩ := rp.at 0 (by omega)
        rw [Nat.add_zero] at hu
        obtain ⟨ao, cu, rfl⟩ := hbu.len
        have F0 := hideIt (fun (W : World) (o : Only (fun _ => False) w W) => And.intro (hbu.past o) (And.intro nu o))
        have a1 : (1 : Int) ≤ (mp : Int) := by omega
        have a2 : (0 : Int) < (mp : Int) := by omega
        have a3 : (1 : Int) ≤ (cp : Int) := by omega
        obtain ⟨mu, hmu⟩ : ∃ mu, mu = (p.getD 0 []).length := ⟨_, rfl⟩
        rw [← hmu] at hu F0
        have d4 : decide (j < lo) = false := decide_eq_false (by omega)
        have d4' : decide ((j : Int) < (lo : Int)) = false := decide_eq_false (by omega)
        have d3 : decide (x0 < i) = true := decide_eq_true (by omega)
        have d3' : decide ((x0 : Int) < (i : Int)) = true := decide_eq_true (by omega)
        by_cases hc1 : cp = 1
        · have R0 := hideIt (fun (W : World) => (⟨some ⟨bp, op, none⟩, 0, by rw [List.length_drop, hmp, show mp - 1 = 0 by omega], by rw [List.length_drop, hmp]; omega, fun h => absurd (List.drop_of_length_le (by omega)) h⟩ : RL W (.slice (some ⟨bp, op, none⟩) 0 0) (p.drop 1)))
          obtain rfl : mp = 1 := by omega
          subst hc1
          clear ih hlt hk hh hxx ham rx rp x5 p5 hx0 hj hmx hcapx hin ht e e' em hmp hcp hbu nu hmu hB hB1
          go_enter Try.func44, Try.ntmps44
          go_wp2_with fail
          go_quiet (fail)
          go_wp2
          go_ret2
          exact ⟨_, _, rfl, (F0.out _ ((Only.refl _ _).drewN _)).1, (F0.out w (Only.refl _ _)).2.1, R0.out _, (Only.refl _ _).drewN _⟩
        · have R0 := hideIt (fun (W : World) (o : Only (fun _ => False) w W) => (rp.past o).tail 1 (by omega))
          clear ih hlt hk hh hxx ham rx rp x5 p5 hx0 hj hmx hcapx hin ht e e' em hmp hcp hbu nu hmu hB hB1
          go_enter Try.func44, Try.ntmps44
          go_wp2_with fail
          go_quiet (fail)
          go_wp2
          go_ret2
          exact ⟨_, _, rfl, (F0.out _ ((Only.refl _ _).drewN _)).1, (F0.out w (Only.refl _ _)).2.1, R0.out _ ((Only.refl _ _).drewN _), (Only.refl _ _).drewN _⟩
    · by_cases h1 : hi - lo = 1
      · skip
        obtain ⟨t, ht⟩ : ∃ t, t = i + mx := ⟨_, rfl⟩
        have e2 : (i : Int) + (mx : Int) = (t : Int) := by omega
        have e3 : (t : Int) - 1 = (j : Int) := by omega
        have tb : (t : Int) ≤ 1000000000 := by omega
        have jb : (j : Int) ≤ 1000000000 := by omega
        have hxb : (x0 : Int) ≤ 1000000000 := by omega
        have hlb : (lo : Int) ≤ 1000000000 := by omega
        have hhb : (hi : Int) ≤ 1000000000 := by omega
        have e : (MAD (k + 1 + 1) lo hi i x p).1 = x.getD (lo - i) [] := by rw [MAD, if_neg (by omega), if_pos h1]
        have e' : (MAD (k + 1 + 1) lo hi i x p).2 = p := by rw [MAD, if_neg (by omega), if_pos h1]
        rw [e, e']
        obtain ⟨y, hy⟩ : ∃ y, y = lo - i := ⟨_, rfl⟩
        rw [← hy]
        obtain ⟨u, hu, hbu, nu⟩ := rx.at y (by omega)
        obtain ⟨ao, cu, rfl⟩ := hbu.len
        obtain ⟨mu, hmu⟩ : ∃ mu, mu = (x.getD y []).length := ⟨_, rfl⟩
        have F0 := hideIt (And.intro hbu (And.intro nu (And.intro rp (Only.refl (fun _ => False) w))))
        rw [← hmu] at hu F0
        obtain ⟨lp, cp, rfl, _⟩ := rp.len
        obtain ⟨mp, hmp⟩ : ∃ mp, mp = p.length := ⟨_, rfl⟩
        rw [← hmp] at F0 ⊢
        have g1 : (lo : Int) - (i : Int) = (y : Int) := by omega
        have g2 : (0 : Int) ≤ (y : Int) := by omega
        have g3 : (y : Int) < (mx : Int) := by omega
        have g4 : (hi : Int) - (lo : Int) = 1 := by omega
        have d4 : decide (j < lo) = false := decide_eq_false (by omega)
        have d4' : decide ((j : Int) < (lo : Int)) = false := decide_eq_false (by omega)
        have d3 : decide (x0 < i) = false := decide_eq_false (by omega)
        have d3' : decide ((x0 : Int) < (i : Int)) = false := decide_eq_false (by omega)
        clear ih hlt hk hh hxx ham rx rp x5 p5 hx0 hj hmx hcapx hin ht e e' hy hbu nu hmu hmp hB h1
        go_enter Try.func44, Try.ntmps44
        go_wp2
        go_ret2
        exact ⟨_, _, rfl, F0.out⟩
      · skip
        obtain ⟨t, ht⟩ : ∃ t, t = i + mx := ⟨_, rfl⟩
        have e2 : (i : Int) + (mx : Int) = (t : Int) := by omega
        have e3 : (t : Int) - 1 = (j : Int) := by omega
        have tb : (t : Int) ≤ 1000000000 := by omega
        have jb : (j : Int) ≤ 1000000000 := by omega
        have hxb : (x0 : Int) ≤ 1000000000 := by omega
        have hlb : (lo : Int) ≤ 1000000000 := by omega
        have hhb : (hi : Int) ≤ 1000000000 := by omega
        obtain ⟨n, hn⟩ : ∃ n, n = hi - lo := ⟨_, rfl⟩
        obtain ⟨q, hq⟩ : ∃ q, q = HALF n := ⟨_, rfl⟩
        have q1 := HALF_pos n
        have q2 := HALF_lt (n := n) (by omega)
        rw [← hq] at q1 q2
        obtain ⟨m, hm⟩ : ∃ m, m = lo + q := ⟨_, rfl⟩
        have es : (hi : Int) - (lo : Int) = (n : Int) := by omega
        have em : (lo : Int) + (q : Int) = (m : Int) := by omega
        have AL := hideIt (fun (W : World) => rhalf_any n (by omega) W)
        rw [← hq] at AL
        have e : (MAD (k + 1 + 1) lo hi i x p).1 = NODE (MAD (k + 1) lo m i x p).1 (MAD (k + 1) m hi i x (MAD (k + 1) lo m i x p).2).1 := by rw [MAD, if_neg (by omega), if_neg h1, ← hn, ← hq, ← hm]
        have e' : (MAD (k + 1 + 1) lo hi i x p).2 = (MAD (k + 1) m hi i x (MAD (k + 1) lo m i x p).2).2 := by rw [MAD, if_neg (by omega), if_neg h1, ← hn, ← hq, ← hm]
        rw [e, e']
        have u1 := MAD_used (f := k + 1) (lo := lo) (hi := m) (i := i) (x := x) (p := p) 0 (by omega) (by omega) (by omega)
        rw [List.drop_zero, Nat.zero_add, hmx, ← hj] at u1
        have em : MNY (k + 1) lo m i j + MNY (k + 1) m hi i j ≤ p.length := by
          by_cases hA : i ≤ lo ∧ hi ≤ j + 1
          · have z1 : MNY (k + 1) lo m i j = 0 := by rw [MNY, if_pos (by omega)]
            have z2 : MNY (k + 1) m hi i j = 0 := by rw [MNY, if_pos (by omega)]
            omega
          · have : MNY (k + 1 + 1) lo hi i j = MNY (k + 1) lo m i j + MNY (k + 1) m hi i j := by rw [MNY, if_neg hA, if_neg (by omega), hm, hq, hn]
            omega
        have P5 : R5 (MAD (k + 1) lo m i x p).2 := by rw [u1]; exact p5.drop _
        have g1 := MAD_r5 (k + 1) lo m i x p x5 p5
        have g2 := MAD_r5 (k + 1) m hi i x (MAD (k + 1) lo m i x p).2 x5 P5
        have T1 := hideIt (ih lo m p vp w (by omega) (by omega) (by omega) (by omega) p5 rx rp)
        have T2 := hideIt (fun (W : World) (u : Value) (o : Only (fun _ => False) w W) (hu : RL W u (MAD (k + 1) lo m i x p).2) => ih m hi (MAD (k + 1) lo m i x p).2 u W (by omega) (by omega) (by omega) (by rw [u1, List.length_drop]; omega) P5 (rx.past o) hu)
        have T3 := hideIt (fun (vl vr : Value) (W : World) (hb : Bs .u8 W vl (MAD (k + 1) lo m i x p).1) (nb : NoCap vl) (hr : Bs .u8 W vr (MAD (k + 1) m hi i x (MAD (k + 1) lo m i x p).2).1) (nr : NoCap vr) => rnode20_any vl vr _ _ W hb nb hr nr g1.1 g2.1 g1.2 g2.2)
        obtain ⟨Y1, hY1⟩ : ∃ Y, Y = (MAD (k + 1) lo m i x p).1 := ⟨_, rfl⟩
        obtain ⟨Y2, hY2⟩ : ∃ Y, Y = (MAD (k + 1) lo m i x p).2 := ⟨_, rfl⟩
        rw [← hY1, ← hY2] at T1 T3
        rw [← hY2] at T2
        rw [← hY1, ← hY2]
        obtain ⟨Z1, hZ1⟩ : ∃ Y, Y = (MAD (k + 1) m hi i x Y2).1 := ⟨_, rfl⟩
        obtain ⟨Z2, hZ2⟩ : ∃ Y, Y = (MAD (k + 1) m hi i x Y2).2 := ⟨_, rfl⟩
        rw [← hZ1, ← hZ2] at T2
        rw [← hZ1] at T3
        rw [← hZ1, ← hZ2]
        have d9 : ((n : Int) == 1) = false := by rw [beq_eq_false_iff_ne]; omega
        obtain ⟨lp, cp, rfl, _⟩ := rp.len
        obtain ⟨mp, hmp⟩ : ∃ mp, mp = p.length := ⟨_, rfl⟩
        rw [← hmp] at T1 ⊢
        have hqb : (q : Int) ≤ 1000000000 := by omega
        have hmb : (m : Int) ≤ 1000000000 := by omega
        have hnb : (n : Int) ≤ 1000000000 := by omega
        have d4 : decide (j < lo) = false := decide_eq_false (by omega)
        have d4' : decide ((j : Int) < (lo : Int)) = false := decide_eq_false (by omega)
        have d3 : decide (x0 < i) = false := decide_eq_false (by omega)
        have d3' : decide ((x0 : Int) < (i : Int)) = false := decide_eq_false (by omega)
        clear ih hlt hk hh hxx ham rx rp x5 p5 hx0 hj hmx hcapx hin ht e e' em P5 g1 g2 hY1 hY2 hZ1 hZ2 hmp hB h1 hn hq hm u1 q1 q2
        go_enter Try.func44, Try.ntmps44
        go_wp2_with fail
        refine (AL.out _).mono ?_
        rintro e w1 ⟨rfl, rfl⟩
        clear AL
        go_wp2_with fail
        refine T1.out.mono ?_
        rintro e w1 ⟨v1, u1, rfl, r1, r2, r3, o1⟩
        have K1 := hideIt (And.intro r1 (And.intro r2 o1))
        have T4 := hideIt (T2.out w1 u1 o1 r3)
        obtain ⟨ao1, cap1, e1⟩ := r1.len
        subst e1
        obtain ⟨ao2, cap2, e2', _⟩ := r3.len
        subst e2'
        obtain ⟨l1, hl1⟩ : ∃ l1, l1 = Y1.length := ⟨_, rfl⟩
        obtain ⟨l2, hl2⟩ : ∃ l2, l2 = Y2.length := ⟨_, rfl⟩
        rw [← hl1] at K1
        rw [← hl2] at T4
        rw [← hl1, ← hl2]
        clear T1 T2 r1 r2 r3 o1 hl1 hl2
        go_wp2_with fail
        refine T4.out.mono ?_
        rintro e w2 ⟨v2, u2, rfl, r1, r2, r3, o2⟩
        have O2 := hideIt (And.intro r3 (K1.out.2.2.same o2))
        have T5 := hideIt (T3.out _ _ w2 (K1.out.1.past o2) K1.out.2.1 r1 r2)
        obtain ⟨ao3, cap3, e3'⟩ := r1.len
        subst e3'
        obtain ⟨ao4, cap4, e4, _⟩ := r3.len
        subst e4
        obtain ⟨l3, hl3⟩ : ∃ l3, l3 = Z1.length := ⟨_, rfl⟩
        obtain ⟨l4, hl4⟩ : ∃ l4, l4 = Z2.length := ⟨_, rfl⟩
        rw [← hl3] at T5
        rw [← hl4] at O2
        rw [← hl3, ← hl4]
        clear T4 T3 r1 r2 r3 o2 hl3 hl4 K1
        go_wp2_with fail
        refine T5.out.mono ?_
        rintro e w3 ⟨v3, rfl, own3, o3⟩
        have F : Hid (Bs .u8 w3 v3 (NODE Y1 Z1) ∧ NoCap v3 ∧ RL w3 (.slice ao4 l4 cap4) Z2 ∧ Only (fun _ => False) w w3) := ⟨own_bs own3, NoCap.of_own own3, O2.out.1.past o3, O2.out.2.same o3⟩
        obtain ⟨ao5, cap5, e5⟩ := own_form own3
        subst e5
        clear T5 own3 o3 O2
        go_wp2
        go_ret2
        exact ⟨_, _, rfl, F.out⟩
end Go.Proofs.Ytnifflnhbpfmnaa

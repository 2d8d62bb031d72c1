/- The statement ChachaTwice: the walk. -/
import Derived.Test.YtikoabnkoicdjaaTt
namespace Go.Proofs.Ytikoabnkoicdjaa
open Go.RowKit

set_option maxHeartbeats 1600000 in
set_option maxRecDepth 100000 in
theorem twice_walk (vk vn vb vo : Value) (key nonce xb xo : List Int) (ctr : Nat) (hc : ctr < 4294967296) (k8 : U8 key) (n8 : U8 nonce) (b8 : U8 xb) (o8 : U8 xo) (w : World) (bk : Bs .u8 w vk key) (bn : Bs .u8 w vn nonce) (bb : Bs .u8 w vb xb) (bo : Bs .u8 w vo xo) :
    Calls Try.prog 6 #[vk, .int .u32 ctr, vn, vb, vo] w fun e w' => e = .returned (.bool true) ∧ Below w.heap.size w w' := by
  have A := hideIt (awake_any w)
  obtain ⟨nb, hnb⟩ : ∃ n, xb.length = n := ⟨_, rfl⟩
  obtain ⟨no, hno⟩ : ∃ n, xo.length = n := ⟨_, rfl⟩
  obtain ⟨aob, capb, rfl⟩ := bb.form hnb
  obtain ⟨aoo, capo, rfl⟩ := bo.form hno
  by_cases hlb : 1000 < nb
  · have d1 : decide ((1000 : Int) < (nb : Int)) = true := decide_eq_true (by omega)
    clear bk bn bb bo k8 n8 b8 o8 hc hnb hno
    go_enter Try.func6, Try.ntmps6
    go_wp2_with fail
    refine A.out.mono ?_
    rintro e w1 ⟨rfl, rfl⟩
    go_wp2
    go_ret
    exact ⟨rfl, (Only.refl _ _).low (Nat.le_refl _)⟩
  · have d1 : decide ((1000 : Int) < (nb : Int)) = false := decide_eq_false (by omega)
    by_cases hlo : 1000 < no
    · have d2 : decide ((1000 : Int) < (no : Int)) = true := decide_eq_true (by omega)
      clear bk bn bb bo k8 n8 b8 o8 hc hnb hno
      go_enter Try.func6, Try.ntmps6
      go_wp2_with fail
      refine A.out.mono ?_
      rintro e w1 ⟨rfl, rfl⟩
      go_wp2
      go_ret
      exact ⟨rfl, (Only.refl _ _).low (Nat.le_refl _)⟩
    · have d2 : decide ((1000 : Int) < (no : Int)) = false := decide_eq_false (by omega)
      by_cases hok : KN key nonce ∧ fitsC ctr nb
      · have P1 := hideIt (stream_ok hok.1 hnb hok.2 hc k8 n8 b8 (by omega) w bk bn bb)
        have HB := hideIt (And.intro bk (And.intro bn (And.intro bb bo)))
        have HU := hideIt (And.intro k8 (And.intro n8 (And.intro b8 o8)))
        have HN := hideIt (And.intro hnb (And.intro hno (And.intro hok hc)))
        have hb1 : nb ≤ 1000 := by omega
        have hb2 : no ≤ 1000 := by omega
        clear bk bn bb bo k8 n8 b8 o8 hc hnb hno hok hlb hlo
        go_enter Try.func6, Try.ntmps6
        go_wp2_with fail
        refine A.out.mono ?_
        rintro e w1 ⟨rfl, rfl⟩
        go_wp2_with fail
        refine P1.out.mono ?_
        rintro e w1 ⟨v1, rfl, b1, nc1, o1⟩
        have hl1 : (STR key ctr nonce xb).length = nb := by rw [STR_len]; exact HN.out.1
        have P2 := hideIt (stream_ok HN.out.2.2.1.1 hl1 HN.out.2.2.1.2 HN.out.2.2.2 HU.out.1 HU.out.2.1 (STR_u8 key ctr nonce xb HU.out.2.2.1) (by omega) w1 (HB.out.1.past o1) (HB.out.2.1.past o1) b1)
        rw [STR_STR key ctr nonce xb HU.out.2.2.1] at P2
        obtain ⟨ao1, cap1, rfl⟩ := b1.form hl1
        have B1 := hideIt b1
        have O1 := hideIt o1
        clear b1 nc1 o1 A P1
        go_wp2_with fail
        refine P2.out.mono ?_
        rintro e w2 ⟨v2, rfl, b2, nc2, o2⟩
        have O2 := hideIt (O1.out.same o2)
        have S2 := hideIt (lsame_eq v2 _ xb w2 b2 (HB.out.2.2.1.past O2.out) (by rw [HN.out.1]; omega))
        have B2 := hideIt (B1.out.past o2)
        clear b2 nc2 o2 P2 B1
        go_wp2_with fail
        refine S2.out.mono ?_
        rintro e w3 ⟨rfl, o3⟩
        have O3 := hideIt (O2.out.same o3)
        have B3 := hideIt (B2.out.past o3)
        clear o3 S2 B2 O1 O2
        by_cases hoc : fitsC ctr no
        · have P3 := hideIt (stream_ok HN.out.2.2.1.1 HN.out.2.1 hoc HN.out.2.2.2 HU.out.1 HU.out.2.1 HU.out.2.2.2 (by omega) w3 (HB.out.1.past O3.out) (HB.out.2.1.past O3.out) (HB.out.2.2.2.past O3.out))
          clear hoc
          go_wp2_with fail
          refine P3.out.mono ?_
          rintro e w4 ⟨v4, rfl, b4, nc4, o4⟩
          have hl4 : (STR key ctr nonce xo).length = no := by rw [STR_len]; exact HN.out.2.1
          obtain ⟨ao4, cap4, rfl⟩ := b4.form hl4
          have O4 := hideIt (O3.out.same o4)
          have K4 := hideIt (And.intro (B3.out.past o4) (And.intro b4 (And.intro (HB.out.2.2.1.past O4.out) (HB.out.2.2.2.past O4.out))))
          clear b4 nc4 o4 P3 B3 O3 hl4 hl1
          go_wp2
          go_loopw [18] (fun i wr => ∃ k : Nat, k ≤ nb ∧ i = .int .i64 k ∧ Only (fun _ => False) w4 wr) (fun i _ => nb - (intOf i).toNat)
          case atStart => exact ⟨0, by omega, rfl, Only.refl _ _⟩
          case round =>
            obtain ⟨i, hi, rfl, hon⟩ := hrel
            by_cases hgo : i < nb ∧ i < no
            · obtain ⟨g1, g2⟩ := hgo
              have e1 := STR_xor key ctr nonce xb xo i (by rw [HN.out.1]; exact g1) (by rw [HN.out.2.1]; exact g2)
              obtain ⟨pa, oa, ca, fa, ya⟩ := (K4.out.1.past hon).at i (by rw [STR_len, HN.out.1]; exact g1)
              obtain ⟨pc, oc, cc, fc, yc⟩ := (K4.out.2.1.past hon).at i (by rw [STR_len, HN.out.2.1]; exact g2)
              obtain ⟨pb, ob, cb, fb, yb⟩ := (K4.out.2.2.1.past hon).at i (by rw [HN.out.1]; exact g1)
              obtain ⟨po, oo, co, fo, yo⟩ := (K4.out.2.2.2.past hon).at i (by rw [HN.out.2.1]; exact g2)
              obtain rfl : ao1 = some ⟨pa, oa, none⟩ := by simp at fa; exact fa.1
              obtain rfl : ao4 = some ⟨pc, oc, none⟩ := by simp at fc; exact fc.1
              obtain rfl : aob = some ⟨pb, ob, none⟩ := by simp at fb; exact fb.1
              obtain rfl : aoo = some ⟨po, oo, none⟩ := by simp at fo; exact fo.1
              have x1 := xor_u8 _ _ ((STR_u8 key ctr nonce xb HU.out.2.2.1).at i) ((STR_u8 key ctr nonce xo HU.out.2.2.2).at i)
              have x2 := xor_u8 _ _ (HU.out.2.2.1.at i) (HU.out.2.2.2.at i)
              rw [e1] at x1
              obtain ⟨x, hx⟩ : ∃ x, x = (((xb.getD i 0).toNat ^^^ (xo.getD i 0).toNat : Nat) : Int) := ⟨_, rfl⟩
              rw [← hx] at x1 x2
              obtain ⟨za, hza⟩ : ∃ z, z = (STR key ctr nonce xb).getD i 0 := ⟨_, rfl⟩
              obtain ⟨zc, hzc⟩ : ∃ z, z = (STR key ctr nonce xo).getD i 0 := ⟨_, rfl⟩
              obtain ⟨zb, hzb⟩ : ∃ z, z = xb.getD i 0 := ⟨_, rfl⟩
              obtain ⟨zo, hzo⟩ : ∃ z, z = xo.getD i 0 := ⟨_, rfl⟩
              rw [← hza] at ya x1
              rw [← hzc] at yc x1
              rw [← hzb] at yb x2
              rw [← hzo] at yo x2
              have HON := hideIt hon
              have i1 : (i : Int) < (nb : Int) := by omega
              have i2 : (i : Int) < (no : Int) := by omega
              have i3 : ¬ (nb : Int) ≤ (i : Int) := by omega
              have i4 : ¬ (no : Int) ≤ (i : Int) := by omega
              have i0 : (0 : Int) ≤ (i : Int) := by omega
              have xx : (x != x) = false := by simp
              have t1 : decide ((nb : Int) ≤ (i : Int)) = false := decide_eq_false (by omega)
              have t2 : decide ((no : Int) ≤ (i : Int)) = false := decide_eq_false (by omega)
              have t3 : decide (nb ≤ i) = false := decide_eq_false (by omega)
              have t4 : decide (no ≤ i) = false := decide_eq_false (by omega)
              clear hza hzc hzb hzo hx e1 fa fc fb fo hon g1 g2
              go_wp2
              go_quiet (fail)
              have NX : Hid (∀ m, Only (fun _ => False) w4 (wr.drewN m)) := fun m => HON.out.drewN m
              clear HON ya yc yb yo
              go_wp2
              go_roundw
              case rel => exact ⟨i + 1, by omega, by go_num, NX.out _⟩
              case measure => simp [intOf]; omega
            · have F1 := hideIt (O4.out.same hon)
              have q1 : ((nb : Int) == (nb : Int)) = true := by simp
              have q2 : ((no : Int) == (no : Int)) = true := by simp
              by_cases g1 : i < nb
              · have i1 : (i : Int) < (nb : Int) := by omega
                have i2 : ¬ (i : Int) < (no : Int) := by omega
                clear hgo hon
                go_wp2
                go_ret
                exact ⟨rfl, F1.out.low (Nat.le_refl _)⟩
              · have i1 : ¬ (i : Int) < (nb : Int) := by omega
                clear hgo hon
                go_wp2
                go_ret
                exact ⟨rfl, F1.out.low (Nat.le_refl _)⟩
        · have P3 := hideIt (stream_no HN.out.2.1 (fun h => hoc h.2) HN.out.2.2.2 HU.out.1 HU.out.2.1 HU.out.2.2.2 (by omega) w3 (HB.out.1.past O3.out) (HB.out.2.1.past O3.out) (HB.out.2.2.2.past O3.out))
          clear hoc
          go_wp2_with fail
          refine P3.out.mono ?_
          rintro e w4 ⟨ao4, cap4, E, rfl, hE, o4⟩
          have O4 := hideIt (O3.out.same o4)
          clear o4 P3 O3 B3
          go_wp2
          go_ret
          exact ⟨rfl, O4.out.low (Nat.le_refl _)⟩
      · have P1 := hideIt (stream_no hnb hok hc k8 n8 b8 (by omega) w bk bn bb)
        clear bk bn bb bo k8 n8 b8 o8 hc hnb hno hok hlb hlo
        go_enter Try.func6, Try.ntmps6
        go_wp2_with fail
        refine A.out.mono ?_
        rintro e w1 ⟨rfl, rfl⟩
        go_wp2_with fail
        refine P1.out.mono ?_
        rintro e w1 ⟨ao1, cap1, E, rfl, hE, o1⟩
        have O1 := hideIt o1
        clear o1 P1 A
        go_wp2
        go_ret
        exact ⟨rfl, O1.out.low (Nat.le_refl _)⟩
theorem twice_walkI (vk vn vb vo : Value) (key nonce xb xo : List Int) (c : Int) (hc : 0 ≤ c ∧ c ≤ 4294967295) (k8 : U8 key) (n8 : U8 nonce) (b8 : U8 xb) (o8 : U8 xo) (w : World) (bk : Bs .u8 w vk key) (bn : Bs .u8 w vn nonce) (bb : Bs .u8 w vb xb) (bo : Bs .u8 w vo xo) :
    Calls Try.prog 6 #[vk, .int .u32 c, vn, vb, vo] w fun e w' => e = .returned (.bool true) ∧ Below w.heap.size w w' := by
  obtain ⟨n, rfl⟩ := Int.eq_ofNat_of_zero_le hc.1
  exact twice_walk vk vn vb vo key nonce xb xo n (by omega) k8 n8 b8 o8 w bk bn bb bo
end Go.Proofs.Ytikoabnkoicdjaa

/- The walk of the statement 'a great number ahead takes a word of its own'. -/
import Derived.Test.YtjfbokmbpmidbaaWordsW
namespace Go.Proofs.Ytjfbokmbpmidbaa
open Go.RowKit

theorem small_cons {x : Int} {t : List Int} (h : x < 2 ^ 60) : small 60 (x :: t) = small 60 t := by
  unfold small
  rw [List.all_cons, decide_eq_true h, Bool.true_and]
/-- a great number ahead: the error is the list's; else the list's words behind a word of the number's own -/
theorem ENC_behind {x : Nat} {t : List Int} (ht : ∀ y ∈ t, 0 ≤ y) (hl : t.length ≤ 300) (h1 : 576460752303423488 ≤ x) (h2 : x < 1152921504606846976) :
    (ENC ((x : Int) :: t) = ([], 1) ∧ ENC t = ([], 1)) ∨ (∃ b c : List Int, ∃ y : Int, ENC ((x : Int) :: t) = (y :: b ++ c, 0) ∧ ENC t = (c, 0) ∧ b.length = 7 ∧ y / 16 = 15 ∧ 0 ≤ y ∧ y ≤ 255 ∧ (y :: b).length = 8 ∧ c.length ≤ 2400) := by
  have e60 : (2 : Int) ^ 60 = 1152921504606846976 := by decide
  have e30 : (2 : Int) ^ 30 = 1073741824 := by decide
  have hs := small_cons (x := (x : Int)) (t := t) (by omega)
  cases hsm : small 60 t
  · left
    rw [hsm] at hs
    unfold ENC
    rw [if_neg (by simp; omega), if_neg (by simp [hs]), if_neg (by omega), if_neg (by simp [hsm])]
    exact ⟨rfl, rfl⟩
  · right
    rw [hsm] at hs
    have hu := small_up hsm ht
    have hux : Up 60 ((x : Int) :: t) := small_up hs (fun y hy => by
      rcases List.mem_cons.1 hy with rfl | hy
      · omega
      · exact ht y hy)
    have g := enc_great hux (by omega)
    rw [Int.toNat_natCast] at g
    have hf : fixL ((15 * 2 ^ 60 + x : Nat) : Int) 8 = fixB ((15 * 2 ^ 60 + x : Nat) : Int) 7 :: (fixL ((15 * 2 ^ 60 + x : Nat) : Int) 8).tail := rfl
    refine ⟨(fixL ((15 * 2 ^ 60 + x : Nat) : Int) 8).tail, enc t, fixB ((15 * 2 ^ 60 + x : Nat) : Int) 7, ?_, ENC_of hu (by omega), by rw [List.length_tail, fixL_len], ?_, (fixB_range _ _).1, (fixB_range _ _).2, by rw [← hf, fixL_len], by have := (enc_len t.length t rfl hu).2.1; omega⟩
    · rw [ENC_of hux (by simp; omega), g, hf]
      rfl
    · have e1 : (15 * 2 ^ 60 + x : Nat) = 17293822569102704640 + x := by
        have : (15 * 2 ^ 60 : Nat) = 17293822569102704640 := by decide
        omega
      have e2 : (2 : Int) ^ (8 * 7) = 72057594037927936 := by decide
      unfold fixB
      rw [e1, e2]
      omega

set_option maxHeartbeats 1600000 in
set_option maxRecDepth 100000 in
theorem behind_any (v : Int) (va : Value) (xs : List Int) (w : World) (hv : 0 ≤ v ∧ v ≤ 18446744073709551615) (hb : Bs .u64 w va xs) (nc : NoCap va) (hu : U64 xs) :
    Calls Try.prog 8 #[.int .u64 v, va] w fun e w' => e = .returned (.bool true) ∧ Only (fun _ => False) w w' := by
  have AW := hideIt (awake_any w)
  have HB := hideIt hb
  have NC := hideIt nc
  obtain ⟨ao, cap, rfl⟩ := hb.len
  by_cases h1 : 300 < xs.length
  · have d1 : decide ((300 : Int) < xs.length) = true := decide_eq_true (by omega)
    clear HB hb hu nc NC
    generalize xs.length = m at *
    clear h1
    go_enter Try.func8, Try.ntmps8
    go_wp2_with fail
    refine AW.out.mono ?_
    rintro e w1 ⟨rfl, on1⟩
    have O1 := hideIt on1
    clear on1 AW
    go_wp2
    go_ret
    exact ⟨rfl, O1.out⟩
  have d1 : decide ((300 : Int) < xs.length) = false := decide_eq_false (by omega)
  obtain ⟨i0, hi, hz0, hz1, hz2⟩ := info_parts Try.infoU64
  obtain ⟨v0, v1⟩ := hv
  obtain ⟨v, rfl⟩ := Int.eq_ofNat_of_zero_le v0
  obtain ⟨x, hx, hx1, hx2⟩ := or_great v 576460752303423488 (by omega) (by decide)
  have hx' : bits .or .u64 ((v : Int) / 16) 576460752303423488 = (x : Int) := hx
  have CASES := hideIt (ENC_behind (fun y hy => (hu y hy).1) (show xs.length ≤ 300 by omega) hx1 hx2)
  have PB := hideIt (fun (w1 : World) (o : Only (fun _ => False) w w1) => encode_all (.slice ao xs.length cap) xs w1 (HB.out.past o) hu)
  have PA := hideIt (fun (w1 : World) (u : Value) (b : Bs .u64 w1 u ((x : Int) :: xs)) => encode_all u ((x : Int) :: xs) w1 b (fun y hy => by
    rcases List.mem_cons.1 hy with rfl | hy
    · exact ⟨by omega, by omega⟩
    · exact hu y hy))
  obtain ⟨m, hm⟩ : ∃ m, m = xs.length := ⟨_, rfl⟩
  rw [← hm] at HB NC PB d1 h1 ⊢
  have HM := hideIt hm
  clear hb nc hu hx hx1 hx2 hm
  go_enter Try.func8, Try.ntmps8
  go_wp2_with fail
  refine AW.out.mono ?_
  rintro e w1 ⟨rfl, on1⟩
  have O1 := hideIt on1
  have hol := World.ownsRow_lit (base := w1.heap.size) (e := 36) (size := 1) w1 #[.int .u64 (x : Int)] 1 (Nat.le_refl _) (by unfold maxLen; omega) rfl
  have B1 := hideIt ((HB.out.past on1).later ((Below.refl _ w1).alloc (Nat.le_refl _) (.cells #[.int .u64 (x : Int)] 36)))
  have hsz1 : w1.heap.size ≤ (w1.alloc (.cells #[.int .u64 (x : Int)] 36)).heap.size := by simp
  clear on1 AW
  go_wp2_with (at_builtin; refine wpList_append_bs _ rfl _ _ _ rfl w1.heap.size 36 i0 (.int .u64 0) 8 Try.underlying22 hi hz0 hz1 hz2 rfl _ 1 _ rfl hol .u64 _ xs rfl B1.out NC.out ?c3 ?c4 hsz1 ?_)
  case c3 => rw [← HM.out]; unfold maxLen; omega
  case c4 => rw [← HM.out]; omega
  intro v2 w2 own2 hgrow2 _ _
  have own2' : w2.ownsRow w1.heap.size 36 1 v2 ((x : Int) :: xs).length (((x : Int) :: xs).map (Value.int .u64)) := by
    rw [List.length_cons, List.map_cons, Nat.add_comm]; exact own2
  have bl2 : Below w1.heap.size w1 w2 := ((Below.refl _ w1).alloc (Nat.le_refl _) _).grown hgrow2 (by simp) (fun q hq => by simp [Value.ownBlock] at hq; omega)
  have A := hideIt (PA.out w2 v2 (Bs.of_own own2'))
  have O2 := hideIt (O1.out.same (only_of_below bl2))
  obtain ⟨a2, c2, e2⟩ := (Bs.of_own own2').len
  subst e2
  obtain ⟨p2, hp2⟩ : ∃ p2, p2 = ((x : Int) :: xs).length := ⟨_, rfl⟩
  rw [← hp2] at A ⊢
  clear hol B1 hsz1 own2 own2' hgrow2 bl2 PA hp2
  rcases CASES.out with ⟨c1, c2'⟩ | ⟨b, c, y, c1, c2', hbl, hy, hy0, hy1, hyl, hcl⟩
  · rw [c1] at A
    rw [c2'] at PB
    simp only at A PB
    clear CASES c1 c2'
    go_wp2_with fail
    refine A.out.mono ?_
    rintro e w3 ⟨v3, rfl, own3, on3⟩
    have O3 := hideIt (O2.out.same on3)
    have B := hideIt (PB.out w3 O3.out)
    obtain ⟨a3, c3, e3⟩ := (Bs.of_own (k := .u8) (xs := []) own3).len
    subst e3
    clear A own3 on3 PB
    go_wp2_with fail
    refine B.out.mono ?_
    rintro e w4 ⟨v4, rfl, own4, on4⟩
    have O4 := hideIt (O3.out.same on4)
    obtain ⟨a4, c4, e4⟩ := (Bs.of_own (k := .u8) (xs := []) own4).len
    subst e4
    clear B own4 on4
    go_wp2
    go_ret
    exact ⟨rfl, O4.out⟩
  · rw [c1] at A
    rw [c2'] at PB
    simp only at A PB
    have z0 : (y / 16 == 15) = true := by rw [beq_iff_eq]; exact hy
    obtain ⟨q, hq⟩ : ∃ q, q = c.length := ⟨_, rfl⟩
    rw [← hq] at hcl
    have HQ := hideIt hq
    clear CASES c1 c2' hbl hy hq
    go_wp2_with fail
    refine A.out.mono ?_
    rintro e w3 ⟨v3, rfl, own3, on3⟩
    have O3 := hideIt (O2.out.same on3)
    have B3 := hideIt (Bs.of_own own3)
    have B := hideIt (PB.out w3 O3.out)
    obtain ⟨a3, c3, e3⟩ := B3.out.len
    subst e3
    have hcap3 := B3.out.cap_le
    clear A own3 on3 PB
    obtain ⟨p3, hp3⟩ : ∃ p3, p3 = (y :: b ++ c).length := ⟨_, rfl⟩
    rw [← hp3] at B3 hcap3 ⊢
    have hpq : p3 = q + 8 := by rw [hp3, List.length_append, hyl, HQ.out]; omega
    clear hp3
    subst hpq
    go_wp2_with fail
    refine B.out.mono ?_
    rintro e w4 ⟨v4, rfl, own4, on4⟩
    have O4 := hideIt (O3.out.same on4)
    have B34 := hideIt (B3.out.past on4)
    have B4 := hideIt (Bs.of_own own4)
    obtain ⟨a4, c4, e4⟩ := B4.out.len
    subst e4
    rw [← HQ.out] at B4
    clear B own4 on4 B3
    rw [← HQ.out]
    have HDR : Hid ((y :: b ++ c).drop 8 = c) := by simp only [Hid]; rw [← hyl, List.drop_left]
    have e0 : ((q : Int) + 8 == (q : Int) + 8) = true := by simp
    have k0 : (8 : Int) ≤ (q : Int) + 8 := by omega
    have k1 : (8 : Int) ≤ (c3 : Int) := by omega
    have k2 : (0 : Int) < (q : Int) + 8 := by omega
    have k3 : (q : Int) + 8 ≤ (c3 : Int) := by omega
    obtain ⟨bk, off, cp, e5, _⟩ := B34.out.at 0 (by simp)
    simp only [Value.slice.injEq] at e5
    obtain ⟨rfl, e6, rfl⟩ := e5
    clear e6
    have hadd : (⟨bk, off, none⟩ : Addr).add 8 = ⟨bk, off + 8, none⟩ := by unfold Addr.add; split <;> simp_all
    have hp8 : Hid (8 ≤ q + 8) := by simp only [Hid]; omega
    by_cases hc8 : c3 = 8
    · subst hc8
      obtain rfl : q = 0 := by omega
      have SM := same_eq (.slice (some ⟨bk, off, none⟩) 0 0) (.slice a4 0 c4) c w4 (by have := B34.out.cut0 (n := 8) hp8.out; rw [HDR.out, Nat.add_sub_cancel] at this; exact this) B4.out (by rw [← HQ.out]; omega)
      have SM := hideIt SM
      clear B4 HDR e0 k0 k1 k2 k3 hcap3 hcl
      go_wp2_with fail
      refine SM.out.mono ?_
      rintro e w5 ⟨rfl, on5⟩
      have O5 := hideIt (O4.out.same on5)
      obtain ⟨bk', off', cp', e7, hcell⟩ := (B34.out.past on5).at 0 (by simp)
      simp only [Value.slice.injEq, Option.some.injEq, Addr.mk.injEq] at e7
      have hab := e7.1
      clear e7
      obtain ⟨rfl, rfl, _⟩ := hab
      rw [show (y :: b ++ c).getD 0 0 = y from rfl, Nat.add_zero] at hcell
      clear SM on5
      go_wp2
      go_ret
      exact ⟨rfl, O5.out⟩
    · have SM := same_eq (.slice (some ⟨bk, off + 8, none⟩) q (c3 - 8)) (.slice a4 q c4) c w4 (by have := B34.out.cut (n := 8) hp8.out; rw [HDR.out, Nat.add_sub_cancel] at this; simp only [Option.map_some, hadd] at this; exact this) B4.out (by rw [← HQ.out]; omega)
      have SM := hideIt SM
      clear B4 HDR
      go_wp2_with fail
      refine SM.out.mono ?_
      rintro e w5 ⟨rfl, on5⟩
      have O5 := hideIt (O4.out.same on5)
      obtain ⟨bk', off', cp', e7, hcell⟩ := (B34.out.past on5).at 0 (by simp)
      simp only [Value.slice.injEq, Option.some.injEq, Addr.mk.injEq] at e7
      have hab := e7.1
      clear e7
      obtain ⟨rfl, rfl, _⟩ := hab
      rw [show (y :: b ++ c).getD 0 0 = y from rfl, Nat.add_zero] at hcell
      clear SM on5
      go_wp2
      go_ret
      exact ⟨rfl, O5.out⟩
end Go.Proofs.Ytjfbokmbpmidbaa

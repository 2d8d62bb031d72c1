/- The document's answer for pad: Size, Bucket, Pad, Unpad. -/
import Derived.Test.YtfoghkjlpdjmiaaUn19
import Derived.Test.YtfoghkjlpdjmiaaCRef2
import Derived.Test.YtfoghkjlpdjmiaaZb
import Derived.Test.YtfoghkjlpdjmiaaSame2
namespace Go.Proofs.Ytfoghkjlpdjmiaa
open Go.RowKit

set_option maxRecDepth 100000 in
set_option maxHeartbeats 1000000 in
theorem rsize_any (k : Int) (w : World) : Calls Try.prog 13 #[.int .i64 k] w fun e w' => e = .returned (.int .i64 (SZV k)) ∧ w = w' := by
  by_cases h0 : k < 0
  · have HS : Hid (SZV k = 0) := if_neg (by omega)
    have d0 : decide (k < 0) = true := decide_eq_true h0
    clear h0
    go_enter Try.func13, Try.ntmps13
    go_wp2
    go_ret
    rw [HS.out]
    exact ⟨rfl, rfl⟩
  by_cases h8 : 8 < k
  · have HS : Hid (SZV k = 0) := if_neg (by omega)
    have d0 : decide (k < 0) = false := decide_eq_false h0
    have d8 : decide (8 < k) = true := decide_eq_true h8
    clear h0 h8
    go_enter Try.func13, Try.ntmps13
    go_wp2
    go_ret
    rw [HS.out]
    exact ⟨rfl, rfl⟩
  have HS : Hid (SZV k = (PSZ k.toNat : Int)) := if_pos (by omega)
  obtain ⟨k, rfl⟩ := Int.eq_ofNat_of_zero_le (Int.not_lt.1 h0)
  have d0 : decide ((k : Int) < 0) = false := decide_eq_false h0
  have d8 : decide (8 < (k : Int)) = false := decide_eq_false h8
  have hk : k ≤ 8 := by omega
  clear h0 h8
  go_enter Try.func13, Try.ntmps13
  go_wp2
  go_loop [3, 4] (fun z i => ∃ t q : Nat, t ≤ k ∧ i = .int .i64 t ∧ z = .int .i64 q ∧ Hid (q = PSZ t)) (fun _ i => k - (intOf i).toNat)
  case atStart => exact ⟨0, 64, Nat.zero_le _, rfl, rfl, rfl⟩
  case round =>
    obtain ⟨t, q, ht, rfl, rfl, HQ⟩ := hrel
    have hc := PSZ_cases (t := t) (by omega)
    rw [← HQ.out] at hc
    by_cases hlt : t < k
    · have hq : q ≤ 4194304 := by omega
      have dk : decide ((t : Int) < (k : Int)) = true := decide_eq_true (by omega)
      clear hc
      go_wp2
      go_round
      case rel => exact ⟨t + 1, q * 4, by omega, by go_num, by go_num, by show _ = _; rw [HQ.out, PSZ_succ]⟩
      case measure => simp [intOf]; omega
    · have htk : t = k := by omega
      subst htk
      clear hc
      go_wp2
      go_ret
      rw [HS.out, HQ.out]
      exact ⟨rfl, rfl⟩

set_option maxRecDepth 100000 in
set_option maxHeartbeats 1000000 in
theorem rbucket_any (n : Int) (w : World) : Calls Try.prog 11 #[.int .i64 n] w fun e w' => e = .returned (.tuple #[.int .i64 (BKV n), .int .i64 (BKE n)]) ∧ w = w' := by
  by_cases h0 : n < 0
  · have HV : Hid (BKV n = 0 ∧ BKE n = 1) := ⟨if_neg (by omega), if_pos h0⟩
    have d0 : decide (n < 0) = true := decide_eq_true h0
    clear h0
    go_enter Try.func11, Try.ntmps11
    go_wp2
    go_ret2
    rw [HV.out.1, HV.out.2]
    exact ⟨rfl, rfl⟩
  have d0 : decide (n < 0) = false := decide_eq_false h0
  by_cases h8 : 4194300 < n
  · have HV : Hid (BKV n = 0 ∧ BKE n = 4) := ⟨if_neg (by omega), by show BKE _ = _; unfold BKE; rw [if_neg (by omega), if_pos h8]⟩
    have d8 : decide (4194300 < n) = true := decide_eq_true h8
    clear h0 h8
    go_enter Try.func11, Try.ntmps11
    go_wp2
    go_ret2
    rw [HV.out.1, HV.out.2]
    exact ⟨rfl, rfl⟩
  obtain ⟨n, rfl⟩ := Int.eq_ofNat_of_zero_le (Int.not_lt.1 h0)
  have hn : n ≤ 4194300 := by omega
  have HV := hideIt (BKV_nat hn)
  have d8 : decide (4194300 < (n : Int)) = false := decide_eq_false h8
  clear h0 h8
  go_enter Try.func11, Try.ntmps11
  go_wp2
  go_loopw [4] (fun i wr => ∃ t : Nat, t ≤ 8 ∧ i = .int .i64 t ∧ Hid (∀ j, j < t → PSZ j < n + 4) ∧ w = wr) (fun i _ => 8 - (intOf i).toNat)
  case atStart => exact ⟨0, Nat.zero_le _, rfl, (fun j hj => by omega), rfl⟩
  case round =>
    obtain ⟨t, ht, rfl, HJ, rfl⟩ := hrel
    have A := hideIt (rsize_any (t : Int) w)
    have e1 : SZV (t : Int) = (PSZ t : Int) := if_pos (by omega)
    rw [e1] at A
    have hc := PSZ_cases (t := t) (by omega)
    obtain ⟨q, hq⟩ : ∃ q, q = PSZ t := ⟨_, rfl⟩
    rw [← hq] at A hc
    have HQ := hideIt hq
    clear e1 hq
    go_wp2_with fail
    refine A.out.mono ?_
    rintro e w1 ⟨rfl, rfl⟩
    by_cases hlt : q < n + 4
    · have dl : decide ((q : Int) < (n : Int) + 4) = true := decide_eq_true (by omega)
      have h8 : t < 8 := by
        rcases Nat.lt_or_ge t 8 with h | h
        · exact h
        · obtain rfl : t = 8 := by omega
          have h1 := HQ.out
          simp only [PSZ, Nat.reducePow, Nat.reduceMul] at h1
          omega
      have HJ2 : Hid (∀ j, j < t + 1 → PSZ j < n + 4) := fun j hj => by
        rcases Nat.lt_or_ge j t with h | h
        · exact HJ.out j h
        · obtain rfl : j = t := by omega
          rw [← HQ.out]; exact hlt
      clear A hc hlt
      go_wp2
      go_roundw
      case rel => exact ⟨t + 1, by omega, by go_num, HJ2, trivial⟩
      case measure => simp [intOf]; omega
    · have dl : decide ((q : Int) < (n : Int) + 4) = false := decide_eq_false (by omega)
      have e2 : Hid (PBK n = t) := PBK_at (by omega) (by rw [← HQ.out]; omega) HJ.out
      clear A hc hlt
      go_wp2
      go_ret2
      rw [HV.out.1, HV.out.2, e2.out]
      exact ⟨rfl, rfl⟩
set_option maxRecDepth 100000 in
set_option maxHeartbeats 1000000 in
theorem rpad_any (v : Value) (b : List Int) (w : World) (h : Bs .u8 w v b) (nc : NoCap v) :
    Calls Try.prog 15 #[v] w fun e w' => ∃ r, e = .returned (.tuple #[r, .int .i64 (PDe b)]) ∧ w'.ownsRow w.heap.size 5 1 r (PDt b).length (bl (PDt b)) ∧ Only (fun _ => False) w w' := by
  obtain ⟨i0, hi, hz0, hz1, hz2⟩ := info_parts Try.infoU8
  have HB := hideIt (And.intro h nc)
  obtain ⟨ao, cap, rfl⟩ := h.len
  have A := hideIt (rbucket_any (b.length : Int) w)
  by_cases hl : b.length ≤ 4194300
  · have e1 : PDt b = PADL b := if_pos hl
    have e2 : PDe b = 0 := if_pos hl
    rw [e1, e2]
    obtain ⟨e1, e2⟩ := BKV_nat hl
    rw [e1, e2] at A
    have e3 := SZV_bk b.length
    obtain ⟨n, hn⟩ : ∃ n, n = PLN b.length := ⟨_, rfl⟩
    rw [← hn] at e3
    have hn1 := PLN_ge b.length hl
    have hn2 := PLN_le b.length
    rw [← hn] at hn1 hn2
    have hP : PADL b = fixL (b.length : Int) 4 ++ b ++ List.replicate (n - 4 - b.length) 0 := by rw [hn]; rfl
    obtain ⟨m, hm⟩ : ∃ m, m = b.length := ⟨_, rfl⟩
    rw [← hm] at A e3 HB hn1 hP
    have E3 := hideIt e3
    have HM := hideIt hm
    have HP := hideIt hP
    rw [← hm]
    generalize PBK m = q at A E3
    clear h nc hl e1 e2 e3 hn hm hP
    have C := hideIt (rfix_any (m : Int) 4 w (by omega))
    obtain ⟨F, hF⟩ : ∃ F, F = fixL (m : Int) 4 := ⟨_, rfl⟩
    rw [← hF] at C HP
    have hFl : F.length = 4 := by rw [hF, fixL_len]
    clear hF
    go_enter Try.func15, Try.ntmps15
    go_wp2_with fail
    refine A.out.mono ?_
    rintro e w1 ⟨rfl, rfl⟩
    go_wp2_with fail
    refine C.out.mono ?_
    rintro e w3 ⟨u, rfl, own3, o3⟩
    have b3 := HB.out.1.past o3
    rw [hFl] at own3
    have hs3 := o3.size
    have O3 := hideIt o3
    have OWN3 := hideIt own3
    clear A C own3 o3
    go_wp2_with (at_builtin; refine wpList_append_bs _ rfl _ _ 28 rfl w.heap.size 5 i0 (.int .u8 0) 1 Try.underlying28 hi hz0 hz1 hz2 rfl _ 4 (F.map (Value.int .u8)) rfl OWN3.out .u8 _ b rfl b3 HB.out.2 (by rw [← HM.out]; simp only [maxLen]; omega) (by rw [← HM.out]; omega) hs3 ?_)
    intro v4 w4 own4 hg4 _ _
    rw [← HM.out, ← List.map_append] at own4
    obtain ⟨p, hp⟩ : ∃ p, p = 4 + m := ⟨_, rfl⟩
    rw [← hp] at own4
    obtain ⟨a4, c4, e4⟩ := own_form own4
    subst e4
    obtain ⟨r, hr⟩ : ∃ r, r = n - 4 - m := ⟨_, rfl⟩
    have hsub : (n : Int) - (p : Int) = (r : Int) := by omega
    have o4 : Only (fun k => u.ownBlock = some k) w3 w4 := (Only.refl _ _).grown hg4 (fun k _ e => e)
    have hs4 := o4.size
    obtain ⟨v5, w5, hz5, own5, hg5⟩ := zeros_row w4 w.heap.size (.slice a4 p c4) p (F ++ b) own4 r (by omega) (by omega)
    have B := hideIt (rsize_any (q : Int) w4)
    rw [E3.out] at B
    have FIN : Hid (w5.ownsRow w.heap.size 5 1 v5 (PADL b).length (bl (PADL b)) ∧ Only (fun _ => False) w w5) := by
      have hpl : (PADL b).length = p + r := by rw [HP.out, List.length_append, List.length_append, List.length_replicate, hFl, ← HM.out]; omega
      refine ⟨?_, ?_⟩
      · rw [hpl, HP.out, ← hr]; exact own5
      · refine (O3.out.trans o4 (fun k hk e => ?_)).grown hg5 (fun k hk e => ?_)
        · have := (OWN3.out.lt k e).1; omega
        · have := (own4.lt k e).1; omega
    clear own4 hg4 o4 hs4 own5 hg5 hp hr OWN3 E3 HP
    go_wp2_with fail
    refine B.out.mono ?_
    rintro e w6 ⟨rfl, rfl⟩
    go_wp2_with (at_builtin; refine wpList_append_zeros _ rfl _ _ 28 3 rfl _ _ rfl rfl v5 w5 hz5 ?_)
    go_ret2
    exact ⟨_, rfl, FIN.out⟩
  · have e1 : PDt b = [] := if_neg hl
    have e2 : PDe b = 4 := if_neg hl
    rw [e1, e2]
    have e3 : BKE (b.length : Int) = 4 := by unfold BKE; rw [if_neg (by omega), if_pos (by omega)]
    rw [e3] at A
    generalize BKV (b.length : Int) = q at A
    generalize b.length = n at A
    clear h nc hl e1 e2 e3 HB
    go_enter Try.func15, Try.ntmps15
    go_wp2_with fail
    refine A.out.mono ?_
    rintro e w1 ⟨rfl, rfl⟩
    go_wp2
    go_ret2
    exact ⟨_, rfl, World.ownsRow_nil _ _ _ _, Only.refl _ _⟩
set_option maxRecDepth 100000 in
set_option maxHeartbeats 1000000 in
theorem runpad_any (v : Value) (ys : List Int) (w : World) (h : Bs .u8 w v ys) (nc : NoCap v) (h8 : U8 ys) (hl : ys.length ≤ 1000000000000) :
    Calls Try.prog 17 #[v] w fun e w' => ∃ r, e = .returned (.tuple #[r, .int .i64 (PUe ys)]) ∧ Bs .u8 w' r (PUt ys) ∧ Only (fun _ => False) w w' := by
  obtain ⟨i0, hi, hz0, hz1, hz2⟩ := info_parts Try.infoU8
  obtain ⟨ao, cap, rfl⟩ := h.len
  have HB := hideIt h
  have H8 := hideIt h8
  by_cases h4 : (ys.length : Int) < 4
  · have e1 : sFixed 4 ys = (0, 0, 2) := by
      simp only [sFixed]
      rw [if_neg (by omega), if_pos h4]
    have A := hideIt (rfixed_bs ao ys.length cap ys w h nc h8 hl 4 e1)
    have HE : Hid (PUe ys = 3 ∧ PUt ys = []) := by
      have : ¬ POK ys := fun k => by have := (POK_fits k).1; omega
      exact ⟨if_neg this, if_neg this⟩
    generalize ys.length = m at A
    clear h nc h8 h4 hl HB e1
    go_enter Try.func17, Try.ntmps17
    go_wp2_with fail
    refine A.out.mono ?_
    rintro e w1 ⟨ao', m', cap', rfl, _, _, o1⟩
    have O1 := hideIt o1
    clear o1 A
    go_wp2
    go_ret2
    rw [HE.out.1, HE.out.2]
    exact ⟨_, rfl, Bs.nil _ _, O1.out⟩
  have e1 : sFixed 4 ys = ((num (ys.take 4) : Int), 4, 0) := by
    simp only [sFixed]
    rw [if_neg (by omega), if_neg h4]; rfl
  have A := hideIt (rfixed_bs ao ys.length cap ys w h nc h8 hl 4 e1)
  have hlt := PNM_lt h8
  obtain ⟨n, hn⟩ : ∃ n, n = PNM ys := ⟨_, rfl⟩
  have hn' : num (ys.take 4) = n := hn.symm
  rw [hn'] at A
  rw [← hn] at hlt
  obtain ⟨m, hm⟩ : ∃ m, m = ys.length := ⟨_, rfl⟩
  rw [← hm] at A HB ⊢
  have HN := hideIt hn
  have HM := hideIt hm
  have hm12 : m ≤ 1000000000000 := by omega
  have hm4 : 4 ≤ m := by omega
  clear h nc h8 h4 hl e1 hn hn' hm
  go_enter Try.func17, Try.ntmps17
  go_wp2_with fail
  refine A.out.mono ?_
  rintro e w1 ⟨ra, rm, rc, rfl, b1, nc1, o1⟩
  have hrm : rm = m - 4 := by have := b1.length; rw [List.length_drop, ← HM.out] at this; exact this
  have hrc := b1.room
  have hr12 : rm ≤ 1000000000000 := by omega
  by_cases hfit : rm < n
  · have HE : Hid (PUe ys = 3 ∧ PUt ys = []) := by
      have : ¬ POK ys := fun k => by
        have h1 := (POK_fits k).1
        have h2 := HN.out
        have h3 := HM.out
        omega
      exact ⟨if_neg this, if_neg this⟩
    have d1 : decide ((rm : Int) < (n : Int)) = true := decide_eq_true (by omega)
    have O1 := hideIt o1
    clear o1 A b1 nc1
    go_wp2
    go_ret2
    rw [HE.out.1, HE.out.2]
    exact ⟨_, rfl, Bs.nil _ _, O1.out⟩
  have d1 : decide ((rm : Int) < (n : Int)) = false := decide_eq_false (by omega)
  obtain ⟨D, hD⟩ : ∃ D, D = PUN ys := ⟨_, rfl⟩
  have hDD : (ys.drop 4).take n = D := by rw [hD, HN.out]; rfl
  have bh := b1.head (n := n) (by omega)
  rw [hDD] at bh
  have hDl : D.length = n := by have := bh.length; exact this.symm
  have nh := nc1.cut n
  have ho := World.ownsRow_made (base := w1.heap.size) (e := 5) (size := 1) w1 #[] 0 (Nat.le_refl _) (by unfold maxLen; omega) rfl
  have oa : Only (fun _ => False) w1 (w1.alloc (.cells #[] 5)) := (Only.refl _ _).alloc _
  have HA := hideIt (And.intro (bh.past oa) nh)
  have HO := hideIt ho
  have HD := hideIt hD
  have O1 := hideIt o1
  have OA := hideIt oa
  have j0 : (0 : Int) ≤ (n : Int) := by omega
  have j1 : (n : Int) ≤ (rm : Int) := by omega
  have j2 : (n : Int) ≤ (rc : Int) := by omega
  have HRM := hideIt hrm
  clear A b1 nc1 bh nh ho oa hD o1 hDD hrm
  go_wp2_with (at_builtin; refine wpList_append_bs _ rfl _ _ 28 rfl w1.heap.size 5 i0 (.int .u8 0) 1 Try.underlying28 hi hz0 hz1 hz2 rfl _ 0 [] rfl HO.out .u8 _ D rfl HA.out.1 HA.out.2 (by rw [hDl]; unfold maxLen; omega) (by rw [hDl]; omega) (by simp) ?_)
  intro v2 w2 own2 hg2 _ _
  have o2 : Only (fun _ => False) w w2 := (O1.out.same OA.out).grown hg2 (fun k hk e => by
    have h1 := O1.out.size
    simp [Value.ownBlock] at e
    omega)
  have b2 : Bs .u8 w2 v2 D := Bs.of_own (k := .u8) (E := 5) (lo := w1.heap.size) (by rw [hDl]; exact own2)
  have nc2 : NoCap v2 := NoCap.of_own own2
  obtain ⟨va, vc, e2⟩ := own_form own2
  subst e2
  have C := hideIt (rpad_any _ D w2 b2 nc2)
  have B2 := hideIt b2
  have O2 := hideIt o2
  clear own2 hg2 o2 b2 nc2 HO HA O1 OA
  go_wp2_with fail
  refine C.out.mono ?_
  rintro e w3 ⟨r3, rfl, own3, o3⟩
  by_cases hf : D.length ≤ 4194300
  · have e1 : PDt D = PADL D := if_pos hf
    have e2 : PDe D = 0 := if_pos hf
    rw [e1] at own3
    have b3 : Bs .u8 w3 r3 (PADL D) := Bs.of_own own3
    have E := hideIt (same_any r3 (.slice ao m cap) (PADL D) ys w3 b3 (HB.out.past (O2.out.same o3)) (by rw [PADL_len D hf]; have := PLN_le D.length; omega))
    have FR := hideIt (And.intro (B2.out.past o3) (O2.out.same o3))
    rw [e2]
    by_cases heq : PADL D = ys
    · have HE : Hid (PUe ys = 0 ∧ PUt ys = D) := by
        have : POK ys := by rw [← heq]; exact POK_pad D hf
        refine ⟨if_pos this, ?_⟩
        rw [HD.out]; exact if_pos this
      rw [decide_eq_true heq] at E
      clear own3 o3 b3 e1 e2 heq hf C
      go_wp2_with fail
      refine E.out.mono ?_
      rintro e w4 ⟨rfl, o4⟩
      have O4 := hideIt o4
      clear E o4
      go_wp2
      go_ret2
      rw [HE.out.1, HE.out.2]
      exact ⟨_, rfl, FR.out.1.past O4.out, FR.out.2.same O4.out⟩
    · have HE : Hid (PUe ys = 3 ∧ PUt ys = []) := by
        have : ¬ POK ys := fun k => heq (by rw [HD.out]; exact k.2)
        exact ⟨if_neg this, if_neg this⟩
      rw [decide_eq_false heq] at E
      clear own3 o3 b3 e1 e2 heq hf C
      go_wp2_with fail
      refine E.out.mono ?_
      rintro e w4 ⟨rfl, o4⟩
      have O4 := hideIt o4
      clear E o4
      go_wp2
      go_ret2
      rw [HE.out.1, HE.out.2]
      exact ⟨_, rfl, Bs.nil _ _, FR.out.2.same O4.out⟩
  · have e2 : PDe D = 4 := if_neg hf
    have HE : Hid (PUe ys = 3 ∧ PUt ys = []) := by
      have : ¬ POK ys := fun k => hf (by rw [HD.out]; exact k.1)
      exact ⟨if_neg this, if_neg this⟩
    have FR := hideIt (O2.out.same o3)
    rw [e2]
    clear own3 o3 e2 hf C
    go_wp2
    go_ret2
    rw [HE.out.1, HE.out.2]
    exact ⟨_, rfl, Bs.nil _ _, FR.out⟩
end Go.Proofs.Ytfoghkjlpdjmiaa

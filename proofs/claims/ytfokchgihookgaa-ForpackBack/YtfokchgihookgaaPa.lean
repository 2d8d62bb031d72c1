/- Package forpack's Pack. -/
import Derived.Test.YtfokchgihookgaaEn2
import Derived.Test.YtfokchgihookgaaCat
import Derived.Test.YtfokchgihookgaaFm
import Derived.Deep.RegionHeld3
namespace Go.Proofs.Ytfokchgihookgaa
open Go.RowKit

set_option maxHeartbeats 400000 in
set_option maxRecDepth 100000 in
theorem pack_long (v : Value) (xs : List Int) (w : World) (h : Bs .u64 w v xs) (hl : 65536 < xs.length) :
    Calls Try.prog 10 #[v] w fun e w' => e = .returned (.tuple #[.slice none 0 0, .int .i64 4]) ∧ w = w' := by
  obtain ⟨ao, cap, rfl⟩ := h.len
  clear h
  have d0 : decide (65536 < (xs.length : Int)) = true := by simp; omega
  generalize xs.length = m at *
  clear hl
  go_enter Try.func10, Try.ntmps10
  go_wp2
  go_ret2
  exact ⟨rfl, rfl⟩

theorem cat_three (x y z : List Int) : cat (fun i => if i = 0 then x else if i = 1 then y else z) 3 = x ++ y ++ z := by
  rw [cat_succ, cat_succ, cat_succ, cat_zero]; simp

set_option maxHeartbeats 1600000 in
set_option maxRecDepth 100000 in
theorem pack_bs (v : Value) (xs : List Int) (w : World) (h : Bs .u64 w v xs) (hu : U64 xs) (hl : xs.length ≤ 65536) :
    Calls Try.prog 10 #[v] w fun e w' => ∃ v', e = .returned (.tuple #[v', .int .i64 0]) ∧ w'.ownsRow w.heap.size 5 1 v' (PK xs).length ((PK xs).map (Value.int .u8)) ∧ Only (fun _ => False) w w' := by
  have A := hideIt (ends_bs v xs w h (by omega))
  have HBS := hideIt h
  have HU := hideIt hu
  obtain ⟨l1, l2, l3⟩ := lohi hu
  have HW := hideIt (wd_le hu)
  have hwd : Hid (wd xs = wid (hi xs - lo xs).toNat) := rfl
  obtain ⟨ao, cap, rfl⟩ := h.len
  have d0 : decide (65536 < (xs.length : Int)) = false := by simp; omega
  obtain ⟨m, hm⟩ : ∃ m, m = xs.length := ⟨_, rfl⟩
  rw [← hm] at A HBS hl d0 ⊢
  have HM := hideIt hm
  clear h hu hm
  obtain ⟨a, ha⟩ : ∃ a, a = lo xs := ⟨_, rfl⟩
  obtain ⟨c, hc⟩ : ∃ c, c = hi xs := ⟨_, rfl⟩
  rw [← ha, ← hc] at A hwd l2
  rw [← ha] at l1
  rw [← hc] at l3
  have HA := hideIt ha
  have HCC := hideIt hc
  clear ha hc
  go_enter Try.func10, Try.ntmps10
  go_wp2_with fail
  refine A.out.mono ?_
  rintro e w1 ⟨rfl, o1⟩
  clear A
  have HO := hideIt o1
  have BW := hideIt (width_any (c - a) w1 (by omega) (by omega))
  clear o1
  go_wp2_with fail
  refine BW.out.mono ?_
  rintro e w1' ⟨rfl, rfl⟩
  clear BW
  rw [← hwd.out]
  have hq := HW.out
  obtain ⟨q, hqd⟩ : ∃ q, q = wd xs := ⟨_, rfl⟩
  rw [← hqd] at hq ⊢
  have HQ := hideIt hqd
  clear hqd hwd HW
  have hq2 : (q : Int) ≤ 64 := by omega
  have W0 := hideIt (WrAt.new (T := 42) (E := 5) w1)
  have HB0 : Hid (Below w1.heap.size w1 (w1.alloc (.cells #[.slice none 0 0, .int .i64 0] 42))) := (Below.refl _ _).alloc (Nat.le_refl _) _
  have HSZ := HO.out.size
  go_wp2
  go_loopw [24] (fun i wr => ∃ k : Nat, k ≤ m ∧ i = .int .i64 k ∧ Below w1.heap.size w1 wr ∧ ∃ vw, WrAt 42 5 wr (w1.heap.size + 1) w1.heap.size vw (ups a q (xs.take k))) (fun i _ => m - (intOf i).toNat)
  case atStart => exact ⟨0, Nat.zero_le _, rfl, HB0.out, _, W0.out⟩
  case round =>
    obtain ⟨k, hk, rfl, hbw, vw, hwr⟩ := hrel
    clear W0 HB0
    have HBW := hideIt hbw
    have HWR := hideIt hwr
    by_cases hlt : k < m
    · have hkx : k < xs.length := by rw [← HM.out]; exact hlt
      have hb1 := (HBS.out.keep HO.out (fun _ _ f => f)).later hbw
      obtain ⟨b, off, cap', e1, c0⟩ := hb1.at k hkx
      simp only [Value.slice.injEq] at e1
      obtain ⟨rfl, e2, rfl⟩ := e1
      clear e2
      have hxm : xs.getD k 0 ∈ xs := by rw [List.getD_eq_getElem?_getD, List.getElem?_eq_getElem hkx]; simp
      obtain ⟨x0, x1⟩ := HU.out _ hxm
      have x2 := lo_le xs _ hxm
      rw [← HA.out] at x2
      have x3 := wd_fits xs _ hxm
      rw [← HA.out, ← HQ.out] at x3
      have htk : Hid (ups a q (xs.take (k + 1)) = ups a q (xs.take k) ++ bitsOf (xs.getD k 0 - a).toNat q) := by
        simp only [Hid]; rw [take_snoc xs k hkx, ups_snoc]
      have hln : (ups a q (xs.take k)).length ≤ 1000000000 := by
        rw [ups_length, List.length_take]
        have : min k xs.length * q ≤ 65536 * 64 := Nat.mul_le_mul (by omega) hq
        omega
      obtain ⟨x, hx⟩ : ∃ x, x = xs.getD k 0 := ⟨_, rfl⟩
      rw [← hx] at c0 x0 x1 x2 x3 htk
      have PU := hideIt (put_wr hwr (x - a) q (by omega) hq2 (by omega) (by omega) (by omega) hln)
      have dlt : decide ((k : Int) < (m : Int)) = true := by simp; omega
      clear hb1 hx hxm x3 hln hwr hbw hkx
      go_wp2_with fail
      refine PU.out.mono ?_
      rintro e w2 ⟨rfl, vw2, hw2, on2, st2⟩
      have HB2 := hideIt (HBW.out.trans (on2.below (B := w1.heap.size) HBW.out.size (HWR.out.foot_ge (Nat.le_refl _))))
      have HW2 := hideIt hw2
      clear PU hw2 on2 st2
      go_wp2
      go_roundw
      case rel => exact ⟨k + 1, by omega, by simp, HB2.out, vw2, by rw [htk.out]; simpa using HW2.out⟩
      case measure => simp [intOf]; omega
    · obtain rfl : k = m := by omega
      have dlt : decide ((k : Int) < (k : Int)) = false := by simp
      have AP := hideIt (append_any (.slice none 0 0) [] a wr (Bs.nil _ _) NoCap.nil (by simp) l1 (by omega))
      clear hwr hbw
      go_wp2_with fail
      refine AP.out.mono ?_
      rintro e w3 ⟨v3, rfl, own3, on3⟩
      clear AP
      rw [List.nil_append] at own3
      have hq256 : (q : Int) < 256 := by omega
      have HG10 := hideIt (gs_le10 (v := a.toNat) (by omega))
      have W3 := HWR.out.keep ((on3.trans ((Only.refl (fun _ => False) w3).alloc (.cells #[.int .u8 q] 5)) (fun _ _ f => f))) (fun f => f) (fun _ _ f => f)
      have hup : Hid (ups a q (xs.take k) = up xs) := by
        simp only [Hid]; rw [HM.out, List.take_length, up, ← HA.out, ← HQ.out]
      rw [hup.out] at W3
      have hlen : (up xs).length ≤ 65536 * 64 := by rw [up_length, ← HQ.out, ← HM.out]; exact Nat.mul_le_mul hl hq
      have BY := hideIt (bytes_wr W3 (by omega))
      have O3 := hideIt on3
      have W3' := hideIt own3
      have HLEN := hideIt hlen
      clear on3 own3 W3 hlen
      go_wp2_with fail
      refine BY.out.mono ?_
      rintro e w4 ⟨v4, rfl, own4, on4⟩
      have own3 := on4.own (((Only.refl (fun _ => False) w3).alloc (.cells #[.int .u8 q] 5)).own W3'.out (fun _ _ f => f)) (fun _ _ f => f)
      clear BY
      have b1 : Bs .u8 w4 (.slice (some ⟨w3.heap.size, 0, none⟩) 1 1) [(q : Int)] := (Bs.lit .u8 w3 5 [(q : Int)]).keep on4 (fun _ _ f => f)
      have hbl : Below w4.heap.size w4 (w4.alloc (.cells #[v3, .slice (some ⟨w3.heap.size, 0, none⟩) 1 1, v4] 24)) := (Below.refl _ _).alloc (Nat.le_refl _) _
      have CC := hideIt (concat_n w4.heap.size 3 (fun i => if i = 0 then v3 else if i = 1 then .slice (some ⟨w3.heap.size, 0, none⟩) 1 1 else v4) (fun i => if i = 0 then gs a.toNat else if i = 1 then [(q : Int)] else bytesI (up xs)) (w4.alloc (.cells #[v3, .slice (some ⟨w3.heap.size, 0, none⟩) 1 1, v4] 24)) (by omega) (by omega)
        (by intro i hi
            have : i = 0 ∨ i = 1 ∨ i = 2 := by omega
            rcases this with rfl | rfl | rfl <;> go_cell)
        (by intro i hi
            have : i = 0 ∨ i = 1 ∨ i = 2 := by omega
            rcases this with rfl | rfl | rfl
            · exact (Bs.of_own own3).later hbl
            · exact b1.later hbl
            · exact (Bs.of_own own4).later hbl)
        (by intro i hi
            have : i = 0 ∨ i = 1 ∨ i = 2 := by omega
            rcases this with rfl | rfl | rfl
            · exact NoCap.of_own own3
            · exact NoCap.some _ _ _
            · exact NoCap.of_own own4)
        (by rw [cat_three]; simp; omega)
        (by rw [cat_three, List.length_append, List.length_append, bytesI_length, nb]
            have := HLEN.out; have := HG10.out; simp; omega))
      rw [cat_three] at CC
      have O4 := hideIt on4
      obtain ⟨f3, cp3, hv3⟩ := (Bs.of_own own3).len
      obtain ⟨f4, cp4, hv4⟩ := (Bs.of_own own4).len
      subst hv3 hv4
      clear own3 own4 on4 b1 hbl
      go_wp2_with fail
      refine CC.out.mono ?_
      rintro e w5 ⟨v5, rfl, own5, on5⟩
      have hpk : gs a.toNat ++ [(q : Int)] ++ bytesI (up xs) = PK xs := by unfold PK; rw [← HA.out, ← HQ.out]; simp
      rw [hpk] at own5
      have s4 := O4.out.size
      have s3 := O3.out.size
      have sr := HBW.out.size
      simp only [World.size_alloc] at own5 s4
      have own6 := hideIt (own_low own5 (show w.heap.size ≤ w4.heap.size + 1 by omega))
      have bl : Hid (Below w.heap.size w w5) := ((((HO.out.low (Nat.le_refl _)).trans (HBW.out.mono HSZ)).trans (O3.out.low (by omega))).trans ((((Below.refl _ w3).alloc (by omega) _)).trans (O4.out.low (by simp; omega)))).trans (((Below.refl _ w4).alloc (by omega) _).trans (on5.low (by simp; omega)))
      clear own5 on5 CC hpk
      obtain ⟨f5, cp5, hv5⟩ := (Bs.of_own own6.out).len
      subst hv5
      go_wp2
      go_ret2
      exact ⟨_, rfl, own6.out, only_of_below bl.out⟩
end Go.Proofs.Ytfokchgihookgaa

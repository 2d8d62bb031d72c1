/- How few bytes more; a length in eight bytes; the same as the document says them: full, length. -/
import Derived.Test.YtjiippbjflpkkaaAm
import Derived.Test.YtjiippbjflpkkaaAp0
namespace Go.Proofs.Ytjiippbjflpkkaa
open Go.RowKit

theorem le_byte (m k : Nat) : ((m / 256 ^ k % 256 : Nat) : Int) = (m : Int) / 2 ^ (8 * k) % 256 := by
  have h : (256 : Nat) ^ k = 2 ^ (8 * k) := by rw [Nat.pow_mul]
  rw [h]
  simp
theorem Only.ge {lo : Nat} {a b c : World} (h : Only (fun k => lo ≤ k) a b) (k : Only (fun k => lo ≤ k) b c) : Only (fun k => lo ≤ k) a c := h.trans k (fun _ _ e => e)
theorem Only.fresh {lo : Nat} {a b c : World} (h : Only (fun _ => False) a b) (hl : a.heap.size ≤ lo) (k : Only (fun k => lo ≤ k) b c) : Only (fun _ => False) a c := h.trans k (fun i hi e => by omega)
set_option maxHeartbeats 400000 in
theorem lacking_any (n : Nat) (hn : n ≤ 1000000000000) (w : World) : Calls Try.prog 40 #[.int .i64 (n : Int)] w fun e w' => e = .returned (.int .i64 ((flN n : Nat) : Int)) ∧ w = w' := by
  obtain ⟨r, hr⟩ : ∃ r, r = n % 16 := ⟨_, rfl⟩
  have e1 : (n : Int) % 16 = (r : Int) := by omega
  have hr16 : r < 16 := by omega
  have HF : Hid (flN n = (16 - r) % 16) := by show _ = _; unfold flN; rw [hr]
  clear hr
  go_enter Try.func40, Try.ntmps40
  go_wp2
  go_ret
  refine ⟨ret_int ?_, rfl⟩
  rw [HF.out]
  omega
set_option maxHeartbeats 800000 in
set_option maxRecDepth 100000 in
theorem alen_own (v : Value) (lo n m : Nat) (xs : List Int) (hm : m ≤ 1000000000000) (hn : n ≤ 1000000000000) (w : World) (hown : w.ownsRow lo 5 1 v n (bl xs)) (hlo : lo ≤ w.heap.size) :
    Calls Try.prog 41 #[v, .int .i64 (m : Int)] w fun e w' => ∃ v', e = .returned v' ∧ w'.ownsRow lo 5 1 v' (n + 8) (bl (xs ++ leB 8 m)) ∧ Only (fun k => lo ≤ k) w w' := by
  obtain ⟨i0, hi, hz0, hz1, hz2⟩ := info_parts Try.infoU8
  have S0 : Hid (w.ownsRow lo 5 1 v (n + 0) (bl (xs ++ leB 0 m))) := by
    show World.ownsRow _ _ _ _ _ _ _
    rw [show leB 0 m = [] from rfl, List.append_nil]; exact hown
  clear hown
  go_enter Try.func41, Try.ntmps41
  go_wp2
  go_loopw [0, 6] (fun o i wr => ∃ k : Nat, k ≤ 8 ∧ i = .int .i64 k ∧ wr.ownsRow lo 5 1 o (n + k) (bl (xs ++ leB k m)) ∧ Only (fun k => lo ≤ k) w wr) (fun _ i _ => 8 - (intOf i).toNat)
  case atStart => exact ⟨0, by omega, rfl, S0.out, Only.refl _ _⟩
  case round =>
    obtain ⟨k, hk, rfl, hown, hon⟩ := hrel
    have hsz := hon.size
    by_cases hlt : k < 8
    · obtain ⟨ao1, cap1, rfl⟩ := own_form hown
      have HX : Hid (bl (xs ++ leB (k + 1) m) = bl (xs ++ leB k m) ++ [(m : Int) / 2 ^ (8 * k) % 256].map (Value.int .u8)) := by
        show _ = _
        rw [leB_next, le_byte, ← List.append_assoc]
        exact List.map_append ..
      obtain ⟨L, hL⟩ : ∃ L, L = bl (xs ++ leB k m) := ⟨_, rfl⟩
      rw [← hL] at hown HX
      have HOWN := hideIt hown
      have HON := hideIt hon
      obtain ⟨s, hs⟩ : ∃ s, s = 8 * k := ⟨_, rfl⟩
      have s2 : (k : Int) * 8 = (s : Int) := by omega
      have s3 : (s : Int) ≤ 56 := by omega
      rw [← hs] at HX
      obtain ⟨q, hq⟩ : ∃ q, q = n + k := ⟨_, rfl⟩
      have hql : q ≤ 1000000000100 := by omega
      rw [← hq] at HOWN ⊢
      obtain ⟨x, hx⟩ : ∃ x, x = (m : Int) / 2 ^ s % 256 := ⟨_, rfl⟩
      have BL := hideIt (Bs.litN .u8 wr 5 [(m : Int) / 2 ^ s % 256] _ _ rfl rfl)
      have HQ := hideIt hq
      clear hown hon hs hL hx hq
      go_wp2_with (at_builtin; refine wpList_append_bs _ rfl _ _ 22 rfl lo 5 i0 (.int .u8 0) 1 Try.underlying22 hi hz0 hz1 hz2 rfl _ q L rfl (HOWN.out.alloc _) .u8 _ [(m : Int) / 2 ^ s % 256] rfl BL.out (NoCap.some _ _ _) (by simp [maxLen]; omega) (by simp; omega) (by simp; omega) ?_; intro v' w3 hown' hgrow2 hnil2 hob2)
      have M1 : Hid (w3.ownsRow lo 5 1 v' (n + (k + 1)) (bl (xs ++ leB (k + 1) m)) ∧ Only (fun k => lo ≤ k) w w3) := by
        refine ⟨?_, (HON.out.alloc _).grown hgrow2 (fun j hj e => (HOWN.out.lt j e).1)⟩
        rw [HX.out, show n + (k + 1) = q + 1 by rw [HQ.out]; omega]
        exact hown'
      clear hown' hgrow2 hnil2 hob2 HOWN HON BL HX
      go_wp2
      go_roundw
      case rel => exact ⟨k + 1, by omega, by go_num, M1.out⟩
      case measure => simp [intOf]; omega
    · obtain rfl : k = 8 := by omega
      have F1 := hideIt (And.intro hown hon)
      clear hown hon
      go_wp2
      go_ret
      exact ⟨_, rfl, F1.out⟩

set_option maxHeartbeats 800000 in
set_option maxRecDepth 100000 in
theorem rlength_own (v : Value) (lo n m : Nat) (xs : List Int) (hm : m ≤ 1000000000000) (hn : n ≤ 1000000000000) (w : World) (hown : w.ownsRow lo 5 1 v n (bl xs)) (hlo : lo ≤ w.heap.size) :
    Calls Try.prog 25 #[v, .int .i64 (m : Int)] w fun e w' => ∃ v', e = .returned v' ∧ w'.ownsRow lo 5 1 v' (n + 8) (bl (xs ++ leB 8 m)) ∧ Only (fun k => lo ≤ k) w w' := by
  obtain ⟨i0, hi, hz0, hz1, hz2⟩ := info_parts Try.infoU8
  have S0 : Hid (w.ownsRow lo 5 1 v (n + 0) (bl (xs ++ leB 0 m))) := by
    show World.ownsRow _ _ _ _ _ _ _
    rw [show leB 0 m = [] from rfl, List.append_nil]; exact hown
  clear hown
  go_enter Try.func25, Try.ntmps25
  go_wp2
  go_loopw [0, 5] (fun o i wr => ∃ k : Nat, k ≤ 8 ∧ i = .int .i64 k ∧ wr.ownsRow lo 5 1 o (n + k) (bl (xs ++ leB k m)) ∧ Only (fun k => lo ≤ k) w wr) (fun _ i _ => 8 - (intOf i).toNat)
  case atStart => exact ⟨0, by omega, rfl, S0.out, Only.refl _ _⟩
  case round =>
    obtain ⟨k, hk, rfl, hown, hon⟩ := hrel
    have hsz := hon.size
    by_cases hlt : k < 8
    · obtain ⟨ao1, cap1, rfl⟩ := own_form hown
      have HX : Hid (bl (xs ++ leB (k + 1) m) = bl (xs ++ leB k m) ++ [(m : Int) / 2 ^ (8 * k) % 256].map (Value.int .u8)) := by
        show _ = _
        rw [leB_next, le_byte, ← List.append_assoc]
        exact List.map_append ..
      obtain ⟨L, hL⟩ : ∃ L, L = bl (xs ++ leB k m) := ⟨_, rfl⟩
      rw [← hL] at hown HX
      have HOWN := hideIt hown
      have HON := hideIt hon
      obtain ⟨s, hs⟩ : ∃ s, s = 8 * k := ⟨_, rfl⟩
      have s2 : 8 * (k : Int) = (s : Int) := by omega
      have s3 : (s : Int) ≤ 56 := by omega
      rw [← hs] at HX
      obtain ⟨q, hq⟩ : ∃ q, q = n + k := ⟨_, rfl⟩
      have hql : q ≤ 1000000000100 := by omega
      rw [← hq] at HOWN ⊢
      have BL := hideIt (Bs.litN .u8 wr 5 [(m : Int) / 2 ^ s % 256] _ _ rfl rfl)
      have HQ := hideIt hq
      clear hown hon hs hL hq
      go_wp2_with (at_builtin; refine wpList_append_bs _ rfl _ _ 22 rfl lo 5 i0 (.int .u8 0) 1 Try.underlying22 hi hz0 hz1 hz2 rfl _ q L rfl (HOWN.out.alloc _) .u8 _ [(m : Int) / 2 ^ s % 256] rfl BL.out (NoCap.some _ _ _) (by simp [maxLen]; omega) (by simp; omega) (by simp; omega) ?_; intro v' w3 hown' hgrow2 hnil2 hob2)
      have M1 : Hid (w3.ownsRow lo 5 1 v' (n + (k + 1)) (bl (xs ++ leB (k + 1) m)) ∧ Only (fun k => lo ≤ k) w w3) := by
        refine ⟨?_, (HON.out.alloc _).grown hgrow2 (fun j hj e => (HOWN.out.lt j e).1)⟩
        rw [HX.out, show n + (k + 1) = q + 1 by rw [HQ.out]; omega]
        exact hown'
      clear hown' hgrow2 hnil2 hob2 HOWN HON BL HX
      go_wp2
      go_roundw
      case rel => exact ⟨k + 1, by omega, by go_num, M1.out⟩
      case measure => simp [intOf]; omega
    · obtain rfl : k = 8 := by omega
      have F1 := hideIt (And.intro hown hon)
      clear hown hon
      go_wp2
      go_ret
      exact ⟨_, rfl, F1.out⟩
set_option maxHeartbeats 800000 in
set_option maxRecDepth 100000 in
theorem rfull_own (v u : Value) (lo n : Nat) (xs ys : List Int) (hy : ys.length ≤ 100000000000) (hn : n ≤ 1000000000000) (w : World) (hown : w.ownsRow lo 5 1 v n (bl xs)) (hlo : lo ≤ w.heap.size) (hb : Bs .u8 w u ys) (hnc : NoCap u) :
    Calls Try.prog 24 #[v, u] w fun e w' => ∃ v', e = .returned v' ∧ w'.ownsRow lo 5 1 v' (n + (fl ys).length) (bl (xs ++ fl ys)) ∧ Only (fun k => lo ≤ k) w w' := by
  obtain ⟨i0, hi, hz0, hz1, hz2⟩ := info_parts Try.infoU8
  have HB := hideIt (And.intro hb hnc)
  have HOWN := hideIt hown
  obtain ⟨ua, uc, rfl⟩ := hb.len
  have HF := hideIt (flN_step ys.length)
  obtain ⟨m, hm⟩ : ∃ m, m = ys.length := ⟨_, rfl⟩
  have HM := hideIt hm
  have hml : m ≤ 100000000000 := by omega
  have hfl : (fl ys).length = m + flN m := by rw [fl_len, hm]
  have hfs : fl ys = ys ++ List.replicate (flN m) 0 := by rw [fl, hm]
  rw [hfl, hfs]
  rw [← hm] at HF HB ⊢
  obtain ⟨f, hf⟩ : ∃ f, f = flN m := ⟨_, rfl⟩
  have hf15 : f ≤ 15 := by rw [hf]; exact flN_le m
  rw [← hf] at HF ⊢
  clear hb hnc hown hm hy hfl hfs hf
  go_enter Try.func24, Try.ntmps24
  go_wp2_with (at_builtin; refine wpList_append_bs _ rfl _ _ 22 rfl lo 5 i0 (.int .u8 0) 1 Try.underlying22 hi hz0 hz1 hz2 rfl v n (bl xs) rfl HOWN.out .u8 (.slice ua m uc) ys rfl HB.out.1 HB.out.2 (by rw [← HM.out]; unfold maxLen; omega) (by rw [← HM.out]; omega) (by omega) ?_; intro v1 w1 hown1 hgrow1 hnil1 hob1)
  have S0 : Hid (w1.ownsRow lo 5 1 v1 (n + (m + 0)) (bl (xs ++ (ys ++ List.replicate 0 0))) ∧ Only (fun k => lo ≤ k) w w1) := by
    refine ⟨?_, (Only.refl _ _).grown hgrow1 (fun j hj e => (HOWN.out.lt j e).1)⟩
    have h := hown1
    rw [← HM.out] at h
    unfold bl at h ⊢
    rw [List.replicate_zero, List.append_nil, List.map_append]
    exact h
  clear hown1 hgrow1 hnil1 hob1 HOWN HB
  go_wp2
  go_loopw [0, 5] (fun o i wr => ∃ k : Nat, k ≤ f ∧ i = .int .i64 ((m + k : Nat) : Int) ∧ wr.ownsRow lo 5 1 o (n + (m + k)) (bl (xs ++ (ys ++ List.replicate k 0))) ∧ Only (fun k => lo ≤ k) w wr) (fun _ i _ => m + f - (intOf i).toNat)
  case atStart => exact ⟨0, by omega, rfl, S0.out⟩
  case round =>
    obtain ⟨k, hk, rfl, hown, hon⟩ := hrel
    clear S0
    have hsz := hon.size
    obtain ⟨ao1, cap1, rfl⟩ := own_form hown
    have hst := HF.out k hk
    obtain ⟨r, hr⟩ : ∃ r, r = m + k := ⟨_, rfl⟩
    have HR := hideIt hr
    have hrl : r ≤ 100000000015 := by omega
    rw [← hr] at hst hown ⊢
    by_cases hlt : k < f
    · have ht : ((r : Int) % 16 != 0) = true := by rw [bne_iff_ne]; omega
      have ht2 : ((r : Int).tmod 16 != 0) = true := by rw [Int.tmod_eq_emod_of_nonneg (by omega)]; exact ht
      have HX : Hid (bl (xs ++ (ys ++ List.replicate (k + 1) 0)) = bl (xs ++ (ys ++ List.replicate k 0)) ++ [(0 : Int)].map (Value.int .u8)) := by
        show _ = _
        rw [List.replicate_succ', ← List.append_assoc ys, ← List.append_assoc xs]
        exact List.map_append ..
      obtain ⟨L, hL⟩ : ∃ L, L = bl (xs ++ (ys ++ List.replicate k 0)) := ⟨_, rfl⟩
      rw [← hL] at hown HX
      have HOWN := hideIt hown
      have HON := hideIt hon
      have BL := hideIt (Bs.litN .u8 wr 5 [0] _ _ rfl rfl)
      obtain ⟨q, hq⟩ : ∃ q, q = n + r := ⟨_, rfl⟩
      have HQ := hideIt hq
      have hql : q ≤ 1200000000015 := by omega
      rw [← hq] at HOWN ⊢
      clear hown hon hL hst hr hq
      go_wp2_with (at_builtin; refine wpList_append_bs _ rfl _ _ 22 rfl lo 5 i0 (.int .u8 0) 1 Try.underlying22 hi hz0 hz1 hz2 rfl _ q L rfl (HOWN.out.alloc _) .u8 _ [0] rfl BL.out (NoCap.some _ _ _) (by simp [maxLen]; omega) (by simp; omega) (by simp; omega) ?_; intro v' w3 hown' hgrow2 hnil2 hob2)
      have M1 : Hid (w3.ownsRow lo 5 1 v' (n + (m + (k + 1))) (bl (xs ++ (ys ++ List.replicate (k + 1) 0))) ∧ Only (fun k => lo ≤ k) w w3) := by
        refine ⟨?_, (HON.out.alloc _).grown hgrow2 (fun j hj e => (HOWN.out.lt j e).1)⟩
        rw [HX.out, show n + (m + (k + 1)) = q + 1 by rw [HQ.out, HR.out]; omega]
        exact hown'
      clear hown' hgrow2 hnil2 hob2 HOWN HON BL HX
      go_wp2
      go_roundw
      case rel => exact ⟨k + 1, by omega, by rw [HR.out]; go_num, M1.out⟩
      case measure =>
        have := HR.out
        simp [intOf]; omega
    · obtain rfl : k = f := by omega
      have ht : ((r : Int) % 16 != 0) = false := by rw [bne_eq_false_iff_eq]; omega
      have ht2 : ((r : Int).tmod 16 != 0) = false := by rw [Int.tmod_eq_emod_of_nonneg (by omega)]; exact ht
      rw [hr] at hown
      have F1 := hideIt (And.intro hown hon)
      clear hown hon hst hr
      go_wp2
      go_ret
      refine ⟨_, rfl, ?_⟩
      rw [HR.out]
      exact F1.out
end Go.Proofs.Ytjiippbjflpkkaa

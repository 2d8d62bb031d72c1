/- Contracts of the reference for varints: Append, Size, Zig, Zag, Read. -/
import Derived.Test.YtiolgenaefillaaGreatG2
namespace Go.Proofs.YtiolgenaefillaaGreat
open Go.RowKit

set_option maxHeartbeats 800000 in
set_option maxRecDepth 100000 in
theorem rappend_any (va : Value) (xs : List Int) (v : Int) (w : World) (ha : Bs .u8 w va xs) (na : NoCap va) (hl : xs.length ≤ 1000000000) (h0 : 0 ≤ v) (h1 : v ≤ 18446744073709551615) :
    Calls Tryz.prog 29 #[va, .int .u64 v] w fun e w' => ∃ v', e = .returned v' ∧ w'.ownsRow w.heap.size 5 1 v' (xs ++ gs v.toNat).length ((xs ++ gs v.toNat).map (Value.int .u8)) ∧ Only (fun _ => False) w w' := by
  obtain ⟨i0, hi, hz0, hz1, hz2⟩ := info_parts Tryz.infoU8
  have ho := World.ownsRow_made (base := w.heap.size) (e := 5) (size := 1) w #[] 0 (Nat.le_refl _) (by unfold maxLen; omega) rfl
  have H10 := hideIt (gs_le10 (v := v.toNat) (by omega))
  have HA := hideIt (ha.later ((Below.refl _ _).alloc (Nat.le_refl _) (.cells #[] 5)))
  have NA := hideIt na
  obtain ⟨aa, ca, rfl⟩ := ha.len
  obtain ⟨m, hm⟩ : ∃ m, m = xs.length := ⟨_, rfl⟩
  rw [← hm] at hl HA NA
  rw [← hm]
  have HM := hideIt hm
  clear ha na hm
  go_enter Tryz.func29, Tryz.ntmps29
  go_wp2_with (at_builtin; refine wpList_append_bs _ rfl _ _ _ rfl w.heap.size 5 i0 (.int .u8 0) 1 Tryz.underlying23 hi hz0 hz1 hz2 rfl _ 0 [] rfl ho .u8 _ xs rfl HA.out NA.out ?c3 ?c4 ?c5 ?_)
  case c3 => rw [← HM.out]; unfold maxLen; omega
  case c4 => rw [← HM.out]; omega
  case c5 => simp
  intro v' w1 hown1 hgrow _ _
  rw [← HM.out] at hown1
  have START : Hid (w1.ownsRow w.heap.size 5 1 v' m (xs.map (Value.int .u8)) ∧ Below w.heap.size w w1) := by
    refine ⟨hown1, ((Below.refl _ _).alloc (Nat.le_refl _) _).grown hgrow (by simp) (fun q hq => ?_)⟩
    simp [Value.ownBlock] at hq
    omega
  clear hown1 hgrow ho
  go_wp2
  go_loopw [1, 5] (fun a o wr => ∃ (x k : Nat) (p : List Int), a = .int .u64 x ∧ x < 18446744073709551616 ∧ p ++ gs x = gs v.toNat ∧ k = m + p.length ∧ wr.ownsRow w.heap.size 5 1 o k ((xs ++ p).map (Value.int .u8)) ∧ Below w.heap.size w wr) (fun a _ _ => (intOf a).toNat)
  case atStart => exact ⟨v.toNat, m, [], by rw [Int.toNat_of_nonneg h0], by omega, rfl, rfl, by rw [List.append_nil]; exact START.out.1, START.out.2⟩
  case round =>
    obtain ⟨x, k, p, rfl, hx, hp, hk, hown, hbel⟩ := hrel
    have hk9 : k ≤ m + 9 := by
      have h := congrArg List.length hp
      have := H10.out
      have := gs_pos x
      rw [List.length_append] at h
      omega
    have HP := hideIt hp
    have HK := hideIt hk
    have hsz := hbel.size
    clear hp hk START
    by_cases hlt : 127 < x
    · have hlt' : decide (0 < (x : Int) / 128) = true := by simp; omega
      obtain ⟨r, hr⟩ : ∃ r : Nat, r = x % 128 := ⟨_, rfl⟩
      have hr1 : r < 128 := by omega
      have hr2 : ((x : Int) % 128) = (r : Int) := by omega
      have HR := hideIt hr
      clear hr
      go_wp2_with (at_builtin; refine wpList_append_lies _ rfl _ _ _ rfl w.heap.size 5 i0 (.int .u8 0) 1 1 Tryz.underlying23 hi hz0 hz1 hz2 rfl (by omega) _ k ((xs ++ p).map (Value.int .u8)) rfl (hown.alloc _) ⟨wr.heap.size, 0, none⟩ 1 1 [.int .u8 ((r : Int) + 128)] rfl rfl ?c1 ?c2 (by omega) ?c3 ?c4 ?c5 (wr.heap.size + 1) (by simp) ?_)
      case c1 => exact cell_one_new _ _ _
      case c2 => intro u hu; simp at hu; subst hu; rfl
      case c3 => unfold maxLen; omega
      case c4 => omega
      case c5 => simp; omega
      intro g cap1 w1 hown1 hgrow hat hg1
      have hb1 : Below w.heap.size w w1 := (hbel.alloc hbel.size _).grown hgrow (by simp; omega) (fun q hq => (hown.lt q hq).1)
      have hown2 : w1.ownsRow w.heap.size 5 1 (.slice (some ⟨g, 0, none⟩) (k + 1) cap1) (k + 1) ((xs ++ (p ++ [(r : Int) + 128])).map (Value.int .u8)) := by
        rw [List.map_append, List.map_append]; exact hown1
      clear hown hown1 hgrow hat hbel
      go_wp2
      go_roundw
      case rel =>
        refine ⟨x / 128, k + 1, p ++ [(r : Int) + 128], by go_num, by omega, ?_, by rw [List.length_append, HK.out]; rfl, hown2, hb1⟩
        rw [← HP.out, gs_big (v := x) (by omega), ← HR.out]
        simp
      case measure => simp [intOf]; omega
    · have hlt' : decide (0 < (x : Int) / 128) = false := by simp; omega
      go_wp2_with (at_builtin; refine wpList_append_lies _ rfl _ _ _ rfl w.heap.size 5 i0 (.int .u8 0) 1 1 Tryz.underlying23 hi hz0 hz1 hz2 rfl (by omega) _ k ((xs ++ p).map (Value.int .u8)) rfl (hown.alloc _) ⟨wr.heap.size, 0, none⟩ 1 1 [.int .u8 (x : Int)] rfl rfl ?c1 ?c2 (by omega) ?c3 ?c4 ?c5 (wr.heap.size + 1) (by simp) ?_)
      case c1 => exact cell_one_new _ _ _
      case c2 => intro u hu; simp at hu; subst hu; rfl
      case c3 => unfold maxLen; omega
      case c4 => omega
      case c5 => simp; omega
      intro g cap1 w1 hown1 hgrow hat hg1
      have hb1 : Below w.heap.size w w1 := (hbel.alloc hbel.size _).grown hgrow (by simp; omega) (fun q hq => (hown.lt q hq).1)
      have hown2 : Hid (w1.ownsRow w.heap.size 5 1 (.slice (some ⟨g, 0, none⟩) (k + 1) cap1) (xs ++ gs v.toNat).length ((xs ++ gs v.toNat).map (Value.int .u8))) := by
        have e : (xs ++ gs v.toNat).length = k + 1 := by
          rw [← HP.out, gs_small (v := x) (by omega), List.length_append, List.length_append, ← HM.out, HK.out]; rfl
        rw [e, ← HP.out, gs_small (v := x) (by omega), List.map_append, List.map_append]; exact hown1
      have hb2 := hideIt hb1
      clear hown hown1 hgrow hat hbel hb1
      go_wp2
      go_ret
      exact ⟨_, rfl, hown2.out, only_of_below hb2.out⟩

theorem v_add_step (k acc : Nat) (c : Int) (hk : k ≤ 9) (hacc : acc < 128 ^ k) (c0 : 0 ≤ c) (c1 : c ≤ 255) (h9 : k = 9 → c ≤ 1) :
    IntKind.u64.wrap ((acc : Int) + IntKind.u64.wrap (c % 128 * 2 ^ (7 * k))) = ((acc + (c % 128).toNat * 128 ^ k : Nat) : Int) ∧ acc + (c % 128).toNat * 128 ^ k < 128 ^ (k + 1) := by
  obtain ⟨m, rfl⟩ := Int.eq_ofNat_of_zero_le c0
  have e : ((m : Int) % 128).toNat = m % 128 := by omega
  have e2 : ((m : Int) % 128) = ((m % 128 : Nat) : Int) := by omega
  rw [e, e2]
  have p1 : (2 : Nat) ^ (7 * k) = 128 ^ k := by rw [Nat.pow_mul]
  have w2 : ((m % 128 : Nat) : Int) * 2 ^ (7 * k) = ((m % 128 * 128 ^ k : Nat) : Int) := by
    rw [← p1]; simp
  have hlt : acc + m % 128 * 128 ^ k < 18446744073709551616 := by
    rcases Nat.lt_or_ge k 9 with h | h
    · have h1 : m % 128 * 128 ^ k ≤ 127 * 128 ^ k := Nat.mul_le_mul_right _ (by omega)
      have h2 : 128 ^ k ≤ 128 ^ 8 := Nat.pow_le_pow_right (by omega) (by omega)
      have h3 : (128 : Nat) ^ 8 = 72057594037927936 := by decide
      omega
    · have hk : k = 9 := by omega
      subst hk
      have := h9 rfl
      have h3 : (128 : Nat) ^ 9 = 9223372036854775808 := by decide
      have h1 : m % 128 * 128 ^ 9 ≤ 1 * 128 ^ 9 := Nat.mul_le_mul_right _ (by omega)
      omega
  have w3 : IntKind.u64.wrap ((m % 128 * 128 ^ k : Nat) : Int) = ((m % 128 * 128 ^ k : Nat) : Int) := by rw [IntKind.wrap_u64]; omega
  have w4 : IntKind.u64.wrap ((acc : Int) + ((m % 128 * 128 ^ k : Nat) : Int)) = ((acc + m % 128 * 128 ^ k : Nat) : Int) := by rw [IntKind.wrap_u64]; omega
  rw [w2, w3, w4]
  refine ⟨rfl, ?_⟩
  rw [Nat.pow_succ]
  have h1 : m % 128 * 128 ^ k ≤ 127 * 128 ^ k := Nat.mul_le_mul_right _ (by omega)
  omega

set_option maxHeartbeats 800000 in
set_option maxRecDepth 100000 in
theorem rread_bs (va : Value) (xs : List Int) (w : World) (ha : Bs .u8 w va xs) (hr : ∀ x ∈ xs, 0 ≤ x ∧ x ≤ 255) :
    Calls Tryz.prog 87 #[va] w fun e w' => e = .returned (rdVal (rd 0 0 xs)) ∧ w = w' := by
  have HA := hideIt ha
  have HR := hideIt hr
  obtain ⟨aa, ca, rfl⟩ := ha.len
  obtain ⟨n, hn⟩ : ∃ n, n = xs.length := ⟨_, rfl⟩
  rw [← hn] at HA
  rw [← hn]
  have HN := hideIt hn
  obtain ⟨R, hR⟩ : ∃ R, R = rd 0 0 xs := ⟨_, rfl⟩
  rw [← hR]
  have HRD := hideIt hR
  clear ha hr hn hR
  go_enter Tryz.func87, Tryz.ntmps87
  go_wp2
  go_loop [5, 6] (fun a i => ∃ (k : Nat) (acc : Nat), k ≤ n ∧ k ≤ 9 ∧ i = .int .i64 k ∧ a = .int .u64 acc ∧ acc < 128 ^ k ∧ rd k acc (xs.drop k) = R) (fun _ i => n - (intOf i).toNat)
  case atStart => exact ⟨0, 0, by omega, by omega, rfl, rfl, by simp, by simpa using HRD.out.symm⟩
  case round =>
    obtain ⟨k, acc, hk, hk9, rfl, rfl, hacc, hrd⟩ := hrel
    by_cases hlt : k < n
    · obtain ⟨b, off, cap', e1, hc⟩ := HA.out.at k (by rw [← HN.out]; exact hlt)
      have ea : aa = some ⟨b, off, none⟩ := by simp at e1; exact e1.1
      subst ea
      clear e1
      have hcr := HR.out (xs.getD k 0) (by rw [List.getD_eq_getElem?_getD, List.getElem?_eq_getElem (by rw [← HN.out]; exact hlt)]; simp)
      rw [rd_at xs k _ (by rw [← HN.out]; exact hlt)] at hrd
      generalize xs.getD k 0 = c at hc hcr hrd
      have HD := hideIt hrd
      have HACC := hideIt hacc
      clear hrd hacc
      have i0 : (0 : Int) ≤ (k : Int) := by omega
      have i1 : (k : Int) < (n : Int) := by omega
      by_cases hF : k = 9 ∧ 1 < c
      · obtain ⟨rfl, h1c⟩ := hF
        have hRR : R = (0, 0, 3) := by have := HD.out; rw [if_pos ⟨rfl, h1c⟩] at this; exact this.symm
        subst hRR
        go_wp2
        go_ret3
        exact ⟨rfl, rfl⟩
      · have OS := hideIt (v_add_step k acc c hk9 HACC.out hcr.1 hcr.2 (by omega))
        by_cases h128 : 128 ≤ c
        · have d9 : ((k : Int) == 9) = false := by simp; omega
          go_wp2
          go_round
          case rel =>
            refine ⟨k + 1, acc + (c % 128).toNat * 128 ^ k, by omega, by omega, by go_num, by rw [OS.out.1], OS.out.2, ?_⟩
            have := HD.out
            rw [if_neg hF, if_pos h128] at this
            rw [val_more k acc c]; exact this
          case measure => simp [intOf]; omega
        · have d128 : decide (c < 128) = true := by simp; omega
          by_cases h0 : c = 0 ∧ 0 < k
          · obtain ⟨rfl, hk0⟩ := h0
            have hRR : R = (0, 0, 3) := by have := HD.out; rw [if_neg hF, if_neg h128, if_pos ⟨rfl, hk0⟩] at this; exact this.symm
            subst hRR
            by_cases h9 : k = 9
            · subst h9
              go_wp2
              go_ret3
              exact ⟨rfl, rfl⟩
            · have d9 : ((k : Int) == 9) = false := by simp; omega
              have dk : decide (0 < (k : Int)) = true := by simp; omega
              go_wp2
              go_ret3
              exact ⟨rfl, rfl⟩
          · have hRR : R = (acc + c * 128 ^ k, (k : Int) + 1, 0) := by have := HD.out; rw [if_neg hF, if_neg h128, if_neg h0] at this; exact this.symm
            subst hRR
            have VS := hideIt (val_step k acc c hcr.1 (by omega))
            have O9 := hideIt (OS.out.1.trans VS.out)
            by_cases h9 : k = 9
            · subst h9
              have hc0 : (c == 0) = false := by simp; omega
              have hc1 : decide (1 < c) = false := by simp; omega
              go_wp2
              go_ret3
              refine ⟨ret_rd ?_ rfl rfl, rfl⟩
              have ha := HACC.out
              have h3 : (128 : Nat) ^ 9 = 9223372036854775808 := by decide
              have hc2 : c = 1 := by simp at hc0 hc1; omega
              rw [h3] at ha
              rw [IntKind.wrap_u64, hc2]
              simp only
              omega
            · have d9 : ((k : Int) == 9) = false := by simp; omega
              by_cases hc0 : c = 0
              · have dk : decide (0 < (k : Int)) = false := by simp; omega
                subst hc0
                go_wp2
                go_ret3
                refine ⟨ret_rd ?_ rfl rfl, rfl⟩
                have := O9.out
                rw [show (0 : Int) % 128 * 2 ^ (7 * k) = 0 by simp, show IntKind.u64.wrap 0 = 0 from rfl, Int.add_zero] at this
                simpa using this
              · have dc : (c == 0) = false := by simp; omega
                go_wp2
                all_goals go_ret3
                all_goals exact ⟨ret_rd O9.out rfl rfl, rfl⟩
    · have hkn : k = n := by omega
      subst hkn
      have hRR : R = (0, 0, 2) := by rw [← hrd, List.drop_of_length_le (by rw [← HN.out]; omega)]; rfl
      subst hRR
      clear hrd hacc
      go_wp2
      go_ret3
      exact ⟨rfl, rfl⟩
theorem rread_as (va : Value) (xs : List Int) (w : World) {a b c : Int} (h : rd 0 0 xs = (a, b, c)) (ha : Bs .u8 w va xs) (hr : ∀ x ∈ xs, 0 ≤ x ∧ x ≤ 255) :
    Calls Tryz.prog 87 #[va] w fun e w' => e = .returned (.tuple #[.int .u64 a, .int .i64 b, .int .i64 c]) ∧ w = w' := by
  have := rread_bs va xs w ha hr
  rw [h] at this
  exact this
end Go.Proofs.YtiolgenaefillaaGreat

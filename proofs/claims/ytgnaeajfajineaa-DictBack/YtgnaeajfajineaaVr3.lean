/- Contract of package varint's Read: what is read of any bytes, or why nothing is. -/
import Derived.Test.YtgnaeajfajineaaVr2
namespace Go.Proofs.Ytgnaeajfajineaa
open Go.RowKit

theorem rd_at (xs : List Int) (k : Nat) (acc : Int) (h : k < xs.length) : rd k acc (xs.drop k) = if k = 9 ∧ 1 < xs.getD k 0 then (0, 0, 3) else if 128 ≤ xs.getD k 0 then rd (k + 1) (acc + xs.getD k 0 % 128 * 128 ^ k) (xs.drop (k + 1)) else if xs.getD k 0 = 0 ∧ 0 < k then (0, 0, 3) else (acc + xs.getD k 0 * 128 ^ k, (k : Int) + 1, 0) := by
  rw [List.drop_eq_getElem_cons h, rd_cons, List.getD_eq_getElem?_getD, List.getElem?_eq_getElem h]
  rfl

theorem v_or_step (k acc : Nat) (c : Int) (hk : k ≤ 9) (hacc : acc < 128 ^ k) (c0 : 0 ≤ c) (c1 : c ≤ 255) (h9 : k = 9 → c ≤ 1) :
    bits .or .u64 (acc : Int) (IntKind.u64.wrap (IntKind.u64.wrap (bits .and .u8 c 127) * 2 ^ (7 * k))) = ((acc + (c % 128).toNat * 128 ^ k : Nat) : Int) ∧ acc + (c % 128).toNat * 128 ^ k < 128 ^ (k + 1) := by
  obtain ⟨m, rfl⟩ := Int.eq_ofNat_of_zero_le c0
  have e : ((m : Int) % 128).toNat = m % 128 := by omega
  rw [e, show (127 : Int) = ((127 : Nat) : Int) from rfl, u8_and_nat _ _ (by omega) (by omega), nat_mask7]
  have w1 : IntKind.u64.wrap ((m % 128 : Nat) : Int) = ((m % 128 : Nat) : Int) := by rw [IntKind.wrap_u64]; omega
  have p1 : (2 : Nat) ^ (7 * k) = 128 ^ k := by rw [Nat.pow_mul]
  have w2 : ((m % 128 : Nat) : Int) * 2 ^ (7 * k) = ((m % 128 * 128 ^ k : Nat) : Int) := by
    rw [← p1]; simp
  have hlt : m % 128 * 128 ^ k < 18446744073709551616 := by
    rcases Nat.lt_or_ge k 9 with h | h
    · have h1 : m % 128 * 128 ^ k ≤ 127 * 128 ^ k := Nat.mul_le_mul_right _ (by omega)
      have h2 : 128 ^ k ≤ 128 ^ 8 := Nat.pow_le_pow_right (by omega) (by omega)
      have h3 : (128 : Nat) ^ 8 = 72057594037927936 := by decide
      omega
    · have hk : k = 9 := by omega
      subst hk
      have := h9 rfl
      have h3 : (128 : Nat) ^ 9 = 9223372036854775808 := by decide
      have h1 : m % 128 * 128 ^ 9 ≤ 1 * 128 ^ 9 := Nat.mul_le_mul_right _ (by omega)
      omega
  have hacc2 : acc < 18446744073709551616 := by
    have h2 : 128 ^ k ≤ 128 ^ 9 := Nat.pow_le_pow_right (by omega) (by omega)
    have h3 : (128 : Nat) ^ 9 = 9223372036854775808 := by decide
    omega
  have w3 : IntKind.u64.wrap ((m % 128 * 128 ^ k : Nat) : Int) = ((m % 128 * 128 ^ k : Nat) : Int) := by rw [IntKind.wrap_u64]; omega
  rw [w1, w2, w3, u64_or_nat _ _ hacc2 hlt, Nat.or_comm, nat_join (7 * k) _ _ (by rw [p1]; exact Nat.mul_mod_left _ _) (by rw [p1]; exact hacc), Nat.add_comm]
  refine ⟨rfl, ?_⟩
  rw [Nat.pow_succ]
  have h1 : m % 128 * 128 ^ k ≤ 127 * 128 ^ k := Nat.mul_le_mul_right _ (by omega)
  omega
theorem val_step (k acc : Nat) (c : Int) (c0 : 0 ≤ c) (h : c < 128) : ((acc + (c % 128).toNat * 128 ^ k : Nat) : Int) = acc + c * 128 ^ k := by
  obtain ⟨m, rfl⟩ := Int.eq_ofNat_of_zero_le c0
  have e : ((m : Int) % 128).toNat = m := by omega
  rw [e]; simp
theorem val_more (k acc : Nat) (c : Int) : ((acc + (c % 128).toNat * 128 ^ k : Nat) : Int) = acc + c % 128 * 128 ^ k := by
  have e : ((c % 128).toNat : Int) = c % 128 := by omega
  simp [e]

/-- what the tuple holds -/
def rdVal (r : Int × Int × Int) : Value := .tuple #[.int .u64 r.1, .int .i64 r.2.1, .int .i64 r.2.2]
theorem ret_rd {a b c : Int} {r : Int × Int × Int} (h1 : a = r.1) (h2 : b = r.2.1) (h3 : c = r.2.2) : Ending.returned (.tuple #[.int .u64 a, .int .i64 b, .int .i64 c]) = .returned (rdVal r) := by
  rw [h1, h2, h3]; rfl

set_option maxHeartbeats 800000 in
set_option maxRecDepth 100000 in
theorem read_bs (va : Value) (xs : List Int) (w : World) (ha : Bs .u8 w va xs) (hr : ∀ x ∈ xs, 0 ≤ x ∧ x ≤ 255) :
    Calls Try.prog 58 #[va] w fun e w' => e = .returned (rdVal (rd 0 0 xs)) ∧ w = w' := by
  have HA := hideIt ha
  have HR := hideIt hr
  obtain ⟨aa, ca, rfl⟩ := ha.len
  obtain ⟨n, hn⟩ : ∃ n, n = xs.length := ⟨_, rfl⟩
  rw [← hn] at HA
  rw [← hn]
  have HN := hideIt hn
  obtain ⟨R, hR⟩ : ∃ R, R = rd 0 0 xs := ⟨_, rfl⟩
  rw [← hR]
  have HRD := hideIt hR
  clear ha hr hn hR
  go_enter Try.func58, Try.ntmps58
  go_wp2
  go_loop [5, 10] (fun a i => ∃ (k : Nat) (acc : Nat), k ≤ n ∧ k ≤ 9 ∧ i = .int .i64 k ∧ a = .int .u64 acc ∧ acc < 128 ^ k ∧ rd k acc (xs.drop k) = R) (fun _ i => n - (intOf i).toNat)
  case atStart => exact ⟨0, 0, by omega, by omega, rfl, rfl, by simp, by simpa using HRD.out.symm⟩
  case round =>
    obtain ⟨k, acc, hk, hk9, rfl, rfl, hacc, hrd⟩ := hrel
    by_cases hlt : k < n
    · obtain ⟨b, off, cap', e1, hc⟩ := HA.out.at k (by rw [← HN.out]; exact hlt)
      have ea : aa = some ⟨b, off, none⟩ := by simp at e1; exact e1.1
      subst ea
      clear e1
      have hcr := HR.out (xs.getD k 0) (by rw [List.getD_eq_getElem?_getD, List.getElem?_eq_getElem (by rw [← HN.out]; exact hlt)]; simp)
      rw [rd_at xs k _ (by rw [← HN.out]; exact hlt)] at hrd
      generalize xs.getD k 0 = c at hc hcr hrd
      have HD := hideIt hrd
      have HACC := hideIt hacc
      clear hrd hacc
      have i0 : (0 : Int) ≤ (k : Int) := by omega
      have i1 : (k : Int) < (n : Int) := by omega
      by_cases hF : k = 9 ∧ 1 < c
      · obtain ⟨rfl, h1c⟩ := hF
        have hRR : R = (0, 0, 3) := by have := HD.out; rw [if_pos ⟨rfl, h1c⟩] at this; exact this.symm
        subst hRR
        go_wp2
        go_ret3
        exact ⟨rfl, rfl⟩
      · have OS := hideIt (v_or_step k acc c hk9 HACC.out hcr.1 hcr.2 (by omega))
        by_cases h128 : 128 ≤ c
        · have d9 : ((k : Int) == 9) = false := by simp; omega
          go_wp2
          go_round
          case rel =>
            refine ⟨k + 1, acc + (c % 128).toNat * 128 ^ k, by omega, by omega, by go_num, by rw [OS.out.1], OS.out.2, ?_⟩
            have := HD.out
            rw [if_neg hF, if_pos h128] at this
            rw [val_more k acc c]; exact this
          case measure => simp [intOf]; omega
        · by_cases h0 : c = 0 ∧ 0 < k
          · obtain ⟨rfl, hk0⟩ := h0
            have hRR : R = (0, 0, 3) := by have := HD.out; rw [if_neg hF, if_neg h128, if_pos ⟨rfl, hk0⟩] at this; exact this.symm
            subst hRR
            by_cases h9 : k = 9
            · subst h9
              go_wp2
              go_ret3
              exact ⟨rfl, rfl⟩
            · have d9 : ((k : Int) == 9) = false := by simp; omega
              have dk : decide (0 < (k : Int)) = true := by simp; omega
              go_wp2
              go_ret3
              exact ⟨rfl, rfl⟩
          · have hRR : R = (acc + c * 128 ^ k, (k : Int) + 1, 0) := by have := HD.out; rw [if_neg hF, if_neg h128, if_neg h0] at this; exact this.symm
            subst hRR
            have VS := hideIt (val_step k acc c hcr.1 (by omega))
            by_cases h9 : k = 9
            · subst h9
              have hc0 : (c == 0) = false := by simp; omega
              have O9 := hideIt (OS.out.1.trans VS.out)
              rw [show (2 : Int) ^ (7 * 9) = 9223372036854775808 by decide] at O9
              go_wp2
              go_ret3
              exact ⟨ret_rd O9.out rfl rfl, rfl⟩
            · have d9 : ((k : Int) == 9) = false := by simp; omega
              have O9 := hideIt (OS.out.1.trans VS.out)
              by_cases hc0 : c = 0
              · have dk : decide (0 < (k : Int)) = false := by simp; omega
                subst hc0
                go_wp2
                go_ret3
                exact ⟨ret_rd (O9.out.trans (by simp)) rfl rfl, rfl⟩
              · have dc : (c == 0) = false := by simp; omega
                go_wp2
                go_ret3
                exact ⟨ret_rd O9.out rfl rfl, rfl⟩
    · have hkn : k = n := by omega
      subst hkn
      have hRR : R = (0, 0, 2) := by rw [← hrd, List.drop_of_length_le (by rw [← HN.out]; omega)]; rfl
      subst hRR
      clear hrd hacc
      go_wp2
      go_ret3
      exact ⟨rfl, rfl⟩
theorem read_as (va : Value) (xs : List Int) (w : World) {a b c : Int} (h : rd 0 0 xs = (a, b, c)) (ha : Bs .u8 w va xs) (hr : ∀ x ∈ xs, 0 ≤ x ∧ x ≤ 255) :
    Calls Try.prog 58 #[va] w fun e w' => e = .returned (.tuple #[.int .u64 a, .int .i64 b, .int .i64 c]) ∧ w = w' := by
  have := read_bs va xs w ha hr
  rw [h] at this
  exact this
end Go.Proofs.Ytgnaeajfajineaa

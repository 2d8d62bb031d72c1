/- The reference for simple: Encode. -/
import Derived.Test.YtgbimghhdbmjiaaGreatRRoom
import Derived.Test.YtgbimghhdbmjiaaGreatCRef2
namespace Go.Proofs.YtgbimghhdbmjiaaGreat
open Go.RowKit

set_option maxHeartbeats 400000 in
set_option maxRecDepth 100000 in
theorem rencode_long (v : Value) (xs : List Int) (w : World) (h : Bs .u64 w v xs) (hl : 65536 < xs.length) :
    Calls Tryz.prog 63 #[v] w fun e w' => e = .returned (.tuple #[.slice none 0 0, .int .i64 4]) ∧ w = w' := by
  obtain ⟨ao, cap, rfl⟩ := h.len
  have d : decide (65536 < (xs.length : Int)) = true := by simp; omega
  generalize xs.length = n at *
  clear h
  go_enter Tryz.func63, Tryz.ntmps63
  go_wp2
  go_ret2
  exact ⟨rfl, rfl⟩

set_option maxHeartbeats 800000 in
set_option maxRecDepth 100000 in
theorem rencode_arg (v : Value) (xs : List Int) (w : World) (h : Bs .u64 w v xs) (hu : ∀ x ∈ xs, 0 ≤ x ∧ x ≤ 18446744073709551615) (hl : xs.length ≤ 65536) (hs : small 60 xs = false) :
    Calls Tryz.prog 63 #[v] w fun e w' => e = .returned (.tuple #[.slice none 0 0, .int .i64 1]) ∧ w = w' := by
  obtain ⟨ao, cap, rfl⟩ := h.len
  have HB := hideIt h
  have HU := hideIt hu
  have HSF := hideIt hs
  have d : decide (65536 < (xs.length : Int)) = false := by simp; omega
  obtain ⟨m, hm⟩ : ∃ m, m = xs.length := ⟨_, rfl⟩
  rw [← hm] at HB hl d ⊢
  have HM := hideIt hm
  clear h hu hm hs
  go_enter Tryz.func63, Tryz.ntmps63
  go_wp2
  go_loop [4] (fun i => ∃ k : Nat, k ≤ m ∧ i = .int .i64 k ∧ small 60 (xs.take k) = true) (fun i => m - (intOf i).toNat)
  case atStart => exact ⟨0, Nat.zero_le _, rfl, by simp [small]⟩
  case round =>
    obtain ⟨k, hk, rfl, hsm⟩ := hrel
    have HS := hideIt hsm
    clear hsm
    by_cases hlt : k < m
    · have hkx : k < xs.length := by rw [← HM.out]; omega
      obtain ⟨b, off, cap', e1, c0⟩ := (HB.out).at k hkx
      simp only [Value.slice.injEq] at e1
      obtain ⟨rfl, e2, rfl⟩ := e1
      clear e2
      obtain ⟨x0, x1⟩ := HU.out _ (getD_mem xs k hkx)
      have hsn : Hid (small 60 (xs.take (k + 1)) = (small 60 (xs.take k) && decide (xs.getD k 0 < 2 ^ 60))) := by
        simp only [Hid]; rw [take_snoc xs k hkx, small_snoc]
      have WA := hideIt (rwidth_any (xs.getD k 0) w x0 x1)
      have dw := wid_gt (q := 60) x0
      have h64 := wid_le64 (xs.getD k 0).toNat (by omega)
      obtain ⟨x, hx⟩ : ∃ x, x = xs.getD k 0 := ⟨_, rfl⟩
      rw [← hx] at c0 x0 x1 hsn WA dw h64
      have i0 : (0 : Int) ≤ (k : Int) := by omega
      have i1 : (k : Int) < (m : Int) := by omega
      clear hx hkx
      generalize wid x.toNat = y at WA dw h64
      by_cases hf : x < 2 ^ 60
      · rw [decide_eq_true hf] at dw
        have dy : decide (60 < (y : Int)) = false := dw
        have HFX := hideIt hf
        clear hf dw
        go_wp2_with fail
        refine WA.out.mono ?_
        rintro e w2 ⟨rfl, rfl⟩
        go_wp2
        go_round
        case rel => exact ⟨k + 1, by omega, by go_num, by rw [hsn.out, HS.out, decide_eq_true HFX.out]; rfl⟩
        case measure => simp [intOf]; omega
      · rw [decide_eq_false hf] at dw
        have dy : decide (60 < (y : Int)) = true := dw
        clear hf hsn dw
        go_wp2_with fail
        refine WA.out.mono ?_
        rintro e w2 ⟨rfl, rfl⟩
        go_wp2
        go_ret2
        exact ⟨rfl, rfl⟩
    · have hkm : k = m := by omega
      subst hkm
      have := HS.out
      rw [HM.out, List.take_length, HSF.out] at this
      cases this

/-- a word with its first k numbers -/
def wpN (s q : Nat) (ts : List Int) (k : Nat) : Nat := wacc s q (ts.take k) * 2 ^ (60 - k * q)
theorem wpN_all (s q : Nat) (ts : List Int) : wpN s q ts ts.length = wordN s q ts := by simp [wpN, wordN]
theorem wpN_zero (s q : Nat) (ts : List Int) : wpN s q ts 0 = s * 1152921504606846976 := by simp [wpN, wacc]
theorem wpN_step {s q : Nat} {ts : List Int} (hs : s < 16) (h : Up q ts) (hw : ts.length * q ≤ 60) (k : Nat) (hk : k < ts.length) :
    0 ≤ ts.getD k 0 * 2 ^ (60 - (k + 1) * q) ∧ ts.getD k 0 * 2 ^ (60 - (k + 1) * q) ≤ 18446744073709551615 ∧ bits .or .u64 (wpN s q ts k : Int) (ts.getD k 0 * 2 ^ (60 - (k + 1) * q)) = (wpN s q ts (k + 1) : Int) := by
  have h1 := wacc_lt hs h k (by omega)
  have hz := h _ (getD_mem ts k hk)
  have hn := toNat_up hz
  have hkq : (k + 1) * q ≤ 60 := Nat.le_trans (Nat.mul_le_mul_right q (by omega)) hw
  have hkq2 : (k + 1) * q = k * q + q := by rw [Nat.add_mul, Nat.one_mul]
  have e64 : (2 : Nat) ^ 64 = 18446744073709551616 := by decide
  have e60 : (2 : Nat) ^ 60 = 1152921504606846976 := by decide
  unfold wpN
  rw [take_snoc ts k hk, wacc_snoc]
  generalize ts.getD k 0 = z at *
  generalize wacc s q (ts.take k) = a at *
  obtain ⟨m, rfl⟩ := Int.eq_ofNat_of_zero_le hz.1
  rw [Int.toNat_natCast] at hn ⊢
  have e2 : ((m : Int) * 2 ^ (60 - (k + 1) * q)) = ((m * 2 ^ (60 - (k + 1) * q) : Nat) : Int) := by simp
  have hm1 : m * 2 ^ (60 - (k + 1) * q) < 2 ^ (60 - k * q) := by
    have := Nat.mul_lt_mul_of_pos_right hn (Nat.two_pow_pos (60 - (k + 1) * q))
    rw [← Nat.pow_add] at this
    rwa [show q + (60 - (k + 1) * q) = 60 - k * q by omega] at this
  have hm2 : 2 ^ (60 - k * q) ≤ 2 ^ 60 := Nat.pow_le_pow_right (by omega) (by omega)
  have ha : a * 2 ^ (60 - k * q) < 2 ^ 64 := by
    have := Nat.mul_lt_mul_of_pos_right h1 (Nat.two_pow_pos (60 - k * q))
    rw [← Nat.pow_add] at this
    rwa [show 4 + k * q + (60 - k * q) = 64 by omega] at this
  rw [e2]
  refine ⟨by omega, by omega, ?_⟩
  rw [u64_or_nat _ _ (by omega) (by omega), nat_join (60 - k * q) _ _ (Nat.mul_mod_left _ _) hm1]
  congr 1
  rw [show 60 - k * q = q + (60 - (k + 1) * q) by omega, Nat.pow_add, ← Nat.mul_assoc, ← Nat.add_mul]
theorem take_getD (zs : List Int) (c k : Nat) (h : k < c) : (zs.take c).getD k 0 = zs.getD k 0 := by
  rw [List.getD_eq_getElem?_getD, List.getElem?_take, if_pos h, ← List.getD_eq_getElem?_getD]
theorem wpN_lt {s q : Nat} {ts : List Int} (hs : s < 16) (h : Up q ts) (hw : ts.length * q ≤ 60) (k : Nat) (hk : k ≤ ts.length) : wpN s q ts k < 18446744073709551616 := by
  have h1 := wacc_lt hs h k hk
  have hkq : k * q ≤ 60 := Nat.le_trans (Nat.mul_le_mul_right q hk) hw
  have := Nat.mul_lt_mul_of_pos_right h1 (Nat.two_pow_pos (60 - k * q))
  rw [← Nat.pow_add, show 4 + k * q + (60 - k * q) = 64 by omega] at this
  exact this
end Go.Proofs.YtgbimghhdbmjiaaGreat

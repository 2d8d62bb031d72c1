/- Contracts of package bits: Put. -/
import Derived.Test.YtgnaeajfajineaaBPut
namespace Go.Proofs.Ytgnaeajfajineaa
open Go.RowKit


set_option maxHeartbeats 400000 in
set_option maxRecDepth 100000 in
theorem put_nil (x width : Int) (w : World) :
    Calls Try.prog 19 #[.pointer none, .int .u64 x, .int .i64 width] w fun e w' => e = .returned (.int .i64 1) ∧ w = w' := by
  go_enter Try.func19, Try.ntmps19
  go_wp2
  go_ret
  exact ⟨rfl, rfl⟩

set_option maxHeartbeats 400000 in
set_option maxRecDepth 100000 in
theorem put_width (B : Nat) (x width : Int) (w : World) (h : width < 0 ∨ 64 < width) :
    Calls Try.prog 19 #[.pointer (some ⟨B, 0, none⟩), .int .u64 x, .int .i64 width] w fun e w' => e = .returned (.int .i64 1) ∧ w = w' := by
  have H : Hid (width < 0 ∨ 64 < width) := h
  clear h
  go_enter Try.func19, Try.ntmps19
  go_wp2_with (go_at_call 38; refine (isWidth_no _ _ H.out).mono ?_; rintro e w' ⟨rfl, rfl⟩)
  go_ret
  exact ⟨rfl, rfl⟩

set_option maxHeartbeats 400000 in
set_option maxRecDepth 100000 in
theorem put_big (B : Nat) (x width : Int) (w : World) (h0 : 0 ≤ width) (h1 : width ≤ 64) (x0 : 0 ≤ x) (x1 : x ≤ 18446744073709551615) (hw : width < (wid x.toNat : Int)) :
    Calls Try.prog 19 #[.pointer (some ⟨B, 0, none⟩), .int .u64 x, .int .i64 width] w fun e w' => e = .returned (.int .i64 1) ∧ w = w' := by
  go_enter Try.func19, Try.ntmps19
  go_wp2_with (first | (go_at_call 38; refine (isWidth_yes _ _ h0 h1).mono ?_; rintro e w' ⟨rfl, rfl⟩) | (go_at_call 37; refine (width_any _ _ x0 x1).mono ?_; rintro e w' ⟨rfl, rfl⟩))
  go_ret
  exact ⟨rfl, rfl⟩

def bitsOf (v n : Nat) : List Bool := (List.range n).map fun i => v.testBit (n - 1 - i)

theorem bit_of (x : Int) (j : Nat) (x0 : 0 ≤ x) (x1 : x ≤ 18446744073709551615) : bits .and .u64 (x / 2 ^ j) 1 % 256 = ((x.toNat.testBit j).toNat : Int) := by
  obtain ⟨m, rfl⟩ := Int.eq_ofNat_of_zero_le x0
  have e : ((m : Int) / 2 ^ j) = ((m / 2 ^ j : Nat) : Int) := by simp
  have h := Nat.div_le_self m (2 ^ j)
  rw [e, show (1 : Int) = ((1 : Nat) : Int) from rfl, u64_and_nat _ _ (by omega) (by omega), nat_mask1, Int.toNat_natCast, Nat.testBit_eq_decide_div_mod_eq]
  by_cases h1 : m / 2 ^ j % 2 = 1
  · simp [h1]
  · have : m / 2 ^ j % 2 = 0 := by omega
    simp [this]

theorem bitsOf_take (v n k : Nat) (h : k < n) : (bitsOf v n).take (k + 1) = (bitsOf v n).take k ++ [v.testBit (n - 1 - k)] := by
  have hl : (bitsOf v n).length = n := by simp [bitsOf]
  rw [List.take_succ_eq_append_getElem (by omega)]
  simp [bitsOf]
theorem bitsOf_length (v n : Nat) : (bitsOf v n).length = n := by simp [bitsOf]

set_option maxHeartbeats 400000 in
set_option maxRecDepth 100000 in
theorem put_wr {w : World} {lo B : Nat} {v : Value} {l : List Bool} (h : WrAt 43 5 w lo B v l) (x width : Int) (h0 : 0 ≤ width) (h1 : width ≤ 64) (x0 : 0 ≤ x) (x1 : x ≤ 18446744073709551615) (hw : (wid x.toNat : Int) ≤ width)
    (hl : l.length ≤ 1000000000) :
    Calls Try.prog 19 #[.pointer (some ⟨B, 0, none⟩), .int .u64 x, .int .i64 width] w fun e w' => e = .returned (.int .i64 0) ∧
      ∃ v', WrAt 43 5 w' lo B v' (l ++ bitsOf x.toNat width.toNat) ∧ Only (Foot B v) w w' ∧ Stays w v v' := by
  obtain ⟨n, rfl⟩ := Int.eq_ofNat_of_zero_le h0
  have HW : Hid (WrAt 43 5 w lo B v l) := h
  have hd : decide (n < wid x.toNat) = false := by simp; omega
  clear h
  go_enter Try.func19, Try.ntmps19
  go_wp2_with (first | (go_at_call 38; refine (isWidth_yes _ _ h0 h1).mono ?_; rintro e w' ⟨rfl, rfl⟩) | (go_at_call 37; refine (width_any _ _ x0 x1).mono ?_; rintro e w' ⟨rfl, rfl⟩))
  go_loopw [22] (fun i wr => ∃ (k : Nat) (v' : Value), k ≤ n ∧ i = .int .i64 k ∧ WrAt 43 5 wr lo B v' (l ++ (bitsOf x.toNat n).take k) ∧ Only (Foot B v) w wr ∧ Stays w v v') (fun i _ => n - (intOf i).toNat)
  case atStart => exact ⟨0, v, Nat.zero_le _, rfl, by simpa using HW.out, Only.refl _ _, Stays.refl _ _⟩
  case round =>
    obtain ⟨k, v', hk, rfl, hwr, hon, hst⟩ := hrel
    by_cases hlt : k < n
    · have hlen : (l ++ (bitsOf x.toNat n).take k).length ≤ 1000000000000 := by simp [bitsOf_length]; omega
      have HB : Hid (bits .and .u64 (x / 2 ^ (n - 1 - k)) 1 % 256 = ((x.toNat.testBit (n - 1 - k)).toNat : Int)) := bit_of x _ x0 x1
      go_wp2_with (go_at_call 39; refine (putBit_wr hwr (x.toNat.testBit (n - 1 - k)) _ HB.out hlen).mono ?_; rintro e w2 ⟨rfl, v2, hwr2, hon2, hst2⟩)
      go_roundw
      case rel => exact ⟨k + 1, v2, by omega, by go_num, by rw [bitsOf_take _ _ _ hlt, ← List.append_assoc]; exact hwr2, hon.trans hon2 (foot_stays hst), hst.trans hst2 hon.size⟩
      case measure => simp [intOf]; omega
    · go_wp2
      go_ret
      have hkn : k = n := by omega
      subst hkn
      exact ⟨rfl, v', by simpa [List.take_of_length_le (Nat.le_of_eq (bitsOf_length x.toNat k))] using hwr, hon, hst⟩
end Go.Proofs.Ytgnaeajfajineaa

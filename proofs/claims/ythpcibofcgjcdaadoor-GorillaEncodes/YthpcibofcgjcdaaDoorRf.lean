/- The document's answer for patterns: lead, trail, put. -/
import Derived.Test.YthpcibofcgjcdaaDoorBRef3
import Derived.Test.YthpcibofcgjcdaaDoorGe
namespace Go.Proofs.YthpcibofcgjcdaaDoor
open Go.RowKit

set_option maxHeartbeats 400000 in
theorem rlead_any (x : Nat) (w : World) (hx : x < 18446744073709551616) :
    Calls Tryd.prog 22 #[.int .u64 x] w fun e w' => e = .returned (.int .i64 (ldz x : Nat)) ∧ w = w' := by
  have W := hideIt (rwidth_any (x : Int) w (by omega) (by omega))
  rw [Int.toNat_natCast] at W
  have hw := wid_le64 x hx
  have hld : Hid (ldz x = min (64 - wid x) 31) := rfl
  generalize wid x = q at *
  generalize ldz x = a at *
  go_enter Tryd.func22, Tryd.ntmps22
  go_wp2_with fail
  refine W.out.mono ?_
  rintro e w1 ⟨rfl, rfl⟩
  go_wp2
  all_goals go_ret
  all_goals
    refine ⟨?_, rfl⟩
    have := hld.out
    exact ret_int (by omega)
theorem tz_half {x : Nat} (h0 : 0 < x) (hx : x < 18446744073709551616) (he : x % 2 = 0) : tz x = tz (x / 2) + 1 := by
  have h1 : tz x = tzF 63 (x / 2) + 1 := by unfold tz; rw [tzF, if_pos he]
  have h2 : tzF 63 (x / 2) = tz (x / 2) := by
    have hc : ∀ (f y : Nat), 0 < y → y < 2 ^ f → tzF f y = tzF (f + 1) y := by
      intro f
      induction f with
      | zero => intro y h1 h2; simp at h2; omega
      | succ f ih =>
        intro y h1 h2
        rw [tzF, tzF]
        by_cases h : y % 2 = 0
        · rw [if_pos h, if_pos h, ih (y / 2) (by omega) (by rw [Nat.pow_succ] at h2; omega)]
        · rw [if_neg h, if_neg h]
    exact hc 63 (x / 2) (by omega) (by have : (2 : Nat) ^ 63 = 9223372036854775808 := by decide
                                       omega)
  rw [h1, h2]
theorem tz_odd {x : Nat} (he : x % 2 ≠ 0) : tz x = 0 := by unfold tz; rw [tzF, if_neg he]
theorem tz_lt {x : Nat} (h0 : 0 < x) (hx : x < 18446744073709551616) : tz x < 64 := tzF_lt 64 x h0 (by rw [p64]; exact hx)
set_option maxHeartbeats 400000 in
theorem rtrail_any (x : Nat) (w : World) (h0 : 0 < x) (hx : x < 18446744073709551616) :
    Calls Tryd.prog 21 #[.int .u64 x] w fun e w' => e = .returned (.int .i64 (tz x : Nat)) ∧ w = w' := by
  obtain ⟨t, ht⟩ : ∃ t, t = tz x := ⟨_, rfl⟩
  have htl := tz_lt h0 hx
  rw [← ht] at htl ⊢
  have HT := hideIt ht
  clear ht
  go_enter Tryd.func21, Tryd.ntmps21
  go_wp2
  go_loop [0, 3] (fun a i => ∃ y n : Nat, a = .int .u64 y ∧ i = .int .i64 n ∧ 0 < y ∧ y < 18446744073709551616 ∧ n + tz y = t) (fun a _ => (intOf a).toNat)
  case atStart => exact ⟨x, 0, rfl, rfl, h0, hx, by rw [HT.out]; omega⟩
  case round =>
    clear HT
    obtain ⟨y, n, rfl, rfl, y0, y1, hn⟩ := hrel
    have HN := hideIt hn
    have hnt : n ≤ t := by omega
    clear hn
    by_cases he : y % 2 = 0
    · have de : ((y : Int) % 2 == 0) = true := by simp; omega
      have hz : Hid (n + 1 + tz (y / 2) = t) := by have := tz_half y0 y1 he; have := HN.out; simp only [Hid]; omega
      clear HN
      go_wp2
      go_round
      case rel => exact ⟨y / 2, n + 1, by congr 1, by congr 1, by omega, by omega, hz.out⟩
      case measure => simp [intOf]; omega
    · have de : ((y : Int) % 2 == 0) = false := by rw [beq_eq_false_iff_ne]; omega
      have hz : n = t := by have := tz_odd he; have := HN.out; omega
      clear HN
      subst hz
      go_wp2
      go_ret
      exact ⟨rfl, rfl⟩
/-- bits behind others -/
theorem rput9 (v : Value) (l : List Bool) (x : Int) (n q : Nat) (w : World) (h : Bs .i64 w v (bitsI l)) (hnc : NoCap v) (hl : l.length ≤ 1000000) (e : x = (n : Int)) (hn : n < 18446744073709551616) (hq : q ≤ 64) (hw : wid n ≤ q) :
    Calls Tryd.prog 19 #[v, .int .u64 x, .int .i64 q] w fun e w' => ∃ v', e = .returned v' ∧ w'.ownsRow w.heap.size 3 1 v' (l ++ bitsOf n q).length ((bitsI (l ++ bitsOf n q)).map (Value.int .i64)) ∧ Only (fun _ => False) w w' := by
  subst e
  have P := rput_own v l n q w h hnc hl (by omega) (by omega) (by omega) (by omega) (by simpa using hw)
  simp only [Int.toNat_natCast] at P
  have P := hideIt P
  clear h hnc
  obtain ⟨L, hL⟩ : ∃ L, L = l ++ bitsOf n q := ⟨_, rfl⟩
  rw [← hL] at P ⊢
  clear hL
  go_enter Tryd.func19, Tryd.ntmps19
  go_wp2_with fail
  refine P.out.mono ?_
  rintro e w1 ⟨v1, rfl, own, on⟩
  have OW := hideIt own
  have ON := hideIt on
  clear own on P
  go_wp2
  go_ret
  exact ⟨v1, rfl, OW.out, ON.out⟩
theorem bs_bits {w : World} {lo : Nat} {E : TypeId} {v : Value} {l : List Bool} (h : w.ownsRow lo E 1 v l.length ((bitsI l).map (Value.int .i64))) : Bs .i64 w v (bitsI l) := Bs.of_own (lo := lo) (E := E) (by rw [bitsI_length]; exact h)
end Go.Proofs.YthpcibofcgjcdaaDoor

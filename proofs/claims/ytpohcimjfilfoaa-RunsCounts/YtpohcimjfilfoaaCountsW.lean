/- The walk of the statement 'as many pairs of varints as there are runs'. -/
import Derived.Test.YtpohcimjfilfoaaTot
namespace Go.Proofs.Ytpohcimjfilfoaa
open Go.RowKit

/-- how many runs there are -/
def nrun : List Int → Nat
  | [] => 0
  | x :: t => 1 + opens x t
theorem ends_runE (xs : List Int) : ends (runE xs) = 2 * nrun xs := by
  cases xs with
  | nil => rfl
  | cons x t => rw [runE, ends_runR, nrun]; omega
theorem nrun_first (xs : List Int) (h : 0 < xs.length) : nrun xs = 1 + opens (xs.getD 0 0) (xs.drop 1) := by
  cases xs with
  | nil => simp at h
  | cons x t => rfl

set_option maxHeartbeats 1600000 in
set_option maxRecDepth 100000 in
theorem counts_any (v : Value) (xs : List Int) (w : World) (hb : Bs .u64 w v xs) (hu : U64 xs) :
    Calls Try.prog 8 #[v] w fun e w' => e = .returned (.bool true) ∧ Only (fun _ => False) w w' := by
  have AW := hideIt (awake_any w)
  have HB := hideIt hb
  obtain ⟨ao, cap, rfl⟩ := hb.len
  by_cases h1 : 600 < xs.length
  · have d1 : decide ((600 : Int) < xs.length) = true := decide_eq_true (by omega)
    clear HB hb hu
    generalize xs.length = m at *
    clear h1
    go_enter Try.func8, Try.ntmps8
    go_wp2_with fail
    refine AW.out.mono ?_
    rintro e w1 ⟨rfl, on1⟩
    have O1 := hideIt on1
    clear on1 AW
    go_wp2
    go_ret
    exact ⟨rfl, O1.out⟩
  have d1 : decide ((600 : Int) < xs.length) = false := decide_eq_false (by omega)
  have PA := hideIt (fun (w1 : World) (o : Only (fun _ => False) w w1) => run_encode_bs (.slice ao xs.length cap) xs w1 (HB.out.past o) hu (by omega))
  have HPL : Hid ((runE xs).length ≤ 12000) := by
    have := runE_len xs hu (by omega)
    simp only [Hid]; omega
  obtain ⟨m, hm⟩ : ∃ m, m = xs.length := ⟨_, rfl⟩
  rw [← hm] at HB PA d1 ⊢
  have HM := hideIt hm
  have hm6 : m ≤ 600 := by omega
  clear h1 hm hb hu
  go_enter Try.func8, Try.ntmps8
  go_wp2_with fail
  refine AW.out.mono ?_
  rintro e w1 ⟨rfl, on1⟩
  have O1 := hideIt on1
  have A := hideIt (PA.out w1 on1)
  clear on1 AW PA
  go_wp2_with fail
  refine A.out.mono ?_
  rintro e w2 ⟨v2, rfl, own2, on2⟩
  have O2 := hideIt (O1.out.same on2)
  have B2 := hideIt (Bs.of_own own2)
  obtain ⟨f2, c2, e2⟩ := B2.out.len
  obtain ⟨p, hp⟩ : ∃ p, p = (runE xs).length := ⟨_, rfl⟩
  rw [← hp] at e2
  have HP := hideIt hp
  subst e2
  have hp12 : p ≤ 12000 := by rw [hp]; exact HPL.out
  clear A own2 on2 hp
  go_wp2
  go_loopg [6, 7] m (fun g s6 s7 wy => ∃ i c : Nat, i + g = m ∧ c ≤ i ∧ s7 = .int .i64 i ∧ s6 = .int .i64 c ∧ Hid ((i = 0 ∧ c = 0) ∨ (0 < i ∧ c + opens (xs.getD (i - 1) 0) (xs.drop i) = nrun xs)) ∧ Only (fun _ => False) w2 wy)
  case atStart => exact ⟨0, 0, by omega, by omega, rfl, rfl, .inl ⟨rfl, rfl⟩, Only.refl _ _⟩
  case round =>
    obtain ⟨i, c, hig, hci, rfl, rfl, HI, hon⟩ := hrel
    have HX := hideIt hon
    clear hon
    cases gk with
    | succ g =>
      have d5 : decide ((i : Int) < (m : Int)) = true := decide_eq_true (by omega)
      have d6 : decide (i < m) = true := decide_eq_true (by omega)
      have hil : i < xs.length := by rw [← HM.out]; omega
      rcases Nat.eq_zero_or_pos i with h0 | h0
      · subst h0
        have HF : Hid (c + 1 + opens (xs.getD 0 0) (xs.drop 1) = nrun xs) := by
          rcases HI.out with ⟨_, hc⟩ | ⟨h, _⟩
          · simp only [Hid]
            rw [nrun_first xs hil]; omega
          · omega
        clear hil HI
        go_wp2
        go_quiet (fail)
        go_wp2
        go_roundg g
        case rel => exact ⟨1, c + 1, by omega, by omega, rfl, by go_num, .inr ⟨by omega, HF.out⟩, HX.out.drewN nq⟩
        case measure => omega
      · obtain ⟨j, rfl⟩ : ∃ j, i = j + 1 := ⟨i - 1, by omega⟩
        obtain ⟨b, off, cap1, e1, hc1⟩ := (HB.out.past (O2.out.same HX.out)).at (j + 1) hil
        have ea : ao = some ⟨b, off, none⟩ := by simp at e1; exact e1.1
        subst ea
        obtain ⟨b', off', cap2, e3, hc0⟩ := (HB.out.past (O2.out.same HX.out)).at j (by omega)
        have e4 : b = b' ∧ off = off' := by simp at e3; exact ⟨e3.1.1, e3.1.2⟩
        obtain ⟨rfl, rfl⟩ := e4
        clear e1 e3
        have HF : Hid (c + (if xs.getD (j + 1) 0 = xs.getD j 0 then 0 else 1) + opens (xs.getD (j + 1) 0) (xs.drop (j + 2)) = nrun xs) := by
          rcases HI.out with ⟨h, _⟩ | ⟨_, h⟩
          · omega
          · rw [Nat.add_sub_cancel, opens_drop xs (j + 1) hil, show j + 1 + 1 = j + 2 from rfl] at h
            simp only [Hid]
            omega
        have HGD : Hid (xs.getD (j + 1 + 1 - 1) 0 = xs.getD (j + 1) 0) := rfl
        generalize xs.getD (j + 1) 0 = x at hc1 HF HGD
        generalize xs.getD j 0 = y at hc0 HF
        have zj : ((j : Int) + 1 == 0) = false := by simp; omega
        have k0 : (0 : Int) ≤ (j : Int) := by omega
        have k1 : (j : Int) < (m : Int) := by omega
        have k2 : (j : Int) + 1 < (m : Int) := by omega
        have k3 : decide ((j : Int) + 1 < (m : Int)) = true := decide_eq_true k2
        clear hil HI
        by_cases hxy : x = y
        · subst hxy
          rw [if_pos rfl, Nat.add_zero] at HF
          have zz : (x != x) = false := by simp
          go_wp2
          go_quiet (fail)
          go_wp2
          go_roundg g
          case rel => exact ⟨j + 2, c, by omega, by omega, by go_num, rfl, .inr ⟨by omega, by rw [show j + 2 - 1 = j + 1 + 1 - 1 by omega, HGD.out]; exact HF.out⟩, HX.out.drewN nq⟩
          case measure => omega
        · rw [if_neg hxy] at HF
          have zz : (x != y) = true := by simpa using hxy
          go_wp2
          go_quiet (fail)
          go_wp2
          go_roundg g
          case rel => exact ⟨j + 2, c + 1, by omega, by omega, by go_num, by go_num, .inr ⟨by omega, by rw [show j + 2 - 1 = j + 1 + 1 - 1 by omega, HGD.out]; exact HF.out⟩, HX.out.drewN nq⟩
          case measure => omega
    | zero =>
      obtain rfl : i = m := by omega
      have HC : Hid (c = nrun xs) := by
        simp only [Hid]
        rcases HI.out with ⟨h, hc⟩ | ⟨h, hc⟩
        · have : xs = [] := List.eq_nil_of_length_eq_zero (by rw [← HM.out]; exact h)
          rw [this, hc]; rfl
        · rw [List.drop_of_length_le (by rw [← HM.out]; omega), opens] at hc
          omega
      have d5 : decide ((i : Int) < (i : Int)) = false := by simp
      have B3 := hideIt (B2.out.past HX.out)
      have O3 := hideIt (O2.out.same HX.out)
      obtain ⟨w3, hw3⟩ : ∃ w3, w3 = wr := ⟨_, rfl⟩
      subst hw3
      clear HI B2 HX
      go_wp2
      go_loopg [8, 9] p (fun g s8 s9 wy => ∃ k d : Nat, k + g = p ∧ d ≤ k ∧ s9 = .int .i64 k ∧ s8 = .int .i64 d ∧ Hid (d + ends ((runE xs).drop k) = 2 * nrun xs) ∧ w3 = wy)
      case atStart => exact ⟨0, 0, by omega, by omega, rfl, rfl, (by simp only [Hid]; rw [List.drop_zero, ends_runE]; omega), rfl⟩
      case round =>
        obtain ⟨k, d, hkg, hdk, rfl, rfl, HK, hw⟩ := hrel
        subst hw
        cases gk with
        | succ g =>
          have d6 : decide ((k : Int) < (p : Int)) = true := decide_eq_true (by omega)
          have d7 : decide (k < p) = true := decide_eq_true (by omega)
          have hkl : k < (runE xs).length := by rw [← HP.out]; omega
          obtain ⟨b, off, cap1, e1, hc1⟩ := B3.out.at k hkl
          have ea : f2 = some ⟨b, off, none⟩ := by simp at e1; exact e1.1
          subst ea
          clear e1
          have HF := HK.out
          rw [ends_drop _ k hkl] at HF
          have HF := hideIt HF
          generalize (runE xs).getD k 0 = x at hc1 HF
          have k0 : (0 : Int) ≤ (k : Int) := by omega
          have k1 : (k : Int) < (p : Int) := by omega
          clear hkl HK
          by_cases hx : x < 128
          · rw [if_pos hx] at HF
            have zx : decide (x < 128) = true := decide_eq_true hx
            go_wp2
            go_roundg g
            case rel => exact ⟨k + 1, d + 1, by omega, by omega, by go_num, by go_num, (by have := HF.out; simp only [Hid]; omega), rfl⟩
            case measure => omega
          · rw [if_neg hx, Nat.zero_add] at HF
            have zx : decide (x < 128) = false := decide_eq_false hx
            go_wp2
            go_roundg g
            case rel => exact ⟨k + 1, d, by omega, by omega, by go_num, rfl, HF.out, rfl⟩
            case measure => omega
        | zero =>
          obtain rfl : k = p := by omega
          have hd : (d : Int) = 2 * (c : Int) := by
            have := HK.out
            rw [List.drop_of_length_le (by rw [← HP.out]; omega)] at this
            have h2 := HC.out
            simp [ends] at this
            omega
          have zd : ((d : Int) == 2 * (c : Int)) = true := by simp; exact hd
          have d7 : decide ((k : Int) < (k : Int)) = false := by simp
          clear hd HK HC
          go_wp2
          go_ret
          exact ⟨rfl, O3.out⟩
end Go.Proofs.Ytpohcimjfilfoaa

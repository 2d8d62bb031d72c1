/- The walk of the statement 'a list cut off takes no more bytes; one pattern takes eight'. -/
import Derived.Test.YthpcibofcgjcdaaDoorAw9
namespace Go.Proofs.YthpcibofcgjcdaaDoor
open Go.RowKit

theorem ENC9_take_le (xs : List Int) (k : Nat) (hl : xs.length ≤ 65536) : (ENC9 (xs.take k)).1.length ≤ (ENC9 xs).1.length := by
  obtain ⟨r, e⟩ := GB_take xs k
  rw [ENC9_of hl, ENC9_of (by rw [List.length_take]; omega)]
  simp only [bytesI_length]
  refine nb_mono ?_
  rw [e, List.length_append]
  omega
theorem ENC9_one (xs : List Int) : (ENC9 (xs.take 1)).1.length = 8 * min xs.length 1 := by
  rw [ENC9_of (by rw [List.length_take]; omega)]
  simp only [bytesI_length]
  cases xs with
  | nil => simp [GB, nb]
  | cons x t =>
    have e : GB ((x :: t).take 1) = bitsOf x.toNat 64 := by simp [GB, gE]
    rw [e]
    unfold nb
    rw [bitsOf_length]
    simp only [List.length_cons]
    omega
set_option maxHeartbeats 1600000 in
set_option maxRecDepth 100000 in
theorem one_any (v : Value) (xs : List Int) (cut : Int) (w : World) (hb : Bs .u64 w v xs) (hu : U64 xs) (hT : Tab w) :
    Calls Tryd.prog 8 #[v, .int .i64 cut] w fun e w' => e = .returned (.bool true) ∧ Only (fun _ => False) w w' := by
  have AW := hideIt (awake_any w hT)
  have HB := hideIt hb
  obtain ⟨ao, cap, rfl⟩ := hb.len
  by_cases h1 : 300 < xs.length
  · have d1 : decide ((300 : Int) < xs.length) = true := decide_eq_true (by omega)
    clear HB hb hu
    generalize xs.length = m at *
    clear h1
    go_enter Tryd.func8, Tryd.ntmps8
    go_wp2_with fail
    refine AW.out.mono ?_
    rintro e w1 ⟨rfl, on1⟩
    have O1 := hideIt on1
    clear on1 AW
    go_wp2
    go_ret
    exact ⟨rfl, O1.out⟩
  have d1 : decide ((300 : Int) < xs.length) = false := decide_eq_false (by omega)
  have hlow := i64_low cut 9 (by omega)
  rw [show ((2 ^ 9 - 1 : Nat) : Int) = 511 from rfl, show ((2 ^ 9 : Nat) : Int) = 512 from rfl] at hlow
  obtain ⟨k, hk⟩ : ∃ k : Nat, (k : Int) = cut % 512 := ⟨(cut % 512).toNat, by omega⟩
  rw [← hk] at hlow
  have hu1 : ∀ j, U64 (xs.take j) := fun j x hx => hu x (List.mem_of_mem_take hx)
  have z1 : ∀ l : List Int, l.length ≤ 300 → (ENC9 l).2 = 0 := fun l h => by rw [ENC9_of (by omega)]
  have PA0 := fun (w1 : World) (o : Only (fun _ => False) w w1) => encode9_all (.slice ao xs.length cap) xs w1 (HB.out.past o) hu (hT.past o)
  rw [z1 xs (by omega)] at PA0
  have PA := hideIt PA0
  have PB : ∀ j, j ≤ xs.length → Hid (∀ (w1 : World) (o : Only (fun _ => False) w w1), Calls Tryd.prog 10 #[.slice ao j cap] w1 fun e w' => ∃ v', e = .returned (.tuple #[v', .int .i64 0]) ∧ w'.ownsRow w1.heap.size 5 1 v' (ENC9 (xs.take j)).1.length ((ENC9 (xs.take j)).1.map (Value.int .u8)) ∧ Only (fun _ => False) w1 w') := by
    intro j hj w1 o
    have := encode9_all (.slice ao j cap) (xs.take j) w1 ((HB.out.past o).head (by omega)) (hu1 j) (hT.past o)
    rw [z1 _ (by rw [List.length_take]; omega)] at this
    exact this
  have hcap : xs.length ≤ cap := by
    obtain ⟨ao', cap', e1, hc, _⟩ := HB.out
    simp only [Value.slice.injEq] at e1
    omega
  obtain ⟨j, hj⟩ : ∃ j, j = min k xs.length := ⟨_, rfl⟩
  have HLE := hideIt (ENC9_take_le xs j (by omega))
  have HON := hideIt (ENC9_one xs)
  obtain ⟨q, hq⟩ : ∃ q, q = min xs.length 1 := ⟨_, rfl⟩
  rw [← hq] at HON
  have PJ := PB j (by omega)
  have PQ := PB q (by omega)
  have e1 : xs.take 1 = xs.take q := by
    rw [hq]
    rcases Nat.lt_or_ge xs.length 1 with h | h
    · rw [show min xs.length 1 = xs.length by omega, List.take_length, List.take_of_length_le (by omega)]
    · rw [show min xs.length 1 = 1 by omega]
  rw [e1] at HON
  clear PB z1 hu1 e1 hb hu
  generalize (ENC9 xs).1 = E at *
  generalize (ENC9 (xs.take j)).1 = F at *
  generalize (ENC9 (xs.take q)).1 = G at *
  obtain ⟨m, hm⟩ : ∃ m, m = xs.length := ⟨_, rfl⟩
  rw [← hm] at PA d1 hj hq hcap h1 ⊢
  clear hm HB hk
  have mj : min (k : Int) (m : Int) = (j : Int) := by omega
  have mq : min (m : Int) 1 = (q : Int) := by omega
  have j0 : (0 : Int) ≤ (j : Int) := by omega
  have j1 : (j : Int) ≤ (cap : Int) := by omega
  have q1 : (q : Int) ≤ (cap : Int) := by omega
  obtain ⟨le, hle⟩ : ∃ le, le = E.length := ⟨_, rfl⟩
  obtain ⟨lf, hlf⟩ : ∃ lf, lf = F.length := ⟨_, rfl⟩
  obtain ⟨lg, hlg⟩ : ∃ lg, lg = G.length := ⟨_, rfl⟩
  rw [← hle, ← hlf] at HLE
  rw [← hlg] at HON
  have z1 : decide ((le : Int) < (lf : Int)) = false := decide_eq_false (by have := HLE.out; omega)
  have z1n : decide (le < lf) = false := decide_eq_false (by have := HLE.out; omega)
  have z2 : ((lg : Int) == 8 * (q : Int)) = true := by have := HON.out; simp; omega
  have HE := hideIt hle
  have HF := hideIt hlf
  have HG := hideIt hlg
  clear hle hlf hlg HLE HON
  have HJ := hideIt hj
  have HQ := hideIt hq
  clear hj hq hcap
  go_enter Tryd.func8, Tryd.ntmps8
  go_wp2_with fail
  refine AW.out.mono ?_
  rintro e w1 ⟨rfl, on1⟩
  have O1 := hideIt on1
  have A := hideIt (PA.out w1 on1)
  clear on1 AW PA PA0
  go_wp2_with fail
  refine A.out.mono ?_
  rintro e w2 ⟨v2, rfl, own2, on2⟩
  have O2 := hideIt (O1.out.same on2)
  obtain ⟨f2, c2, e2⟩ := (Bs.of_own own2).len
  rw [← HE.out] at e2
  subst e2
  have B := hideIt (PJ.out w2 O2.out)
  clear A own2 on2 PJ
  go_wp2_with fail
  refine B.out.mono ?_
  rintro e w3 ⟨v3, rfl, own3, on3⟩
  have O3 := hideIt (O2.out.same on3)
  obtain ⟨f3, c3, e3⟩ := (Bs.of_own own3).len
  rw [← HF.out] at e3
  subst e3
  have C := hideIt (PQ.out w3 O3.out)
  clear B own3 on3 PQ
  go_wp2_with fail
  refine C.out.mono ?_
  rintro e w4 ⟨v4, rfl, own4, on4⟩
  have O4 := hideIt (O3.out.same on4)
  obtain ⟨f4, c4, e4⟩ := (Bs.of_own own4).len
  rw [← HG.out] at e4
  subst e4
  clear C own4 on4
  go_wp2
  go_ret
  exact ⟨rfl, O4.out⟩
end Go.Proofs.YthpcibofcgjcdaaDoor

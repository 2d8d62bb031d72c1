/- Contracts of the reference for bits: Width, Put. -/
import Derived.Test.YtfokchgihookgaaBRef
import Derived.Test.YtfokchgihookgaaBItems
namespace Go.Proofs.Ytfokchgihookgaa
open Go.RowKit


set_option maxHeartbeats 400000 in
set_option maxRecDepth 100000 in
theorem rwidth_any (v : Int) (w : World) (h0 : 0 ≤ v) (h1 : v ≤ 18446744073709551615) :
    Calls Try.prog 23 #[.int .u64 v] w fun e w' => e = .returned (.int .i64 (wid v.toNat)) ∧ w = w' := by
  have h64 := wid_le64 v.toNat (by omega)
  go_enter Try.func23, Try.ntmps23
  go_wp2
  go_loop [0, 3] (fun a i => ∃ (x c : Nat), a = .int .u64 x ∧ i = .int .i64 c ∧ wid x + c = wid v.toNat ∧ (x : Int) ≤ 18446744073709551615) (fun a _ => (intOf a).toNat)
  case atStart => exact ⟨v.toNat, 0, by rw [Int.toNat_of_nonneg h0], rfl, rfl, by omega⟩
  case round =>
    obtain ⟨x, c, rfl, rfl, hx, hxb⟩ := hrel
    have HX := hideIt hx
    have hcb : (c : Int) ≤ 64 := by omega
    clear hx h64
    by_cases hlt : 0 < x
    · have hlt' : (0 : Int) < (x : Int) := by omega
      have WH := hideIt (wid_half x hlt)
      go_wp2
      go_round
      case rel =>
        refine ⟨x / 2, c + 1, ?_, by go_num, by have := HX.out; have := WH.out; omega, by omega⟩
        congr 1
      case measure => simp [intOf]; omega
    · have hx0 : x = 0 := by omega
      subst hx0
      go_wp2
      go_ret
      refine ⟨ret_int ?_, rfl⟩
      have := HX.out
      simp [wid] at this
      simp [wid]
      omega

theorem rwidth_q (v : Int) (w : World) (h0 : 0 ≤ v) (h1 : v ≤ 18446744073709551615) :
    Calls Try.prog 23 #[.int .u64 v] w fun e w' => e = .returned (.int .i64 (wid v.toNat)) ∧ w' = w :=
  (rwidth_any v w h0 h1).mono fun _ _ ⟨a, b⟩ => ⟨a, b.symm⟩

theorem bits64_of (x : Int) (j : Nat) (x0 : 0 ≤ x) (x1 : x ≤ 18446744073709551615) : bits .and .u64 (x / 2 ^ j) 1 = ((x.toNat.testBit j).toNat : Int) := by
  obtain ⟨m, rfl⟩ := Int.eq_ofNat_of_zero_le x0
  have e : ((m : Int) / 2 ^ j) = ((m / 2 ^ j : Nat) : Int) := by simp
  have h := Nat.div_le_self m (2 ^ j)
  rw [e, show (1 : Int) = ((1 : Nat) : Int) from rfl, u64_and_nat _ _ (by omega) (by omega), nat_mask1, Int.toNat_natCast, Nat.testBit_eq_decide_div_mod_eq]
  by_cases h1 : m / 2 ^ j % 2 = 1
  · simp [h1]
  · have : m / 2 ^ j % 2 = 0 := by omega
    simp [this]

theorem bs_news {w : World} {ad : Addr} {m cap : Nat} {l : List Bool} (h : Bs .i64 w (.slice (some ad) m cap) (bitsI l)) : ∀ j u, ((bitsI l).map (Value.int .i64))[j]? = some u → w.cell? (ad.add j) = some u := by
  intro j u hu
  have hj : j < (bitsI l).length := by
    have := (List.getElem?_eq_some_iff.1 hu).1
    simpa using this
  obtain ⟨b, off, cap', e1, hc⟩ := h.at j hj
  simp at e1
  obtain ⟨rfl, _, _⟩ := e1
  have hadd : (⟨b, off, none⟩ : Addr).add j = ⟨b, off + j, none⟩ := by unfold Addr.add; split <;> simp_all
  rw [hadd, hc, ← hu]
  simp [List.getElem?_eq_getElem hj]
theorem put_fin (l : List Bool) (v n : Nat) : (l ++ bitsOf v n) = l ++ (bitsOf v n).take n := by
  rw [List.take_of_length_le (by rw [bitsOf_length]; omega)]

end Go.Proofs.Ytfokchgihookgaa

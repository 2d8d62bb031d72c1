/- The walk of VarintShort: it answers true, and nothing that was there is turned. -/
import Derived.Test.YthnlcigjfdmejaaVAwake
namespace Go.Proofs.Ythnlcigjfdmejaa
open Go.RowKit

theorem i64_low (n : Int) (k : Nat) (hk : k ≤ 62) : bits .and .i64 n ((2 ^ k - 1 : Nat) : Int) = n % ((2 ^ k : Nat) : Int) := by
  have hp : 2 ^ k ≤ 2 ^ 62 := Nat.pow_le_pow_right (by omega) hk
  have h62 : (2 : Nat) ^ 62 = 4611686018427387904 := by decide
  have h0 := Nat.two_pow_pos k
  have hm : (BitVec.ofInt 64 ((2 ^ k - 1 : Nat) : Int)).toNat = 2 ^ k - 1 := ofInt_u64 _ (by omega)
  have hd : (2 ^ k : Nat) ∣ 18446744073709551616 := ⟨2 ^ (64 - k), by rw [← Nat.pow_add, show k + (64 - k) = 64 by omega]⟩
  have key : (BitVec.ofInt 64 n &&& BitVec.ofInt 64 ((2 ^ k - 1 : Nat) : Int)).toNat = (n % 18446744073709551616).toNat % 2 ^ k := by
    rw [BitVec.toNat_and, BitVec.toNat_ofInt, hm, Nat.and_two_pow_sub_one_eq_mod]; rfl
  show IntKind.i64.wrap ((BitVec.ofInt 64 n &&& BitVec.ofInt 64 ((2 ^ k - 1 : Nat) : Int)).toNat : Nat) = _
  have hlt := Nat.mod_lt (n % 18446744073709551616).toNat h0
  rw [key, IntKind.wrap_i64]
  have e : (((n % 18446744073709551616).toNat % 2 ^ k : Nat) : Int) = n % ((2 ^ k : Nat) : Int) := by
    rw [Int.natCast_emod, Int.toNat_of_nonneg (by omega)]
    exact Int.emod_emod_of_dvd n (Int.natCast_dvd_natCast.2 hd)
  rw [← e]
  omega

set_option maxHeartbeats 800000 in
set_option maxRecDepth 100000 in
theorem short_walk (v u cut : Int) (w : World) (h0 : 0 ≤ v) (h1 : v ≤ 18446744073709551615) (h2 : 0 ≤ u) (h3 : u ≤ 18446744073709551615) :
    Calls Try.prog 7 #[.int .u64 v, .int .u64 u, .int .i64 cut] w fun e w' => e = .returned (.bool true) ∧ Below w.heap.size w w' := by
  obtain ⟨z, hz, hz15⟩ : ∃ z : Nat, bits .and .i64 cut 15 = (z : Int) ∧ z ≤ 15 := by
    have := i64_low cut 4 (by omega)
    rw [show ((2 ^ 4 - 1 : Nat) : Int) = 15 from rfl, show ((2 ^ 4 : Nat) : Int) = 16 from rfl] at this
    exact ⟨(cut % 16).toNat, by omega, by omega⟩
  have HG := hideIt (gs_range v.toNat)
  have h10 := gs_le10 (v := v.toNat) (by omega)
  have hp := gs_pos v.toNat
  have HS := hideIt (fun (k : Nat) (hk : k < (gs v.toNat).length) => rd_short v.toNat 0 k 0 (by omega) (by omega) hk)
  have HM := hideIt (fun (h : u ≤ v) => gs_mono (a := u.toNat) (b := v.toNat) (by omega))
  obtain ⟨n, hn⟩ : ∃ n, n = (gs v.toNat).length := ⟨_, rfl⟩
  obtain ⟨m, hm⟩ : ∃ m, m = (gs u.toNat).length := ⟨_, rfl⟩
  rw [← hn] at h10 hp HS HM
  rw [← hm] at HM
  have SV := hideIt (fun w => size_any v w h0 h1)
  have SU := hideIt (fun w => size_any u w h2 h3)
  rw [← hn] at SV
  rw [← hm] at SU
  have HN := hideIt hn
  have dn : decide ((n : Int) ≤ 10) = true := by simp; omega
  clear hn hm
  go_enter Try.func7, Try.ntmps7
  go_wp2_with fail
  refine (awake_any _).mono ?_
  rintro e w0 ⟨rfl, ho0⟩
  have B0 := hideIt (ho0.low (Nat.le_refl _))
  clear ho0
  go_wp2_with fail
  refine (append_any _ [] v _ (Bs.nil _ _) NoCap.nil (by simp) h0 h1).mono ?_
  rw [List.nil_append]
  rw [← HN.out]
  rintro e w1 ⟨v1, rfl, hown1, hon1⟩
  have BS := hideIt (Bs.of_own (xs := gs v.toNat) (by rw [← HN.out]; exact hown1))
  obtain ⟨g, cap, hv, _⟩ := hown1.form (by omega)
  have hcap : n ≤ cap := by
    rcases hown1.2 with ⟨h', _⟩ | ⟨_, _, _, h', _, _, hc, _⟩
    · rw [hv] at h'; cases h'
    · rw [hv] at h'; cases h'; exact hc
  subst hv
  have B1 := hideIt (B0.out.trans (hon1.low B0.out.size))
  clear hown1 hon1
  by_cases hlt : z < n
  · have dl : decide ((z : Int) < (n : Int)) = true := by simp; omega
    go_wp2_with fail
    refine (read_as _ ((gs v.toNat).take z) _ (HS.out z hlt) (BS.out.head (by omega)) (fun x hx => HG.out x (List.mem_of_mem_take hx))).mono ?_
    rintro e w2 ⟨rfl, rfl⟩
    by_cases hvu : v < u
    · have dv : decide (v < u) = true := by simp; omega
      go_wp2_with fail
      refine (SV.out _).mono ?_
      rintro e w2 ⟨rfl, rfl⟩
      go_wp2_with fail
      refine (SV.out _).mono ?_
      rintro e w2 ⟨rfl, rfl⟩
      go_wp2
      go_ret
      exact ⟨rfl, B1.out⟩
    · have dv : decide (v < u) = false := by simp; omega
      have hmn := HM.out (by omega)
      go_wp2_with fail
      refine (SV.out _).mono ?_
      rintro e w2 ⟨rfl, rfl⟩
      go_wp2_with fail
      refine (SU.out _).mono ?_
      rintro e w2 ⟨rfl, rfl⟩
      go_wp2_with fail
      refine (SV.out _).mono ?_
      rintro e w2 ⟨rfl, rfl⟩
      go_wp2_with fail
      refine (SV.out _).mono ?_
      rintro e w2 ⟨rfl, rfl⟩
      go_wp2
      go_ret
      exact ⟨rfl, B1.out⟩
  · have dl : decide ((z : Int) < (n : Int)) = false := by simp; omega
    by_cases hvu : v < u
    · have dv : decide (v < u) = true := by simp; omega
      go_wp2_with fail
      refine (SV.out _).mono ?_
      rintro e w2 ⟨rfl, rfl⟩
      go_wp2_with fail
      refine (SV.out _).mono ?_
      rintro e w2 ⟨rfl, rfl⟩
      go_wp2
      go_ret
      exact ⟨rfl, B1.out⟩
    · have dv : decide (v < u) = false := by simp; omega
      have hmn := HM.out (by omega)
      go_wp2_with fail
      refine (SV.out _).mono ?_
      rintro e w2 ⟨rfl, rfl⟩
      go_wp2_with fail
      refine (SU.out _).mono ?_
      rintro e w2 ⟨rfl, rfl⟩
      go_wp2_with fail
      refine (SV.out _).mono ?_
      rintro e w2 ⟨rfl, rfl⟩
      go_wp2_with fail
      refine (SV.out _).mono ?_
      rintro e w2 ⟨rfl, rfl⟩
      go_wp2
      go_ret
      exact ⟨rfl, B1.out⟩
end Go.Proofs.Ythnlcigjfdmejaa

/- The walk of VarintOnly: it answers true, and nothing that was there is turned. -/
import Derived.Test.YthnlcigjfdmejaaVAwake
import Derived.Deep.RegionHeld3
namespace Go.Proofs.Ythnlcigjfdmejaa
open Go.RowKit

set_option maxHeartbeats 1600000 in
set_option maxRecDepth 100000 in
theorem only_walk (v0 : Value) (ys : List Int) (w : World) (hb : Bs .u8 w v0 ys) (hys : ∀ x ∈ ys, 0 ≤ x ∧ x ≤ 255) :
    Calls Try.prog 6 #[v0] w fun e w' => e = .returned (.bool true) ∧ Below w.heap.size w w' := by
  have HB := hideIt hb
  have HY := hideIt hys
  obtain ⟨ao, cap, hv0⟩ := hb.len
  have hcap : ys.length ≤ cap := by
    obtain ⟨ao', cap', e, hc, _⟩ := hb
    rw [hv0] at e
    simp at e
    omega
  obtain ⟨m, hm⟩ : ∃ m, m = ys.length := ⟨_, rfl⟩
  rw [← hm] at hv0 hcap
  have HM := hideIt hm
  clear hb hm
  by_cases h300 : 300 < m
  · have d3 : decide (300 < (m : Int)) = true := by simp; omega
    subst hv0
    go_enter Try.func6, Try.ntmps6
    go_wp2_with fail
    refine (awake_any _).mono ?_
    rintro e w0 ⟨rfl, ho0⟩
    go_wp2
    go_ret
    exact ⟨rfl, ho0.low (Nat.le_refl _)⟩
  · have d3 : decide (300 < (m : Int)) = false := by simp; omega
    subst hv0
    obtain ⟨a, b, c, hR⟩ : ∃ a b c, rd 0 0 ys = (a, b, c) := ⟨_, _, _, rfl⟩
    have HR := hideIt hR
    by_cases hc : c = 0
    · subst hc
      obtain ⟨v, k, hv, hk, hk1, hk2, hg, _, hvb⟩ := rd_ok ys 0 0 a b (by omega) hys hR
      have ha : a = (v : Int) := by rw [hv]; simp
      have hbk : b = (k : Int) := by omega
      have hkm : k ≤ m := by have := HM.out; omega
      have hv64 : (v : Int) ≤ 18446744073709551615 := by simp at hvb; omega
      subst ha hbk
      have HG := hideIt hg
      have k0 : (0 : Int) ≤ (k : Int) := by omega
      have kc : (k : Int) ≤ (cap : Int) := by omega
      have km : (k : Int) ≤ (m : Int) := by omega
      have e1 : decide ((k : Int) < 1) = false := by simp; omega
      have e2 : decide ((m : Int) < (k : Int)) = false := by simp; omega
      clear hys hR hv hk hg hk2 hvb
      go_enter Try.func6, Try.ntmps6
      go_wp2_with fail
      refine (awake_any _).mono ?_
      rintro e w0 ⟨rfl, ho0⟩
      have B0 := hideIt (ho0.low (Nat.le_refl _))
      clear ho0
      have RA := hideIt (read_as _ ys w0 HR.out (HB.out.later B0.out) HY.out)
      go_wp2_with fail
      refine RA.out.mono ?_
      rintro e w1 ⟨rfl, rfl⟩
      have AP := hideIt (append_any (.slice none 0 0) [] v w0.drew (Bs.nil _ _) NoCap.nil (by simp) (by omega) hv64)
      rw [List.nil_append, Int.toNat_natCast, HG.out] at AP
      go_wp2
      go_region_held3 (fun _ => True) (go_keep) (first | (go_at_call 11; refine AP.out.mono ?_; rintro e w2 ⟨v1, rfl, hown2, hon2⟩) | (go_at_call 10; refine (same_eq v1 _ (ys.take k) w2 (Bs.of_own hown2) (((HB.out.later B0.out.drew).later (hon2.low (Nat.le_refl _))).head hkm) (by rw [List.length_take]; omega)).mono ?_; rintro e w3 ⟨rfl, hon3⟩))
      all_goals have B3 := hideIt ((B0.out.drew.trans (hon2.low B0.out.drew.size)).trans (hon3.low (B0.out.drew.trans (hon2.low B0.out.drew.size)).size))
      all_goals clear hon2 hon3 hown2
      all_goals go_wp2
      all_goals go_ret
      all_goals exact ⟨rfl, B3.out⟩
    · have hz := rd_err ys 0 0
      rw [hR] at hz
      simp only at hz
      obtain ⟨ha, hbz, _⟩ : a = 0 ∧ b = 0 ∧ True := by
        rcases hz with h | h
        · exact absurd h hc
        · exact ⟨h.1, h.2.1, trivial⟩
      subst ha hbz
      have dc : (c != 0) = true := by simpa using hc
      clear hys hR hz
      go_enter Try.func6, Try.ntmps6
      go_wp2_with fail
      refine (awake_any _).mono ?_
      rintro e w0 ⟨rfl, ho0⟩
      have B0 := hideIt (ho0.low (Nat.le_refl _))
      clear ho0
      have RA := hideIt (read_as _ ys w0 HR.out (HB.out.later B0.out) HY.out)
      go_wp2_with fail
      refine RA.out.mono ?_
      rintro e w1 ⟨rfl, rfl⟩
      go_wp2
      go_ret
      exact ⟨rfl, B0.out⟩
end Go.Proofs.Ythnlcigjfdmejaa

/- The walk of VarintReads: it answers true, and nothing that was there is turned. -/
import Derived.Test.YthnlcigjfdmejaaVRef
import Derived.Test.YthnlcigjfdmejaaVAwake
namespace Go.Proofs.Ythnlcigjfdmejaa
open Go.RowKit

set_option maxHeartbeats 800000 in
set_option maxRecDepth 100000 in
theorem reads_walk (v0 : Value) (ys : List Int) (w : World) (h0 : Bs .u8 w v0 ys) (hys : ∀ x ∈ ys, 0 ≤ x ∧ x ≤ 255) :
    Calls Try.prog 4 #[v0] w fun e w' => e = .returned (.bool true) ∧ Below w.heap.size w w' := by
  have H0 := hideIt h0
  have HY := hideIt hys
  obtain ⟨a, b, c, hR⟩ : ∃ a b c, rd 0 0 ys = (a, b, c) := ⟨_, _, _, rfl⟩
  have HR := hideIt hR
  obtain ⟨ao, cap, hv0⟩ := h0.len
  have hcap : ys.length ≤ cap := by
    obtain ⟨ao', cap', e, hc, _⟩ := h0
    rw [hv0] at e
    simp at e
    omega
  obtain ⟨n, hn⟩ : ∃ n, n = ys.length := ⟨_, rfl⟩
  rw [← hn] at hv0 hcap
  have HN := hideIt hn
  subst hv0
  have ea : (a == a) = true := by simp
  have eb : (b == b) = true := by simp
  have ec : (c == c) = true := by simp
  clear hys h0 hn
  by_cases hlt : 20 < n
  · have HR2 := hideIt ((rd_take ys 0 20 0 (by omega) (by omega)).trans hR)
    have d20 : decide (20 < (n : Int)) = true := by simp; omega
    clear hR
    go_enter Try.func4, Try.ntmps4
    go_wp2_with fail
    refine (awake_any _).mono ?_
    rintro e w0 ⟨rfl, ho0⟩
    have B0 := hideIt (ho0.low (Nat.le_refl _))
    clear ho0
    go_wp2_with fail
    refine (read_as _ ys _ HR.out (H0.out.later B0.out) HY.out).mono ?_
    rintro e w1 ⟨rfl, rfl⟩
    go_wp2_with fail
    refine (rread_as _ (ys.take 20) _ HR2.out ((H0.out.later B0.out).head (by omega)) (fun x hx => HY.out x (List.mem_of_mem_take hx))).mono ?_
    rintro e w1 ⟨rfl, rfl⟩
    go_wp2
    go_ret
    exact ⟨rfl, B0.out⟩
  · have d20 : decide (20 < (n : Int)) = false := by simp; omega
    clear hR
    go_enter Try.func4, Try.ntmps4
    go_wp2_with fail
    refine (awake_any _).mono ?_
    rintro e w0 ⟨rfl, ho0⟩
    have B0 := hideIt (ho0.low (Nat.le_refl _))
    clear ho0
    go_wp2_with fail
    refine (read_as _ ys _ HR.out (H0.out.later B0.out) HY.out).mono ?_
    rintro e w1 ⟨rfl, rfl⟩
    go_wp2_with fail
    refine (rread_as _ ys _ HR.out (H0.out.later B0.out) HY.out).mono ?_
    rintro e w1 ⟨rfl, rfl⟩
    go_wp2
    go_ret
    exact ⟨rfl, B0.out⟩
end Go.Proofs.Ythnlcigjfdmejaa

/- hmac.Check. -/
import Derived.Test.YtjljpdniofiaaaaTg
import Derived.Test.YtjljpdniofiaaaaHsa
namespace Go.Proofs.Ytjljpdniofiaaaa
open Go.RowKit

/-- a tag as a slice -/
theorem mac_form {w : World} {lo : Nat} {v : Value} {k b : List Int} (h : w.ownsRow lo 5 1 v 32 ((MACL k b).map (Value.int .u8))) : Bs .u8 w v (MACL k b) ∧ ∃ g cap, v = .slice (some ⟨g, 0, none⟩) 32 cap ∧ lo ≤ g := by
  refine ⟨Bs.of_own (by rw [MACL_len]; exact h), ?_⟩
  rcases h.2 with ⟨_, h0⟩ | ⟨g, cap, cur, hv, hb, _⟩
  · cases h0
  · exact ⟨g, cap, hv, hb⟩
theorem mac_at {w : World} {g cap : Nat} {k b : List Int} (h : Bs .u8 w (.slice (some ⟨g, 0, none⟩) 32 cap) (MACL k b)) (j : Nat) (hj : j < 32) : w.cell? ⟨g, j, none⟩ = some (.int .u8 ((MACL k b).getD j 0)) := by
  obtain ⟨b', off', cap', e, hc⟩ := h.at j (by rw [MACL_len]; exact hj)
  simp at e
  obtain ⟨⟨rfl, rfl⟩, _, rfl⟩ := e
  rwa [Nat.zero_add] at hc
set_option maxHeartbeats 800000 in
set_option maxRecDepth 100000 in
theorem check_bs (v u t : Value) (key b tag : List Int) (w : World) (hb : Bs .u8 w v key) (h8 : U8 key) (hk : key.length ≤ 10000000000) (hu : Bs .u8 w u b) (hu8 : U8 b) (hl : b.length ≤ 10000000000) (ht : Bs .u8 w t tag) (ht8 : U8 tag) :
    Calls Try.prog 13 #[v, u, t] w fun e w' => e = .returned (.bool (decide (MACL key b = tag))) ∧ Only (fun _ => False) w w' := by
  have A := hideIt (mac_bs v u key b w hb h8 hk hu hu8 hl)
  have HT := hideIt (And.intro ht ht8)
  obtain ⟨D, hD⟩ : ∃ D, D = decide (MACL key b = tag) := ⟨_, rfl⟩
  rw [← hD]
  have HD := hideIt hD
  clear hb h8 hk hu hu8 hl ht ht8 hD
  go_enter Try.func13, Try.ntmps13
  go_wp2_with fail
  refine A.out.mono ?_
  rintro e w1 ⟨v1, rfl, own1, on1⟩
  obtain ⟨b1, g1, c1, rfl, _⟩ := mac_form own1
  have S := hideIt (hsame_any (.slice (some ⟨g1, 0, none⟩) 32 c1) t (MACL key b) tag w1 b1 (HT.out.1.past on1) (MACL_u8 _ _) HT.out.2 (by rw [MACL_len]; decide))
  rw [← HD.out] at S
  have O1 := hideIt on1
  clear A own1 on1 b1 HT HD
  go_wp2_with fail
  refine S.out.mono ?_
  rintro e w2 ⟨rfl, on2⟩
  have F := hideIt (O1.out.same on2)
  clear S on2 O1
  go_wp2
  go_ret
  exact ⟨rfl, F.out⟩
end Go.Proofs.Ytjljpdniofiaaaa

/- The walk of the statement on a list that is cut off. -/
import Derived.Test.YtlfioabaingfbaaDAwake

namespace Go.Proofs.Ytlfioabaingfbaa
open Go.RowKit

theorem Bs.full {k : IntKind} {w : World} {v : Value} {xs : List Int} (h : Bs k w v xs) : ∃ ao cap, v = .slice ao xs.length cap ∧ xs.length ≤ cap := by
  obtain ⟨ao, cap, e, hc, _⟩ := h
  exact ⟨ao, cap, e, hc⟩
theorem Bs.begin {k : IntKind} {w : World} {v : Value} {xs : List Int} (h : Bs k w v xs) (hx : 0 < xs.length) : ∃ b off cap, v = .slice (some ⟨b, off, none⟩) xs.length cap ∧ xs.length ≤ cap ∧ w.cell? ⟨b, off, none⟩ = some (.int k (xs.getD 0 0)) := by
  obtain ⟨ao, cap, e, hc, hr⟩ := h
  obtain ⟨b, off, rfl, hcell⟩ := hr (by intro h0; subst h0; simp at hx)
  exact ⟨b, off, cap, e, hc, hcell 0 hx⟩

theorem D_nil (m : Nat) : D m [] = [] := List.eq_nil_of_length_eq_zero (by rw [D_length]; rfl)
theorem S_nil (m : Nat) : S m [] = [] := List.eq_nil_of_length_eq_zero (by rw [S_length]; rfl)
set_option maxHeartbeats 800000 in
set_option maxRecDepth 100000 in
theorem first_zero (v : Value) (m : Nat) (q : Int) (w : World) (hm : m ≤ 3) (hlow : bits .and .i64 q 1023 = ((0 : Nat) : Int)) (hb : Bs .i64 w v []) :
    Calls Try.prog 6 #[v, .int .i64 m, .int .i64 q] w fun e w' => e = .returned (.bool true) ∧ Only (fun _ => False) w w' := by
  have AW := hideIt (awake_any w)
  have t1 : decide ((m : Int) < 0) = false := decide_eq_false (by omega)
  have t2 : decide (3 < (m : Int)) = false := decide_eq_false (by omega)
  have HB := hideIt hb
  obtain ⟨ao, cap, hv, hcap⟩ := hb.full
  have hv' : v = .slice ao 0 cap := hv
  subst hv'
  have DN := hideIt (fun w1 h => diff_bs (.slice ao 0 cap) [] m w1 h (by decide) hm)
  have SN := hideIt (fun w1 h => sum_bs (.slice ao 0 cap) [] m w1 h (by decide) hm)
  rw [D_nil] at DN
  rw [S_nil] at SN
  clear hb hv hcap
  go_enter Try.func6, Try.ntmps6
  go_wp2_with fail
  refine AW.out.mono ?_
  rintro e w1 ⟨rfl, on1⟩
  have O1 := hideIt on1
  have A := hideIt (DN.out w1 (HB.out.past on1))
  clear on1 AW
  go_wp2_with fail
  refine A.out.mono ?_
  rintro e w2 ⟨v2, rfl, b2, _, on2⟩
  have O2 := hideIt (O1.out.same on2)
  have B2 := hideIt b2
  have A3 := hideIt (DN.out w2 (HB.out.past O2.out))
  clear on2 b2 A
  go_wp2_with fail
  refine A3.out.mono ?_
  rintro e w3 ⟨v3, rfl, b3, _, on3⟩
  have O3 := hideIt (O2.out.same on3)
  have B3 := hideIt (And.intro (B2.out.past on3) b3)
  have A4 := hideIt (SN.out w3 (HB.out.past O3.out))
  clear on3 b3 A3 B2
  go_wp2_with fail
  refine A4.out.mono ?_
  rintro e w4 ⟨v4, rfl, b4, _, on4⟩
  have O4 := hideIt (O3.out.same on4)
  have B4 := hideIt (And.intro (B3.out.1.past on4) (And.intro (B3.out.2.past on4) b4))
  have A5 := hideIt (SN.out w4 (HB.out.past O4.out))
  clear on4 b4 A4 B3
  go_wp2_with fail
  refine A5.out.mono ?_
  rintro e w5 ⟨v5, rfl, b5, _, on5⟩
  have O5 := hideIt (O4.out.same on5)
  have ba := B4.out.1.past on5
  have bb := B4.out.2.1.past on5
  have bd := B4.out.2.2.past on5
  clear on5 A5 B4
  obtain ⟨ao2, cap2, hv2, _⟩ := ba.full
  obtain ⟨ao4, cap4, hv4, _⟩ := bd.full
  have hv2' : v2 = .slice ao2 0 cap2 := hv2
  have hv4' : v4 = .slice ao4 0 cap4 := hv4
  subst hv2' hv4'
  have SA := hideIt (And.intro ba bb)
  have SB := hideIt (And.intro bd b5)
  clear ba bb bd b5 hv2 hv4 DN SN HB O1 O2 O3 O4
  go_wp2
  go_quiet (first | (go_at_call 13; exact Calls.quiet_of (lsame4_q (.slice ao2 0 cap2) v3 [] _ (SA.out.1.past ((Only.refl _ _).drewN _)) (SA.out.2.past ((Only.refl _ _).drewN _)) (by decide))) | (go_at_call 13; exact Calls.quiet_of (lsame4_q (.slice ao4 0 cap4) v5 [] _ (SB.out.1.past ((Only.refl _ _).drewN _)) (SB.out.2.past ((Only.refl _ _).drewN _)) (by decide))))
  go_wp2
  go_ret
  exact ⟨rfl, O5.out.drewN nq⟩
end Go.Proofs.Ytlfioabaingfbaa

/- The walk of MerkleHalves. -/
import Derived.Test.YtnifflnhbpfmnaaAw20
namespace Go.Proofs.Ytnifflnhbpfmnaa
open Go.RowKit
set_option linter.unusedVariables false

set_option maxHeartbeats 1600000 in
set_option maxRecDepth 100000 in
theorem halves_walk (vl : Value) (l : List (List Int)) (w : World) (rl : RL w vl l) (l8 : ∀ x ∈ l, U8 x) :
    Calls Try.prog 8 #[vl] w fun e w' => e = .returned (.bool true) ∧ Below w.heap.size w w' := by
  have A := hideIt (awake_any w)
  have FL := hideIt (fun (W : World) (o : Only (fun _ => False) w W) => few_any vl l 70 (by decide) W (rl.past o))
  rw [show ((70 : Nat) : Int) = 70 from rfl] at FL
  obtain ⟨D, hD⟩ : ∃ D, D = FEW l 70 := ⟨_, rfl⟩
  rw [← hD] at FL
  obtain ⟨n, hn⟩ : ∃ n, l.length = n := ⟨_, rfl⟩
  cases D with
  | false =>
    obtain ⟨aol, cl, evl, _⟩ := rl.len
    subst evl
    rw [hn] at FL ⊢
    clear rl l8 hD hn
    go_enter Try.func8, Try.ntmps8
    go_wp2_with fail
    refine A.out.mono ?_
    rintro e w1 ⟨rfl, o1⟩
    have F := hideIt (o1.low (Nat.le_refl _))
    have G := hideIt (FL.out w1 o1)
    clear o1 A FL
    go_wp2_with fail
    refine G.out.mono ?_
    rintro e w2 ⟨rfl, rfl⟩
    clear G
    go_wp2
    go_ret
    exact ⟨rfl, F.out⟩
  | true =>
    by_cases h0 : n = 0
    · obtain ⟨aol, cl, evl, _⟩ := rl.len
      subst evl
      rw [hn] at FL ⊢
      subst h0
      clear rl l8 hD hn
      go_enter Try.func8, Try.ntmps8
      go_wp2_with fail
      refine A.out.mono ?_
      rintro e w1 ⟨rfl, o1⟩
      have F := hideIt (o1.low (Nat.le_refl _))
      have G := hideIt (FL.out w1 o1)
      clear o1 A FL
      go_wp2_with fail
      refine G.out.mono ?_
      rintro e w2 ⟨rfl, rfl⟩
      clear G
      go_wp2
      go_ret
      exact ⟨rfl, F.out⟩
    have d0 : ((n : Int) == 0) = false := by rw [beq_eq_false_iff_ne]; omega
    obtain ⟨l70, l5, _⟩ := FEW_r5 hD.symm l8
    obtain ⟨b, off, cap, evl, hcap⟩ := rl.form hn (by omega)
    have TF := hideIt (fun (W : World) (o : Only (fun _ => False) w W) => root_any l vl W (by omega) l5.r8 (rl.past o))
    have tl := hideIt (TOP_r8 l5.r8).2
    by_cases h1 : n = 1
    · subst evl
      obtain ⟨u, hu, hbu, nu⟩ := rl.at 0 (by omega)
      rw [Nat.add_zero] at hu
      rw [TOP_one (by omega), head_at] at TF tl
      obtain ⟨Y, hY⟩ : ∃ Y, Y = l.getD 0 [] := ⟨_, rfl⟩
      rw [← hY] at TF tl hbu
      have HU := hideIt hbu
      obtain ⟨ao, cu, rfl⟩ := hbu.len
      obtain ⟨m, hm⟩ : ∃ m, m = Y.length := ⟨_, rfl⟩
      rw [← hm] at hu HU
      have KU : Hid (∀ W, Only (fun _ => False) w W → W.cell? ⟨b, off, none⟩ = some (.slice ao m cu)) := fun W o => cell_past hu o
      subst h1
      clear rl l8 hD hn l70 l5 hcap hbu nu hY hu hm d0
      go_enter Try.func8, Try.ntmps8
      go_wp2_with fail
      refine A.out.mono ?_
      rintro e w1 ⟨rfl, o1⟩
      have O1 := hideIt o1
      have G := hideIt (FL.out w1 o1)
      have c1 := KU.out w1 o1
      clear o1 A FL
      go_wp2_with fail
      refine G.out.mono ?_
      rintro e w2 ⟨rfl, rfl⟩
      clear G
      go_wp2_with fail
      go_region_held (fun W => W.cell? ⟨b, off, none⟩ = some (.slice ao m cu)) (go_keep) (first | (go_at_call 16; refine (TF.out _ (O1.out.drew)).mono ?_; rintro e w2 ⟨v2, rfl, own2, o2⟩; have O2 := hideIt ((O1.out.drew).same o2); have B2 := hideIt (own_bs own2); have k2 := KU.out _ O2.out; clear own2 o2 TF) | (go_at_call 11; refine (lsame20_any _ _ Y Y _ B2.out (HU.out.past O2.out) (by have := tl.out; omega)).mono ?_; rintro e w3 ⟨rfl, o3⟩; have O3 := hideIt (O2.out.same o3); have k3 := KU.out _ O3.out; clear o3))
      go_wp2
      go_ret
      exact ⟨by simp, O3.out.low (Nat.le_refl _)⟩
    · obtain ⟨q, hq⟩ : ∃ q, q = HALF n := ⟨_, rfl⟩
      have q1 := HALF_pos n
      have q2 := HALF_lt (n := n) (by omega)
      rw [← hq] at q1 q2
      have d1 : ((n : Int) == 1) = false := by rw [beq_eq_false_iff_ne]; omega
      subst evl
      have HH := hideIt (fun (W : World) => rhalf_any n (by omega) W)
      rw [← hq] at HH
      obtain ⟨L, hL⟩ : ∃ L, L = l.take q := ⟨_, rfl⟩
      obtain ⟨R, hR⟩ : ∃ R, R = l.drop q := ⟨_, rfl⟩
      have hLl : L.length = q := by rw [hL, List.length_take]; omega
      have hRl : R.length = n - q := by rw [hR, List.length_drop]; omega
      have L5 : R5 L := by rw [hL]; exact l5.take _
      have R5' : R5 R := by rw [hR]; exact l5.drop _
      have rL : RL w (.slice (some ⟨b, off, none⟩) q cap) L := by rw [hL]; exact rl.head q (by omega)
      have rR : RL w (.slice (some ⟨b, off + q, none⟩) (n - q) (cap - q)) R := by rw [hR]; exact rl.tail q (by omega)
      rw [TOP_two (by omega), hn, ← hq, ← hL, ← hR, NODE_len] at TF
      have T1 := hideIt (fun (W : World) (o : Only (fun _ => False) w W) => root_any L _ W (by omega) L5.r8 (rL.past o))
      have T2 := hideIt (fun (W : World) (o : Only (fun _ => False) w W) => root_any R _ W (by omega) R5'.r8 (rR.past o))
      have NC := hideIt (fun (vl vr : Value) (W : World) (hb : Bs .u8 W vl (TOP L)) (hr : Bs .u8 W vr (TOP R)) => node_any vl vr (TOP L) (TOP R) W hb hr (TOP_r5 L5).1 (TOP_r5 R5').1 (TOP_r8 L5.r8).2 (TOP_r8 R5'.r8).2)
      have c1 : (q : Int) ≤ (cap : Int) := by omega
      have c2 : (q : Int) ≤ (n : Int) := by omega
      have c0 : (0 : Int) ≤ (q : Int) := by omega
      have c3 : ¬ cap = q := by omega
      clear rl l8 hD hn l70 l5 hcap hq hL hR hLl hRl L5 R5' rL rR h0 h1 tl q1 q2
      go_enter Try.func8, Try.ntmps8
      go_wp2_with fail
      refine A.out.mono ?_
      rintro e w1 ⟨rfl, o1⟩
      have O1 := hideIt o1
      have G := hideIt (FL.out w1 o1)
      clear o1 A FL
      go_wp2_with fail
      refine G.out.mono ?_
      rintro e w2 ⟨rfl, rfl⟩
      clear G
      go_wp2_with fail
      refine (HH.out _).mono ?_
      rintro e w2 ⟨rfl, rfl⟩
      clear HH
      go_wp2_with fail
      go_region_held (fun _ => True) (trivial) (first | (go_at_call 16; refine (TF.out _ (O1.out.drew)).mono ?_; rintro e w2 ⟨v2, rfl, own2, o2⟩; have O2 := hideIt ((O1.out.drew).same o2); have B2 := hideIt (own_bs own2); clear own2 o2 TF) | (go_at_call 16; refine (T1.out _ O2.out).mono ?_; rintro e w3 ⟨v3, rfl, own3, o3⟩; have O3 := hideIt (O2.out.same o3); have B3 := hideIt (And.intro (B2.out.past o3) (own_bs own3)); clear own3 o3 T1 B2) | (go_at_call 16; refine (T2.out _ O3.out).mono ?_; rintro e w4 ⟨v4, rfl, own4, o4⟩; have O4 := hideIt (O3.out.same o4); have B4 := hideIt (And.intro (B3.out.1.past o4) (And.intro (B3.out.2.past o4) (own_bs own4))); clear own4 o4 T2 B3) | (go_at_call 14; refine (NC.out _ _ _ B4.out.2.1 B4.out.2.2).mono ?_; rintro e w5 ⟨v5, rfl, own5, o5⟩; have O5 := hideIt (O4.out.same o5); have B5 := hideIt (And.intro (B4.out.1.past o5) (own_bs own5)); clear own5 o5 NC B4) | (go_at_call 11; refine (lsame20_any _ _ _ _ _ B5.out.1 B5.out.2 (by rw [NODE_len]; decide)).mono ?_; rintro e w6 ⟨rfl, o6⟩; have O6 := hideIt (O5.out.same o6); clear o6 B5))
      go_wp2
      go_ret
      exact ⟨by simp, O6.out.low (Nat.le_refl _)⟩
end Go.Proofs.Ytnifflnhbpfmnaa

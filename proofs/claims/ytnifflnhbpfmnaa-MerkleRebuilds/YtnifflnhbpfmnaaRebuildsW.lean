/- The walk of MerkleRebuilds. -/
import Derived.Test.YtnifflnhbpfmnaaAw20
namespace Go.Proofs.Ytnifflnhbpfmnaa
open Go.RowKit
set_option linter.unusedVariables false

set_option maxHeartbeats 1600000 in
set_option maxRecDepth 100000 in
theorem rebuilds_walk (vr : Value) (r : List Int) (n i : Int) (vl vp : Value) (l p : List (List Int)) (w : World) (hr : Bs .u8 w vr r) (r8 : U8 r) (rl : RL w vl l) (l8 : ∀ x ∈ l, U8 x) (rp : RL w vp p) (p8 : ∀ x ∈ p, U8 x) :
    Calls Try.prog 5 #[vr, .int .i64 n, .int .i64 i, vl, vp] w fun e w' => e = .returned (.bool true) ∧ Below w.heap.size w w' := by
  have A := hideIt (awake_any w)
  have FL := hideIt (fun (W : World) (o : Only (fun _ => False) w W) => few_any vl l 70 (by decide) W (rl.past o))
  rw [show ((70 : Nat) : Int) = 70 from rfl] at FL
  have FP := hideIt (fun (W : World) (o : Only (fun _ => False) w W) => few_any vp p 100 (by decide) W (rp.past o))
  rw [show ((100 : Nat) : Int) = 100 from rfl] at FP
  obtain ⟨D, hD⟩ : ∃ D, D = FEW l 70 := ⟨_, rfl⟩
  rw [← hD] at FL
  obtain ⟨C, hC⟩ : ∃ C, C = FEW p 100 := ⟨_, rfl⟩
  rw [← hC] at FP
  obtain ⟨aor, cr, evr⟩ := hr.len
  obtain ⟨aol, cl, evl, _⟩ := rl.len
  obtain ⟨aop, cp, evp, _⟩ := rp.len
  obtain ⟨n1, h1⟩ : ∃ n1, n1 = r.length := ⟨_, rfl⟩
  obtain ⟨n2, h2⟩ : ∃ n2, n2 = l.length := ⟨_, rfl⟩
  obtain ⟨n3, h3⟩ : ∃ n3, n3 = p.length := ⟨_, rfl⟩
  cases D with
  | false =>
    subst evr
    subst evl
    subst evp
    rw [← h2] at FL
    rw [← h1, ← h2, ← h3]
    clear hr r8 rl l8 rp p8 hD hC h1 h2 h3 FP
    go_enter Try.func5, Try.ntmps5
    go_wp2_with fail
    refine A.out.mono ?_
    rintro e w1 ⟨rfl, o1⟩
    have F := hideIt (o1.low (Nat.le_refl _))
    have G := hideIt (FL.out w1 o1)
    clear o1 A FL
    go_wp2_with fail
    refine G.out.mono ?_
    rintro e w2 ⟨rfl, rfl⟩
    clear G
    go_wp2
    go_ret
    exact ⟨rfl, F.out⟩
  | true =>
    cases C with
    | false =>
      subst evr
      subst evl
      subst evp
      rw [← h2] at FL
      rw [← h3] at FP
      rw [← h1, ← h2, ← h3]
      clear hr r8 rl l8 rp p8 hD hC h1 h2 h3
      go_enter Try.func5, Try.ntmps5
      go_wp2_with fail
      refine A.out.mono ?_
      rintro e w1 ⟨rfl, o1⟩
      have F := hideIt (o1.low (Nat.le_refl _))
      have G := hideIt (FL.out w1 o1)
      have G' := hideIt (FP.out w1 o1)
      clear o1 A FL FP
      go_wp2_with fail
      refine G.out.mono ?_
      rintro e w2 ⟨rfl, rfl⟩
      clear G
      go_wp2_with fail
      refine G'.out.mono ?_
      rintro e w2 ⟨rfl, rfl⟩
      clear G'
      go_wp2
      go_ret
      exact ⟨rfl, F.out⟩
    | true =>
      by_cases c1 : 300 < n1
      · have d1 : decide ((300 : Int) < (n1 : Int)) = true := decide_eq_true (by omega)
        subst evr
        subst evl
        subst evp
        rw [← h2] at FL
        rw [← h3] at FP
        rw [← h1, ← h2, ← h3]
        clear hr r8 rl l8 rp p8 hD hC h1 h2 h3
        go_enter Try.func5, Try.ntmps5
        go_wp2_with fail
        refine A.out.mono ?_
        rintro e w1 ⟨rfl, o1⟩
        have F := hideIt (o1.low (Nat.le_refl _))
        have G := hideIt (FL.out w1 o1)
        have G' := hideIt (FP.out w1 o1)
        clear o1 A FL FP
        go_wp2_with fail
        refine G.out.mono ?_
        rintro e w2 ⟨rfl, rfl⟩
        clear G
        go_wp2_with fail
        refine G'.out.mono ?_
        rintro e w2 ⟨rfl, rfl⟩
        clear G'
        go_wp2
        go_ret
        exact ⟨rfl, F.out⟩
      have d1 : decide ((300 : Int) < (n1 : Int)) = false := decide_eq_false (by omega)
      obtain ⟨l70, l5, _⟩ := FEW_r5 hD.symm l8
      obtain ⟨p100, p5, _⟩ := FEW_r5 hC.symm p8
      have P := hideIt (fun (W : World) (o : Only (fun _ => False) w W) => rebuild_any n i vl vp l p l5.r8 p5.r8 (by omega) (by omega) W (rl.past o) (rp.past o))
      have Q := hideIt (fun (W : World) (o : Only (fun _ => False) w W) => rrebuild_any n i vl vp l p l5 p5 (by omega) (by omega) W (rl.past o) (rp.past o))
      have V := hideIt (fun (W : World) (o : Only (fun _ => False) w W) => verify_any vr r n i vl vp l p r8 l5.r8 p5.r8 (by omega) (by omega) W (hr.past o) (rl.past o) (rp.past o))
      have U := hideIt (fun (W : World) (o : Only (fun _ => False) w W) => rverify_any vr r n i vl vp l p r8 l5 p5 (by omega) (by omega) W (hr.past o) (rl.past o) (rp.past o))
      have tl := hideIt (RBT_r8 (n := n) (i := i) l5.r8 p5.r8).2
      obtain ⟨Y, hY⟩ : ∃ Y, Y = RBT n i l p := ⟨_, rfl⟩
      obtain ⟨E, hE⟩ : ∃ E, E = RBE n i l p := ⟨_, rfl⟩
      obtain ⟨B, hB⟩ : ∃ B, B = VRF r n i l p := ⟨_, rfl⟩
      rw [← hY, ← hE] at P Q
      rw [← hY] at tl
      rw [← hB] at V U
      subst evr
      subst evl
      subst evp
      rw [← h2] at FL
      rw [← h3] at FP
      rw [← h2, ← h3] at P Q
      rw [← h1, ← h2, ← h3] at V U
      rw [← h1, ← h2, ← h3]
      have eE : (E == E) = true := beq_self_eq_true E
      have eB : (B == B) = true := beq_self_eq_true B
      clear hr r8 rl l8 rp p8 hD hC h1 h2 h3 l70 l5 p100 p5 hY hE hB
      go_enter Try.func5, Try.ntmps5
      go_wp2_with fail
      refine A.out.mono ?_
      rintro e w1 ⟨rfl, o1⟩
      have O1 := hideIt o1
      have G := hideIt (FL.out w1 o1)
      have G' := hideIt (FP.out w1 o1)
      clear o1 A FL FP
      go_wp2_with fail
      refine G.out.mono ?_
      rintro e w2 ⟨rfl, rfl⟩
      clear G
      go_wp2_with fail
      refine G'.out.mono ?_
      rintro e w2 ⟨rfl, rfl⟩
      have G2 := hideIt (P.out w1 O1.out)
      clear G' P
      go_wp2_with fail
      refine G2.out.mono ?_
      rintro e w2 ⟨v2, rfl, r2, n2', o2⟩
      have O2 := hideIt (O1.out.same o2)
      have R2 := hideIt r2
      have G3 := hideIt (Q.out w2 O2.out)
      obtain ⟨ao2, cap2, e2⟩ := r2.len
      subst e2
      obtain ⟨m2, hm2⟩ : ∃ m, m = Y.length := ⟨_, rfl⟩
      rw [← hm2] at R2 ⊢
      clear G2 r2 n2' o2 O1 Q hm2
      go_wp2_with fail
      refine G3.out.mono ?_
      rintro e w3 ⟨v3, rfl, r3, n3', o3⟩
      have O3 := hideIt (O2.out.same o3)
      have S3 := hideIt (lsame20_any _ v3 Y Y w3 (R2.out.past o3) r3 (by have := tl.out; omega))
      rw [decide_eq_true rfl] at S3
      obtain ⟨ao3, cap3, e3⟩ := r3.len
      subst e3
      obtain ⟨m3, hm3⟩ : ∃ m, m = Y.length := ⟨_, rfl⟩
      rw [← hm3] at S3 ⊢
      clear G3 r3 n3' o3 O2 R2 hm3
      go_wp2_with fail
      refine S3.out.mono ?_
      rintro e w4 ⟨rfl, o4⟩
      have O4 := hideIt (O3.out.same o4)
      have G4 := hideIt (V.out w4 O4.out)
      clear S3 o4 O3 V
      go_wp2_with fail
      refine G4.out.mono ?_
      rintro e w5 ⟨rfl, o5⟩
      have O5 := hideIt (O4.out.same o5)
      have G5 := hideIt (U.out w5 O5.out)
      clear G4 o5 O4 U
      go_wp2_with fail
      refine G5.out.mono ?_
      rintro e w6 ⟨rfl, o6⟩
      have F := hideIt ((O5.out.same o6).low (Nat.le_refl _))
      clear G5 o6 O5
      go_wp2
      go_ret
      exact ⟨rfl, F.out⟩
end Go.Proofs.Ytnifflnhbpfmnaa

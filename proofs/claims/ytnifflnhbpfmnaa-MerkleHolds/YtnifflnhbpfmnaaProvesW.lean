/- The walk of MerkleProves. -/
import Derived.Test.YtnifflnhbpfmnaaAw20
namespace Go.Proofs.Ytnifflnhbpfmnaa
open Go.RowKit
set_option linter.unusedVariables false

theorem WLK_r5 : ∀ (f : Nat) (l : List (List Int)) (lo hi i j : Nat), R5 l → R5 (WLK f l lo hi i j)
  | 0, _, _, _, _, _, _ => fun x hx => by simp [WLK] at hx
  | f + 1, l, lo, hi, i, j, h => by
    unfold WLK
    split
    · intro x hx; simp at hx
    · split
      · intro x hx
        simp only [List.mem_singleton] at hx
        subst hx
        exact TOP_r5 (fun x hx => h x (List.mem_of_mem_drop (List.mem_of_mem_take hx)))
      · intro x hx
        rcases List.mem_append.1 hx with h1 | h1
        · exact WLK_r5 f l _ _ i j h x h1
        · exact WLK_r5 f l _ _ i j h x h1
theorem PRF_r5 {l : List (List Int)} (h : R5 l) (i j : Int) : R5 (PRF l i j) := by
  unfold PRF
  split
  · exact WLK_r5 _ _ _ _ _ _ h
  · intro x hx; simp at hx
theorem PRF_len (l : List (List Int)) (i j : Int) : (PRF l i j).length ≤ l.length := by
  unfold PRF
  split
  · next h =>
    rw [WALKL_len]
    have := MNY_size (l.length + 1) 0 l.length i.toNat j.toNat (by have := h.1; have := h.2.1; have := h.2.2; omega)
    unfold MANY; omega
  · simp

set_option maxHeartbeats 1600000 in
set_option maxRecDepth 100000 in
theorem proves_walk (vl : Value) (l : List (List Int)) (i j : Int) (w : World) (rl : RL w vl l) (l8 : ∀ x ∈ l, U8 x) :
    Calls Try.prog 4 #[vl, .int .i64 i, .int .i64 j] w fun e w' => e = .returned (.bool true) ∧ Below w.heap.size w w' := by
  have A := hideIt (awake_any w)
  have FW := hideIt (fun (W : World) (o : Only (fun _ => False) w W) => few_any vl l 70 (by decide) W (rl.past o))
  rw [show ((70 : Nat) : Int) = 70 from rfl] at FW
  obtain ⟨D, hD⟩ : ∃ D, D = FEW l 70 := ⟨_, rfl⟩
  rw [← hD] at FW
  obtain ⟨aol, cl, evl, _⟩ := rl.len
  obtain ⟨n3, h3⟩ : ∃ n3, n3 = l.length := ⟨_, rfl⟩
  cases D with
  | false =>
    subst evl
    rw [← h3] at FW ⊢
    clear rl l8 hD h3
    go_enter Try.func4, Try.ntmps4
    go_wp2_with fail
    refine A.out.mono ?_
    rintro e w1 ⟨rfl, o1⟩
    have F := hideIt (o1.low (Nat.le_refl _))
    have G := hideIt (FW.out w1 o1)
    clear o1 A FW
    go_wp2_with fail
    refine G.out.mono ?_
    rintro e w2 ⟨rfl, rfl⟩
    clear G
    go_wp2
    go_ret
    exact ⟨rfl, F.out⟩
  | true =>
    obtain ⟨l70, l5, _⟩ := FEW_r5 hD.symm l8
    have P := hideIt (fun (W : World) (o : Only (fun _ => False) w W) => prove_any vl l i j l5.r8 (by omega) W (rl.past o))
    have Q := hideIt (fun (W : World) (o : Only (fun _ => False) w W) => rprove_any vl l i j l5 (by omega) W (rl.past o))
    have p5 := hideIt (And.intro (PRF_r5 l5 i j).r8 (show (PRF l i j).length ≤ 1000000000 by have := PRF_len l i j; omega))
    obtain ⟨Y, hY⟩ : ∃ Y, Y = PRF l i j := ⟨_, rfl⟩
    obtain ⟨E, hE⟩ : ∃ E, E = PRE l i j := ⟨_, rfl⟩
    rw [← hY, ← hE] at P Q
    rw [← hY] at p5
    subst evl
    rw [← h3] at FW P Q ⊢
    have eE : (E == E) = true := beq_self_eq_true E
    clear rl l8 hD h3 l70 l5 hY hE
    go_enter Try.func4, Try.ntmps4
    go_wp2_with fail
    refine A.out.mono ?_
    rintro e w1 ⟨rfl, o1⟩
    have O1 := hideIt o1
    have G := hideIt (FW.out w1 o1)
    clear o1 A FW
    go_wp2_with fail
    refine G.out.mono ?_
    rintro e w2 ⟨rfl, rfl⟩
    have G2 := hideIt (P.out w1 O1.out)
    clear G P
    go_wp2_with fail
    refine G2.out.mono ?_
    rintro e w2 ⟨v2, rfl, r2, n2, o2⟩
    have O2 := hideIt (O1.out.same o2)
    have R2 := hideIt r2
    have G3 := hideIt (Q.out w2 O2.out)
    obtain ⟨ao2, cap2, e2, _⟩ := r2.len
    subst e2
    obtain ⟨m2, hm2⟩ : ∃ m, m = Y.length := ⟨_, rfl⟩
    rw [← hm2] at R2 ⊢
    clear G2 r2 n2 o2 O1 Q hm2
    go_wp2_with fail
    refine G3.out.mono ?_
    rintro e w3 ⟨v3, rfl, r3, n3', o3⟩
    have O3 := hideIt (O2.out.same o3)
    have S3 := hideIt (rsame_any _ v3 Y Y w3 (R2.out.past o3) r3 p5.out.1 p5.out.2)
    rw [decide_eq_true rfl] at S3
    obtain ⟨ao3, cap3, e3, _⟩ := r3.len
    subst e3
    obtain ⟨m3, hm3⟩ : ∃ m, m = Y.length := ⟨_, rfl⟩
    rw [← hm3] at S3 ⊢
    clear G3 r3 n3' o3 O2 R2 hm3
    go_wp2_with fail
    refine S3.out.mono ?_
    rintro e w4 ⟨rfl, o4⟩
    have F := hideIt ((O3.out.same o4).low (Nat.le_refl _))
    clear S3 o4 O3
    go_wp2
    go_ret
    exact ⟨rfl, F.out⟩
end Go.Proofs.Ytnifflnhbpfmnaa

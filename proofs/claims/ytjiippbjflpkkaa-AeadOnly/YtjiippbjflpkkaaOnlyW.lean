/- What is opened was sealed: the walk. -/
import Derived.Test.YtjiippbjflpkkaaAw17
namespace Go.Proofs.Ytjiippbjflpkkaa
open Go.RowKit

theorem OP_no {key nonce ad s : List Int} (h : ¬ (KN key nonce ∧ 16 ≤ s.length ∧ AOK key nonce ad s)) : (OPe key nonce ad s != 0) = true ∧ OPt key nonce ad s = [] := by
  unfold OPe OPt
  by_cases h1 : KN key nonce
  · by_cases h2 : 16 ≤ s.length
    · have h3 : ¬ AOK key nonce ad s := fun h3 => h ⟨h1, h2, h3⟩
      rw [if_pos h1, if_pos h2, if_neg h3, if_pos h1, if_pos h2, if_neg h3]; exact ⟨rfl, rfl⟩
    · rw [if_pos h1, if_neg h2, if_pos h1, if_neg h2]; exact ⟨rfl, rfl⟩
  · rw [if_neg h1, if_neg h1]; exact ⟨rfl, rfl⟩
theorem OP_yes {key nonce ad s : List Int} (h : KN key nonce ∧ 16 ≤ s.length ∧ AOK key nonce ad s) : OPe key nonce ad s = 0 ∧ OPt key nonce ad s = AOP key nonce s := by
  unfold OPe OPt
  rw [if_pos h.1, if_pos h.2.1, if_pos h.2.2, if_pos h.1, if_pos h.2.1, if_pos h.2.2]; exact ⟨rfl, rfl⟩
set_option maxHeartbeats 1600000 in
set_option maxRecDepth 100000 in
theorem only_walk (vk vn va vp : Value) (key nonce ad p : List Int) (k8 : U8 key) (n8 : U8 nonce) (a8 : U8 ad) (p8 : U8 p) (w : World) (bk : Bs .u8 w vk key) (bn : Bs .u8 w vn nonce) (ba : Bs .u8 w va ad) (na : NoCap va) (bp : Bs .u8 w vp p) (np : NoCap vp) :
    Calls Try.prog 6 #[vk, vn, va, vp] w fun e w' => e = .returned (.bool true) ∧ Below w.heap.size w w' := by
  have A := hideIt (awake_any w)
  by_cases hm : 300 < ad.length
  · obtain ⟨ao, ac, rfl⟩ := ba.len
    obtain ⟨m, hmm⟩ : ∃ m, m = ad.length := ⟨_, rfl⟩
    rw [← hmm] at hm ⊢
    have d1 : decide ((300 : Int) < (m : Int)) = true := decide_eq_true (by omega)
    clear bk bn ba na bp np k8 n8 a8 p8 hmm
    go_enter Try.func6, Try.ntmps6
    go_wp2_with fail
    refine A.out.mono ?_
    rintro e w1 ⟨rfl, o1⟩
    have O1 := hideIt o1
    clear o1 A
    go_wp2
    go_ret
    exact ⟨rfl, O1.out.low (Nat.le_refl _)⟩
  · by_cases hn : 600 < p.length
    · obtain ⟨ao, ac, rfl⟩ := ba.len
      obtain ⟨po, pc, rfl⟩ := bp.len
      obtain ⟨m, hmm⟩ : ∃ m, m = ad.length := ⟨_, rfl⟩
      obtain ⟨n, hnn⟩ : ∃ n, n = p.length := ⟨_, rfl⟩
      rw [← hmm] at hm ⊢
      rw [← hnn] at hn ⊢
      have d1 : decide ((300 : Int) < (m : Int)) = false := decide_eq_false (by omega)
      have d2 : decide ((600 : Int) < (n : Int)) = true := decide_eq_true (by omega)
      clear bk bn ba na bp np k8 n8 a8 p8 hmm hnn
      go_enter Try.func6, Try.ntmps6
      go_wp2_with fail
      refine A.out.mono ?_
      rintro e w1 ⟨rfl, o1⟩
      have O1 := hideIt o1
      clear o1 A
      go_wp2
      go_ret
      exact ⟨rfl, O1.out.low (Nat.le_refl _)⟩
    · have HA := hideIt (And.intro ba na)
      have HP := hideIt (And.intro bp np)
      obtain ⟨ao, ac, rfl⟩ := ba.len
      obtain ⟨po, pc, rfl⟩ := bp.len
      have P := hideIt (fun (W : World) (o : Only (fun _ => False) w W) => open_any vk vn _ _ key nonce ad p k8 n8 a8 p8 (by omega) (by omega) W (bk.past o) (bn.past o) (HA.out.1.past o) HA.out.2 (HP.out.1.past o) HP.out.2)
      by_cases h : KN key nonce ∧ 16 ≤ p.length ∧ AOK key nonce ad p
      · simp only [(OP_yes h).1, (OP_yes h).2] at P
        have Q8 := AOP_u8 key nonce p p8
        have QL := AOP_len key nonce p
        have R := hideIt (fun (W : World) (o : Only (fun _ => False) w W) (v : Value) (b : Bs .u8 W v (AOP key nonce p)) => seal_ok vk vn _ v key nonce ad (AOP key nonce p) h.1 k8 n8 a8 Q8 (by omega) (by omega) W (bk.past o) (bn.past o) (HA.out.1.past o) HA.out.2 b)
        have e0 : (AOP key nonce p).length + 16 = p.length := by omega
        simp only [aead_only key nonce ad p p8 h.2.2, e0] at R
        have HL := hideIt (show p.length ≤ 140737488355328 by omega)
        obtain ⟨Q, hQ⟩ : ∃ Q, Q = AOP key nonce p := ⟨_, rfl⟩
        simp only [← hQ] at P R
        have HPP := HP
        obtain ⟨m, hmm⟩ : ∃ m, m = ad.length := ⟨_, rfl⟩
        obtain ⟨n, hnn⟩ : ∃ n, n = p.length := ⟨_, rfl⟩
        rw [← hmm] at P R hm ⊢
        rw [← hnn] at P hn HPP ⊢
        have d1 : decide ((300 : Int) < (m : Int)) = false := decide_eq_false (by omega)
        have d2 : decide ((600 : Int) < (n : Int)) = false := decide_eq_false (by omega)
        clear bk bn ba na bp np k8 n8 a8 p8 hQ hmm hnn Q8 QL h e0
        go_enter Try.func6, Try.ntmps6
        go_wp2_with fail
        refine A.out.mono ?_
        rintro e w0 ⟨rfl, o0⟩
        have O0 := hideIt o0
        clear o0 A
        go_wp2_with fail
        refine (P.out w0 O0.out).mono ?_
        rintro e w1 ⟨v1, rfl, own1, o1⟩
        have O1 := hideIt (O0.out.same o1)
        have R1 := hideIt (R.out w1 O1.out v1 (Bs.of_own (k := .u8) (E := 5) own1))
        clear own1 o1 P R
        go_wp2_with fail
        refine R1.out.mono ?_
        rintro e w2 ⟨v2, rfl, own2, o2⟩
        have O2 := hideIt (O1.out.same o2)
        have S2 := hideIt (lsame_eq v2 _ p w2 (Bs.of_own (k := .u8) (E := 5) own2) (HPP.out.1.past O2.out) HL.out)
        clear own2 o2 R1
        go_wp2_with fail
        refine S2.out.mono ?_
        rintro e w3 ⟨rfl, o3⟩
        have O3 := hideIt (O2.out.same o3)
        clear o3 S2
        go_wp2
        go_ret
        exact ⟨rfl, O3.out.low (Nat.le_refl _)⟩
      · have hn0 := OP_no h
        simp only [hn0.2] at P
        obtain ⟨E, hE⟩ : ∃ E, E = OPe key nonce ad p := ⟨_, rfl⟩
        have e0 := hn0.1
        rw [← hE] at e0 P
        obtain ⟨m, hmm⟩ : ∃ m, m = ad.length := ⟨_, rfl⟩
        obtain ⟨n, hnn⟩ : ∃ n, n = p.length := ⟨_, rfl⟩
        rw [← hmm] at P hm ⊢
        rw [← hnn] at P hn ⊢
        have d1 : decide ((300 : Int) < (m : Int)) = false := decide_eq_false (by omega)
        have d2 : decide ((600 : Int) < (n : Int)) = false := decide_eq_false (by omega)
        clear bk bn ba na bp np k8 n8 a8 p8 hE hmm hnn h hn0 HA HP
        go_enter Try.func6, Try.ntmps6
        go_wp2_with fail
        refine A.out.mono ?_
        rintro e w0 ⟨rfl, o0⟩
        have O0 := hideIt o0
        clear o0 A
        go_wp2_with fail
        refine (P.out w0 O0.out).mono ?_
        rintro e w1 ⟨v1, rfl, own1, o1⟩
        obtain ⟨so, sc, rfl⟩ := own_form own1
        have O1 := hideIt (O0.out.same o1)
        clear own1 o1 P
        go_wp2
        go_ret
        exact ⟨rfl, O1.out.low (Nat.le_refl _)⟩
end Go.Proofs.Ytjiippbjflpkkaa

/- There and back: the walk. -/
import Derived.Test.YtjiippbjflpkkaaAw17
namespace Go.Proofs.Ytjiippbjflpkkaa
open Go.RowKit

set_option maxHeartbeats 1600000 in
set_option maxRecDepth 100000 in
theorem back_walk (vk vn va vp : Value) (key nonce ad p : List Int) (k8 : U8 key) (n8 : U8 nonce) (a8 : U8 ad) (p8 : U8 p) (w : World) (bk : Bs .u8 w vk key) (bn : Bs .u8 w vn nonce) (ba : Bs .u8 w va ad) (na : NoCap va) (bp : Bs .u8 w vp p) (np : NoCap vp) :
    Calls Try.prog 5 #[vk, vn, va, vp] w fun e w' => e = .returned (.bool true) ∧ Below w.heap.size w w' := by
  have A := hideIt (awake_any w)
  by_cases hm : 300 < ad.length
  · obtain ⟨ao, ac, rfl⟩ := ba.len
    obtain ⟨m, hmm⟩ : ∃ m, m = ad.length := ⟨_, rfl⟩
    rw [← hmm] at hm ⊢
    have d1 : decide ((300 : Int) < (m : Int)) = true := decide_eq_true (by omega)
    clear bk bn ba na bp np k8 n8 a8 p8 hmm
    go_enter Try.func5, Try.ntmps5
    go_wp2_with fail
    refine A.out.mono ?_
    rintro e w1 ⟨rfl, o1⟩
    have O1 := hideIt o1
    clear o1 A
    go_wp2
    go_ret
    exact ⟨rfl, O1.out.low (Nat.le_refl _)⟩
  · by_cases hn : 600 < p.length
    · obtain ⟨ao, ac, rfl⟩ := ba.len
      obtain ⟨po, pc, rfl⟩ := bp.len
      obtain ⟨m, hmm⟩ : ∃ m, m = ad.length := ⟨_, rfl⟩
      obtain ⟨n, hnn⟩ : ∃ n, n = p.length := ⟨_, rfl⟩
      rw [← hmm] at hm ⊢
      rw [← hnn] at hn ⊢
      have d1 : decide ((300 : Int) < (m : Int)) = false := decide_eq_false (by omega)
      have d2 : decide ((600 : Int) < (n : Int)) = true := decide_eq_true (by omega)
      clear bk bn ba na bp np k8 n8 a8 p8 hmm hnn
      go_enter Try.func5, Try.ntmps5
      go_wp2_with fail
      refine A.out.mono ?_
      rintro e w1 ⟨rfl, o1⟩
      have O1 := hideIt o1
      clear o1 A
      go_wp2
      go_ret
      exact ⟨rfl, O1.out.low (Nat.le_refl _)⟩
    · have HK := hideIt (And.intro bk bn)
      have HA := hideIt (And.intro ba na)
      have HP := hideIt (And.intro bp np)
      obtain ⟨ao, ac, rfl⟩ := ba.len
      obtain ⟨po, pc, rfl⟩ := bp.len
      by_cases h : KN key nonce
      · have P := hideIt (fun (W : World) (o : Only (fun _ => False) w W) => seal_ok vk vn _ _ key nonce ad p h k8 n8 a8 p8 (by omega) (by omega) W (bk.past o) (bn.past o) (HA.out.1.past o) HA.out.2 (HP.out.1.past o))
        have S8 := ASL_u8 key nonce ad p p8
        have SL := ASL_len key nonce ad p
        have R := hideIt (fun (W : World) (o : Only (fun _ => False) w W) (v : Value) (b : Bs .u8 W v (ASL key nonce ad p)) (nv : NoCap v) => open_any vk vn _ _ key nonce ad (ASL key nonce ad p) k8 n8 a8 S8 (by omega) (by omega) W (bk.past o) (bn.past o) (HA.out.1.past o) HA.out.2 b nv)
        simp only [(OP_ok (ad := ad) h p8).1, (OP_ok (ad := ad) h p8).2] at R
        have HL := hideIt (show p.length ≤ 140737488355328 by omega)
        obtain ⟨S, hS⟩ : ∃ S, S = ASL key nonce ad p := ⟨_, rfl⟩
        rw [← hS] at P R SL
        have HS := hideIt SL
        have HPP := HP
        obtain ⟨m, hmm⟩ : ∃ m, m = ad.length := ⟨_, rfl⟩
        obtain ⟨n, hnn⟩ : ∃ n, n = p.length := ⟨_, rfl⟩
        rw [← hmm] at P R hm ⊢
        rw [← hnn] at P hn HS HPP ⊢
        have d1 : decide ((300 : Int) < (m : Int)) = false := decide_eq_false (by omega)
        have d2 : decide ((600 : Int) < (n : Int)) = false := decide_eq_false (by omega)
        clear bk bn ba na bp np k8 n8 a8 p8 hS hmm hnn S8 SL h HK
        go_enter Try.func5, Try.ntmps5
        go_wp2_with fail
        refine A.out.mono ?_
        rintro e w0 ⟨rfl, o0⟩
        have O0 := hideIt o0
        clear o0 A
        go_wp2_with fail
        refine (P.out w0 O0.out).mono ?_
        rintro e w1 ⟨v1, rfl, own1, o1⟩
        obtain ⟨so, sc, rfl⟩ := own_form own1
        have O1 := hideIt (O0.out.same o1)
        have R1 := hideIt (R.out w1 O1.out _ (Bs.of_own (k := .u8) (E := 5) (lo := w0.heap.size) (by rw [HS.out]; exact own1)) (NoCap.of_own own1))
        clear own1 o1 P R
        go_wp2_with fail
        refine R1.out.mono ?_
        rintro e w2 ⟨v2, rfl, own2, o2⟩
        have O2 := hideIt (O1.out.same o2)
        have S2 := hideIt (lsame_eq v2 _ p w2 (Bs.of_own (k := .u8) (E := 5) own2) (HPP.out.1.past O2.out) HL.out)
        obtain ⟨q, hq⟩ : ∃ q, q = n + 16 := ⟨_, rfl⟩
        have e1 : (n : Int) + 16 = (q : Int) := by omega
        have e2 : ((q : Int) == (q : Int)) = true := by simp
        rw [← hq]
        clear own2 o2 R1 hq
        go_wp2_with fail
        refine S2.out.mono ?_
        rintro e w3 ⟨rfl, o3⟩
        have O3 := hideIt (O2.out.same o3)
        clear o3 S2
        go_wp2
        go_ret
        exact ⟨rfl, O3.out.low (Nat.le_refl _)⟩
      · have P := hideIt (fun (W : World) (o : Only (fun _ => False) w W) (va vp : Value) => seal_no vk vn va vp key nonce h k8 n8 W (bk.past o) (bn.past o))
        obtain ⟨ko, kc, rfl⟩ := bk.len
        obtain ⟨no, nc, rfl⟩ := bn.len
        obtain ⟨m, hmm⟩ : ∃ m, m = ad.length := ⟨_, rfl⟩
        obtain ⟨n, hnn⟩ : ∃ n, n = p.length := ⟨_, rfl⟩
        rw [← hmm] at hm ⊢
        rw [← hnn] at hn ⊢
        obtain ⟨kl, hkl⟩ : ∃ kl, kl = key.length := ⟨_, rfl⟩
        obtain ⟨nl, hnl⟩ : ∃ nl, nl = nonce.length := ⟨_, rfl⟩
        have hne : ¬ (kl = 32 ∧ nl = 12) := by rw [hkl, hnl]; exact h
        rw [← hkl, ← hnl] at P ⊢
        have d1 : decide ((300 : Int) < (m : Int)) = false := decide_eq_false (by omega)
        have d2 : decide ((600 : Int) < (n : Int)) = false := decide_eq_false (by omega)
        clear bk bn ba na bp np k8 n8 a8 p8 hmm hnn hkl hnl h HK HA HP
        by_cases h1 : kl = 32
        · have h2 : ((nl : Int) != 12) = true := by simp; omega
          have h3 : ((kl : Int) != 32) = false := by simp; omega
          subst h1
          clear hne
          go_enter Try.func5, Try.ntmps5
          go_wp2_with fail
          refine A.out.mono ?_
          rintro e w0 ⟨rfl, o0⟩
          have O0 := hideIt o0
          clear o0 A
          go_wp2_with fail
          refine (P.out w0 O0.out _ _).mono ?_
          rintro e w1 ⟨rfl, o1⟩
          have O1 := hideIt (O0.out.same o1)
          clear o1 P
          go_wp2
          go_ret
          exact ⟨rfl, O1.out.low (Nat.le_refl _)⟩
        · have h3 : ((kl : Int) != 32) = true := by simp; omega
          clear hne
          go_enter Try.func5, Try.ntmps5
          go_wp2_with fail
          refine A.out.mono ?_
          rintro e w0 ⟨rfl, o0⟩
          have O0 := hideIt o0
          clear o0 A
          go_wp2_with fail
          refine (P.out w0 O0.out _ _).mono ?_
          rintro e w1 ⟨rfl, o1⟩
          have O1 := hideIt (O0.out.same o1)
          clear o1 P
          go_wp2
          go_ret
          exact ⟨rfl, O1.out.low (Nat.le_refl _)⟩
end Go.Proofs.Ytjiippbjflpkkaa

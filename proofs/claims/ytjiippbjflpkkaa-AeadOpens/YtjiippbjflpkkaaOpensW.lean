/- What any bytes are opened to: the walk. -/
import Derived.Test.YtjiippbjflpkkaaAw17
import Derived.Test.YtjiippbjflpkkaaRo17
namespace Go.Proofs.Ytjiippbjflpkkaa
open Go.RowKit

theorem OPt_len (key nonce ad s : List Int) : (OPt key nonce ad s).length ≤ s.length := by
  unfold OPt
  split
  · split
    · split
      · rw [AOP_len]; omega
      · exact Nat.zero_le _
    · exact Nat.zero_le _
  · exact Nat.zero_le _
set_option maxHeartbeats 1600000 in
set_option maxRecDepth 100000 in
theorem opens_walk (vk vn va vp : Value) (key nonce ad p : List Int) (k8 : U8 key) (n8 : U8 nonce) (a8 : U8 ad) (p8 : U8 p) (w : World) (bk : Bs .u8 w vk key) (bn : Bs .u8 w vn nonce) (ba : Bs .u8 w va ad) (na : NoCap va) (bp : Bs .u8 w vp p) (np : NoCap vp) :
    Calls Try.prog 4 #[vk, vn, va, vp] w fun e w' => e = .returned (.bool true) ∧ Below w.heap.size w w' := by
  have A := hideIt (awake_any w)
  by_cases hm : 300 < ad.length
  · obtain ⟨ao, ac, rfl⟩ := ba.len
    obtain ⟨m, hmm⟩ : ∃ m, m = ad.length := ⟨_, rfl⟩
    rw [← hmm] at hm ⊢
    have d1 : decide ((300 : Int) < (m : Int)) = true := decide_eq_true (by omega)
    clear bk bn ba na bp np k8 n8 a8 p8 hmm
    go_enter Try.func4, Try.ntmps4
    go_wp2_with fail
    refine A.out.mono ?_
    rintro e w1 ⟨rfl, o1⟩
    have O1 := hideIt o1
    clear o1 A
    go_wp2
    go_ret
    exact ⟨rfl, O1.out.low (Nat.le_refl _)⟩
  · by_cases hn : 600 < p.length
    · obtain ⟨ao, ac, rfl⟩ := ba.len
      obtain ⟨po, pc, rfl⟩ := bp.len
      obtain ⟨m, hmm⟩ : ∃ m, m = ad.length := ⟨_, rfl⟩
      obtain ⟨n, hnn⟩ : ∃ n, n = p.length := ⟨_, rfl⟩
      rw [← hmm] at hm ⊢
      rw [← hnn] at hn ⊢
      have d1 : decide ((300 : Int) < (m : Int)) = false := decide_eq_false (by omega)
      have d2 : decide ((600 : Int) < (n : Int)) = true := decide_eq_true (by omega)
      clear bk bn ba na bp np k8 n8 a8 p8 hmm hnn
      go_enter Try.func4, Try.ntmps4
      go_wp2_with fail
      refine A.out.mono ?_
      rintro e w1 ⟨rfl, o1⟩
      have O1 := hideIt o1
      clear o1 A
      go_wp2
      go_ret
      exact ⟨rfl, O1.out.low (Nat.le_refl _)⟩
    · have HA := hideIt (And.intro ba na)
      have HP := hideIt (And.intro bp np)
      obtain ⟨ao, ac, rfl⟩ := ba.len
      obtain ⟨po, pc, rfl⟩ := bp.len
      have P := hideIt (fun (W : World) (o : Only (fun _ => False) w W) => open_any vk vn _ _ key nonce ad p k8 n8 a8 p8 (by omega) (by omega) W (bk.past o) (bn.past o) (HA.out.1.past o) HA.out.2 (HP.out.1.past o) HP.out.2)
      have R := hideIt (fun (W : World) (o : Only (fun _ => False) w W) => ropen_any vk vn _ _ key nonce ad p k8 n8 a8 p8 (by omega) (by omega) W (bk.past o) (bn.past o) (HA.out.1.past o) HA.out.2 (HP.out.1.past o))
      have HL : Hid ((OPt key nonce ad p).length ≤ 140737488355328) := by
        show _ ≤ _
        have := OPt_len key nonce ad p
        omega
      obtain ⟨E, hE⟩ : ∃ E, E = OPe key nonce ad p := ⟨_, rfl⟩
      obtain ⟨L, hL⟩ : ∃ L, L = OPt key nonce ad p := ⟨_, rfl⟩
      simp only [← hE, ← hL] at P R
      rw [← hL] at HL
      obtain ⟨m, hmm⟩ : ∃ m, m = ad.length := ⟨_, rfl⟩
      obtain ⟨n, hnn⟩ : ∃ n, n = p.length := ⟨_, rfl⟩
      rw [← hmm] at P R hm ⊢
      rw [← hnn] at P R hn ⊢
      have d1 : decide ((300 : Int) < (m : Int)) = false := decide_eq_false (by omega)
      have d2 : decide ((600 : Int) < (n : Int)) = false := decide_eq_false (by omega)
      clear bk bn ba na bp np k8 n8 a8 p8 hE hL hmm hnn
      go_enter Try.func4, Try.ntmps4
      go_wp2_with fail
      refine A.out.mono ?_
      rintro e w0 ⟨rfl, o0⟩
      have O0 := hideIt o0
      clear o0 A
      go_wp2_with fail
      refine (P.out w0 O0.out).mono ?_
      rintro e w1 ⟨v1, rfl, own1, o1⟩
      have B1 : Hid (Bs .u8 w1 v1 L) := Bs.of_own (k := .u8) (E := 5) own1
      have O1 := hideIt (O0.out.same o1)
      clear own1 o1 P
      go_wp2_with fail
      refine (R.out w1 O1.out).mono ?_
      rintro e w2 ⟨v2, rfl, own2, o2⟩
      have S := hideIt (lsame_eq v1 v2 L w2 (B1.out.past o2) (Bs.of_own (k := .u8) (E := 5) own2) HL.out)
      have O2 := hideIt (O1.out.same o2)
      clear own2 o2 R B1
      go_wp2_with fail
      refine S.out.mono ?_
      rintro e w3 ⟨rfl, o3⟩
      have O3 := hideIt (O2.out.same o3)
      clear o3 S
      go_wp2
      go_ret
      exact ⟨rfl, O3.out.low (Nat.le_refl _)⟩
end Go.Proofs.Ytjiippbjflpkkaa

/- The key of any key, purpose and name: the walk. -/
import Derived.Test.YtbcfpiahhippaaaAw18
import Derived.Test.YtbcfpiahhippaaaR18
namespace Go.Proofs.Ytbcfpiahhippaaa
open Go.RowKit

set_option maxHeartbeats 1600000 in
set_option maxRecDepth 100000 in
theorem derives_walk (vk : Value) (key : List Int) (p : Int) (t : ByteArray) (k8 : U8 key) (hp : 0 ≤ p ∧ p ≤ 255) (w : World) (bk : Bs .u8 w vk key) (nk : NoCap vk) :
    Calls Try.prog 3 #[vk, .int .u8 p, .string t] w fun e w' => e = .returned (.bool true) ∧ Below w.heap.size w w' := by
  have A := hideIt (awake_any w)
  by_cases hm : 300 < key.length
  · obtain ⟨ko, kc, rfl⟩ := bk.len
    obtain ⟨m, hmm⟩ : ∃ m, m = key.length := ⟨_, rfl⟩
    rw [← hmm] at hm ⊢
    have d1 : decide ((300 : Int) < (m : Int)) = true := decide_eq_true (by omega)
    clear bk nk k8 hp hmm
    go_enter Try.func3, Try.ntmps3
    go_wp2_with fail
    refine A.out.mono ?_
    rintro e w1 ⟨rfl, o1⟩
    have O1 := hideIt o1
    clear o1 A
    go_wp2
    go_ret
    exact ⟨rfl, O1.out.low (Nat.le_refl _)⟩
  · by_cases hn : 1000 < t.size
    · obtain ⟨ko, kc, rfl⟩ := bk.len
      obtain ⟨m, hmm⟩ : ∃ m, m = key.length := ⟨_, rfl⟩
      rw [← hmm] at hm ⊢
      have d1 : decide ((300 : Int) < (m : Int)) = false := decide_eq_false (by omega)
      have d2 : decide ((1000 : Int) < (t.size : Int)) = true := decide_eq_true (by omega)
      have d3 : decide (1000 < t.size) = true := decide_eq_true (by omega)
      clear bk nk k8 hp hmm
      go_enter Try.func3, Try.ntmps3
      go_wp2_with fail
      refine A.out.mono ?_
      rintro e w1 ⟨rfl, o1⟩
      have O1 := hideIt o1
      clear o1 A
      go_wp2
      go_ret
      exact ⟨rfl, O1.out.low (Nat.le_refl _)⟩
    · have P := hideIt (fun (W : World) (o : Only (fun _ => False) w W) => derive_any vk key p t k8 hp W (bk.past o))
      have R := hideIt (fun (W : World) (o : Only (fun _ => False) w W) => rderive_any vk key p t k8 nk hp W (bk.past o))
      have HL : Hid ((KDt key p (sb t)).length ≤ 140737488355328) := by
        show _ ≤ _
        have := KDt_len key p (sb t)
        omega
      obtain ⟨E, hE⟩ : ∃ E, E = KDe key (sb t) := ⟨_, rfl⟩
      obtain ⟨L, hL⟩ : ∃ L, L = KDt key p (sb t) := ⟨_, rfl⟩
      simp only [← hE, ← hL] at P R
      rw [← hL] at HL
      obtain ⟨ko, kc, rfl⟩ := bk.len
      obtain ⟨m, hmm⟩ : ∃ m, m = key.length := ⟨_, rfl⟩
      rw [← hmm] at P R hm ⊢
      have d1 : decide ((300 : Int) < (m : Int)) = false := decide_eq_false (by omega)
      have d2 : decide ((1000 : Int) < (t.size : Int)) = false := decide_eq_false (by omega)
      have d3 : decide (1000 < t.size) = false := decide_eq_false (by omega)
      clear bk nk k8 hp hE hL hmm
      go_enter Try.func3, Try.ntmps3
      go_wp2_with fail
      refine A.out.mono ?_
      rintro e w0 ⟨rfl, o0⟩
      have O0 := hideIt o0
      clear o0 A
      go_wp2_with fail
      refine (P.out w0 O0.out).mono ?_
      rintro e w1 ⟨v1, rfl, own1, o1⟩
      have B1 : Hid (Bs .u8 w1 v1 L) := Bs.of_own (k := .u8) (E := 5) own1
      have O1 := hideIt (O0.out.same o1)
      clear own1 o1 P
      go_wp2_with fail
      refine (R.out w1 O1.out).mono ?_
      rintro e w2 ⟨v2, rfl, b2, o2⟩
      have S := hideIt (lsame_eq v1 v2 L w2 (B1.out.past o2) b2 HL.out)
      have O2 := hideIt (O1.out.same o2)
      clear b2 o2 R B1
      go_wp2_with fail
      refine S.out.mono ?_
      rintro e w3 ⟨rfl, o3⟩
      have O3 := hideIt (O2.out.same o3)
      clear o3 S
      go_wp2
      go_ret
      exact ⟨rfl, O3.out.low (Nat.le_refl _)⟩
end Go.Proofs.Ytbcfpiahhippaaa

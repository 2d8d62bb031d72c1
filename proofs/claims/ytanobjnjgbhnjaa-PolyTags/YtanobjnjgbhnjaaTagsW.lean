/- The statement PolyTags: the walk. -/
import Derived.Test.YtanobjnjgbhnjaaAw
import Derived.Test.YtanobjnjgbhnjaaRma
namespace Go.Proofs.Ytanobjnjgbhnjaa
open Go.RowKit

theorem MT_len (key xs : List Int) : (MT key xs).length ≤ 16 := by
  unfold MT
  split
  · rw [TAG_len]; exact Nat.le_refl _
  · exact Nat.zero_le _
set_option maxHeartbeats 800000 in
set_option maxRecDepth 100000 in
theorem tags_walk (vk vb : Value) (key xs : List Int) (k8 : U8 key) (x8 : U8 xs) (w : World) (bk : Bs .u8 w vk key) (bb : Bs .u8 w vb xs) :
    Calls Try.prog 3 #[vk, vb] w fun e w' => e = .returned (.bool true) ∧ Below w.heap.size w w' := by
  have HB := hideIt (And.intro bk bb)
  have A := hideIt (awake_any w)
  obtain ⟨co, bc, rfl⟩ := bb.len
  by_cases hl : 600 < xs.length
  · obtain ⟨n, hn⟩ : ∃ n, n = xs.length := ⟨_, rfl⟩
    rw [← hn] at hl ⊢
    have d1 : decide ((600 : Int) < (n : Int)) = true := decide_eq_true (by omega)
    clear bk bb k8 x8 HB hn
    go_enter Try.func3, Try.ntmps3
    go_wp2_with fail
    refine A.out.mono ?_
    rintro e w1 ⟨rfl, o1⟩
    have O1 := hideIt o1
    clear o1 A
    go_wp2
    go_ret
    exact ⟨rfl, O1.out.low (Nat.le_refl _)⟩
  · have P := hideIt (fun (W : World) (o : Only (fun _ => False) w W) => mac_any vk _ key xs k8 x8 (by omega) W (HB.out.1.past o) (HB.out.2.past o))
    have R := hideIt (fun (W : World) (o : Only (fun _ => False) w W) => rmac_any vk _ key xs k8 x8 (by omega) W (HB.out.1.past o) (HB.out.2.past o))
    have HL : Hid ((MT key xs).length ≤ 140737488355328) := by
      show _ ≤ _
      have := MT_len key xs
      omega
    obtain ⟨E, hE⟩ : ∃ E, E = ME key := ⟨_, rfl⟩
    obtain ⟨L, hL⟩ : ∃ L, L = MT key xs := ⟨_, rfl⟩
    simp only [← hE, ← hL] at P R
    rw [← hL] at HL
    obtain ⟨n, hn⟩ : ∃ n, n = xs.length := ⟨_, rfl⟩
    rw [← hn] at P R hl ⊢
    have d1 : decide ((600 : Int) < (n : Int)) = false := decide_eq_false (by omega)
    clear bk bb k8 x8 hE hL HB hn
    go_enter Try.func3, Try.ntmps3
    go_wp2_with fail
    refine A.out.mono ?_
    rintro e w0 ⟨rfl, o0⟩
    have O0 := hideIt o0
    clear o0 A
    go_wp2_with fail
    refine (P.out w0 O0.out).mono ?_
    rintro e w1 ⟨v1, rfl, b1, nc1, o1⟩
    have B1 := hideIt b1
    have O1 := hideIt (O0.out.same o1)
    clear b1 nc1 o1 P
    go_wp2_with fail
    refine (R.out w1 O1.out).mono ?_
    rintro e w2 ⟨v2, rfl, b2, nc2, o2⟩
    have S := hideIt (lsame_eq v1 v2 L w2 (B1.out.past o2) b2 HL.out)
    have O2 := hideIt (O1.out.same o2)
    clear b2 nc2 o2 R
    go_wp2_with fail
    refine S.out.mono ?_
    rintro e w3 ⟨rfl, o3⟩
    have O3 := hideIt (O2.out.same o3)
    clear o3 S
    go_wp2
    go_ret
    exact ⟨rfl, O3.out.low (Nat.le_refl _)⟩
end Go.Proofs.Ytanobjnjgbhnjaa

/- The statement ChachaBlocks: the walk. -/
import Derived.Test.YtikoabnkoicdjaaAw15
import Derived.Test.YtikoabnkoicdjaaRb
namespace Go.Proofs.Ytikoabnkoicdjaa
open Go.RowKit

set_option maxHeartbeats 1600000 in
set_option maxRecDepth 100000 in
theorem blocks_walk (vk vn : Value) (key nonce : List Int) (ctr : Nat) (hc : ctr < 4294967296) (k8 : U8 key) (n8 : U8 nonce) (w : World) (bk : Bs .u8 w vk key) (bn : Bs .u8 w vn nonce) :
    Calls Try.prog 4 #[vk, .int .u32 ctr, vn] w fun e w' => e = .returned (.bool true) ∧ Below w.heap.size w w' := by
  have HB := hideIt (And.intro bk bn)
  have A := hideIt (awake_any w)
  have P := hideIt (block_any vk vn key nonce ctr hc k8 n8 w bk bn)
  have R := hideIt (fun (W : World) (o : Only (fun _ => False) w W) => rblock_any vk vn key nonce ctr hc k8 n8 W (HB.out.1.past o) (HB.out.2.past o))
  have HL : Hid ((BLt key ctr nonce).length ≤ 140737488355328) := by
    show _ ≤ _
    unfold BLt
    split
    · rw [BLK_len]; decide
    · decide
  obtain ⟨E, hE⟩ : ∃ E, E = BLe key nonce := ⟨_, rfl⟩
  obtain ⟨L, hL⟩ : ∃ L, L = BLt key ctr nonce := ⟨_, rfl⟩
  rw [← hE, ← hL] at P
  simp only [← hE, ← hL] at R
  rw [← hL] at HL
  clear bk bn k8 n8 hc hE hL
  go_enter Try.func4, Try.ntmps4
  go_wp2_with fail
  refine A.out.mono ?_
  rintro e w1 ⟨rfl, rfl⟩
  go_wp2_with fail
  refine P.out.mono ?_
  rintro e w1 ⟨v1, rfl, b1, nc1, o1⟩
  have B1 := hideIt b1
  have O1 := hideIt o1
  clear b1 nc1 o1 A P
  go_wp2_with fail
  refine (R.out w1 O1.out).mono ?_
  rintro e w2 ⟨v2, rfl, b2, nc2, o2⟩
  have S := hideIt (lsame_eq v1 v2 L w2 (B1.out.past o2) b2 HL.out)
  have O2 := hideIt (O1.out.same o2)
  clear b2 nc2 o2 R
  go_wp2_with fail
  refine S.out.mono ?_
  rintro e w3 ⟨rfl, o3⟩
  have O3 := hideIt (O2.out.same o3)
  clear o3 S
  go_wp2
  go_ret
  exact ⟨rfl, O3.out.low (Nat.le_refl _)⟩
theorem blocks_walkI (vk vn : Value) (key nonce : List Int) (c : Int) (hc : 0 ≤ c ∧ c ≤ 4294967295) (k8 : U8 key) (n8 : U8 nonce) (w : World) (bk : Bs .u8 w vk key) (bn : Bs .u8 w vn nonce) :
    Calls Try.prog 4 #[vk, .int .u32 c, vn] w fun e w' => e = .returned (.bool true) ∧ Below w.heap.size w w' := by
  obtain ⟨n, rfl⟩ := Int.eq_ofNat_of_zero_le hc.1
  exact blocks_walk vk vn key nonce n (by omega) k8 n8 w bk bn
end Go.Proofs.Ytikoabnkoicdjaa

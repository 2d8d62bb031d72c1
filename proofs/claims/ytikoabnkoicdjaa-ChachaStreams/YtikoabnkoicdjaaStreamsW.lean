/- The statement ChachaStreams: the walk. -/
import Derived.Test.YtikoabnkoicdjaaAw15
import Derived.Test.YtikoabnkoicdjaaRs
namespace Go.Proofs.Ytikoabnkoicdjaa
open Go.RowKit

theorem SRt_len (key : List Int) (ctr : Nat) (nonce xs : List Int) : (SRt key ctr nonce xs).length ≤ xs.length := by
  unfold SRt
  split
  · split
    · rw [STR_len]; exact Nat.le_refl _
    · exact Nat.zero_le _
  · exact Nat.zero_le _
set_option maxHeartbeats 1600000 in
set_option maxRecDepth 100000 in
theorem streams_walk (vk vn vb : Value) (key nonce xs : List Int) (ctr : Nat) (hc : ctr < 4294967296) (k8 : U8 key) (n8 : U8 nonce) (x8 : U8 xs) (w : World) (bk : Bs .u8 w vk key) (bn : Bs .u8 w vn nonce) (bb : Bs .u8 w vb xs) :
    Calls Try.prog 5 #[vk, .int .u32 ctr, vn, vb] w fun e w' => e = .returned (.bool true) ∧ Below w.heap.size w w' := by
  have HB := hideIt (And.intro bk (And.intro bn bb))
  have A := hideIt (awake_any w)
  obtain ⟨co, bc, rfl⟩ := bb.len
  by_cases hl : 1000 < xs.length
  · obtain ⟨n, hn⟩ : ∃ n, n = xs.length := ⟨_, rfl⟩
    rw [← hn] at hl ⊢
    have d1 : decide ((1000 : Int) < (n : Int)) = true := decide_eq_true (by omega)
    clear bk bn bb k8 n8 x8 hc HB hn
    go_enter Try.func5, Try.ntmps5
    go_wp2_with fail
    refine A.out.mono ?_
    rintro e w1 ⟨rfl, rfl⟩
    go_wp2
    go_ret
    exact ⟨rfl, (Only.refl _ _).low (Nat.le_refl _)⟩
  · have P := hideIt (stream_any vk vn _ key nonce xs ctr hc k8 n8 x8 (by omega) w bk bn bb)
    have R := hideIt (fun (W : World) (o : Only (fun _ => False) w W) => rstream_any vk vn _ key nonce xs ctr hc k8 n8 x8 (by omega) W (HB.out.1.past o) (HB.out.2.1.past o) (HB.out.2.2.past o))
    have HL : Hid ((SRt key ctr nonce xs).length ≤ 140737488355328) := by
      show _ ≤ _
      have := SRt_len key ctr nonce xs
      omega
    obtain ⟨E, hE⟩ : ∃ E, E = SRe key ctr nonce xs.length := ⟨_, rfl⟩
    obtain ⟨L, hL⟩ : ∃ L, L = SRt key ctr nonce xs := ⟨_, rfl⟩
    rw [← hE, ← hL] at P
    simp only [← hE, ← hL] at R
    rw [← hL] at HL
    obtain ⟨n, hn⟩ : ∃ n, n = xs.length := ⟨_, rfl⟩
    rw [← hn] at P R hl ⊢
    have d1 : decide ((1000 : Int) < (n : Int)) = false := decide_eq_false (by omega)
    clear bk bn bb k8 n8 x8 hc hE hL HB hn
    go_enter Try.func5, Try.ntmps5
    go_wp2_with fail
    refine A.out.mono ?_
    rintro e w1 ⟨rfl, rfl⟩
    go_wp2_with fail
    refine P.out.mono ?_
    rintro e w1 ⟨v1, rfl, b1, nc1, o1⟩
    have B1 := hideIt b1
    have O1 := hideIt o1
    clear b1 nc1 o1 A P
    go_wp2_with fail
    refine (R.out w1 O1.out).mono ?_
    rintro e w2 ⟨v2, rfl, b2, nc2, o2⟩
    have S := hideIt (lsame_eq v1 v2 L w2 (B1.out.past o2) b2 HL.out)
    have O2 := hideIt (O1.out.same o2)
    clear b2 nc2 o2 R
    go_wp2_with fail
    refine S.out.mono ?_
    rintro e w3 ⟨rfl, o3⟩
    have O3 := hideIt (O2.out.same o3)
    clear o3 S
    go_wp2
    go_ret
    exact ⟨rfl, O3.out.low (Nat.le_refl _)⟩
theorem streams_walkI (vk vn vb : Value) (key nonce xs : List Int) (c : Int) (hc : 0 ≤ c ∧ c ≤ 4294967295) (k8 : U8 key) (n8 : U8 nonce) (x8 : U8 xs) (w : World) (bk : Bs .u8 w vk key) (bn : Bs .u8 w vn nonce) (bb : Bs .u8 w vb xs) :
    Calls Try.prog 5 #[vk, .int .u32 c, vn, vb] w fun e w' => e = .returned (.bool true) ∧ Below w.heap.size w w' := by
  obtain ⟨n, rfl⟩ := Int.eq_ofNat_of_zero_le hc.1
  exact streams_walk vk vn vb key nonce xs n (by omega) k8 n8 x8 w bk bn bb
end Go.Proofs.Ytikoabnkoicdjaa

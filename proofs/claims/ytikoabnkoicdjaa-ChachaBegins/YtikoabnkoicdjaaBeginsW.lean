/- The statement ChachaBegins: the walk. -/
import Derived.Test.YtikoabnkoicdjaaTt
namespace Go.Proofs.Ytikoabnkoicdjaa
open Go.RowKit

set_option maxHeartbeats 1600000 in
set_option maxRecDepth 100000 in
theorem begins_walk (vk vn vb : Value) (key nonce xs : List Int) (ctr : Nat) (cut : Int) (hc : ctr < 4294967296) (k8 : U8 key) (n8 : U8 nonce) (x8 : U8 xs) (w : World) (bk : Bs .u8 w vk key) (bn : Bs .u8 w vn nonce) (bb : Bs .u8 w vb xs) :
    Calls Try.prog 7 #[vk, .int .u32 ctr, vn, vb, .int .i64 cut] w fun e w' => e = .returned (.bool true) ∧ Below w.heap.size w w' := by
  have A := hideIt (awake_any w)
  obtain ⟨n, hn⟩ : ∃ n, xs.length = n := ⟨_, rfl⟩
  obtain ⟨aob, capb, rfl⟩ := bb.form hn
  have hcb : n ≤ capb := by obtain ⟨_, _, e, h, _⟩ := bb; simp at e; obtain ⟨_, e2, e3⟩ := e; omega
  by_cases hlb : 1000 < n
  · have d1 : decide ((1000 : Int) < (n : Int)) = true := decide_eq_true (by omega)
    clear bk bn bb k8 n8 x8 hc hn
    go_enter Try.func7, Try.ntmps7
    go_wp2_with fail
    refine A.out.mono ?_
    rintro e w1 ⟨rfl, rfl⟩
    go_wp2
    go_ret
    exact ⟨rfl, (Only.refl _ _).low (Nat.le_refl _)⟩
  · have d1 : decide ((1000 : Int) < (n : Int)) = false := decide_eq_false (by omega)
    by_cases hok : KN key nonce ∧ fitsC ctr n
    · have P1 := hideIt (stream_ok hok.1 hn hok.2 hc k8 n8 x8 (by omega) w bk bn bb)
      have HB := hideIt (And.intro bk (And.intro bn bb))
      have HU := hideIt (And.intro k8 (And.intro n8 x8))
      have HN := hideIt (And.intro hn (And.intro hok hc))
      have hb1 : n ≤ 1000 := by omega
      have hm0 := i64_low cut 10 (by decide)
      rw [show ((2 ^ 10 - 1 : Nat) : Int) = 1023 from rfl, show ((2 ^ 10 : Nat) : Int) = 1024 from rfl] at hm0
      obtain ⟨m, hm⟩ : ∃ m : Nat, (m : Int) = cut % 1024 := ⟨(cut % 1024).toNat, by omega⟩
      rw [← hm] at hm0
      have hm1 : m ≤ 1023 := by omega
      clear bk bn bb k8 n8 x8 hc hn hok hlb hm
      go_enter Try.func7, Try.ntmps7
      go_wp2_with fail
      refine A.out.mono ?_
      rintro e w1 ⟨rfl, rfl⟩
      go_wp2_with fail
      refine P1.out.mono ?_
      rintro e w1 ⟨v1, rfl, b1, nc1, o1⟩
      have hl1 : (STR key ctr nonce xs).length = n := by rw [STR_len]; exact HN.out.1
      obtain ⟨ao1, cap1, rfl⟩ := b1.form hl1
      have hc1 : n ≤ cap1 := by obtain ⟨_, _, e, h, _⟩ := b1; simp at e; obtain ⟨_, e2, e3⟩ := e; omega
      have B1 := hideIt b1
      have O1 := hideIt o1
      clear b1 nc1 o1 A P1 hl1
      by_cases hmn : n < m
      · have hmm : (n : Int) < (m : Int) := by omega
        have hkn : n ≤ n := Nat.le_refl _
        have HFK : Hid (fitsC ctr n) := HN.out.2.1.2
        have htk : (xs.take n).length = n := by rw [List.length_take, HN.out.1]; omega
        have k1 : (n : Int) ≤ (capb : Int) := by omega
        have k2 : (n : Int) ≤ (cap1 : Int) := by omega
        have P2 := hideIt (stream_ok HN.out.2.1.1 htk HFK.out HN.out.2.2 HU.out.1 HU.out.2.1 (HU.out.2.2.take n) (by omega) w1 (HB.out.1.past O1.out) (HB.out.2.1.past O1.out) ((HB.out.2.2.past O1.out).head hkn))
        rw [← STR_take] at P2
        go_wp2_with fail
        refine P2.out.mono ?_
        rintro e w2 ⟨v2, rfl, b2, nc2, o2⟩
        have O2 := hideIt (O1.out.same o2)
        have S2 := hideIt (lsame_eq _ v2 _ w2 ((B1.out.past o2).head hkn) b2 (by rw [List.length_take, STR_len, HN.out.1]; omega))
        have B2 := hideIt (B1.out.past o2)
        clear b2 nc2 o2 P2 B1
        have qn : ((n : Int) != (n : Int)) = false := by simp
        go_wp2_with fail
        refine S2.out.mono ?_
        rintro e w3 ⟨rfl, o3⟩
        have O3 := hideIt (O2.out.same o3)
        have B3 := hideIt (B2.out.past o3)
        clear o3 S2 B2 O1 O2
        by_cases h64 : n ≤ 64
        · have d3 : decide ((n : Int) ≤ 64) = true := decide_eq_true (by omega)
          clear HFK htk
          go_wp2
          go_ret
          exact ⟨rfl, O3.out.low (Nat.le_refl _)⟩
        · have d3 : decide ((n : Int) ≤ 64) = false := decide_eq_false (by omega)
          have hcn : ctr + 1 < 4294967296 ∧ fitsC (ctr + 1) (n - 64) := by
            have h1 := HN.out.2.1.2
            unfold fitsC at h1 ⊢
            constructor <;> omega
          have hw1 : IntKind.u32.wrap ((ctr : Int) + 1) = ((ctr + 1 : Nat) : Int) := by rw [IntKind.wrap_u32']; omega
          have P4 := hideIt (stream_ok HN.out.2.1.1 (n := n - 64) (by rw [List.length_drop, HN.out.1]) hcn.2 hcn.1 HU.out.1 HU.out.2.1 (HU.out.2.2.drop 64) (by omega) w3 (HB.out.1.past O3.out) (HB.out.2.1.past O3.out) ((HB.out.2.2.past O3.out).cut (n := 64) (by omega)))
          rw [← STR_drop] at P4
          obtain ⟨cn, hcn2⟩ : ∃ cn, cn = ctr + 1 := ⟨_, rfl⟩
          rw [← hcn2] at P4 hw1
          have j1 : (64 : Int) ≤ (n : Int) := by omega
          have j2 : ¬ capb = 64 := by omega
          have j3 : ¬ cap1 = 64 := by omega
          have j4 : (64 : Int) ≤ (capb : Int) := by omega
          have j5 : (64 : Int) ≤ (cap1 : Int) := by omega
          clear HFK htk hcn hcn2
          go_wp2_with fail
          refine P4.out.mono ?_
          rintro e w4 ⟨v4, rfl, b4, nc4, o4⟩
          have O4 := hideIt (O3.out.same o4)
          have S4 := hideIt (lsame_eq _ v4 _ w4 ((B3.out.past o4).cut (n := 64) (by omega)) b4 (by rw [List.length_drop, STR_len, HN.out.1]; omega))
          clear b4 nc4 o4 P4 B3 O3
          go_wp2_with fail
          refine S4.out.mono ?_
          rintro e w5 ⟨rfl, o5⟩
          have O5 := hideIt (O4.out.same o5)
          clear o5 S4
          go_wp2
          go_ret
          exact ⟨rfl, O5.out.low (Nat.le_refl _)⟩
      · have hmm : ¬ (n : Int) < (m : Int) := by omega
        have hkn : m ≤ n := by omega
        have HFK : Hid (fitsC ctr m) := by
          have h1 := HN.out.2.1.2
          show fitsC ctr m
          unfold fitsC at h1 ⊢
          omega
        have htk : (xs.take m).length = m := by rw [List.length_take, HN.out.1]; omega
        have k1 : (m : Int) ≤ (capb : Int) := by omega
        have k2 : (m : Int) ≤ (cap1 : Int) := by omega
        have P2 := hideIt (stream_ok HN.out.2.1.1 htk HFK.out HN.out.2.2 HU.out.1 HU.out.2.1 (HU.out.2.2.take m) (by omega) w1 (HB.out.1.past O1.out) (HB.out.2.1.past O1.out) ((HB.out.2.2.past O1.out).head hkn))
        rw [← STR_take] at P2
        go_wp2_with fail
        refine P2.out.mono ?_
        rintro e w2 ⟨v2, rfl, b2, nc2, o2⟩
        have O2 := hideIt (O1.out.same o2)
        have S2 := hideIt (lsame_eq _ v2 _ w2 ((B1.out.past o2).head hkn) b2 (by rw [List.length_take, STR_len, HN.out.1]; omega))
        have B2 := hideIt (B1.out.past o2)
        clear b2 nc2 o2 P2 B1
        have qn : ((n : Int) != (n : Int)) = false := by simp
        go_wp2_with fail
        refine S2.out.mono ?_
        rintro e w3 ⟨rfl, o3⟩
        have O3 := hideIt (O2.out.same o3)
        have B3 := hideIt (B2.out.past o3)
        clear o3 S2 B2 O1 O2
        by_cases h64 : n ≤ 64
        · have d3 : decide ((n : Int) ≤ 64) = true := decide_eq_true (by omega)
          clear HFK htk
          go_wp2
          go_ret
          exact ⟨rfl, O3.out.low (Nat.le_refl _)⟩
        · have d3 : decide ((n : Int) ≤ 64) = false := decide_eq_false (by omega)
          have hcn : ctr + 1 < 4294967296 ∧ fitsC (ctr + 1) (n - 64) := by
            have h1 := HN.out.2.1.2
            unfold fitsC at h1 ⊢
            constructor <;> omega
          have hw1 : IntKind.u32.wrap ((ctr : Int) + 1) = ((ctr + 1 : Nat) : Int) := by rw [IntKind.wrap_u32']; omega
          have P4 := hideIt (stream_ok HN.out.2.1.1 (n := n - 64) (by rw [List.length_drop, HN.out.1]) hcn.2 hcn.1 HU.out.1 HU.out.2.1 (HU.out.2.2.drop 64) (by omega) w3 (HB.out.1.past O3.out) (HB.out.2.1.past O3.out) ((HB.out.2.2.past O3.out).cut (n := 64) (by omega)))
          rw [← STR_drop] at P4
          obtain ⟨cn, hcn2⟩ : ∃ cn, cn = ctr + 1 := ⟨_, rfl⟩
          rw [← hcn2] at P4 hw1
          have j1 : (64 : Int) ≤ (n : Int) := by omega
          have j2 : ¬ capb = 64 := by omega
          have j3 : ¬ cap1 = 64 := by omega
          have j4 : (64 : Int) ≤ (capb : Int) := by omega
          have j5 : (64 : Int) ≤ (cap1 : Int) := by omega
          clear HFK htk hcn hcn2
          go_wp2_with fail
          refine P4.out.mono ?_
          rintro e w4 ⟨v4, rfl, b4, nc4, o4⟩
          have O4 := hideIt (O3.out.same o4)
          have S4 := hideIt (lsame_eq _ v4 _ w4 ((B3.out.past o4).cut (n := 64) (by omega)) b4 (by rw [List.length_drop, STR_len, HN.out.1]; omega))
          clear b4 nc4 o4 P4 B3 O3
          go_wp2_with fail
          refine S4.out.mono ?_
          rintro e w5 ⟨rfl, o5⟩
          have O5 := hideIt (O4.out.same o5)
          clear o5 S4
          go_wp2
          go_ret
          exact ⟨rfl, O5.out.low (Nat.le_refl _)⟩
    · have P1 := hideIt (stream_no hn hok hc k8 n8 x8 (by omega) w bk bn bb)
      clear bk bn bb k8 n8 x8 hc hn hok hlb
      go_enter Try.func7, Try.ntmps7
      go_wp2_with fail
      refine A.out.mono ?_
      rintro e w1 ⟨rfl, rfl⟩
      go_wp2_with fail
      refine P1.out.mono ?_
      rintro e w1 ⟨ao1, cap1, E, rfl, hE, o1⟩
      have O1 := hideIt o1
      clear o1 P1 A
      go_wp2
      go_ret
      exact ⟨rfl, O1.out.low (Nat.le_refl _)⟩
theorem begins_walkI (vk vn vb : Value) (key nonce xs : List Int) (c : Int) (cut : Int) (hc : 0 ≤ c ∧ c ≤ 4294967295) (k8 : U8 key) (n8 : U8 nonce) (x8 : U8 xs) (w : World) (bk : Bs .u8 w vk key) (bn : Bs .u8 w vn nonce) (bb : Bs .u8 w vb xs) :
    Calls Try.prog 7 #[vk, .int .u32 c, vn, vb, .int .i64 cut] w fun e w' => e = .returned (.bool true) ∧ Below w.heap.size w w' := by
  obtain ⟨n, rfl⟩ := Int.eq_ofNat_of_zero_le hc.1
  exact begins_walk vk vn vb key nonce xs n cut (by omega) k8 n8 x8 w bk bn bb
end Go.Proofs.Ytikoabnkoicdjaa

/- The document's own answer: what stands behind bytes. -/
import Derived.Test.YtnifflnhbpfmnaaAp0
import Derived.Test.YtnifflnhbpfmnaaRa
namespace Go.Proofs.Ytnifflnhbpfmnaa
open Go.RowKit

theorem zpad_test (n j : Nat) (h : j < zpad n) : (n + 1 + j) % 64 ≠ 56 := by unfold zpad at h; omega
theorem zpad_end (n : Nat) : (n + 1 + zpad n) % 64 = 56 := zpad_len n
/-- how long a slice is -/
def slenB : Value → Nat
  | .slice _ n _ => n
  | _ => 0
theorem be8_byte (n k : Nat) : (n : Int) * 8 / 2 ^ (8 * k) % 256 = ((8 * n / 256 ^ k % 256 : Nat) : Int) := by
  rw [Nat.mul_comm 8 k]; exact byte8 n k

set_option maxHeartbeats 1600000 in
set_option maxRecDepth 100000 in
theorem padded_any (v : Value) (xs : List Int) (w : World) (hb : Bs .u8 w v xs) (nc : NoCap v) (hl : xs.length ≤ 1000000000) :
    Calls Try.prog 49 #[v] w fun e w' => ∃ v', e = .returned v' ∧ w'.ownsRow w.heap.size 5 1 v' (padS xs).length ((padS xs).map (Value.int .u8)) ∧ Only (fun _ => False) w w' := by
  obtain ⟨i0, hi, hz0, hz1, hz2⟩ := info_parts Try.infoU8
  obtain ⟨n, hn⟩ : ∃ n, n = xs.length := ⟨_, rfl⟩
  have HPL : Hid ((padS xs).length = n + 1 + zpad n + 8) := by rw [padS_len, hn]; exact rfl
  obtain ⟨z, hz⟩ : ∃ z, z = zpad n := ⟨_, rfl⟩
  have hzl : z < 64 := by rw [hz]; exact zpad_lt n
  obtain ⟨F, hF⟩ : ∃ F : Nat → List Value, F = fun j => (xs ++ 128 :: List.replicate j 0).map (Value.int .u8) := ⟨_, rfl⟩
  obtain ⟨G, hG⟩ : ∃ G : Nat → List Value, G = fun j => (xs ++ 128 :: (List.replicate z 0 ++ (be8 (8 * n)).take j)).map (Value.int .u8) := ⟨_, rfl⟩
  have F0 : Hid (xs.map (Value.int .u8) ++ [(128 : Int)].map (Value.int .u8) = F 0) := by rw [hF]; exact (List.map_append ..).symm
  have FN : Hid (∀ j, F (j + 1) = F j ++ [(0 : Int)].map (Value.int .u8)) := fun j => by
    rw [hF]; simp only; rw [← List.map_append, List.replicate_succ']; simp
  have G0 : Hid (F z = G 0) := by rw [hF, hG]; simp; exact trivial
  have GN : Hid (∀ j, j < 8 → G (j + 1) = G j ++ [((8 * n / 256 ^ (7 - j) % 256 : Nat) : Int)].map (Value.int .u8)) := fun j hj => by
    rw [hG]; simp only; rw [be8_take _ _ hj, ← List.map_append]; simp
  have G8 : Hid (G 8 = (padS xs).map (Value.int .u8)) := by
    show _ = _
    rw [hG]; simp only; rw [List.take_of_length_le (Nat.le_of_eq (be8_len _)), padS, hz, hn]
  have HT : Hid (∀ j, j < z → (n + 1 + j) % 64 ≠ 56) := fun j hj => zpad_test n j (by rw [← hz]; exact hj)
  have HT2 : Hid ((n + 1 + z) % 64 = 56) := by rw [hz]; exact zpad_end n
  obtain ⟨P, hP⟩ : ∃ P, P = (padS xs).map (Value.int .u8) := ⟨_, rfl⟩
  obtain ⟨PL, hPL⟩ : ∃ PL, PL = (padS xs).length := ⟨_, rfl⟩
  rw [← hP] at G8
  rw [← hPL, ← hz] at HPL
  rw [← hP, ← hPL]
  have ho := World.ownsRow_made (base := w.heap.size) (e := 5) (size := 1) w #[] 0 (Nat.le_refl _) (by unfold maxLen; omega) rfl
  have HB := hideIt (And.intro (hb.past ((Only.refl (fun _ => False) w).alloc (.cells #[] 5))) nc)
  have HN := hideIt hn
  obtain ⟨ao, cap, rfl⟩ := hb.len
  rw [← hn] at HB hl ⊢
  clear hF hG hz hP hPL hb nc hn
  go_enter Try.func49, Try.ntmps49
  have hln : n + 1 ≤ 1000000001 := by omega
  go_wp2_with (first
    | (at_builtin; refine wpList_append_bs _ rfl _ _ 22 rfl w.heap.size 5 i0 (.int .u8 0) 1 Try.underlying22 hi hz0 hz1 hz2 rfl (.slice (some ⟨w.heap.size, 0, none⟩) 0 0) 0 [] rfl ho .u8 (.slice ao n cap) xs rfl HB.out.1 HB.out.2 (by rw [← HN.out]; unfold maxLen; omega) (by rw [← HN.out]; omega) (by simp) ?_; intro v1 w1 hown1 hgrow1 hnil1 hob1)
    | (at_builtin; refine wpList_append_bs _ rfl _ _ 22 rfl w.heap.size 5 i0 (.int .u8 0) 1 Try.underlying22 hi hz0 hz1 hz2 rfl v1 (0 + xs.length) _ rfl (hown1.alloc _) .u8 _ [128] rfl (Bs.litN .u8 w1 5 [128] _ _ rfl rfl) (NoCap.some _ _ _) (by rw [← HN.out]; simp [maxLen]; omega) (by rw [← HN.out]; simp; omega) (by have := hgrow1.size; simp at this ⊢; omega) ?_; intro v2 w2 hown2 hgrow2 hnil2 hob2))
  have N1 : Hid (w2.ownsRow w.heap.size 5 1 v2 (n + 1 + 0) (F 0)) := by
    show _
    rw [← F0.out]
    have := hown2
    rw [← HN.out, Nat.zero_add, List.nil_append] at this
    exact this
  have o1 : Only (fun _ => False) w w1 := ((Only.refl _ _).alloc _).grown hgrow1 (fun k hk e => by simp [Value.ownBlock] at e; omega)
  have N2 : Hid (Only (fun _ => False) w w2) := (o1.alloc _).grown hgrow2 (fun k hk e => by have := hown1.lt k e; omega)
  clear hown1 hgrow1 hnil1 hob1 hown2 hgrow2 hnil2 hob2 ho HB o1
  go_wp2
  go_loopw [3] (fun o wr => ∃ j : Nat, j ≤ z ∧ wr.ownsRow w.heap.size 5 1 o (n + 1 + j) (F j) ∧ Only (fun _ => False) w wr) (fun o _ => n + 1 + z - slenB o)
  case atStart => exact ⟨0, Nat.zero_le _, N1.out, N2.out⟩
  case round =>
    obtain ⟨j, hj, hown, hon⟩ := hrel
    obtain ⟨ao1, cap1, rfl⟩ := own_form hown
    have hsz := hon.size
    obtain ⟨m, hm⟩ : ∃ m, m = n + 1 + j := ⟨_, rfl⟩
    rw [← hm] at hown ⊢
    have HON := hideIt hon
    have HOWN := hideIt hown
    have hm1 : m ≤ 1000000065 := by omega
    clear hon hown N1 N2
    by_cases hlt : j < z
    · have ht : ((m : Int) % 64 != 56) = true := by
        have := HT.out j hlt
        rw [← hm] at this
        rw [bne_iff_ne]; omega
      have HFN := hideIt (FN.out j)
      have HM : Hid (m = n + 1 + j ∧ j < z) := ⟨hm, hlt⟩
      have BL := hideIt (Bs.litN .u8 wr 5 [0] _ _ rfl rfl)
      clear hm hlt hj
      go_wp2_with (at_builtin; refine wpList_append_bs _ rfl _ _ 22 rfl w.heap.size 5 i0 (.int .u8 0) 1 Try.underlying22 hi hz0 hz1 hz2 rfl _ m (F j) rfl (HOWN.out.alloc _) .u8 _ [0] rfl BL.out (NoCap.some _ _ _) (by simp [maxLen]; omega) (by simp; omega) (by simp; omega) ?_; intro v' w3 hown' hgrow2 hnil2 hob2)
      obtain ⟨ao3, cap3, e3⟩ := own_form hown'
      have M1 : Hid (w3.ownsRow w.heap.size 5 1 v' (n + 1 + (j + 1)) (F (j + 1))) := by
        have e : n + 1 + (j + 1) = m + 1 := by rw [HM.out.1]; omega
        show _
        rw [HFN.out, e]; exact hown'
      have M2 : Hid (Only (fun _ => False) w w3) := (HON.out.alloc _).grown hgrow2 (fun k hk e => by have := HOWN.out.lt k e; omega)
      have M3 : Hid (slenB v' = m + 1) := by rw [e3]; exact rfl
      clear hown' hgrow2 hnil2 hob2 HOWN HON BL HFN e3
      go_wp2
      go_roundw
      case rel => exact ⟨j + 1, HM.out.2, M1.out, M2.out⟩
      case measure =>
        have := M3.out
        have h1 := HM.out
        show n + 1 + z - slenB v' < n + 1 + z - m
        omega
    · obtain rfl : j = z := by omega
      have ht : ((m : Int) % 64 != 56) = false := by
        have := HT2.out
        rw [← hm] at this
        rw [bne_eq_false_iff_eq]; omega
      rw [G0.out] at HOWN
      have HM := hideIt hm
      obtain ⟨W2, hW2⟩ : ∃ W2, W2 = wr := ⟨_, rfl⟩
      subst hW2
      clear hm hlt hj FN F0 HT HT2
      go_wp2
      go_loopw [3, 5] (fun o i wr => ∃ t : Nat, t ≤ 8 ∧ i = .int .i64 (7 - (t : Int)) ∧ wr.ownsRow w.heap.size 5 1 o (m + t) (G t) ∧ Only (fun _ => False) w wr) (fun _ i _ => (intOf i + 1).toNat)
      case atStart => exact ⟨0, Nat.zero_le _, rfl, HOWN.out, HON.out⟩
      case round =>
        obtain ⟨t, htt, rfl, hown, hon⟩ := hrel
        have hsz3 := hon.size
        have HON3 := hideIt hon
        have HOWN3 := hideIt hown
        clear hon hown HOWN HON
        by_cases hlt : t < 8
        · obtain ⟨k, hk⟩ : ∃ k, k = 7 - t := ⟨_, rfl⟩
          have hk7 : (7 : Int) - (t : Int) = (k : Int) := by omega
          have HGN := hideIt (GN.out t hlt)
          rw [hk7]
          rw [← hk] at HGN
          have HK := hideIt (And.intro hk (And.intro hk7 hlt))
          have hk8 : k ≤ 7 := by omega
          have s0 : 0 ≤ 8 * (k : Int) := by omega
          have s1 : 8 * (k : Int) ≤ 64 := by omega
          have ht8 : m + t ≤ 1000000100 := by omega
          have BL := hideIt (Bs.litN .u8 wr 5 [(n : Int) * 8 / 2 ^ (8 * k) % 256] _ _ rfl rfl)
          clear hk hk7 hlt htt ht
          go_wp2_with (at_builtin; refine wpList_append_bs _ rfl _ _ 22 rfl w.heap.size 5 i0 (.int .u8 0) 1 Try.underlying22 hi hz0 hz1 hz2 rfl _ (m + t) (G t) rfl (HOWN3.out.alloc _) .u8 _ [(n : Int) * 8 / 2 ^ (8 * k) % 256] rfl BL.out (NoCap.some _ _ _) (by simp [maxLen]; omega) (by simp; omega) (by simp; omega) ?_; intro v' w3 hown' hgrow2 hnil2 hob2)
          have M1 : Hid (w3.ownsRow w.heap.size 5 1 v' (m + (t + 1)) (G (t + 1))) := by
            show _
            rw [HGN.out, ← be8_byte]; exact hown'
          have M2 : Hid (Only (fun _ => False) w w3) := (HON3.out.alloc _).grown hgrow2 (fun k hk e => by have := HOWN3.out.lt k e; omega)
          clear hown' hgrow2 hnil2 hob2 HOWN3 HON3 BL HGN
          go_wp2
          go_roundw
          case rel =>
            have h1 := HK.out
            exact ⟨t + 1, by omega, by congr 1; omega, M1.out, M2.out⟩
          case measure =>
            have h1 := HK.out
            simp [intOf]
            try omega
        · obtain rfl : t = 8 := by omega
          rw [G8.out] at HOWN3
          have hf : Hid (m + 8 = PL) := by show _ = _; rw [HPL.out, HM.out]
          rw [hf.out] at HOWN3
          clear ht htt hlt
          go_wp2
          go_ret
          exact ⟨_, rfl, HOWN3.out, HON3.out⟩
end Go.Proofs.Ytnifflnhbpfmnaa

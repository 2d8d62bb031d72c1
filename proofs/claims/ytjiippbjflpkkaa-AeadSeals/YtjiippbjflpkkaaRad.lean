/- The document's own answer: sums of digits. -/
import Derived.Test.YtjiippbjflpkkaaRn
namespace Go.Proofs.Ytjiippbjflpkkaa
open Go.RowKit

theorem nv_next (a : List Int) (n : Nat) : nv (a.take (n + 1)) = nv (a.take n) + 256 ^ n * (a.getD n 0).toNat := by
  by_cases h : n < a.length
  · rw [take_nextI a n h, nv_snoc, List.length_take, Nat.min_eq_left (by omega)]
  · rw [List.take_of_length_le (by omega), List.take_of_length_le (by omega), List.getD_eq_getElem?_getD, List.getElem?_eq_none (by omega)]
    simp
theorem getD_none (a : List Int) (n : Nat) (h : ¬ n < a.length) : a.getD n 0 = 0 := by
  rw [List.getD_eq_getElem?_getD, List.getElem?_eq_none (by omega)]; rfl
theorem add_dig (P s c x y d q : Nat) (L : Nat) (h : L + P * c = s) (e : c + x + y = d + 256 * q) : L + P * d + P * 256 * q = s + P * x + P * y := by
  have : P * (c + x + y) = P * (d + 256 * q) := by rw [e]
  rw [Nat.mul_add, Nat.mul_add, Nat.mul_add, ← Nat.mul_assoc] at this
  omega
/-- what is under way: n digits, and what is carried -/
structure Ad (a b : List Int) (n c : Nat) (L : List Int) : Prop where
  len : L.length = n
  u8 : U8 L
  c1 : c ≤ 1
  sum : nv L + 256 ^ n * c = nv (a.take n) + nv (b.take n)
theorem Ad.next {a b : List Int} {n c : Nat} {L : List Int} (h : Ad a b n c L) (x y : Nat) (hx : a.getD n 0 = (x : Int)) (hy : b.getD n 0 = (y : Int)) (x8 : x ≤ 255) (y8 : y ≤ 255) :
    Ad a b (n + 1) ((c + x + y) / 256) (L ++ [(((c + x + y) % 256 : Nat) : Int)]) := by
  have hc := h.c1
  refine ⟨by rw [List.length_append, h.len]; rfl, h.u8.snoc _ (by omega), by omega, ?_⟩
  rw [nv_snoc, h.len, nv_next, nv_next, hx, hy, Int.toNat_natCast, Int.toNat_natCast, Int.toNat_natCast]
  have := add_dig (256 ^ n) _ c x y ((c + x + y) % 256) ((c + x + y) / 256) (nv L) h.sum (by omega)
  rw [Nat.pow_succ]
  omega
theorem Ad.done {a b : List Int} {n : Nat} {L : List Int} (h : Ad a b n 0 L) (ha : a.length ≤ n) (hb : b.length ≤ n) : nv L = nv a + nv b := by
  have := h.sum
  rw [List.take_of_length_le ha, List.take_of_length_le hb] at this
  omega
set_option maxHeartbeats 1600000 in
set_option maxRecDepth 100000 in
theorem radd_any (va vb : Value) (a b : List Int) (la : a.length ≤ 100000) (lb : b.length ≤ 100000) (a8 : U8 a) (b8 : U8 b) (w : World) (ba : Bs .i64 w va a) (bb : Bs .i64 w vb b) :
    Calls Try.prog 48 #[va, vb] w fun e w' => ∃ v, e = .returned v ∧ ∃ L, w'.ownsRow w.heap.size 3 1 v L.length (il L) ∧ U8 L ∧ nv L = nv a + nv b ∧ L.length ≤ max a.length b.length + 1 ∧ Only (fun _ => False) w w' := by
  obtain ⟨i0, hi, hz0, hz1, hz2⟩ := info_parts Try.infoI
  have HA := hideIt (And.intro ba bb)
  obtain ⟨aao, ac, rfl⟩ := ba.len
  obtain ⟨bao, bc, rfl⟩ := bb.len
  have H8 := hideIt (And.intro a8 b8)
  obtain ⟨p, hp⟩ : ∃ p, p = a.length := ⟨_, rfl⟩
  obtain ⟨q, hq⟩ : ∃ q, q = b.length := ⟨_, rfl⟩
  have HM := hideIt (And.intro hp hq)
  rw [← hp, ← hq] at HA ⊢
  rw [← hp] at la
  rw [← hq] at lb
  clear ba bb a8 b8 hp hq
  go_enter Try.func48, Try.ntmps48
  go_wp2
  go_loopw [5, 6, 7] (fun o k i wr => ∃ (n c : Nat) (L : List Int), n ≤ max p q + 1 ∧ (n = max p q + 1 → c = 0) ∧ i = .int .i64 n ∧ k = .int .i64 c ∧ Ad a b n c L ∧ wr.ownsRow w.heap.size 3 1 o n (il L) ∧ Only (fun _ => False) w wr) (fun _ _ i _ => max p q + 1 - (intOf i).toNat)
  case atStart => exact ⟨0, 0, [], by omega, fun _ => rfl, rfl, rfl, ⟨rfl, (fun y hy => by cases hy), (by decide), rfl⟩, World.ownsRow_nil .., Only.refl _ _⟩
  case round =>
    obtain ⟨n, c, L, hn, hnc, rfl, rfl, had, hown, hon⟩ := hrel
    have hc1 := had.c1
    have hsz := hon.size
    have HAD := hideIt had
    clear had
    by_cases hpa : n < p
    · by_cases hqb : n < q
      · obtain ⟨ab, aoff, acap, ea, hca⟩ := (HA.out.1.past hon).at n (by have := HM.out.1; omega)
        simp at ea
        obtain ⟨rfl, -, rfl⟩ := ea
        obtain ⟨x, hx⟩ := Int.eq_ofNat_of_zero_le (H8.out.1.at n).1
        have x8 := (H8.out.1.at n).2
        rw [hx] at hca x8
        obtain ⟨bb, boff, bcap, eb, hcb⟩ := (HA.out.2.past hon).at n (by have := HM.out.2; omega)
        simp at eb
        obtain ⟨rfl, -, rfl⟩ := eb
        obtain ⟨y, hy⟩ := Int.eq_ofNat_of_zero_le (H8.out.2.at n).1
        have y8 := (H8.out.2.at n).2
        rw [hy] at hcb y8
        have NX := HAD.out.next x y hx hy (by omega) (by omega)
        obtain ⟨v1, hv1⟩ : ∃ v1, v1 = c + x := ⟨_, rfl⟩
        obtain ⟨v2, hv2⟩ : ∃ v2, v2 = v1 + y := ⟨_, rfl⟩
        rw [← hv1, ← hv2] at NX
        obtain ⟨d, hd⟩ : ∃ d, d = v2 % 256 := ⟨_, rfl⟩
        obtain ⟨k, hk⟩ : ∃ k, k = v2 / 256 := ⟨_, rfl⟩
        rw [← hd, ← hk] at NX
        have hvl : v2 ≤ 511 := by omega
        have e1 : (c : Int) + (x : Int) = (v1 : Int) := by omega
        have e2 : (v1 : Int) + (y : Int) = (v2 : Int) := by omega
        have e3 : (v2 : Int).tmod 256 = (d : Int) := by rw [Int.tmod_eq_emod_of_nonneg (by omega)]; omega
        have e4 : (v2 : Int) % 256 = (d : Int) := by omega
        have e5 : (v2 : Int).tdiv 256 = (k : Int) := by rw [Int.tdiv_eq_ediv_of_nonneg (by omega)]; omega
        have e6 : (v2 : Int) / 256 = (k : Int) := by omega
        have hkz : n + 1 = max p q + 1 → k = 0 := by omega
        have hn1 : n + 1 ≤ max p q + 1 := by omega
        have hnn : n ≤ 100000 := by omega
        have HNX := hideIt (And.intro hn1 (And.intro hkz NX))
        have j1 : (n : Int) < (p : Int) := by omega
        have j2 : (n : Int) < (q : Int) := by omega
        have b1 : (v1 : Int) ≤ 1000 := by omega
        have b2 : (v2 : Int) ≤ 1000 := by omega
        clear hx hy NX hv1 hv2 hd hk hkz hn1 hn hnc
        go_wp2_with (at_builtin; refine wpList_append_lies _ rfl _ _ _ rfl w.heap.size 3 i0 (.int .i64 0) 1 8 Try.underlying61 hi hz0 hz1 hz2 rfl (by omega) _ n (il L) rfl (hown.alloc _) ⟨wr.heap.size, 0, none⟩ 1 1 [.int .i64 (d : Int)] rfl rfl (cell_one_new _ _ _) (fun u hu => by simp at hu; subst hu; rfl) (by omega) (by unfold maxLen; omega) (by omega) (by simp; omega) (wr.heap.size + 1) (by simp) ?_)
        intro g cap1 w1 hown1 hgrow hat hg1
        have N1 : Hid (w1.ownsRow w.heap.size 3 1 (.slice (some ⟨g, 0, none⟩) (n + 1) cap1) (n + 1) (il (L ++ [(d : Int)])) ∧ Only (fun _ => False) w w1) := by
          refine ⟨?_, (hon.alloc _).grown hgrow (fun q hq e => by have := (hown.lt q e).1; omega)⟩
          rw [il_app]
          exact hown1
        clear hown hown1 hgrow hat hon hca hcb
        go_wp2
        go_roundw
        case rel => exact ⟨n + 1, k, _, HNX.out.1, HNX.out.2.1, by go_num, by go_num, HNX.out.2.2, N1.out⟩
        case measure => have := HNX.out.1; simp [intOf]; omega
      · obtain ⟨ab, aoff, acap, ea, hca⟩ := (HA.out.1.past hon).at n (by have := HM.out.1; omega)
        simp at ea
        obtain ⟨rfl, -, rfl⟩ := ea
        obtain ⟨x, hx⟩ := Int.eq_ofNat_of_zero_le (H8.out.1.at n).1
        have x8 := (H8.out.1.at n).2
        rw [hx] at hca x8
        obtain ⟨y, hy0⟩ : ∃ y : Nat, y = 0 := ⟨_, rfl⟩
        have hy : b.getD n 0 = (y : Int) := by rw [getD_none b n (by have := HM.out.2; omega), hy0]; rfl
        have y8 : (y : Int) ≤ 255 := by omega
        have NX := HAD.out.next x y hx hy (by omega) (by omega)
        obtain ⟨v1, hv1⟩ : ∃ v1, v1 = c + x := ⟨_, rfl⟩
        obtain ⟨v2, hv2⟩ : ∃ v2, v2 = v1 + y := ⟨_, rfl⟩
        rw [← hv1, ← hv2] at NX
        obtain ⟨d, hd⟩ : ∃ d, d = v2 % 256 := ⟨_, rfl⟩
        obtain ⟨k, hk⟩ : ∃ k, k = v2 / 256 := ⟨_, rfl⟩
        rw [← hd, ← hk] at NX
        have hvl : v2 ≤ 511 := by omega
        have e1 : (c : Int) + (x : Int) = (v1 : Int) := by omega
        have e3 : (v1 : Int).tmod 256 = (d : Int) := by rw [Int.tmod_eq_emod_of_nonneg (by omega)]; omega
        have e4 : (v1 : Int) % 256 = (d : Int) := by omega
        have e5 : (v1 : Int).tdiv 256 = (k : Int) := by rw [Int.tdiv_eq_ediv_of_nonneg (by omega)]; omega
        have e6 : (v1 : Int) / 256 = (k : Int) := by omega
        have hkz : n + 1 = max p q + 1 → k = 0 := by omega
        have hn1 : n + 1 ≤ max p q + 1 := by omega
        have hnn : n ≤ 100000 := by omega
        have HNX := hideIt (And.intro hn1 (And.intro hkz NX))
        have j1 : (n : Int) < (p : Int) := by omega
        have j2 : ¬ (n : Int) < (q : Int) := by omega
        have b1 : (v1 : Int) ≤ 1000 := by omega
        have b2 : (v2 : Int) ≤ 1000 := by omega
        clear hx hy NX hv1 hv2 hd hk hkz hn1 hn hnc hy0
        go_wp2_with (at_builtin; refine wpList_append_lies _ rfl _ _ _ rfl w.heap.size 3 i0 (.int .i64 0) 1 8 Try.underlying61 hi hz0 hz1 hz2 rfl (by omega) _ n (il L) rfl (hown.alloc _) ⟨wr.heap.size, 0, none⟩ 1 1 [.int .i64 (d : Int)] rfl rfl (cell_one_new _ _ _) (fun u hu => by simp at hu; subst hu; rfl) (by omega) (by unfold maxLen; omega) (by omega) (by simp; omega) (wr.heap.size + 1) (by simp) ?_)
        intro g cap1 w1 hown1 hgrow hat hg1
        have N1 : Hid (w1.ownsRow w.heap.size 3 1 (.slice (some ⟨g, 0, none⟩) (n + 1) cap1) (n + 1) (il (L ++ [(d : Int)])) ∧ Only (fun _ => False) w w1) := by
          refine ⟨?_, (hon.alloc _).grown hgrow (fun q hq e => by have := (hown.lt q e).1; omega)⟩
          rw [il_app]
          exact hown1
        clear hown hown1 hgrow hat hon hca
        go_wp2
        go_roundw
        case rel => exact ⟨n + 1, k, _, HNX.out.1, HNX.out.2.1, by go_num, by go_num, HNX.out.2.2, N1.out⟩
        case measure => have := HNX.out.1; simp [intOf]; omega
    · by_cases hqb : n < q
      · obtain ⟨x, hx0⟩ : ∃ x : Nat, x = 0 := ⟨_, rfl⟩
        have hx : a.getD n 0 = (x : Int) := by rw [getD_none a n (by have := HM.out.1; omega), hx0]; rfl
        have x8 : (x : Int) ≤ 255 := by omega
        obtain ⟨bb, boff, bcap, eb, hcb⟩ := (HA.out.2.past hon).at n (by have := HM.out.2; omega)
        simp at eb
        obtain ⟨rfl, -, rfl⟩ := eb
        obtain ⟨y, hy⟩ := Int.eq_ofNat_of_zero_le (H8.out.2.at n).1
        have y8 := (H8.out.2.at n).2
        rw [hy] at hcb y8
        have NX := HAD.out.next x y hx hy (by omega) (by omega)
        obtain ⟨v1, hv1⟩ : ∃ v1, v1 = c + x := ⟨_, rfl⟩
        obtain ⟨v2, hv2⟩ : ∃ v2, v2 = v1 + y := ⟨_, rfl⟩
        rw [← hv1, ← hv2] at NX
        obtain ⟨d, hd⟩ : ∃ d, d = v2 % 256 := ⟨_, rfl⟩
        obtain ⟨k, hk⟩ : ∃ k, k = v2 / 256 := ⟨_, rfl⟩
        rw [← hd, ← hk] at NX
        have hvl : v2 ≤ 511 := by omega
        have e2 : (c : Int) + (y : Int) = (v2 : Int) := by omega
        have e3 : (v2 : Int).tmod 256 = (d : Int) := by rw [Int.tmod_eq_emod_of_nonneg (by omega)]; omega
        have e4 : (v2 : Int) % 256 = (d : Int) := by omega
        have e5 : (v2 : Int).tdiv 256 = (k : Int) := by rw [Int.tdiv_eq_ediv_of_nonneg (by omega)]; omega
        have e6 : (v2 : Int) / 256 = (k : Int) := by omega
        have hkz : n + 1 = max p q + 1 → k = 0 := by omega
        have hn1 : n + 1 ≤ max p q + 1 := by omega
        have hnn : n ≤ 100000 := by omega
        have HNX := hideIt (And.intro hn1 (And.intro hkz NX))
        have j1 : ¬ (n : Int) < (p : Int) := by omega
        have j2 : (n : Int) < (q : Int) := by omega
        have b2 : (v2 : Int) ≤ 1000 := by omega
        clear hx hy NX hv1 hv2 hd hk hkz hn1 hn hnc hx0
        go_wp2_with (at_builtin; refine wpList_append_lies _ rfl _ _ _ rfl w.heap.size 3 i0 (.int .i64 0) 1 8 Try.underlying61 hi hz0 hz1 hz2 rfl (by omega) _ n (il L) rfl (hown.alloc _) ⟨wr.heap.size, 0, none⟩ 1 1 [.int .i64 (d : Int)] rfl rfl (cell_one_new _ _ _) (fun u hu => by simp at hu; subst hu; rfl) (by omega) (by unfold maxLen; omega) (by omega) (by simp; omega) (wr.heap.size + 1) (by simp) ?_)
        intro g cap1 w1 hown1 hgrow hat hg1
        have N1 : Hid (w1.ownsRow w.heap.size 3 1 (.slice (some ⟨g, 0, none⟩) (n + 1) cap1) (n + 1) (il (L ++ [(d : Int)])) ∧ Only (fun _ => False) w w1) := by
          refine ⟨?_, (hon.alloc _).grown hgrow (fun q hq e => by have := (hown.lt q e).1; omega)⟩
          rw [il_app]
          exact hown1
        clear hown hown1 hgrow hat hon hcb
        go_wp2
        go_roundw
        case rel => exact ⟨n + 1, k, _, HNX.out.1, HNX.out.2.1, by go_num, by go_num, HNX.out.2.2, N1.out⟩
        case measure => have := HNX.out.1; simp [intOf]; omega
      · by_cases hc0 : 0 < c
        · obtain ⟨x, hx0⟩ : ∃ x : Nat, x = 0 := ⟨_, rfl⟩
          have hx : a.getD n 0 = (x : Int) := by rw [getD_none a n (by have := HM.out.1; omega), hx0]; rfl
          have x8 : (x : Int) ≤ 255 := by omega
          obtain ⟨y, hy0⟩ : ∃ y : Nat, y = 0 := ⟨_, rfl⟩
          have hy : b.getD n 0 = (y : Int) := by rw [getD_none b n (by have := HM.out.2; omega), hy0]; rfl
          have y8 : (y : Int) ≤ 255 := by omega
          have NX := HAD.out.next x y hx hy (by omega) (by omega)
          obtain ⟨v1, hv1⟩ : ∃ v1, v1 = c + x := ⟨_, rfl⟩
          obtain ⟨v2, hv2⟩ : ∃ v2, v2 = v1 + y := ⟨_, rfl⟩
          rw [← hv1, ← hv2] at NX
          obtain ⟨d, hd⟩ : ∃ d, d = v2 % 256 := ⟨_, rfl⟩
          obtain ⟨k, hk⟩ : ∃ k, k = v2 / 256 := ⟨_, rfl⟩
          rw [← hd, ← hk] at NX
          have hvl : v2 ≤ 511 := by omega
          have e3 : (c : Int).tmod 256 = (d : Int) := by rw [Int.tmod_eq_emod_of_nonneg (by omega)]; omega
          have e4 : (c : Int) % 256 = (d : Int) := by omega
          have e5 : (c : Int).tdiv 256 = (k : Int) := by rw [Int.tdiv_eq_ediv_of_nonneg (by omega)]; omega
          have e6 : (c : Int) / 256 = (k : Int) := by omega
          have hkz : n + 1 = max p q + 1 → k = 0 := by omega
          have hn1 : n + 1 ≤ max p q + 1 := by omega
          have hnn : n ≤ 100000 := by omega
          have HNX := hideIt (And.intro hn1 (And.intro hkz NX))
          have j1 : ¬ (n : Int) < (p : Int) := by omega
          have j2 : ¬ (n : Int) < (q : Int) := by omega
          have j3 : (0 : Int) < (c : Int) := by omega
          have b2 : (v2 : Int) ≤ 1000 := by omega
          clear hx hy NX hv1 hv2 hd hk hkz hn1 hn hnc hx0 hy0
          go_wp2_with (at_builtin; refine wpList_append_lies _ rfl _ _ _ rfl w.heap.size 3 i0 (.int .i64 0) 1 8 Try.underlying61 hi hz0 hz1 hz2 rfl (by omega) _ n (il L) rfl (hown.alloc _) ⟨wr.heap.size, 0, none⟩ 1 1 [.int .i64 (d : Int)] rfl rfl (cell_one_new _ _ _) (fun u hu => by simp at hu; subst hu; rfl) (by omega) (by unfold maxLen; omega) (by omega) (by simp; omega) (wr.heap.size + 1) (by simp) ?_)
          intro g cap1 w1 hown1 hgrow hat hg1
          have N1 : Hid (w1.ownsRow w.heap.size 3 1 (.slice (some ⟨g, 0, none⟩) (n + 1) cap1) (n + 1) (il (L ++ [(d : Int)])) ∧ Only (fun _ => False) w w1) := by
            refine ⟨?_, (hon.alloc _).grown hgrow (fun q hq e => by have := (hown.lt q e).1; omega)⟩
            rw [il_app]
            exact hown1
          clear hown hown1 hgrow hat hon
          go_wp2
          go_roundw
          case rel => exact ⟨n + 1, k, _, HNX.out.1, HNX.out.2.1, by go_num, by go_num, HNX.out.2.2, N1.out⟩
          case measure => have := HNX.out.1; simp [intOf]; omega
        · obtain rfl : c = 0 := by omega
          have F1 : Hid (U8 L ∧ nv L = nv a + nv b ∧ L.length = n ∧ n ≤ max p q + 1 ∧ wr.ownsRow w.heap.size 3 1 u5 n (il L) ∧ Only (fun _ => False) w wr) :=
            ⟨HAD.out.u8, HAD.out.done (by have := HM.out.1; omega) (by have := HM.out.2; omega), HAD.out.len, hn, hown, hon⟩
          have j1 : ¬ (n : Int) < (p : Int) := by omega
          have j2 : ¬ (n : Int) < (q : Int) := by omega
          clear hown hon hn hnc
          go_wp2
          go_ret
          obtain ⟨f1, f2, f3, f4, f5, f6⟩ := F1.out
          exact ⟨_, rfl, L, by rw [f3]; exact f5, f1, f2, by rw [f3]; have := HM.out; omega, f6⟩
end Go.Proofs.Ytjiippbjflpkkaa

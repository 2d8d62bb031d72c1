/- The document's own answer: p, which is less, differences. -/
import Derived.Test.YtjiippbjflpkkaaRad
namespace Go.Proofs.Ytjiippbjflpkkaa
open Go.RowKit

/-- p's digits -/
def primeD : List Int := [251, 255, 255, 255, 255, 255, 255, 255, 255, 255, 255, 255, 255, 255, 255, 255, 3]
theorem primeD_u8 : U8 primeD := by
  intro y hy
  simp [primeD] at hy
  omega
theorem primeD_nv : nv primeD = PP := by decide +kernel
theorem primeD_trim : Trimd primeD := fun k hk => by
  have : k = 16 := by simp [primeD] at hk; omega
  subst this
  decide
set_option maxHeartbeats 800000 in
set_option maxRecDepth 100000 in
theorem rprime_any (w : World) : Calls Try.prog 55 #[] w fun e w' => ∃ v, e = .returned v ∧ w'.ownsRow w.heap.size 3 1 v 17 (il primeD) ∧ Only (fun _ => False) w w' := by
  obtain ⟨i0, hi, hz0, hz1, hz2⟩ := info_parts Try.infoI
  have L0 : Hid ((w.alloc (.cells #[.int .i64 251] 3)).ownsRow w.heap.size 3 1 (.slice (some ⟨w.heap.size, 0, none⟩) 1 1) 1 (il [251]) ∧ Only (fun _ => False) w (w.alloc (.cells #[.int .i64 251] 3))) := by
    refine ⟨?_, (Only.refl _ _).alloc _⟩
    exact ⟨rfl, .inr ⟨w.heap.size, 1, _, rfl, Nat.le_refl _, heap_alloc_last w _, Nat.le_refl _, by unfold maxLen; omega, rfl, rfl⟩⟩
  have E17 : Hid (il (251 :: List.replicate 15 255) ++ [.int .i64 3] = il primeD) := rfl
  go_enter Try.func55, Try.ntmps55
  go_wp2
  go_loopw [1, 2] (fun o i wr => ∃ n : Nat, n ≤ 15 ∧ i = .int .i64 (n + 1 : Nat) ∧ wr.ownsRow w.heap.size 3 1 o (n + 1) (il (251 :: List.replicate n 255)) ∧ Only (fun _ => False) w wr) (fun _ i _ => 16 - (intOf i).toNat)
  case atStart => exact ⟨0, by omega, rfl, L0.out⟩
  case round =>
    obtain ⟨n, hn, rfl, hown, hon⟩ := hrel
    clear L0
    have hsz := hon.size
    by_cases hlt : n < 15
    · have i1 : ((n + 1 : Nat) : Int) < 16 := by omega
      go_wp2_with (at_builtin; refine wpList_append_lies _ rfl _ _ _ rfl w.heap.size 3 i0 (.int .i64 0) 1 8 Try.underlying61 hi hz0 hz1 hz2 rfl (by omega) _ (n + 1) (il (251 :: List.replicate n 255)) rfl (hown.alloc _) ⟨wr.heap.size, 0, none⟩ 1 1 [.int .i64 255] rfl rfl (cell_one_new _ _ _) (fun u hu => by simp at hu; subst hu; rfl) (by omega) (by unfold maxLen; omega) (by omega) (by simp; omega) (wr.heap.size + 1) (by simp) ?_)
      intro g cap1 w1 hown1 hgrow hat hg1
      have N1 : Hid (w1.ownsRow w.heap.size 3 1 (.slice (some ⟨g, 0, none⟩) (n + 1 + 1) cap1) (n + 1 + 1) (il (251 :: List.replicate (n + 1) 255)) ∧ Only (fun _ => False) w w1) := by
        refine ⟨?_, (hon.alloc _).grown hgrow (fun q hq e => by have := (hown.lt q e).1; omega)⟩
        have e : il (251 :: List.replicate (n + 1) 255) = il (251 :: List.replicate n 255) ++ [.int .i64 255] := by
          rw [List.replicate_succ']; simp [il]
        rw [e]
        exact hown1
      clear hown hown1 hgrow hat hon
      go_wp2
      go_roundw
      case rel => exact ⟨n + 1, by omega, by go_num, N1.out⟩
      case measure => simp [intOf]; omega
    · obtain rfl : n = 15 := by omega
      go_wp2_with (at_builtin; refine wpList_append_lies _ rfl _ _ _ rfl w.heap.size 3 i0 (.int .i64 0) 1 8 Try.underlying61 hi hz0 hz1 hz2 rfl (by omega) _ 16 (il (251 :: List.replicate 15 255)) rfl (hown.alloc _) ⟨wr.heap.size, 0, none⟩ 1 1 [.int .i64 3] rfl rfl (cell_one_new _ _ _) (fun u hu => by simp at hu; subst hu; rfl) (by omega) (by unfold maxLen; omega) (by omega) (by simp; omega) (wr.heap.size + 1) (by simp) ?_)
      intro g cap1 w1 hown1 hgrow hat hg1
      have N1 : Hid (w1.ownsRow w.heap.size 3 1 (.slice (some ⟨g, 0, none⟩) 17 cap1) 17 (il primeD) ∧ Only (fun _ => False) w w1) := by
        refine ⟨?_, (hon.alloc _).grown hgrow (fun q hq e => by have := (hown.lt q e).1; omega)⟩
        rw [← E17.out]
        exact hown1
      clear hown hown1 hgrow hat hon E17
      go_wp2
      go_ret
      exact ⟨_, rfl, N1.out⟩

theorem nv_top (b : List Int) (tb : Trimd b) (b8 : U8 b) (k : Nat) (hk : b.length = k + 1) : 256 ^ k ≤ nv b := by
  have h1 := nv_split b k (by omega)
  have h2 := nv_drop b k (by omega)
  have h3 := tb k hk
  have h4 := b8.at k
  rw [h1, h2]
  have h5 : 1 ≤ (b.getD k 0).toNat + 256 * nv (b.drop (k + 1)) := by omega
  have := Nat.mul_le_mul_left (256 ^ k) h5
  omega
theorem less_len (a b : List Int) (a8 : U8 a) (b8 : U8 b) (tb : Trimd b) (h : a.length < b.length) : nv a < nv b := by
  have h1 := nv_lt a a8
  have h2 := nv_top b tb b8 (b.length - 1) (by omega)
  have h3 : 256 ^ a.length ≤ 256 ^ (b.length - 1) := Nat.pow_le_pow_right (by decide) (by omega)
  omega
theorem less_at (a b : List Int) (a8 : U8 a) (k : Nat) (ha : k < a.length) (hb : k < b.length) (hd : a.drop (k + 1) = b.drop (k + 1)) (h : (a.getD k 0).toNat < (b.getD k 0).toNat) : nv a < nv b := by
  have h1 := nv_split a k (by omega)
  have h2 := nv_drop a k ha
  have h3 := nv_split b k (by omega)
  have h4 := nv_drop b k hb
  have h5 := nv_lt (a.take k) (a8.take k)
  rw [List.length_take, Nat.min_eq_left (by omega)] at h5
  rw [h1, h2, h3, h4, hd]
  have h6 : (a.getD k 0).toNat + 256 * nv (b.drop (k + 1)) + 1 ≤ (b.getD k 0).toNat + 256 * nv (b.drop (k + 1)) := by omega
  have h7 := Nat.mul_le_mul_left (256 ^ k) h6
  rw [Nat.mul_add (256 ^ k) _ 1] at h7
  omega
theorem drop_same (a b : List Int) (k : Nat) (ha : k < a.length) (hb : k < b.length) (hd : a.drop (k + 1) = b.drop (k + 1)) (h : a.getD k 0 = b.getD k 0) : a.drop k = b.drop k := by
  rw [List.drop_eq_getElem_cons ha, List.drop_eq_getElem_cons hb, hd]
  rw [List.getD_eq_getElem?_getD, List.getElem?_eq_getElem ha, List.getD_eq_getElem?_getD, List.getElem?_eq_getElem hb] at h
  simp at h
  rw [h]
set_option maxHeartbeats 1600000 in
set_option maxRecDepth 100000 in
theorem rless_any (va vb : Value) (a b : List Int) (la : a.length ≤ 100000) (a8 : U8 a) (b8 : U8 b) (ta : Trimd a) (tb : Trimd b) (w : World) (ba : Bs .i64 w va a) (bb : Bs .i64 w vb b) :
    Calls Try.prog 54 #[va, vb] w fun e w' => e = .returned (.bool (decide (nv a < nv b))) ∧ Only (fun _ => False) w w' := by
  have HA := hideIt (And.intro ba bb)
  obtain ⟨aao, ac, rfl⟩ := ba.len
  obtain ⟨bao, bc, rfl⟩ := bb.len
  by_cases hne : a.length = b.length
  · have H8 := hideIt (And.intro a8 b8)
    have HD : Hid (∀ k, k ≤ a.length → a.drop k = b.drop k → a.length = b.length) := fun _ _ _ => hne
    obtain ⟨p, hp⟩ : ∃ p, p = a.length := ⟨_, rfl⟩
    have hq : b.length = p := by omega
    have HM := hideIt (And.intro hp hq)
    rw [← hp] at la
    obtain ⟨R, hR⟩ : ∃ R, R = decide (nv a < nv b) := ⟨_, rfl⟩
    have HR := hideIt hR
    rw [← hp, hq] at HA ⊢
    rw [← hR]
    clear ba bb a8 b8 hp hq hne ta tb HD hR
    go_enter Try.func54, Try.ntmps54
    go_wp2
    go_loopw [5] (fun i wr => ∃ k : Nat, k ≤ p ∧ i = .int .i64 ((k : Int) - 1) ∧ a.drop k = b.drop k ∧ Only (fun _ => False) w wr) (fun i _ => (intOf i + 1).toNat)
    case atStart => exact ⟨p, Nat.le_refl _, by go_num, by rw [List.drop_of_length_le (by have := HM.out.1; omega), List.drop_of_length_le (by have := HM.out.2; omega)], Only.refl _ _⟩
    case round =>
      obtain ⟨k, hk, rfl, hd, hon⟩ := hrel
      by_cases h0 : k = 0
      · subst h0
        have F1 : Hid (R = false) := by
          rw [HR.out]
          simp only [List.drop_zero] at hd
          rw [hd]
          exact decide_eq_false (Nat.lt_irrefl _)
        have O1 := hideIt hon
        clear hd hon
        go_wp2
        go_ret
        exact ⟨by rw [F1.out]; rfl, O1.out⟩
      · obtain ⟨j, rfl⟩ : ∃ j, k = j + 1 := ⟨k - 1, by omega⟩
        have hj : (((j + 1 : Nat) : Int) - 1) = (j : Int) := by omega
        rw [hj]
        obtain ⟨ab, aoff, acap, ea, hca⟩ := (HA.out.1.past hon).at j (by have := HM.out.1; omega)
        simp at ea
        obtain ⟨rfl, -, rfl⟩ := ea
        obtain ⟨bb, boff, bcap, eb, hcb⟩ := (HA.out.2.past hon).at j (by have := HM.out.2; omega)
        simp at eb
        obtain ⟨rfl, -, rfl⟩ := eb
        have x8 := H8.out.1.at j
        have y8 := H8.out.2.at j
        have HL := hideIt (fun h => less_at a b H8.out.1 j (by have := HM.out.1; omega) (by have := HM.out.2; omega) hd h)
        have HL2 := hideIt (fun h => less_at b a H8.out.2 j (by have := HM.out.2; omega) (by have := HM.out.1; omega) hd.symm h)
        have HS := hideIt (fun h => drop_same a b j (by have := HM.out.1; omega) (by have := HM.out.2; omega) hd h)
        obtain ⟨x, hx⟩ : ∃ x, x = a.getD j 0 := ⟨_, rfl⟩
        obtain ⟨y, hy⟩ : ∃ y, y = b.getD j 0 := ⟨_, rfl⟩
        rw [← hx] at hca x8 HL HL2 HS
        rw [← hy] at hcb y8 HL HL2 HS
        have i1 : (j : Int) < (p : Int) := by omega
        have i0 : (0 : Int) ≤ (j : Int) := by omega
        have O1 := hideIt hon
        clear hd hon hx hy
        by_cases hxy : x = y
        · have N1 := hideIt (HS.out hxy)
          subst hxy
          have hn1 : (x != x) = false := by simp
          clear HL HL2 HS
          go_wp2
          go_quiet (fail)
          go_wp2
          go_roundw
          case rel => exact ⟨j, by omega, by go_num, N1.out, O1.out.drewN nq⟩
          case measure => simp [intOf]
        · have hn1 : (x != y) = true := by simp; exact hxy
          have F1 : Hid (R = decide (x < y)) := by
            show R = _
            rw [HR.out]
            by_cases hlt : x < y
            · rw [decide_eq_true hlt, decide_eq_true (HL.out (by omega))]
            · rw [decide_eq_false hlt]
              have := HL2.out (by omega)
              exact decide_eq_false (by omega)
          clear HL HL2 HS
          go_wp2
          go_quiet (fail)
          go_wp2
          go_quiet (fail)
          go_wp2
          go_ret
          exact ⟨by rw [F1.out]; rfl, (O1.out.drewN _).drewN _⟩
  · have hR : decide (nv a < nv b) = decide (a.length < b.length) := by
      by_cases h : a.length < b.length
      · rw [decide_eq_true h, decide_eq_true (less_len a b a8 b8 tb h)]
      · have := less_len b a b8 a8 ta (by omega)
        rw [decide_eq_false h, decide_eq_false (by omega)]
    rw [hR]
    obtain ⟨p, hp⟩ : ∃ p, p = a.length := ⟨_, rfl⟩
    obtain ⟨q, hq⟩ : ∃ q, q = b.length := ⟨_, rfl⟩
    rw [← hp, ← hq] at hne ⊢
    have hn1 : ((p : Int) != (q : Int)) = true := by simp; omega
    clear ba bb a8 b8 hp hq la ta tb hR HA
    go_enter Try.func54, Try.ntmps54
    go_wp2
    go_ret
    exact ⟨by simp, Only.refl _ _⟩
/-- what is under way: n digits, and what is borrowed -/
structure Su (a b : List Int) (n c : Nat) (L : List Int) : Prop where
  len : L.length = n
  u8 : U8 L
  c1 : c ≤ 1
  sum : nv L + nv (b.take n) = nv (a.take n) + 256 ^ n * c
theorem sub_step (P A B c x y d k L : Nat) (h : L + B = A + P * c) (e : d + y + c = x + 256 * k) : L + P * d + (B + P * y) = A + P * x + P * 256 * k := by
  have : P * (d + y + c) = P * (x + 256 * k) := by rw [e]
  rw [Nat.mul_add, Nat.mul_add, Nat.mul_add, ← Nat.mul_assoc] at this
  omega
theorem Su.next {a b : List Int} {n c : Nat} {L : List Int} (h : Su a b n c L) (x y d k : Nat) (hx : a.getD n 0 = (x : Int)) (hy : b.getD n 0 = (y : Int)) (d8 : d ≤ 255) (k1 : k ≤ 1) (e : d + y + c = x + 256 * k) :
    Su a b (n + 1) k (L ++ [(d : Int)]) := by
  refine ⟨by rw [List.length_append, h.len]; rfl, h.u8.snoc _ (by omega), k1, ?_⟩
  rw [nv_snoc, h.len, nv_next, nv_next, hx, hy, Int.toNat_natCast, Int.toNat_natCast, Int.toNat_natCast, Nat.pow_succ]
  exact sub_step (256 ^ n) _ _ c x y d k _ h.sum e
theorem Su.done {a b : List Int} {c : Nat} {L : List Int} (h : Su a b a.length c L) (hb : b.length ≤ a.length) (hle : nv b ≤ nv a) : nv L = nv a - nv b := by
  have h1 := h.sum
  rw [List.take_length, List.take_of_length_le hb] at h1
  have h2 := nv_lt L h.u8
  rw [h.len] at h2
  have h3 := h.c1
  rcases c with _ | c
  · omega
  · have : c = 0 := by omega
    subst this
    omega
set_option maxHeartbeats 1600000 in
set_option maxRecDepth 100000 in
theorem rsub_any (va vb : Value) (a b : List Int) (la : a.length ≤ 100000) (lb : b.length ≤ a.length) (a8 : U8 a) (b8 : U8 b) (hle : nv b ≤ nv a) (w : World) (ba : Bs .i64 w va a) (bb : Bs .i64 w vb b) :
    Calls Try.prog 56 #[va, vb] w fun e w' => ∃ v, e = .returned v ∧ ∃ L, Bs .i64 w' v L ∧ U8 L ∧ nv L = nv a - nv b ∧ L.length ≤ a.length ∧ Only (fun _ => False) w w' := by
  obtain ⟨i0, hi, hz0, hz1, hz2⟩ := info_parts Try.infoI
  have HA := hideIt (And.intro ba bb)
  obtain ⟨aao, ac, rfl⟩ := ba.len
  obtain ⟨bao, bc, rfl⟩ := bb.len
  have H8 := hideIt (And.intro a8 (And.intro b8 hle))
  obtain ⟨p, hp⟩ : ∃ p, p = a.length := ⟨_, rfl⟩
  obtain ⟨q, hq⟩ : ∃ q, q = b.length := ⟨_, rfl⟩
  have HM := hideIt (And.intro hp hq)
  rw [← hp, ← hq] at HA ⊢
  rw [← hp, ← hq] at lb
  rw [← hp] at la
  clear ba bb a8 b8 hp hq hle
  go_enter Try.func56, Try.ntmps56
  go_wp2
  go_loopw [5, 6, 7] (fun o k i wr => ∃ (n c : Nat) (L : List Int), n ≤ p ∧ i = .int .i64 n ∧ k = .int .i64 c ∧ Su a b n c L ∧ wr.ownsRow w.heap.size 3 1 o n (il L) ∧ Only (fun _ => False) w wr) (fun _ _ i _ => p - (intOf i).toNat)
  case atStart => exact ⟨0, 0, [], by omega, rfl, rfl, ⟨rfl, (fun y hy => by cases hy), (by decide), rfl⟩, World.ownsRow_nil .., Only.refl _ _⟩
  case round =>
    obtain ⟨n, c, L, hn, rfl, rfl, had, hown, hon⟩ := hrel
    have hc1 := had.c1
    have hsz := hon.size
    have HAD := hideIt had
    clear had
    by_cases hpa : n < p
    · obtain ⟨ab, aoff, acap, ea, hca⟩ := (HA.out.1.past hon).at n (by have := HM.out.1; omega)
      simp at ea
      obtain ⟨rfl, -, rfl⟩ := ea
      obtain ⟨x, hx⟩ := Int.eq_ofNat_of_zero_le (H8.out.1.at n).1
      have x8 := (H8.out.1.at n).2
      rw [hx] at hca x8
      have i1 : (n : Int) < (p : Int) := by omega
      obtain ⟨v1, hv1⟩ : ∃ v1 : Int, v1 = (x : Int) - (c : Int) := ⟨_, rfl⟩
      have e1 : (x : Int) - (c : Int) = v1 := hv1.symm
      have e1b : -256 ≤ v1 ∧ v1 ≤ 255 := by omega
      obtain ⟨f1, f2⟩ := e1b
      by_cases hqb : n < q
      · obtain ⟨bb, boff, bcap, eb, hcb⟩ := (HA.out.2.past hon).at n (by have := HM.out.2; omega)
        simp at eb
        obtain ⟨rfl, -, rfl⟩ := eb
        obtain ⟨y, hy⟩ := Int.eq_ofNat_of_zero_le (H8.out.2.1.at n).1
        have y8 := (H8.out.2.1.at n).2
        rw [hy] at hcb y8
        obtain ⟨v2, hv2⟩ : ∃ v2 : Int, v2 = v1 - (y : Int) := ⟨_, rfl⟩
        have e2 : v1 - (y : Int) = v2 := hv2.symm
        have e2b : -1000 ≤ v2 ∧ v2 ≤ 255 := by omega
        obtain ⟨g1, g2⟩ := e2b
        by_cases hneg : v2 < 0
        · have j2 : (n : Int) < (q : Int) := by omega
          have j3 : v2 < 0 := hneg
          obtain ⟨d, hd⟩ : ∃ d : Nat, (d : Int) = v2 + 256 := ⟨(v2 + 256).toNat, by omega⟩
          have e5 : v2 + 256 = (d : Int) := hd.symm
          have NX := HAD.out.next x y d 1 hx hy (by omega) (by decide) (by omega)
          have HNX := hideIt NX
          clear NX hd hx hy hv1 hv2 hneg
          go_wp2_with (at_builtin; refine wpList_append_lies _ rfl _ _ _ rfl w.heap.size 3 i0 (.int .i64 0) 1 8 Try.underlying61 hi hz0 hz1 hz2 rfl (by omega) _ n (il L) rfl (hown.alloc _) ⟨wr.heap.size, 0, none⟩ 1 1 [.int .i64 (d : Int)] rfl rfl (cell_one_new _ _ _) (fun u hu => by simp at hu; subst hu; rfl) (by omega) (by unfold maxLen; omega) (by omega) (by simp; omega) (wr.heap.size + 1) (by simp) ?_)
          intro g cap1 w1 hown1 hgrow hat hg1
          have N1 : Hid (w1.ownsRow w.heap.size 3 1 (.slice (some ⟨g, 0, none⟩) (n + 1) cap1) (n + 1) (il (L ++ [(d : Int)])) ∧ Only (fun _ => False) w w1) := by
            refine ⟨?_, (hon.alloc _).grown hgrow (fun q hq e => by have := (hown.lt q e).1; omega)⟩
            rw [il_app]
            exact hown1
          clear hown hown1 hgrow hat hon hca hcb
          go_wp2
          go_roundw
          case rel => exact ⟨n + 1, 1, _, by omega, by go_num, by go_num, HNX.out, N1.out⟩
          case measure => simp [intOf]; omega
        · have j2 : (n : Int) < (q : Int) := by omega
          have j3 : ¬ v2 < 0 := hneg
          obtain ⟨d, hd⟩ : ∃ d : Nat, (d : Int) = v2 := ⟨(v2).toNat, by omega⟩
          have NX := HAD.out.next x y d 0 hx hy (by omega) (by decide) (by omega)
          have HNX := hideIt NX
          have e6 : v2 = (d : Int) := hd.symm
          have e7 : v1 - (y : Int) = (d : Int) := by omega
          have j4 : ¬ (d : Int) < 0 := by omega
          clear e6 e2 j3
          clear NX hd hx hy hv1 hv2 hneg
          go_wp2_with (at_builtin; refine wpList_append_lies _ rfl _ _ _ rfl w.heap.size 3 i0 (.int .i64 0) 1 8 Try.underlying61 hi hz0 hz1 hz2 rfl (by omega) _ n (il L) rfl (hown.alloc _) ⟨wr.heap.size, 0, none⟩ 1 1 [.int .i64 (d : Int)] rfl rfl (cell_one_new _ _ _) (fun u hu => by simp at hu; subst hu; rfl) (by omega) (by unfold maxLen; omega) (by omega) (by simp; omega) (wr.heap.size + 1) (by simp) ?_)
          intro g cap1 w1 hown1 hgrow hat hg1
          have N1 : Hid (w1.ownsRow w.heap.size 3 1 (.slice (some ⟨g, 0, none⟩) (n + 1) cap1) (n + 1) (il (L ++ [(d : Int)])) ∧ Only (fun _ => False) w w1) := by
            refine ⟨?_, (hon.alloc _).grown hgrow (fun q hq e => by have := (hown.lt q e).1; omega)⟩
            rw [il_app]
            exact hown1
          clear hown hown1 hgrow hat hon hca hcb
          go_wp2
          go_roundw
          case rel => exact ⟨n + 1, 0, _, by omega, by go_num, by go_num, HNX.out, N1.out⟩
          case measure => simp [intOf]; omega
      · obtain ⟨y, hy0⟩ : ∃ y : Nat, y = 0 := ⟨_, rfl⟩
        have hy : b.getD n 0 = (y : Int) := by rw [getD_none b n (by have := HM.out.2; omega), hy0]; rfl
        by_cases hneg : v1 < 0
        · have j2 : ¬ (n : Int) < (q : Int) := by omega
          have j3 : v1 < 0 := hneg
          obtain ⟨d, hd⟩ : ∃ d : Nat, (d : Int) = v1 + 256 := ⟨(v1 + 256).toNat, by omega⟩
          have e5 : v1 + 256 = (d : Int) := hd.symm
          have NX := HAD.out.next x y d 1 hx hy (by omega) (by decide) (by omega)
          have HNX := hideIt NX
          clear NX hd hx hy hv1 hy0 hneg
          go_wp2_with (at_builtin; refine wpList_append_lies _ rfl _ _ _ rfl w.heap.size 3 i0 (.int .i64 0) 1 8 Try.underlying61 hi hz0 hz1 hz2 rfl (by omega) _ n (il L) rfl (hown.alloc _) ⟨wr.heap.size, 0, none⟩ 1 1 [.int .i64 (d : Int)] rfl rfl (cell_one_new _ _ _) (fun u hu => by simp at hu; subst hu; rfl) (by omega) (by unfold maxLen; omega) (by omega) (by simp; omega) (wr.heap.size + 1) (by simp) ?_)
          intro g cap1 w1 hown1 hgrow hat hg1
          have N1 : Hid (w1.ownsRow w.heap.size 3 1 (.slice (some ⟨g, 0, none⟩) (n + 1) cap1) (n + 1) (il (L ++ [(d : Int)])) ∧ Only (fun _ => False) w w1) := by
            refine ⟨?_, (hon.alloc _).grown hgrow (fun q hq e => by have := (hown.lt q e).1; omega)⟩
            rw [il_app]
            exact hown1
          clear hown hown1 hgrow hat hon hca
          go_wp2
          go_roundw
          case rel => exact ⟨n + 1, 1, _, by omega, by go_num, by go_num, HNX.out, N1.out⟩
          case measure => simp [intOf]; omega
        · have j2 : ¬ (n : Int) < (q : Int) := by omega
          have j3 : ¬ v1 < 0 := hneg
          obtain ⟨d, hd⟩ : ∃ d : Nat, (d : Int) = v1 := ⟨(v1).toNat, by omega⟩
          have NX := HAD.out.next x y d 0 hx hy (by omega) (by decide) (by omega)
          have HNX := hideIt NX
          have e6 : v1 = (d : Int) := hd.symm
          have e7 : (x : Int) - (c : Int) = (d : Int) := by omega
          have j4 : ¬ (d : Int) < 0 := by omega
          clear e6 e1 j3
          clear NX hd hx hy hv1 hy0 hneg
          go_wp2_with (at_builtin; refine wpList_append_lies _ rfl _ _ _ rfl w.heap.size 3 i0 (.int .i64 0) 1 8 Try.underlying61 hi hz0 hz1 hz2 rfl (by omega) _ n (il L) rfl (hown.alloc _) ⟨wr.heap.size, 0, none⟩ 1 1 [.int .i64 (d : Int)] rfl rfl (cell_one_new _ _ _) (fun u hu => by simp at hu; subst hu; rfl) (by omega) (by unfold maxLen; omega) (by omega) (by simp; omega) (wr.heap.size + 1) (by simp) ?_)
          intro g cap1 w1 hown1 hgrow hat hg1
          have N1 : Hid (w1.ownsRow w.heap.size 3 1 (.slice (some ⟨g, 0, none⟩) (n + 1) cap1) (n + 1) (il (L ++ [(d : Int)])) ∧ Only (fun _ => False) w w1) := by
            refine ⟨?_, (hon.alloc _).grown hgrow (fun q hq e => by have := (hown.lt q e).1; omega)⟩
            rw [il_app]
            exact hown1
          clear hown hown1 hgrow hat hon hca
          go_wp2
          go_roundw
          case rel => exact ⟨n + 1, 0, _, by omega, by go_num, by go_num, HNX.out, N1.out⟩
          case measure => simp [intOf]; omega
    · obtain rfl : n = p := by omega
      have hnv : nv L = nv a - nv b := by
        have h := HAD.out
        rw [HM.out.1] at h
        exact h.done (by have := HM.out; omega) H8.out.2.2
      have hLl := HAD.out.len
      have hbs : Bs .i64 wr u5 L := Bs.of_il (by rw [hLl]; exact hown)
      have hL8 := HAD.out.u8
      obtain ⟨ao, cap, rfl⟩ := own_form hown
      have hbs2 : Bs .i64 wr (.slice ao L.length cap) L := by rw [hLl]; exact hbs
      have TR := hideIt (rtrim_any ao cap L (by omega) wr hbs2)
      rw [hLl] at TR
      have F1 : Hid (∀ k, k ≤ n → nv (L.take k) = nv L → Bs .i64 wr (.slice ao k cap) (L.take k) ∧ U8 (L.take k) ∧ nv (L.take k) = nv a - nv b ∧ (L.take k).length ≤ n ∧ Only (fun _ => False) w wr) := fun k hk h =>
        ⟨hbs.head hk, hL8.take k, by rw [h, hnv], by rw [List.length_take]; omega, hon⟩
      clear hnv hLl hbs hbs2 hL8 hown hon
      go_wp2_with fail
      refine TR.out.mono ?_
      rintro e w2 ⟨k, rfl, hk, hk2, -, rfl⟩
      have F2 := hideIt (F1.out k hk hk2)
      clear hk2 F1 TR
      go_wp2
      go_ret
      exact ⟨_, rfl, _, F2.out⟩
end Go.Proofs.Ytjiippbjflpkkaa

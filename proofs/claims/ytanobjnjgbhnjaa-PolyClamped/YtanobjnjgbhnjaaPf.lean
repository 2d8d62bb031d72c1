/- What the statements ask, as plain facts. -/
import Derived.Test.YtanobjnjgbhnjaaMu
namespace Go.Proofs.Ytanobjnjgbhnjaa

/-- r 1, s 0 -/
def K1 : List Int := 1 :: List.replicate 31 0
theorem K1_len : K1.length = 32 := rfl
theorem K1_u8 : U8 K1 := by
  intro y hy
  simp [K1] at hy
  omega
theorem K1_r : nv (clampD K1) = 1 := by decide +kernel
theorem K1_s : nv (K1.drop 16) = 0 := by decide +kernel
theorem TAG_ex : TAG K1 [0] = [0, 1, 0, 0, 0, 0, 0, 0, 0, 0, 0, 0, 0, 0, 0, 0] := by decide +kernel
theorem zeros_u8 (n : Nat) : U8 (List.replicate n (0 : Int)) := fun y hy => by
  have := List.eq_of_mem_replicate hy
  omega
theorem clampD_app (a b c : List Int) (h : a.length = 16) : clampD (a ++ b) = clampD (a ++ c) := by
  unfold clampD
  apply List.map_congr_left
  intro i hi
  have hi2 : i < 16 := by simpa using hi
  have e (d : List Int) : (a ++ d).getD i 0 = a.getD i 0 := by
    simp only [List.getD_eq_getElem?_getD]
    rw [List.getElem?_append_left (by omega)]
  rw [e, e]
theorem drop_app (a b : List Int) (h : a.length = 16) : (a ++ b).drop 16 = b := by
  rw [← h, List.drop_append_of_le_length (Nat.le_refl _), List.drop_length, List.nil_append]
/-- with s 0, and s added to it -/
theorem parts_plus (r s xs : List Int) (hr : r.length = 16) : leB 16 (nv (TAG (r ++ List.replicate 16 0) xs) + nv s) = TAG (r ++ s) xs := by
  have h := TAG_plus (r ++ s) (r ++ List.replicate 16 0) xs (by rw [clampD_app r s _ hr]) (by rw [drop_app r _ hr, nv_zeros])
  rw [drop_app r s hr] at h
  exact h
theorem clampD_zero (s : List Int) : nv (clampD (List.replicate 16 0 ++ s)) = 0 := by
  rw [clampD_app _ s [] (by simp)]
  decide +kernel
theorem parts_rzero (s xs : List Int) (s8 : U8 s) (hs : s.length = 16) : TAG (List.replicate 16 0 ++ s) xs = s := by
  rw [TAG_rzero _ xs ((zeros_u8 16).app s8) (by simp [hs]) (clampD_zero s), drop_app _ _ (by simp)]
theorem parts_nil (r s : List Int) (r8 : U8 r) (s8 : U8 s) (hr : r.length = 16) (hs : s.length = 16) : TAG (r ++ s) [] = s := by
  rw [TAG_nil _ (r8.app s8) (by simp [hr, hs]), drop_app _ _ hr]
theorem nv_pad (b : List Int) (k : Nat) : nv (b ++ List.replicate k 0) = nv b := by
  rw [nv_app, nv_zeros, Nat.mul_zero, Nat.add_zero]
/-- one piece, with r 1 -/
theorem pacc_one (b : List Int) (b8 : U8 b) (h : b.length ≤ 16) : pacc 1 b 1 = nv b + 256 ^ b.length := by
  have h1 := nv_lt b b8
  have h2 : 256 ^ b.length ≤ 256 ^ 16 := Nat.pow_le_pow_right (by decide) h
  have h3 : (256 : Nat) ^ 16 + 256 ^ 16 < PP := by decide +kernel
  show (0 + piece b 0) * 1 % PP = _
  have e : piece b 0 = nv b + 256 ^ b.length := by
    unfold piece
    rw [Nat.mul_zero, List.drop_zero, List.take_of_length_le h, Nat.sub_zero, Nat.min_eq_right h]
  rw [e, Nat.zero_add, Nat.mul_one, Nat.mod_eq_of_lt (by omega)]
/-- two pieces, with r 1 -/
theorem pacc_two (a b : List Int) (ha : a.length = 16) (hab : nv a + nv b < 256 ^ 16) (h : b.length ≤ 16) : pacc 1 (a ++ b) 2 = nv a + 256 ^ 16 + (nv b + 256 ^ b.length) := by
  have h2 : 256 ^ b.length ≤ 256 ^ 16 := Nat.pow_le_pow_right (by decide) h
  have h3 : (256 : Nat) ^ 16 + 256 ^ 16 + 256 ^ 16 < PP := by decide +kernel
  have e1 : piece (a ++ b) 0 = nv a + 256 ^ 16 := by
    unfold piece
    rw [Nat.mul_zero, List.drop_zero, List.take_append_of_le_length (by omega), List.take_of_length_le (by omega), Nat.sub_zero, List.length_append, Nat.min_eq_left (by omega)]
  have e2 : piece (a ++ b) 1 = nv b + 256 ^ b.length := by
    unfold piece
    rw [Nat.mul_one, drop_app a b ha, List.take_of_length_le h, List.length_append, ha, Nat.add_sub_cancel_left, Nat.min_eq_right h]
  show ((0 + piece (a ++ b) 0) * 1 % PP + piece (a ++ b) 1) * 1 % PP = _
  rw [e1, e2, Nat.zero_add, Nat.mul_one, Nat.mul_one, Nat.mod_eq_of_lt (a := nv a + 256 ^ 16) (by omega), Nat.mod_eq_of_lt (by omega)]
theorem one_tag (b : List Int) (b8 : U8 b) (h0 : 0 < b.length) (h : b.length ≤ 15) : TAG K1 b = (b ++ [1]) ++ List.replicate (15 - b.length) 0 := by
  have e : (b.length + 15) / 16 = 1 := by omega
  refine nv_inj (TAG_u8 _ _) ((b8.snoc 1 (by decide)).app (zeros_u8 _)) (by rw [TAG_len]; simp; omega) ?_
  unfold TAG
  rw [nv_leB, K1_r, K1_s, e, pacc_one b b8 (by omega), nv_pad, nv_snoc, Nat.add_zero]
  have h1 := nv_lt b b8
  have h2 : 256 ^ b.length ≤ 256 ^ 15 := Nat.pow_le_pow_right (by decide) h
  have h3 : (256 : Nat) ^ 15 + 256 ^ 15 < 256 ^ 16 := by decide +kernel
  rw [Nat.mod_eq_of_lt (by omega)]
  simp
theorem one_tag2 (b : List Int) (b8 : U8 b) (h0 : 0 < b.length) (h : b.length ≤ 15) : TAG K1 (List.replicate 16 0 ++ b) = (b ++ [1]) ++ List.replicate (15 - b.length) 0 := by
  have e : ((List.replicate 16 (0 : Int) ++ b).length + 15) / 16 = 2 := by rw [List.length_append, List.length_replicate]; omega
  refine nv_inj (TAG_u8 _ _) ((b8.snoc 1 (by decide)).app (zeros_u8 _)) (by rw [TAG_len]; simp; omega) ?_
  unfold TAG
  have hz : nv (List.replicate 16 (0 : Int)) + nv b < 256 ^ 16 := by
    rw [nv_zeros]
    have h1 := nv_lt b b8
    have h2 : 256 ^ b.length ≤ 256 ^ 16 := Nat.pow_le_pow_right (by decide) (by omega)
    omega
  rw [nv_leB, K1_r, K1_s, e, pacc_two _ b (by simp) hz (by omega), nv_pad, nv_snoc, Nat.add_zero, nv_zeros, Nat.zero_add, Nat.add_mod_left]
  have h1 := nv_lt b b8
  have h2 : 256 ^ b.length ≤ 256 ^ 15 := Nat.pow_le_pow_right (by decide) h
  have h3 : (256 : Nat) ^ 15 + 256 ^ 15 < 256 ^ 16 := by decide +kernel
  rw [Nat.mod_eq_of_lt (by omega)]
  simp
theorem whole_tag (b : List Int) (b8 : U8 b) (h : b.length = 16) : TAG K1 b = b := by
  have e : (b.length + 15) / 16 = 1 := by omega
  refine nv_inj (TAG_u8 _ _) b8 (by rw [TAG_len, h]) ?_
  unfold TAG
  have h1 := nv_lt b b8
  rw [nv_leB, K1_r, K1_s, e, pacc_one b b8 (by omega), Nat.add_zero, h, Nat.add_mod_right, Nat.mod_eq_of_lt (by rw [← h]; exact h1)]
theorem whole_tag2 (b : List Int) (b8 : U8 b) (h : b.length = 16) : TAG K1 (b ++ List.replicate 16 0) = b := by
  have e : ((b ++ List.replicate 16 (0 : Int)).length + 15) / 16 = 2 := by rw [List.length_append, List.length_replicate]; omega
  refine nv_inj (TAG_u8 _ _) b8 (by rw [TAG_len, h]) ?_
  unfold TAG
  have h1 := nv_lt b b8
  rw [nv_leB, K1_r, K1_s, e, pacc_two b _ h (by rw [nv_zeros, ← h]; exact h1) (by simp), Nat.add_zero, nv_zeros, Nat.zero_add, List.length_replicate, Nat.add_mod_right, Nat.add_mod_right, Nat.mod_eq_of_lt (by rw [← h]; exact h1)]
/-- bits that are left out, turned j times -/
def t1 (xs : List Int) (b : Nat) : Nat → List Int
  | 0 => xs
  | j + 1 => (t1 xs b j).set (4 * j + 3) ((((t1 xs b j).getD (4 * j + 3) 0).toNat ^^^ (b &&& 240) : Nat) : Int)
def t2 (xs : List Int) (b : Nat) : Nat → List Int
  | 0 => t1 xs b 4
  | j + 1 => (t2 xs b j).set (4 * j + 4) ((((t2 xs b j).getD (4 * j + 4) 0).toNat ^^^ (b &&& 3) : Nat) : Int)
theorem t1_len (xs : List Int) (b j : Nat) : (t1 xs b j).length = xs.length := by
  induction j with
  | zero => rfl
  | succ j ih => rw [t1, List.length_set, ih]
theorem t2_len (xs : List Int) (b j : Nat) : (t2 xs b j).length = xs.length := by
  induction j with
  | zero => exact t1_len xs b 4
  | succ j ih => rw [t2, List.length_set, ih]
theorem xor_byte (x y : Nat) (hx : x ≤ 255) (hy : y ≤ 255) : x ^^^ y ≤ 255 := by
  have := Nat.xor_lt_two_pow (x := x) (y := y) (n := 8) (by omega) (by omega)
  omega
theorem and_le240 (b : Nat) : b &&& 240 ≤ 255 := Nat.le_trans Nat.and_le_right (by decide)
theorem and_le3 (b : Nat) : b &&& 3 ≤ 255 := Nat.le_trans Nat.and_le_right (by decide)
theorem t1_u8 (xs : List Int) (h : U8 xs) (b j : Nat) : U8 (t1 xs b j) := by
  induction j with
  | zero => exact h
  | succ j ih =>
    have h1 := ih.at (4 * j + 3)
    have h2 := xor_byte ((t1 xs b j).getD (4 * j + 3) 0).toNat (b &&& 240) (by omega) (and_le240 b)
    exact ih.set _ _ (by omega)
theorem t2_u8 (xs : List Int) (h : U8 xs) (b j : Nat) : U8 (t2 xs b j) := by
  induction j with
  | zero => exact t1_u8 xs h b 4
  | succ j ih =>
    have h1 := ih.at (4 * j + 4)
    have h2 := xor_byte ((t2 xs b j).getD (4 * j + 4) 0).toNat (b &&& 3) (by omega) (and_le3 b)
    exact ih.set _ _ (by omega)
theorem top_same (x b : Nat) : (x ^^^ (b &&& 240)) % 16 = x % 16 := by
  have h := Nat.xor_mod_two_pow (a := x) (b := b &&& 240) (n := 4)
  have h2 : (b &&& 240) % 2 ^ 4 = 0 := by
    rw [Nat.and_mod_two_pow]
    simp
  rw [h2, Nat.xor_zero] at h
  exact h
theorem low_same (x b : Nat) : (x ^^^ (b &&& 3)) / 4 = x / 4 := by
  have h := Nat.xor_div_two_pow (a := x) (b := b &&& 3) (n := 2)
  have h2 : (b &&& 3) / 2 ^ 2 = 0 := Nat.div_eq_of_lt (Nat.lt_of_le_of_lt Nat.and_le_right (by decide))
  rw [h2, Nat.xor_zero] at h
  exact h
theorem t1_at (xs : List Int) (hl : xs.length = 16) (b j : Nat) (hj : j ≤ 4) (i : Nat) : (t1 xs b j).getD i 0 = if i % 4 = 3 ∧ i / 4 < j then (((xs.getD i 0).toNat ^^^ (b &&& 240) : Nat) : Int) else xs.getD i 0 := by
  induction j with
  | zero => simp [t1]
  | succ j ih =>
    rw [t1, getD_setI, t1_len, hl]
    by_cases h : 4 * j + 3 = i
    · subst h
      rw [if_pos ⟨rfl, by omega⟩, ih (by omega), if_neg (by omega), if_pos (by omega)]
    · rw [if_neg (fun e => h e.1), ih (by omega)]
      by_cases h2 : i % 4 = 3 ∧ i / 4 < j
      · rw [if_pos h2, if_pos (by omega)]
      · rw [if_neg h2, if_neg (by omega)]
theorem t2_at (xs : List Int) (hl : xs.length = 16) (b j : Nat) (hj : j ≤ 3) (i : Nat) (hi : i < 16) : (t2 xs b j).getD i 0 = if i % 4 = 3 then (((xs.getD i 0).toNat ^^^ (b &&& 240) : Nat) : Int) else if i % 4 = 0 ∧ 0 < i ∧ i / 4 ≤ j then (((xs.getD i 0).toNat ^^^ (b &&& 3) : Nat) : Int) else xs.getD i 0 := by
  induction j with
  | zero =>
    rw [t2, t1_at xs hl b 4 (by decide)]
    by_cases h : i % 4 = 3
    · rw [if_pos (by omega), if_pos h]
    · rw [if_neg (by omega), if_neg h, if_neg (by omega)]
  | succ j ih =>
    rw [t2, getD_setI, t2_len, hl]
    have h1 := ih (by omega)
    by_cases h : 4 * j + 4 = i
    · subst h
      rw [if_pos ⟨rfl, by omega⟩, h1, if_neg (by omega), if_neg (by omega), if_neg (by omega), if_pos (by omega)]
    · rw [if_neg (fun e => h e.1), h1]
      by_cases h2 : i % 4 = 3
      · rw [if_pos h2, if_pos h2]
      · rw [if_neg h2, if_neg h2]
        by_cases h3 : i % 4 = 0 ∧ 0 < i ∧ i / 4 ≤ j
        · rw [if_pos h3, if_pos (by omega)]
        · rw [if_neg h3, if_neg (by omega)]
theorem clamp_turned (xs s : List Int) (x8 : U8 xs) (hl : xs.length = 16) (b : Nat) : clampD (t2 xs b 3 ++ s) = clampD (xs ++ s) := by
  unfold clampD
  apply List.map_congr_left
  intro i hi
  have hi2 : i < 16 := by simpa using hi
  have e (d : List Int) (hd : d.length = 16) : (d ++ s).getD i 0 = d.getD i 0 := by
    simp only [List.getD_eq_getElem?_getD]
    rw [List.getElem?_append_left (by omega)]
  rw [e _ (by rw [t2_len, hl]), e _ hl, t2_at xs hl b 3 (by decide) i hi2]
  have hx := x8.at i
  obtain ⟨x, hxx⟩ := Int.eq_ofNat_of_zero_le hx.1
  rw [hxx, Int.toNat_natCast]
  by_cases h3 : i % 4 = 3
  · have := top_same x b
    rw [if_pos h3, if_pos h3, if_pos h3]
    omega
  · rw [if_neg h3, if_neg h3, if_neg h3]
    by_cases h4 : i % 4 = 0 ∧ 0 < i
    · have := low_same x b
      rw [if_pos h4, if_pos h4, if_pos (by omega)]
      omega
    · rw [if_neg h4, if_neg h4, if_neg (by omega)]
theorem turned_tag (xs s m : List Int) (x8 : U8 xs) (hl : xs.length = 16) (b : Nat) : TAG (t2 xs b 3 ++ s) m = TAG (xs ++ s) m := by
  unfold TAG
  rw [clamp_turned xs s x8 hl b, drop_app _ _ (by rw [t2_len, hl]), drop_app _ _ hl]
end Go.Proofs.Ytanobjnjgbhnjaa

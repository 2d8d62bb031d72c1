/- Package simple as plain mathematics: lists of numbers in words, there and back. -/
import Derived.Test.YtgnaeajfajineaaSm
namespace Go.Proofs.Ytgnaeajfajineaa
open Go.RowKit

theorem fixB_next (v : Int) (i : Nat) : fixB v (i + 1) = fixB (v / 256) i := by
  unfold fixB
  rw [show 8 * (i + 1) = 8 + 8 * i by omega, Int.pow_add, show (2 : Int) ^ 8 = 256 from rfl, Int.ediv_ediv_of_nonneg (by omega)]
theorem fixL_next (v : Int) (n : Nat) : fixL v (n + 1) = fixL (v / 256) n ++ [fixB v 0] := by
  unfold fixL
  rw [List.range_succ, List.map_append, List.map_singleton]
  congr 1
  · apply List.map_congr_left
    intro j hj
    rw [List.mem_range] at hj
    rw [← fixB_next]
    congr 1
    omega
  · simp
theorem num_fix (n : Nat) : ∀ v : Int, 0 ≤ v → (num (fixL v n) : Int) = v % ((256 ^ n : Nat) : Int) := by
  induction n with
  | zero => intro v _; simp [fixL, num]
  | succ n ih =>
    intro v hv
    have h0 := fixB_range v 0
    rw [fixL_next, num_snoc, Int.natCast_add, Int.natCast_mul, ih (v / 256) (by omega), Int.toNat_of_nonneg h0.1]
    obtain ⟨m, rfl⟩ := Int.eq_ofNat_of_zero_le hv
    have e1 : fixB (m : Int) 0 = ((m % 256 : Nat) : Int) := by simp [fixB]
    have e2 : ((m : Int) / 256) = ((m / 256 : Nat) : Int) := by omega
    rw [e1, e2, Nat.pow_succ, Nat.mul_comm (256 ^ n) 256, ← Int.natCast_emod, ← Int.natCast_emod, Nat.mod_mul]
    omega
theorem num_fix8 (v : Nat) (h : v < 18446744073709551616) : num (fixL v 8) = v := by
  have := num_fix 8 v (by omega)
  have e : ((256 ^ 8 : Nat) : Int) = 18446744073709551616 := by decide
  rw [e] at this
  omega

/-- the word that a list begins with -/
def wd0 (xs : List Int) : Nat := wordN (least xs) (wi (least xs)) (xs.take (cn (least xs)))
def encF : Nat → List Int → List Int
  | 0, _ => []
  | f + 1, xs => if xs = [] then [] else fixL (wd0 xs) 8 ++ encF f (xs.drop (cn (least xs)))
/-- what a list is written as -/
def enc (xs : List Int) : List Int := encF xs.length xs
theorem encF_nil (f : Nat) : encF f [] = [] := by cases f <;> simp [encF]
theorem encF_fuel : ∀ (f g : Nat) (xs : List Int), Up 60 xs → xs.length ≤ f → xs.length ≤ g → encF f xs = encF g xs
  | 0, g, xs, _, hf, _ => by
    have : xs = [] := List.eq_nil_of_length_eq_zero (by omega)
    rw [this, encF_nil, encF_nil]
  | f + 1, 0, xs, _, _, hg => by
    have : xs = [] := List.eq_nil_of_length_eq_zero (by omega)
    rw [this, encF_nil, encF_nil]
  | f + 1, g + 1, xs, hu, hf, hg => by
    by_cases h : xs = []
    · rw [h, encF_nil, encF_nil]
    · have h1 := (sort_at _ (least_fits h hu).1).1
      simp only [encF, h, if_false]
      rw [encF_fuel f g (xs.drop (cn (least xs))) (hu.drop _) (by rw [List.length_drop]; omega) (by rw [List.length_drop]; omega)]
theorem enc_nil : enc [] = [] := rfl
theorem enc_step {xs : List Int} (h : xs ≠ []) (hu : Up 60 xs) : enc xs = fixL (wd0 xs) 8 ++ enc (xs.drop (cn (least xs))) := by
  have hl : 0 < xs.length := List.length_pos_iff.2 h
  have h1 := (sort_at _ (least_fits h hu).1).1
  obtain ⟨f, hf⟩ : ∃ f, xs.length = f + 1 := ⟨xs.length - 1, by omega⟩
  unfold enc
  rw [hf]
  simp only [encF, h, if_false]
  rw [encF_fuel f (xs.drop (cn (least xs))).length _ (hu.drop _) (by rw [List.length_drop]; omega) (Nat.le_refl _)]
theorem wd0_facts {xs : List Int} (h : xs ≠ []) (hu : Up 60 xs) : wd0 xs < 18446744073709551616 ∧ nms (wd0 xs) = xs.take (cn (least xs)) := by
  obtain ⟨h1, h2, h3⟩ := least_fits h hu
  have hl : (xs.take (cn (least xs))).length = cn (least xs) := by rw [List.length_take]; omega
  exact ⟨wordN_lt h1 h3 (by rw [hl]; exact (sort_at _ h1).2.2.2.1), nms_word h1 hl h3⟩
theorem enc_len : ∀ (n : Nat) (xs : List Int), xs.length = n → Up 60 xs → (enc xs).length % 8 = 0 ∧ (enc xs).length ≤ 8 * xs.length ∧ xs.length ≤ 30 * (enc xs).length := by
  intro n
  induction n using Nat.strongRecOn with
  | _ n ih =>
    intro xs hn hu
    by_cases h : xs = []
    · subst h; simp [enc_nil]
    · obtain ⟨h1, h2, h3⟩ := least_fits h hu
      have h4 := sort_at _ h1
      obtain ⟨a, b, c⟩ := ih (xs.drop (cn (least xs))).length (by rw [List.length_drop]; omega) _ rfl (hu.drop _)
      rw [enc_step h hu, List.length_append, fixL_len]
      rw [List.length_drop] at b c
      omega
theorem enc_range : ∀ (n : Nat) (xs : List Int), xs.length = n → Up 60 xs → ∀ y ∈ enc xs, 0 ≤ y ∧ y ≤ 255 := by
  intro n
  induction n using Nat.strongRecOn with
  | _ n ih =>
    intro xs hn hu y hy
    by_cases h : xs = []
    · subst h; simp [enc_nil] at hy
    · obtain ⟨h1, h2, h3⟩ := least_fits h hu
      have h4 := sort_at _ h1
      rw [enc_step h hu, List.mem_append] at hy
      rcases hy with hy | hy
      · exact fixL_range _ _ y hy
      · exact ih (xs.drop (cn (least xs))).length (by rw [List.length_drop]; omega) _ rfl (hu.drop _) y hy

/-- words are read as long as fewer than n numbers are had: the numbers, what is left, the error -/
def rdF : Nat → Nat → List Int → List Int → List Int × List Int × Int
  | 0, _, acc, ys => (acc, ys, 0)
  | f + 1, n, acc, ys => if acc.length < n then (if ys.length < 8 then ([], ys, 2) else rdF f n (acc ++ nms (num (ys.take 8))) (ys.drop 8)) else (acc, ys, 0)
def rdA (n : Nat) (ys : List Int) : List Int × List Int × Int := rdF (ys.length + 1) n [] ys
theorem rdF_done {n : Nat} {acc ys : List Int} (h : n ≤ acc.length) (f : Nat) : rdF f n acc ys = (acc, ys, 0) := by
  cases f with
  | zero => rfl
  | succ f => simp only [rdF]; rw [if_neg (by omega)]
theorem rdF_short {n f : Nat} {acc ys : List Int} (h : acc.length < n) (hy : ys.length < 8) (hf : 0 < f) : rdF f n acc ys = ([], ys, 2) := by
  obtain ⟨g, rfl⟩ : ∃ g, f = g + 1 := ⟨f - 1, by omega⟩
  simp only [rdF]
  rw [if_pos h, if_pos hy]
theorem rdF_step {n f : Nat} {acc ys : List Int} (h : acc.length < n) (hy : 8 ≤ ys.length) (hf : ys.length < f) : rdF f n acc ys = rdF (f - 1) n (acc ++ nms (num (ys.take 8))) (ys.drop 8) ∧ (ys.drop 8).length < f - 1 := by
  obtain ⟨g, rfl⟩ : ∃ g, f = g + 1 := ⟨f - 1, by omega⟩
  simp only [rdF]
  rw [if_pos h, if_neg (by omega)]
  exact ⟨rfl, by rw [List.length_drop]; omega⟩
theorem num8_lt {ys : List Int} (hr : ∀ y ∈ ys, 0 ≤ y ∧ y ≤ 255) : num (ys.take 8) < 18446744073709551616 := by
  have h := num_lt (ys.take 8) (fun y hy => hr y (List.mem_of_mem_take hy))
  have h2 : 256 ^ (ys.take 8).length ≤ 256 ^ 8 := Nat.pow_le_pow_right (by omega) (by rw [List.length_take]; omega)
  have e : (256 : Nat) ^ 8 = 18446744073709551616 := by decide
  omega
theorem sort_lt {v : Nat} (h : v < 18446744073709551616) : v / 2 ^ 60 < 16 := by
  have e60 : (2 : Nat) ^ 60 = 1152921504606846976 := by decide
  rw [e60]; omega
/-- what is read: small numbers, n and at most 239 more; or too short -/
theorem rdF_facts : ∀ (f n : Nat) (acc ys : List Int), ys.length < f → (∀ y ∈ ys, 0 ≤ y ∧ y ≤ 255) → Up 60 acc → acc.length < n + 240 →
    (rdF f n acc ys).2.2 = 2 ∧ (rdF f n acc ys).1 = [] ∨ (rdF f n acc ys).2.2 = 0 ∧ Up 60 (rdF f n acc ys).1 ∧ n ≤ (rdF f n acc ys).1.length ∧ (rdF f n acc ys).1.length < n + 240
  | 0, n, acc, ys, h, _, _, _ => by omega
  | f + 1, n, acc, ys, h, hr, hu, hl => by
    by_cases ha : acc.length < n
    · by_cases hy : ys.length < 8
      · rw [rdF_short ha hy (by omega)]
        exact .inl ⟨rfl, rfl⟩
      · rw [(rdF_step ha (by omega) h).1]
        have hv := num8_lt hr
        have h4 := sort_at _ (sort_lt hv)
        exact rdF_facts f n _ _ (by rw [List.length_drop]; omega) (fun y hy => hr y (List.mem_of_mem_drop hy)) (hu.append (nms_up _ hv)) (by rw [List.length_append, nms_length]; omega)
    · rw [rdF_done (by omega)]
      exact .inr ⟨rfl, hu, by simpa using ha, hl⟩
/-- what is written is read -/
theorem rdF_enc : ∀ (n : Nat) (xs acc r : List Int) (f : Nat), xs.length = n → Up 60 xs → (enc xs ++ r).length < f → rdF f (acc.length + xs.length) acc (enc xs ++ r) = (acc ++ xs, r, 0) := by
  intro n
  induction n using Nat.strongRecOn with
  | _ n ih =>
    intro xs acc r f hn hu hf
    by_cases h : xs = []
    · subst h
      simp only [enc_nil, List.nil_append, List.append_nil]
      rw [rdF_done (by simp)]
    · obtain ⟨h1, h2, h3⟩ := least_fits h hu
      have h4 := sort_at _ h1
      obtain ⟨w1, w2⟩ := wd0_facts h hu
      have hx : 0 < xs.length := List.length_pos_iff.2 h
      have e : enc xs ++ r = fixL (wd0 xs) 8 ++ (enc (xs.drop (cn (least xs))) ++ r) := by rw [enc_step h hu, List.append_assoc]
      have l8 := fixL_len (wd0 xs) 8
      rw [e] at hf ⊢
      have s := rdF_step (f := f) (n := acc.length + xs.length) (acc := acc) (ys := fixL (wd0 xs) 8 ++ (enc (xs.drop (cn (least xs))) ++ r)) (by omega) (by rw [List.length_append]; omega) hf
      rw [List.take_left' l8, List.drop_left' l8, num_fix8 _ w1, w2] at s
      rw [s.1]
      have hl : (acc ++ xs.take (cn (least xs))).length + (xs.drop (cn (least xs))).length = acc.length + xs.length := by
        rw [List.length_append, List.length_take, List.length_drop]; omega
      rw [← hl, ih (xs.drop (cn (least xs))).length (by rw [List.length_drop]; omega) _ (acc ++ xs.take (cn (least xs))) r (f - 1) rfl (hu.drop _) s.2, List.append_assoc, List.take_append_drop]
/-- cut off it is too short -/
theorem rdF_cut : ∀ (n : Nat) (xs acc : List Int) (f k : Nat), xs.length = n → Up 60 xs → k < (enc xs).length → ((enc xs).take k).length < f → (rdF f (acc.length + xs.length) acc ((enc xs).take k)).2.2 = 2 := by
  intro n
  induction n using Nat.strongRecOn with
  | _ n ih =>
    intro xs acc f k hn hu hk hf
    by_cases h : xs = []
    · subst h; simp [enc_nil] at hk
    · obtain ⟨h1, h2, h3⟩ := least_fits h hu
      have h4 := sort_at _ h1
      obtain ⟨w1, w2⟩ := wd0_facts h hu
      have hx : 0 < xs.length := List.length_pos_iff.2 h
      have l8 := fixL_len (wd0 xs) 8
      by_cases h8 : k < 8
      · rw [rdF_short (by omega) (by rw [List.length_take]; omega) (by omega)]
      · have e : (enc xs).take k = fixL (wd0 xs) 8 ++ (enc (xs.drop (cn (least xs)))).take (k - 8) := by
          rw [enc_step h hu, List.take_append, List.take_of_length_le (by omega), l8]
        have el : (enc xs).length = 8 + (enc (xs.drop (cn (least xs)))).length := by rw [enc_step h hu, List.length_append, l8]
        rw [e] at hf ⊢
        have s := rdF_step (f := f) (n := acc.length + xs.length) (acc := acc) (ys := fixL (wd0 xs) 8 ++ (enc (xs.drop (cn (least xs)))).take (k - 8)) (by omega) (by rw [List.length_append]; omega) hf
        rw [List.take_left' l8, List.drop_left' l8, num_fix8 _ w1, w2] at s
        rw [s.1]
        have hl : (acc ++ xs.take (cn (least xs))).length + (xs.drop (cn (least xs))).length = acc.length + xs.length := by
          rw [List.length_append, List.length_take, List.length_drop]; omega
        rw [← hl]
        exact ih (xs.drop (cn (least xs))).length (by rw [List.length_drop]; omega) _ (acc ++ xs.take (cn (least xs))) (f - 1) (k - 8) rfl (hu.drop _) (by omega) s.2

/-- what bytes are decoded to -/
def dec (ys : List Int) (n : Nat) : List Int × Int :=
  if (rdA n ys).2.2 ≠ 0 then ([], 2) else if n < (rdA n ys).1.length then ([], 3) else if enc (rdA n ys).1 = ys then ((rdA n ys).1, 0) else ([], 3)
theorem rdA_facts {n : Nat} {ys : List Int} (hr : ∀ y ∈ ys, 0 ≤ y ∧ y ≤ 255) :
    (rdA n ys).2.2 = 2 ∧ (rdA n ys).1 = [] ∨ (rdA n ys).2.2 = 0 ∧ Up 60 (rdA n ys).1 ∧ n ≤ (rdA n ys).1.length ∧ (rdA n ys).1.length < n + 240 :=
  rdF_facts _ n [] ys (by omega) hr (Up.nil _) (by simp)
theorem rdA_enc {xs : List Int} (hu : Up 60 xs) (r : List Int) : rdA xs.length (enc xs ++ r) = (xs, r, 0) := by
  have := rdF_enc xs.length xs [] r ((enc xs ++ r).length + 1) rfl hu (by omega)
  simpa [rdA] using this
theorem dec_enc {xs : List Int} (hu : Up 60 xs) : dec (enc xs) xs.length = (xs, 0) := by
  have := rdA_enc hu []
  rw [List.append_nil] at this
  simp [dec, this]
theorem dec_more {xs r : List Int} (hu : Up 60 xs) (h : r ≠ []) : dec (enc xs ++ r) xs.length = ([], 3) := by
  have := rdA_enc hu r
  simp [dec, this, h]
theorem dec_cut {xs : List Int} (hu : Up 60 xs) {k : Nat} (hk : k < (enc xs).length) : dec ((enc xs).take k) xs.length = ([], 2) := by
  have := rdF_cut xs.length xs [] (((enc xs).take k).length + 1) k rfl hu hk (by omega)
  simp only [List.length_nil, Nat.zero_add] at this
  unfold dec rdA
  rw [if_pos (by rw [this]; decide)]
/-- where all are read and written so, nothing is left -/
theorem rdA_rest {n : Nat} {ys : List Int} (hr : ∀ y ∈ ys, 0 ≤ y ∧ y ≤ 255) (h0 : (rdA n ys).2.2 = 0) (hn : (rdA n ys).1.length = n) (he : enc (rdA n ys).1 = ys) : (rdA n ys).2.1 = [] := by
  rcases rdA_facts (n := n) hr with ⟨h, _⟩ | ⟨_, hu, _⟩
  · omega
  · have := rdA_enc hu []
    rw [List.append_nil, hn, he] at this
    rw [this]
/-- what is decoded is written so -/
theorem dec_only {n : Nat} {ys : List Int} (hr : ∀ y ∈ ys, 0 ≤ y ∧ y ≤ 255) :
    (∃ c, dec ys n = ([], c) ∧ (c = 2 ∨ c = 3)) ∨ (∃ l, dec ys n = (l, 0) ∧ Up 60 l ∧ l.length = n ∧ enc l = ys) := by
  unfold dec
  by_cases h0 : (rdA n ys).2.2 = 0
  · rw [if_neg (by simpa using h0)]
    rcases rdA_facts (n := n) hr with ⟨h, _⟩ | ⟨_, hu, h1, _⟩
    · omega
    · by_cases hn : n < (rdA n ys).1.length
      · rw [if_pos hn]; exact .inl ⟨3, rfl, .inr rfl⟩
      · rw [if_neg hn]
        by_cases he : enc (rdA n ys).1 = ys
        · rw [if_pos he]; exact .inr ⟨_, rfl, hu, by omega, he⟩
        · rw [if_neg he]; exact .inl ⟨3, rfl, .inr rfl⟩
  · rw [if_pos h0]; exact .inl ⟨2, rfl, .inl rfl⟩
/-- no word has more than 240 numbers -/
theorem enc_words : ∀ (n : Nat) (xs : List Int), xs.length = n → Up 60 xs → 8 * ((xs.length + 239) / 240) ≤ (enc xs).length := by
  intro n
  induction n using Nat.strongRecOn with
  | _ n ih =>
    intro xs hn hu
    by_cases h : xs = []
    · subst h; simp [enc_nil]
    · obtain ⟨h1, h2, h3⟩ := least_fits h hu
      have h4 := sort_at _ h1
      have a := ih (xs.drop (cn (least xs))).length (by rw [List.length_drop]; omega) _ rfl (hu.drop _)
      rw [enc_step h hu, List.length_append, fixL_len]
      rw [List.length_drop] at a
      omega
/-- a great number ahead takes a word of its own -/
theorem enc_great {x : Int} {t : List Int} (hu : Up 60 (x :: t)) (h : 2 ^ 30 ≤ x) : enc (x :: t) = fixL ((15 * 2 ^ 60 + x.toNat : Nat) : Int) 8 ++ enc t := by
  have e := least_great (t := t) h
  have e1 : cn 15 = 1 := rfl
  have e2 : wi 15 = 60 := rfl
  have ew : wd0 (x :: t) = 15 * 2 ^ 60 + x.toNat := by
    unfold wd0
    rw [e, e1, e2]
    simp [wordN, wacc]
  rw [enc_step (by simp) hu, e, e1, ew]
  rfl
theorem enc_greats : ∀ (t : List Int), Up 60 t → (∀ x ∈ t, 2 ^ 30 ≤ x) → (enc t).length = 8 * t.length
  | [], _, _ => by simp [enc_nil]
  | x :: t, hu, h => by
    rw [enc_great hu (h x List.mem_cons_self), List.length_append, fixL_len, enc_greats t (fun y hy => hu y (List.mem_cons_of_mem _ hy)) (fun y hy => h y (List.mem_cons_of_mem _ hy)), List.length_cons]
    omega
end Go.Proofs.Ytgnaeajfajineaa

/- Numbers in groups of seven bits, and what is read of bytes: plain facts, no program is named here. -/
import Derived.Test.YtfoghkjlpdjmiaaMath
namespace Go.Proofs.Ytfoghkjlpdjmiaa

/-- v in groups of seven bits, the lowest first, at most f + 1 of them -/
def gsF : Nat → Nat → List Int
  | 0, v => [(v : Int)]
  | f + 1, v => if v < 128 then [(v : Int)] else ((v % 128 + 128 : Nat) : Int) :: gsF f (v / 128)
/-- v in groups of seven bits, the lowest first -/
def gs (v : Nat) : List Int := gsF v v
theorem gsF_more (f : Nat) : ∀ (g v : Nat), v ≤ f → v ≤ g → gsF f v = gsF g v := by
  induction f with
  | zero =>
    intro g v h _
    obtain rfl : v = 0 := by omega
    cases g with
    | zero => rfl
    | succ g => simp [gsF]
  | succ f ih =>
    intro g v h h2
    cases g with
    | zero =>
      obtain rfl : v = 0 := by omega
      simp [gsF]
    | succ g =>
      simp only [gsF]
      by_cases hv : v < 128
      · rw [if_pos hv, if_pos hv]
      · rw [if_neg hv, if_neg hv, ih g (v / 128) (by omega) (by omega)]
theorem gs_small {v : Nat} (h : v < 128) : gs v = [(v : Int)] := by
  unfold gs
  cases v with
  | zero => rfl
  | succ v => rw [gsF, if_pos h]
theorem gs_big {v : Nat} (h : 128 ≤ v) : gs v = ((v % 128 + 128 : Nat) : Int) :: gs (v / 128) := by
  unfold gs
  obtain ⟨u, rfl⟩ : ∃ u, v = u + 1 := ⟨v - 1, by omega⟩
  rw [gsF, if_neg (by omega), gsF_more u ((u + 1) / 128) ((u + 1) / 128) (by omega) (Nat.le_refl _)]
theorem gs_pos (v : Nat) : 0 < (gs v).length := by
  rcases Nat.lt_or_ge v 128 with h | h
  · rw [gs_small h]; simp
  · rw [gs_big h]; simp
theorem gs_ne (v : Nat) : gs v ≠ [] := by
  intro h
  have := gs_pos v
  rw [h] at this
  simp at this
theorem gs_len (v : Nat) : (gs v).length = (max (wid v) 1 + 6) / 7 := by
  induction v using Nat.strongRecOn with
  | _ v ih =>
    rcases Nat.lt_or_ge v 128 with h | h
    · rw [gs_small h]
      have : wid v ≤ 7 := (wid_le_iff v 7).2 (by simpa using h)
      simp
      omega
    · rw [gs_big h, List.length_cons, ih (v / 128) (by omega)]
      have h1 := wid_div v 7 (by simpa using h)
      rw [show (2 : Nat) ^ 7 = 128 from rfl] at h1
      have h2 : 0 < wid (v / 128) := by
        rcases Nat.eq_zero_or_pos (wid (v / 128)) with h0 | h0
        · have := (wid_le_iff (v / 128) 0).1 (by omega)
          simp at this
          omega
        · exact h0
      omega
theorem wid_mono {a b : Nat} (h : a ≤ b) : wid a ≤ wid b := (wid_le_iff a (wid b)).2 (Nat.lt_of_le_of_lt h ((wid_le_iff b (wid b)).1 (Nat.le_refl _)))
theorem gs_mono {a b : Nat} (h : a ≤ b) : (gs a).length ≤ (gs b).length := by
  have := wid_mono h
  rw [gs_len, gs_len]
  omega
theorem gs_le10 {v : Nat} (h : v < 18446744073709551616) : (gs v).length ≤ 10 := by
  have := wid_le64 v h
  rw [gs_len]
  omega
theorem gs_range (v : Nat) : ∀ x ∈ gs v, 0 ≤ x ∧ x ≤ 255 := by
  induction v using Nat.strongRecOn with
  | _ v ih =>
    rcases Nat.lt_or_ge v 128 with h | h
    · rw [gs_small h]
      intro x hx
      simp at hx
      omega
    · rw [gs_big h]
      intro x hx
      rcases List.mem_cons.1 hx with hx | hx
      · omega
      · exact ih (v / 128) (by omega) x hx

/-- what is read: the number, how many bytes, and the error -/
def rd (i : Nat) (acc : Int) : List Int → Int × Int × Int
  | [] => (0, 0, 2)
  | c :: t => if i = 9 ∧ 1 < c then (0, 0, 3) else if 128 ≤ c then rd (i + 1) (acc + c % 128 * 128 ^ i) t else if c = 0 ∧ 0 < i then (0, 0, 3) else (acc + c * 128 ^ i, (i : Int) + 1, 0)

theorem rd_nil (i : Nat) (acc : Int) : rd i acc [] = (0, 0, 2) := rfl
theorem rd_cons (i : Nat) (acc c : Int) (t : List Int) : rd i acc (c :: t) = if i = 9 ∧ 1 < c then (0, 0, 3) else if 128 ≤ c then rd (i + 1) (acc + c % 128 * 128 ^ i) t else if c = 0 ∧ 0 < i then (0, 0, 3) else (acc + c * 128 ^ i, (i : Int) + 1, 0) := rfl

theorem rd_take (xs : List Int) : ∀ (i n : Nat) (acc : Int), i ≤ 9 → 10 ≤ i + n → rd i acc (xs.take n) = rd i acc xs := by
  induction xs with
  | nil => intro i n acc _ _; simp
  | cons c t ih =>
    intro i n acc hi hn
    obtain ⟨m, rfl⟩ : ∃ m, n = m + 1 := ⟨n - 1, by omega⟩
    rw [List.take_succ_cons, rd_cons, rd_cons]
    by_cases h1 : i = 9 ∧ 1 < c
    · rw [if_pos h1, if_pos h1]
    · rw [if_neg h1, if_neg h1]
      by_cases h2 : 128 ≤ c
      · rw [if_pos h2, if_pos h2, ih (i + 1) m _ (by omega) (by omega)]
      · rw [if_neg h2, if_neg h2]

theorem pow_lt_of {i v : Nat} (hi : i ≤ 9) (hv : v < 2 ^ (64 - 7 * i)) (h : 128 ≤ v) : i ≤ 8 ∧ v / 128 < 2 ^ (64 - 7 * (i + 1)) := by
  have hi8 : i ≤ 8 := by
    rcases Nat.lt_or_ge i 9 with h9 | h9
    · omega
    · have : i = 9 := by omega
      subst this
      simp at hv
      omega
  refine ⟨hi8, ?_⟩
  have e : 2 ^ (64 - 7 * i) = 2 ^ (64 - 7 * (i + 1)) * 128 := by
    rw [show 64 - 7 * i = 64 - 7 * (i + 1) + 7 by omega, Nat.pow_add]
  omega

/-- READ OF WHAT WAS WRITTEN, whatever stands behind. -/
theorem rd_gs (t : List Int) (v : Nat) : ∀ (i : Nat) (acc : Int), i ≤ 9 → v < 2 ^ (64 - 7 * i) → (0 < i → 0 < v) → rd i acc (gs v ++ t) = (acc + v * 128 ^ i, (i : Int) + (gs v).length, 0) := by
  induction v using Nat.strongRecOn with
  | _ v ih =>
    intro i acc hi hv h0
    rcases Nat.lt_or_ge v 128 with h | h
    · rw [gs_small h, List.singleton_append, rd_cons, if_neg, if_neg (by omega), if_neg]
      · rfl
      · intro hc; have := h0 hc.2; omega
      · rintro ⟨rfl, hc⟩
        simp at hv
        omega
    · obtain ⟨hi8, hlt⟩ := pow_lt_of hi hv h
      rw [gs_big h, List.cons_append, rd_cons, if_neg (by omega), if_pos (by omega), ih (v / 128) (by omega) (i + 1) _ (by omega) hlt (by omega)]
      refine Prod.ext ?_ (Prod.ext ?_ rfl)
      · simp only
        rw [Int.pow_succ]
        have e : (((v % 128 + 128 : Nat) : Int)) % 128 = ((v % 128 : Nat) : Int) := by omega
        have e2 : (v : Int) = ((v % 128 : Nat) : Int) + 128 * ((v / 128 : Nat) : Int) := by omega
        rw [e]
        generalize (128 : Int) ^ i = p
        generalize ((v % 128 : Nat) : Int) = a at e2 ⊢
        generalize ((v / 128 : Nat) : Int) = b at e2 ⊢
        rw [e2, Int.add_mul, Int.mul_comm p 128, ← Int.mul_assoc, Int.mul_comm b 128, Int.add_assoc]
      · simp only [List.length_cons]
        omega

theorem rd_short (v : Nat) : ∀ (i k : Nat) (acc : Int), i ≤ 9 → v < 2 ^ (64 - 7 * i) → k < (gs v).length → rd i acc ((gs v).take k) = (0, 0, 2) := by
  induction v using Nat.strongRecOn with
  | _ v ih =>
    intro i k acc hi hv hk
    rcases Nat.lt_or_ge v 128 with h | h
    · rw [gs_small h] at hk ⊢
      simp at hk
      subst hk
      rfl
    · obtain ⟨hi8, hlt⟩ := pow_lt_of hi hv h
      rw [gs_big h] at hk ⊢
      cases k with
      | zero => rfl
      | succ k =>
        rw [List.take_succ_cons, rd_cons, if_neg (by omega), if_pos (by omega), ih (v / 128) (by omega) (i + 1) k _ (by omega) hlt (by simpa using hk)]

/-- WHAT IS READ WAS WRITTEN. -/
theorem rd_ok (xs : List Int) : ∀ (i : Nat) (acc r n : Int), i ≤ 9 → (∀ x ∈ xs, 0 ≤ x ∧ x ≤ 255) → rd i acc xs = (r, n, 0) →
    ∃ v k : Nat, r = acc + v * 128 ^ i ∧ n = (i : Int) + k ∧ 1 ≤ k ∧ k ≤ xs.length ∧ gs v = xs.take k ∧ (0 < i → 0 < v) ∧ v < 2 ^ (64 - 7 * i) := by
  induction xs with
  | nil => intro i acc r n _ _ h; simp [rd_nil] at h
  | cons c t ih =>
    intro i acc r n hi hx h
    have hc := hx c (by simp)
    rw [rd_cons] at h
    by_cases h1 : i = 9 ∧ 1 < c
    · rw [if_pos h1] at h; simp at h
    · rw [if_neg h1] at h
      by_cases h2 : 128 ≤ c
      · rw [if_pos h2] at h
        have hi8 : i + 1 ≤ 9 := by omega
        obtain ⟨v, k, hr, hn, hk1, hk2, hg, hv0, hv⟩ := ih (i + 1) _ r n hi8 (fun x hx' => hx x (by simp [hx'])) h
        have hvp := hv0 (by omega)
        refine ⟨c.toNat % 128 + 128 * v, k + 1, ?_, by omega, by omega, by simp; omega, ?_, fun _ => by omega, ?_⟩
        · rw [hr, Int.pow_succ]
          have e : ((c.toNat % 128 + 128 * v : Nat) : Int) = c % 128 + 128 * (v : Int) := by omega
          rw [e]
          generalize (128 : Int) ^ i = p
          rw [Int.add_mul, Int.mul_comm p 128, ← Int.mul_assoc, Int.mul_comm (v : Int) 128, Int.add_assoc]
        · rw [gs_big (by omega), List.take_succ_cons, ← hg]
          congr 1
          · omega
          · congr 1; omega
        · have e : 2 ^ (64 - 7 * i) = 2 ^ (64 - 7 * (i + 1)) * 128 := by
            rw [show 64 - 7 * i = 64 - 7 * (i + 1) + 7 by omega, Nat.pow_add]
          omega
      · rw [if_neg h2] at h
        by_cases h3 : c = 0 ∧ 0 < i
        · rw [if_pos h3] at h; simp at h
        · rw [if_neg h3] at h
          simp only [Prod.mk.injEq] at h
          refine ⟨c.toNat, 1, ?_, by omega, by omega, by simp, ?_, fun _ => by omega, ?_⟩
          · rw [← h.1, Int.toNat_of_nonneg hc.1]
          · rw [gs_small (by omega)]
            simp [Int.toNat_of_nonneg hc.1]
          · by_cases h9 : i = 9
            · subst h9; simp; omega
            · have : 2 ^ 7 ≤ 2 ^ (64 - 7 * i) := Nat.pow_le_pow_right (by omega) (by omega)
              have : (2 : Nat) ^ 7 = 128 := rfl
              omega

theorem rd_err (xs : List Int) : ∀ (i : Nat) (acc : Int), (rd i acc xs).2.2 = 0 ∨ ((rd i acc xs).1 = 0 ∧ (rd i acc xs).2.1 = 0 ∧ ((rd i acc xs).2.2 = 2 ∨ (rd i acc xs).2.2 = 3)) := by
  induction xs with
  | nil => intro i acc; right; simp [rd_nil]
  | cons c t ih =>
    intro i acc
    rw [rd_cons]
    by_cases h1 : i = 9 ∧ 1 < c
    · rw [if_pos h1]; right; simp
    · rw [if_neg h1]
      by_cases h2 : 128 ≤ c
      · rw [if_pos h2]; exact ih _ _
      · rw [if_neg h2]
        by_cases h3 : c = 0 ∧ 0 < i
        · rw [if_pos h3]; right; simp
        · rw [if_neg h3]; left; rfl

/-- how the numbers stand one behind the other -/
def allG (l : List Int) : List Int := l.flatMap fun x => gs x.toNat
theorem allG_take (l : List Int) (k : Nat) (h : k < l.length) : allG (l.take (k + 1)) = allG (l.take k) ++ gs (l.getD k 0).toNat := by
  rw [List.take_succ_eq_append_getElem h, List.getD_eq_getElem?_getD, List.getElem?_eq_getElem h]
  unfold allG
  rw [List.flatMap_append, List.flatMap_singleton]; rfl
theorem allG_drop (l : List Int) (k : Nat) (h : k < l.length) : allG (l.drop k) = gs (l.getD k 0).toNat ++ allG (l.drop (k + 1)) := by
  rw [List.drop_eq_getElem_cons h, List.getD_eq_getElem?_getD, List.getElem?_eq_getElem h]
  rfl
theorem allG_len (l : List Int) (h : ∀ x ∈ l, 0 ≤ x ∧ x ≤ 18446744073709551615) : (allG l).length ≤ 10 * l.length := by
  induction l with
  | nil => simp [allG]
  | cons a t ih =>
    have ha := h a (by simp)
    have h1 := gs_le10 (v := a.toNat) (by omega)
    have h2 := ih (fun x hx => h x (by simp [hx]))
    simp only [allG, List.flatMap_cons, List.length_append, List.length_cons] at h2 ⊢
    omega

/-! signs -/
def zig (n : Int) : Int := if 0 ≤ n then 2 * n else -2 * n - 1
def zag (v : Int) : Int := if v % 2 = 0 then v / 2 else -(v / 2) - 1
theorem zag_zig (n : Int) : zag (zig n) = n := by
  unfold zag zig
  split <;> split <;> omega
theorem zig_zag (v : Int) (h : 0 ≤ v) : zig (zag v) = v := by
  unfold zag zig
  split <;> split <;> omega
theorem zig_bounds (n : Int) (h0 : -9223372036854775808 ≤ n) (h1 : n ≤ 9223372036854775807) : 0 ≤ zig n ∧ zig n ≤ 18446744073709551615 := by
  unfold zig; split <;> omega
theorem zag_bounds (v : Int) (h0 : 0 ≤ v) (h1 : v ≤ 18446744073709551615) : -9223372036854775808 ≤ zag v ∧ zag v ≤ 9223372036854775807 := by
  unfold zag; split <;> omega

theorem allG_range (l : List Int) : ∀ x ∈ allG l, 0 ≤ x ∧ x ≤ 255 := by
  intro x hx
  simp only [allG, List.mem_flatMap] at hx
  obtain ⟨y, _, hy⟩ := hx
  exact gs_range _ x hy
theorem allG_le (l : List Int) (k : Nat) (h : ∀ x ∈ l, 0 ≤ x ∧ x ≤ 18446744073709551615) : (allG (l.take k)).length ≤ 10 * l.length := by
  have h1 := allG_len (l.take k) (fun x hx => h x (List.mem_of_mem_take hx))
  have h2 : (l.take k).length ≤ l.length := by rw [List.length_take]; omega
  omega

end Go.Proofs.Ytfoghkjlpdjmiaa

/- Limbs of 26 bits: plain facts. -/
import Derived.Test.YtjiippbjflpkkaaPm
namespace Go.Proofs.Ytjiippbjflpkkaa

/-- limbs as a number -/
def LV : List Nat → Nat
  | [] => 0
  | x :: l => x + 67108864 * LV l
theorem LV_app (a b : List Nat) : LV (a ++ b) = LV a + 67108864 ^ a.length * LV b := by
  induction a with
  | nil => simp [LV]
  | cons d a ih =>
    simp only [List.cons_append, LV, ih, List.length_cons, Nat.pow_succ]
    rw [Nat.mul_add, ← Nat.mul_assoc, Nat.mul_comm 67108864 (67108864 ^ a.length)]
    omega
theorem LV_one (d : Nat) : LV [d] = d := by simp [LV]
theorem LV_zeros (n : Nat) : LV (List.replicate n 0) = 0 := by
  induction n with
  | zero => rfl
  | succ n ih => simp [List.replicate_succ, LV, ih]
theorem LV_next (s : List Nat) (i : Nat) (h : i < s.length) : LV (s.take (i + 1)) = LV (s.take i) + 67108864 ^ i * s.getD i 0 := by
  rw [List.take_add_one, List.getElem?_eq_getElem h, List.getD_eq_getElem?_getD, List.getElem?_eq_getElem h, LV_app, List.length_take, Nat.min_eq_left (Nat.le_of_lt h)]
  simp [LV]
theorem LV_more (s : List Nat) (i d : Nat) (h : i < s.length) : LV (s.set i (s.getD i 0 + d)) = LV s + 67108864 ^ i * d := by
  induction s generalizing i with
  | nil => simp at h
  | cons x s ih =>
    cases i with
    | zero => simp [LV]; omega
    | succ i =>
      have := ih i (by simpa using h)
      simp only [List.set_cons_succ, LV, List.getD_cons_succ, this, Nat.mul_add, Nat.pow_succ]
      rw [← Nat.mul_assoc, Nat.mul_comm 67108864 (67108864 ^ i)]
      omega
/-- limbs below B -/
def LB (B : Nat) (s : List Nat) : Prop := ∀ j, s.getD j 0 < B
theorem LB.mono {A B : Nat} {s : List Nat} (h : LB A s) (hb : A ≤ B) : LB B s := fun j => Nat.lt_of_lt_of_le (h j) hb
theorem LB.tail {B x : Nat} {s : List Nat} (h : LB B (x :: s)) : LB B s := fun j => by
  have := h (j + 1)
  rwa [List.getD_cons_succ] at this
theorem LB.head {B x : Nat} {s : List Nat} (h : LB B (x :: s)) : x < B := h 0
theorem LB.cons {B x : Nat} {s : List Nat} (h : x < B) (k : LB B s) : LB B (x :: s) := fun j => by
  cases j with
  | zero => exact h
  | succ j => rw [List.getD_cons_succ]; exact k j
theorem LB.nil {B : Nat} (h : 0 < B) : LB B [] := fun j => by simpa using h
theorem getD_set (s : List Nat) (i j x : Nat) : (s.set i x).getD j 0 = if i = j ∧ i < s.length then x else s.getD j 0 := by
  simp only [List.getD_eq_getElem?_getD, List.getElem?_set]
  by_cases h : i = j
  · subst h
    by_cases h2 : i < s.length
    · simp [h2]
    · simp [h2]
  · simp [h]
theorem LB.set {B : Nat} {s : List Nat} (h : LB B s) (i x : Nat) (hx : x < B) : LB B (s.set i x) := fun j => by
  rw [getD_set]
  split
  · exact hx
  · exact h j
theorem LV_lt (s : List Nat) (h : LB 67108864 s) : LV s < 67108864 ^ s.length := by
  induction s with
  | nil => simp [LV]
  | cons x s ih =>
    have h1 := h.head
    have h2 := ih h.tail
    simp only [LV, List.length_cons, Nat.pow_succ]
    omega
/-- what is left in the limbs, and what goes beyond -/
def sdg : List Nat → Nat → List Nat
  | [], _ => []
  | x :: l, c => (x + c) % 67108864 :: sdg l ((x + c) / 67108864)
def scy : List Nat → Nat → Nat
  | [], c => c
  | x :: l, c => scy l ((x + c) / 67108864)
theorem sdg_len (l : List Nat) (c : Nat) : (sdg l c).length = l.length := by
  induction l generalizing c with
  | nil => rfl
  | cons x l ih => simp [sdg, ih]
theorem sdg_lb (l : List Nat) (c : Nat) : LB 67108864 (sdg l c) := by
  induction l generalizing c with
  | nil => exact LB.nil (by decide)
  | cons x l ih => exact LB.cons (Nat.mod_lt _ (by decide)) (ih _)
theorem sdg_LV (l : List Nat) (c : Nat) : LV (sdg l c) + 67108864 ^ l.length * scy l c = LV l + c := by
  induction l generalizing c with
  | nil => simp [LV, sdg, scy]
  | cons x l ih =>
    have h := ih ((x + c) / 67108864)
    simp only [LV, sdg, scy, List.length_cons, Nat.pow_succ]
    rw [Nat.mul_comm (67108864 ^ l.length) 67108864, Nat.mul_assoc]
    omega
theorem sdg_snoc (l : List Nat) (x c : Nat) : sdg (l ++ [x]) c = sdg l c ++ [(x + scy l c) % 67108864] := by
  induction l generalizing c with
  | nil => rfl
  | cons y l ih => simp [sdg, scy, ih]
theorem scy_snoc (l : List Nat) (x c : Nat) : scy (l ++ [x]) c = (x + scy l c) / 67108864 := by
  induction l generalizing c with
  | nil => rfl
  | cons y l ih => simp [scy, ih]
theorem scy_lt (l : List Nat) (c : Nat) (h : LB 9223372036854775808 l) (hc : c < 274877906944) : scy l c < 274877906944 := by
  induction l generalizing c with
  | nil => exact hc
  | cons x l ih =>
    have := h.head
    exact ih _ h.tail (by omega)
theorem LB.take {B : Nat} {s : List Nat} (h : LB B s) (hB : 0 < B) (n : Nat) : LB B (s.take n) := fun j => by
  simp only [List.getD_eq_getElem?_getD, List.getElem?_take]
  split
  · have := h j
    rwa [List.getD_eq_getElem?_getD] at this
  · simpa using hB
theorem five_pow : (67108864 : Nat) ^ 5 = 2 ^ 130 := by decide +kernel
/-- what settles five limbs -/
theorem settle5 (s : List Nat) (hs : s.length = 5) : LV (sdg s 0) + 2 ^ 130 * scy s 0 = LV s ∧ LV (sdg s 0) < 2 ^ 130 := by
  have h1 := sdg_LV s 0
  have h2 := LV_lt _ (sdg_lb s 0)
  rw [sdg_len, hs, five_pow] at h2
  rw [hs, five_pow] at h1
  exact ⟨h1, h2⟩
theorem scy_zero (s : List Nat) (hs : s.length = 5) (h : LV s < 2 ^ 130) : scy s 0 = 0 := by
  have h1 := (settle5 s hs).1
  generalize scy s 0 = c at *
  rcases c with _ | c
  · rfl
  · rw [Nat.mul_add] at h1; omega
theorem sdg_small (s : List Nat) (hs : s.length = 5) (h : LV s < 2 ^ 130) : LV (sdg s 0) = LV s := by
  have h1 := (settle5 s hs).1
  rw [scy_zero s hs h] at h1
  omega
/-- a sum -/
def pls (a b : List Nat) : List Nat := (List.range 5).map fun i => a.getD i 0 + b.getD i 0
theorem pls_len (a b : List Nat) : (pls a b).length = 5 := by simp [pls]
theorem pls_at (a b : List Nat) (i : Nat) (h : i < 5) : (pls a b).getD i 0 = a.getD i 0 + b.getD i 0 := by
  simp [pls, List.getD_eq_getElem?_getD, h]
theorem five_form (a : List Nat) (h : a.length = 5) : a = [a.getD 0 0, a.getD 1 0, a.getD 2 0, a.getD 3 0, a.getD 4 0] := by
  rcases a with _ | ⟨a0, _ | ⟨a1, _ | ⟨a2, _ | ⟨a3, _ | ⟨a4, _ | ⟨a5, a⟩⟩⟩⟩⟩⟩ <;> simp at h
  rfl
theorem LV5 (a : List Nat) (h : a.length = 5) : LV a = a.getD 0 0 + 67108864 * (a.getD 1 0 + 67108864 * (a.getD 2 0 + 67108864 * (a.getD 3 0 + 67108864 * a.getD 4 0))) := by
  have e := congrArg LV (five_form a h)
  simp only [LV, Nat.mul_zero, Nat.add_zero] at e
  exact e
theorem pls_LV (a b : List Nat) (ha : a.length = 5) (hb : b.length = 5) : LV (pls a b) = LV a + LV b := by
  rw [LV5 _ (pls_len a b), LV5 a ha, LV5 b hb]
  simp only [pls_at _ _ _ (show 0 < 5 by decide), pls_at _ _ _ (show 1 < 5 by decide), pls_at _ _ _ (show 2 < 5 by decide), pls_at _ _ _ (show 3 < 5 by decide), pls_at _ _ _ (show 4 < 5 by decide)]
  omega
theorem getD_past (s : List Nat) (j : Nat) (h : s.length ≤ j) : s.getD j 0 = 0 := by
  rw [List.getD_eq_getElem?_getD, List.getElem?_eq_none h]; rfl
theorem pls_lb {A B C : Nat} {a b : List Nat} (ha : LB A a) (hb : LB B b) (hc : A + B ≤ C) : LB C (pls a b) := fun j => by
  have h1 := ha j
  have h2 := hb j
  by_cases h : j < 5
  · rw [pls_at _ _ _ h]; omega
  · rw [getD_past _ _ (by rw [pls_len]; omega)]; omega
theorem zeros_lb (n B : Nat) (hB : 0 < B) : LB B (List.replicate n 0) := fun j => by
  rw [List.getD_eq_getElem?_getD, List.getElem?_replicate]
  split <;> simpa using hB
/-- bytes laid into limbs -/
def rawI (b : List Int) : Nat → List Nat
  | 0 => List.replicate 5 0
  | i + 1 => (rawI b i).set (8 * i / 26) ((rawI b i).getD (8 * i / 26) 0 + (b.getD i 0).toNat * 2 ^ (8 * i % 26))
theorem rawI_len (b : List Int) (i : Nat) : (rawI b i).length = 5 := by
  induction i with
  | zero => rfl
  | succ i ih => simp [rawI, ih]
theorem rawI_LV (b : List Int) (i : Nat) (hi : i ≤ 17) (hb : i ≤ b.length) : LV (rawI b i) = nv (b.take i) := by
  induction i with
  | zero => simp [rawI, nv, LV]
  | succ i ih =>
    rw [rawI, LV_more _ _ _ (by rw [rawI_len]; omega), ih (by omega) (by omega)]
    have e : b.take (i + 1) = b.take i ++ [b.getD i 0] := by
      rw [List.take_add_one, List.getElem?_eq_getElem (by omega), List.getD_eq_getElem?_getD, List.getElem?_eq_getElem (by omega)]; rfl
    rw [e, nv_snoc, List.length_take, Nat.min_eq_left (by omega)]
    congr 1
    rw [Nat.mul_comm (b.getD i 0).toNat, ← Nat.mul_assoc]
    congr 1
    rw [show (67108864 : Nat) = 2 ^ 26 from rfl, show (256 : Nat) = 2 ^ 8 from rfl, ← Nat.pow_mul, ← Nat.pow_mul, ← Nat.pow_add]
    congr 1
    omega
theorem rawI_lb (b : List Int) (h8 : U8 b) (i : Nat) : LB (8589934592 * i + 1) (rawI b i) := by
  induction i with
  | zero =>
    exact zeros_lb _ _ (by decide)
  | succ i ih =>
    intro j
    have h1 := h8.at i
    have h2 := ih (8 * i / 26)
    have h3 := ih j
    have h4 : (b.getD i 0).toNat * 2 ^ (8 * i % 26) ≤ 255 * 2 ^ 25 := Nat.mul_le_mul (by omega) (Nat.pow_le_pow_right (by decide) (by omega))
    rw [rawI, getD_set]
    split <;> omega
/-- the number of bytes -/
def nmb (b : List Int) : List Nat := sdg (rawI b b.length) 0
theorem nmb_len (b : List Int) : (nmb b).length = 5 := by rw [nmb, sdg_len, rawI_len]
theorem nmb_lb (b : List Int) : LB 67108864 (nmb b) := sdg_lb _ _
theorem nmb_LV (b : List Int) (hl : b.length ≤ 17) (h : nv b < 2 ^ 130) : LV (nmb b) = nv b := by
  have e := rawI_LV b b.length hl (Nat.le_refl _)
  rw [List.take_length] at e
  rw [nmb, sdg_small _ (rawI_len _ _) (by rw [e]; exact h), e]
/-- a product's limbs, k of them added -/
def wdI (a r : List Nat) : Nat → List Nat
  | 0 => List.replicate 10 0
  | k + 1 => (wdI a r k).set (k / 5 + k % 5) ((wdI a r k).getD (k / 5 + k % 5) 0 + a.getD (k / 5) 0 * r.getD (k % 5) 0)
theorem wdI_len (a r : List Nat) (k : Nat) : (wdI a r k).length = 10 := by
  induction k with
  | zero => rfl
  | succ i ih => simp [wdI, ih]
theorem wdI_le (a r : List Nat) (ha : LB 134217728 a) (hr : LB 67108864 r) (k : Nat) : LB (9007199254740992 * k + 1) (wdI a r k) := by
  induction k with
  | zero =>
    exact zeros_lb _ _ (by decide)
  | succ k ih =>
    intro j
    have h2 := ih (k / 5 + k % 5)
    have h3 := ih j
    have h5 := ha (k / 5)
    have h6 := hr (k % 5)
    have h4 : a.getD (k / 5) 0 * r.getD (k % 5) 0 ≤ 134217728 * 67108864 := Nat.mul_le_mul (by omega) (by omega)
    rw [wdI, getD_set]
    split <;> omega
theorem wdI_LV (a r : List Nat) (ha : a.length = 5) (hr : r.length = 5) (k : Nat) (hk : k ≤ 25) :
    LV (wdI a r k) = LV (a.take (k / 5)) * LV r + 67108864 ^ (k / 5) * a.getD (k / 5) 0 * LV (r.take (k % 5)) := by
  induction k with
  | zero => simp [wdI, LV]
  | succ k ih =>
    have h1 := ih (by omega)
    rw [wdI, LV_more _ _ _ (by rw [wdI_len]; omega), h1]
    have hn := LV_next r (k % 5) (by omega)
    have e : 67108864 ^ (k / 5 + k % 5) * (a.getD (k / 5) 0 * r.getD (k % 5) 0) = 67108864 ^ (k / 5) * a.getD (k / 5) 0 * (67108864 ^ (k % 5) * r.getD (k % 5) 0) := by
      rw [Nat.pow_add]
      generalize 67108864 ^ (k / 5) = A
      generalize 67108864 ^ (k % 5) = B
      generalize a.getD (k / 5) 0 = x
      generalize r.getD (k % 5) 0 = y
      rw [Nat.mul_assoc, Nat.mul_assoc, Nat.mul_left_comm B]
    rw [e, Nat.add_assoc, ← Nat.mul_add, ← hn]
    by_cases h5 : k % 5 = 4
    · have e1 : (k + 1) / 5 = k / 5 + 1 := by omega
      have e2 : (k + 1) % 5 = 0 := by omega
      have e3 : r.take (k % 5 + 1) = r := List.take_of_length_le (by omega)
      have e4 : LV (r.take 0) = 0 := rfl
      rw [e1, e2, e3, e4, LV_next a (k / 5) (by omega), Nat.add_mul, Nat.mul_zero, Nat.add_zero]
    · have e1 : (k + 1) / 5 = k / 5 := by omega
      have e2 : (k + 1) % 5 = k % 5 + 1 := by omega
      rw [e1, e2]
theorem wd_LV (a r : List Nat) (ha : a.length = 5) (hr : r.length = 5) : LV (wdI a r 25) = LV a * LV r := by
  have h := wdI_LV a r ha hr 25 (by decide)
  rw [show 25 / 5 = 5 from rfl, show 25 % 5 = 0 from rfl, List.take_of_length_le (by omega)] at h
  simpa [LV] using h
/-- a product's limbs below 2^130 -/
def otr (W : List Nat) : List Nat := (List.range 5).map fun i => W.getD i 0 + 5 * W.getD (i + 5) 0
theorem otr_len (W : List Nat) : (otr W).length = 5 := by simp [otr]
theorem otr_at (W : List Nat) (i : Nat) (h : i < 5) : (otr W).getD i 0 = W.getD i 0 + 5 * W.getD (i + 5) 0 := by
  simp [otr, List.getD_eq_getElem?_getD, h]
theorem otr_lb {B : Nat} {W : List Nat} (h : LB B W) (hB : 0 < B) : LB (6 * B) (otr W) := fun j => by
  by_cases hj : j < 5
  · have h1 := h j
    have h2 := h (j + 5)
    rw [otr_at _ _ hj]; omega
  · rw [getD_past _ _ (by rw [otr_len]; omega)]; omega
theorem otr_mod (W : List Nat) (hW : W.length = 10) : LV (otr W) % PP = LV W % PP := by
  have h1 : LV W = LV (W.take 5) + 2 ^ 130 * LV (W.drop 5) := by
    have h := LV_app (W.take 5) (W.drop 5)
    rw [List.take_append_drop, List.length_take, hW, show min 5 10 = 5 from rfl, five_pow] at h
    exact h
  have a1 : (W.take 5).length = 5 := by rw [List.length_take, hW]; rfl
  have a2 : (W.drop 5).length = 5 := by rw [List.length_drop, hW]
  have t (i : Nat) (hi : i < 5) : (W.take 5).getD i 0 = W.getD i 0 := by
    simp [List.getD_eq_getElem?_getD, hi]
  have d (i : Nat) : (W.drop 5).getD i 0 = W.getD (i + 5) 0 := by
    simp [List.getD_eq_getElem?_getD, List.getElem?_drop, Nat.add_comm]
  have h2 : LV (otr W) = LV (W.take 5) + 5 * LV (W.drop 5) := by
    rw [LV5 _ (otr_len W), LV5 _ a1, LV5 _ a2]
    simp only [otr_at _ _ (show 0 < 5 by decide), otr_at _ _ (show 1 < 5 by decide), otr_at _ _ (show 2 < 5 by decide), otr_at _ _ (show 3 < 5 by decide), otr_at _ _ (show 4 < 5 by decide),
      t 0 (by decide), t 1 (by decide), t 2 (by decide), t 3 (by decide), t 4 (by decide), d]
    omega
  rw [h1, h2, fold_mod]
/-- settled once, what goes beyond brought in below -/
def crr (s : List Nat) : List Nat := (sdg s 0).set 0 ((sdg s 0).getD 0 0 + 5 * scy s 0)
theorem crr_len (s : List Nat) : (crr s).length = s.length := by rw [crr, List.length_set, sdg_len]
theorem crr_LV (s : List Nat) (hs : s.length = 5) : LV (crr s) = LV (sdg s 0) + 5 * scy s 0 := by
  rw [crr, LV_more _ _ _ (by rw [sdg_len, hs]; decide), Nat.pow_zero, Nat.one_mul]
theorem crr_mod (s : List Nat) (hs : s.length = 5) : LV (crr s) % PP = LV s % PP := by
  rw [crr_LV s hs, fold_mod, (settle5 s hs).1]
theorem crr_lb (s : List Nat) (h : LB 9223372036854775808 s) : LB 4398046511104 (crr s) := by
  have h1 := scy_lt s 0 h (by decide)
  have h2 := sdg_lb s 0 0
  exact ((sdg_lb s 0).mono (by decide)).set _ _ (by omega)
theorem crr_one (s : List Nat) (hs : s.length = 5) (h : LB 9223372036854775808 s) : LV (crr s) < 2 ^ 130 + 2199023255552 := by
  have h1 := scy_lt s 0 h (by decide)
  have h2 := (settle5 s hs).2
  rw [crr_LV s hs]; omega
theorem crr_two (s : List Nat) (hs : s.length = 5) (h : LV s < 2 ^ 130 + 2199023255552) : LV (crr s) < 2 ^ 130 := by
  have h1 := settle5 s hs
  rw [crr_LV s hs]
  have h3 : (2 : Nat) ^ 130 = 1361129467683753853853498429727072845824 := by decide +kernel
  rw [h3] at *
  omega
theorem crr_three (s : List Nat) (hs : s.length = 5) (h : LV s < 2 ^ 130) : crr s = sdg s 0 := by
  rw [crr, scy_zero s hs h, Nat.mul_zero, Nat.add_zero]
  have hl := sdg_len s 0
  rw [hs] at hl
  generalize sdg s 0 = t at *
  rcases t with _ | ⟨x, t⟩
  · rfl
  · rfl
/-- k times -/
def crI : Nat → List Nat → List Nat
  | 0, s => s
  | k + 1, s => crr (crI k s)
theorem crI_len (k : Nat) (s : List Nat) : (crI k s).length = s.length := by
  induction k with
  | zero => rfl
  | succ k ih => rw [crI, crr_len, ih]
theorem crI_lb (k : Nat) (s : List Nat) (h : LB 9223372036854775808 s) : LB 9223372036854775808 (crI k s) := by
  induction k with
  | zero => exact h
  | succ k ih => exact (crr_lb _ ih).mono (by decide)
theorem crI_mod (k : Nat) (s : List Nat) (hs : s.length = 5) : LV (crI k s) % PP = LV s % PP := by
  induction k with
  | zero => rfl
  | succ k ih => rw [crI, crr_mod _ (by rw [crI_len, hs]), ih]
theorem crI_three (s : List Nat) (hs : s.length = 5) (h : LB 9223372036854775808 s) : LB 67108864 (crI 3 s) := by
  have h1 := crr_one s hs h
  have h2 := crr_two (crr s) (by rw [crr_len, hs]) h1
  show LB 67108864 (crr (crr (crr s)))
  rw [crr_three _ (by rw [crr_len, crr_len, hs]) h2]
  exact sdg_lb _ _
/-- a product -/
def ptms (a r : List Nat) : List Nat := crI 3 (otr (wdI a r 25))
theorem tms_len (a r : List Nat) : (ptms a r).length = 5 := by rw [ptms, crI_len, otr_len]
theorem tms_fit (a r : List Nat) (ha : LB 134217728 a) (hr : LB 67108864 r) : LB 9223372036854775808 (otr (wdI a r 25)) := (otr_lb (wdI_le a r ha hr 25) (by decide)).mono (by decide)
theorem tms_lb (a r : List Nat) (ha : LB 134217728 a) (hr : LB 67108864 r) : LB 67108864 (ptms a r) := crI_three _ (otr_len _) (tms_fit a r ha hr)
theorem tms_mod (a r : List Nat) (ha : a.length = 5) (hr : r.length = 5) : LV (ptms a r) % PP = LV a * LV r % PP := by
  rw [ptms, crI_mod _ _ (otr_len _), otr_mod _ (wdI_len _ _ _), wd_LV a r ha hr]
/-- piece k and a byte 1 behind it, seventeen bytes -/
def pby (xs : List Int) (k : Nat) : List Int := ((xs.drop (16 * k)).take 16 ++ [1]) ++ List.replicate (16 - min 16 (xs.length - 16 * k)) 0
theorem pby_len (xs : List Int) (k : Nat) : (pby xs k).length = 17 := by
  simp only [pby, List.length_append, List.length_take, List.length_drop, List.length_replicate, List.length_singleton]; omega
theorem pby_u8 (xs : List Int) (h8 : U8 xs) (k : Nat) : U8 (pby xs k) := by
  refine (((h8.drop _).take _).app (fun y hy => by simp at hy; omega)).app (fun y hy => ?_)
  have := List.eq_of_mem_replicate hy
  omega
theorem pby_nv (xs : List Int) (k : Nat) : nv (pby xs k) = piece xs k := by
  rw [pby, nv_app, nv_zeros, nv_snoc, piece, List.length_take, List.length_drop]
  simp
theorem piece_lt (xs : List Int) (h8 : U8 xs) (k : Nat) : piece xs k < 2 ^ 130 := by
  have h1 := nv_lt _ ((h8.drop (16 * k)).take 16)
  have h2 : 256 ^ ((xs.drop (16 * k)).take 16).length ≤ 256 ^ 16 := Nat.pow_le_pow_right (by decide) (by rw [List.length_take]; omega)
  have h3 : 256 ^ (min 16 (xs.length - 16 * k)) ≤ 256 ^ 16 := Nat.pow_le_pow_right (by decide) (by omega)
  have h4 : (256 : Nat) ^ 16 + 256 ^ 16 < 2 ^ 130 := by decide +kernel
  unfold piece
  omega
/-- what k pieces come to, in limbs -/
def gth (r : List Nat) (xs : List Int) : Nat → List Nat
  | 0 => List.replicate 5 0
  | k + 1 => ptms (pls (gth r xs k) (nmb (pby xs k))) r
theorem gth_len (r : List Nat) (xs : List Int) (k : Nat) : (gth r xs k).length = 5 := by
  cases k with
  | zero => rfl
  | succ k => exact tms_len _ _
theorem gth_lb (r : List Nat) (xs : List Int) (hr : LB 67108864 r) (k : Nat) : LB 67108864 (gth r xs k) := by
  induction k with
  | zero => exact zeros_lb _ _ (by decide)
  | succ k ih => exact tms_lb _ _ (pls_lb ih (nmb_lb _) (by decide)) hr
theorem gth_mod (r : List Nat) (xs : List Int) (hr : r.length = 5) (h8 : U8 xs) (k : Nat) : LV (gth r xs k) % PP = pacc (LV r) xs k := by
  induction k with
  | zero => simp [gth, pacc, LV]
  | succ k ih =>
    rw [gth, tms_mod _ _ (pls_len _ _) hr, pls_LV _ _ (gth_len _ _ _) (nmb_len _), nmb_LV _ (by rw [pby_len]; decide) (by rw [pby_nv]; exact piece_lt xs h8 k), pby_nv, pacc, ← ih, Nat.mul_mod, Nat.mul_mod (LV (gth r xs k) % PP + piece xs k), Nat.mod_add_mod]
/-- a settled number modulo p -/
def lst (a : List Nat) : List Nat := sdg (a.set 0 (a.getD 0 0 + 5 * scy (pls a [5, 0, 0, 0, 0]) 0)) 0
theorem lst_len (a : List Nat) (h : a.length = 5) : (lst a).length = 5 := by rw [lst, sdg_len, List.length_set, h]
theorem lst_lb (a : List Nat) : LB 67108864 (lst a) := sdg_lb _ _
theorem lst_LV (a : List Nat) (ha : a.length = 5) (hb : LB 67108864 a) : LV (lst a) = LV a % PP := by
  have h1 := LV_lt a hb
  rw [ha, five_pow] at h1
  have h2 := settle5 (pls a [5, 0, 0, 0, 0]) (pls_len _ _)
  rw [pls_LV a _ ha rfl, show LV [5, 0, 0, 0, 0] = 5 from rfl] at h2
  have h3 := settle5 (a.set 0 (a.getD 0 0 + 5 * scy (pls a [5, 0, 0, 0, 0]) 0)) (by rw [List.length_set, ha])
  rw [LV_more _ _ _ (by rw [ha]; decide), Nat.pow_zero, Nat.one_mul] at h3
  rw [last_mod _ h1]
  have hp := PP_pow
  unfold lst
  generalize sdg (a.set 0 (a.getD 0 0 + 5 * scy (pls a [5, 0, 0, 0, 0]) 0)) 0 = t at *
  generalize scy (a.set 0 (a.getD 0 0 + 5 * scy (pls a [5, 0, 0, 0, 0]) 0)) 0 = d at *
  generalize scy (pls a [5, 0, 0, 0, 0]) 0 = c at *
  generalize sdg (pls a [5, 0, 0, 0, 0]) 0 = u at *
  have e : (2 : Nat) ^ 130 = 1361129467683753853853498429727072845824 := by decide +kernel
  rw [e] at *
  split <;> omega
end Go.Proofs.Ytjiippbjflpkkaa

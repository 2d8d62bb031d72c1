/- Patterns as what differs from the one ahead, as lists of bits: what is written, what is read back. -/
import Derived.Test.YthpcibofcgjcdaaDoorBMath4
namespace Go.Proofs.YthpcibofcgjcdaaDoor
open Go.RowKit

/-- how many of the lowest bits are 0 -/
def tzF : Nat → Nat → Nat
  | 0, _ => 0
  | f + 1, x => if x % 2 = 0 then tzF f (x / 2) + 1 else 0
def tz (x : Nat) : Nat := tzF 64 x
/-- how many of the highest bits are 0, at most 31 -/
def ldz (x : Nat) : Nat := min (64 - wid x) 31
abbrev fitsW (x a z : Nat) : Prop := a ≤ 64 - wid x ∧ z ≤ tz x
def newW (x : Nat) : List Bool := true :: true :: (bitsOf (ldz x) 5 ++ (bitsOf (63 - ldz x - tz x) 6 ++ bitsOf (x / 2 ^ tz x) (64 - ldz x - tz x)))
/-- what one pattern is written as, by what differs, and the window behind it -/
def gx (x : Nat) (wn : Option (Nat × Nat)) : List Bool × Option (Nat × Nat) :=
  if x = 0 then ([false], wn) else
  match wn with
  | none => (newW x, some (ldz x, tz x))
  | some (a, z) => if fitsW x a z then (true :: false :: bitsOf (x / 2 ^ z) (64 - a - z), some (a, z)) else (newW x, some (ldz x, tz x))
def gE : Nat → Option (Nat × Nat) → List Int → List Bool
  | _, _, [] => []
  | p, wn, y :: t => (gx (p ^^^ y.toNat) wn).1 ++ gE y.toNat (gx (p ^^^ y.toNat) wn).2 t
def GB : List Int → List Bool
  | [] => []
  | y :: t => bitsOf y.toNat 64 ++ gE y.toNat none t
/-- a window that there may be -/
def Win (wn : Option (Nat × Nat)) : Prop := ∀ a z, wn = some (a, z) → a ≤ 31 ∧ a + z ≤ 63

/-! plain facts on the lowest and the highest bits -/
theorem tzF_dvd : ∀ (f x : Nat), 2 ^ tzF f x ∣ x
  | 0, x => by simp [tzF]
  | f + 1, x => by
    rw [tzF]
    by_cases h : x % 2 = 0
    · rw [if_pos h]
      obtain ⟨k, hk⟩ := tzF_dvd f (x / 2)
      refine ⟨k, ?_⟩
      have e : x = 2 * (x / 2) := by omega
      rw [Nat.pow_succ, Nat.mul_comm (2 ^ tzF f (x / 2)) 2, Nat.mul_assoc, ← hk]
      exact e
    · rw [if_neg h]; simp
theorem tzF_odd : ∀ (f x : Nat), 0 < x → x < 2 ^ f → x / 2 ^ tzF f x % 2 = 1
  | 0, x, h0, h1 => by simp at h1; omega
  | f + 1, x, h0, h1 => by
    rw [tzF]
    by_cases h : x % 2 = 0
    · rw [if_pos h, Nat.pow_succ, Nat.mul_comm, ← Nat.div_div_eq_div_mul]
      exact tzF_odd f (x / 2) (by omega) (by rw [Nat.pow_succ] at h1; omega)
    · rw [if_neg h]; simp; omega
theorem tzF_lt : ∀ (f x : Nat), 0 < x → x < 2 ^ f → tzF f x < f
  | 0, x, h0, h1 => by simp at h1; omega
  | f + 1, x, h0, h1 => by
    rw [tzF]
    by_cases h : x % 2 = 0
    · rw [if_pos h]
      have := tzF_lt f (x / 2) (by omega) (by rw [Nat.pow_succ] at h1; omega)
      omega
    · rw [if_neg h]; omega
theorem p64 : (2 : Nat) ^ 64 = 18446744073709551616 := by decide
/-- the window's bits off, and on again -/
theorem tz_back {x z : Nat} (h : z ≤ tz x) : x / 2 ^ z * 2 ^ z = x := by
  have h1 : 2 ^ z ∣ x := Nat.dvd_trans (Nat.pow_dvd_pow 2 h) (tzF_dvd 64 x)
  exact Nat.div_mul_cancel h1
theorem fits_lt {x a z : Nat} (hx : x < 18446744073709551616) (ha : a ≤ 64 - wid x) (hz : a + z ≤ 63) : x / 2 ^ z < 2 ^ (64 - a - z) := by
  have hw := wid_le64 x hx
  have h1 : x < 2 ^ (64 - a) := (wid_le_iff x (64 - a)).1 (by omega)
  rw [Nat.div_lt_iff_lt_mul (Nat.two_pow_pos z), ← Nat.pow_add]
  rw [show 64 - a - z + z = 64 - a by omega]
  exact h1
theorem win_new {x : Nat} (h0 : 0 < x) (hx : x < 18446744073709551616) : ldz x ≤ 31 ∧ ldz x ≤ 64 - wid x ∧ ldz x + tz x ≤ 63 := by
  have h1 : tz x < 64 := tzF_lt 64 x h0 (by rw [p64]; exact hx)
  have h2 : tz x < wid x := by
    rcases Nat.lt_or_ge (tz x) (wid x) with h | h
    · exact h
    · have h3 : x < 2 ^ tz x := (wid_le_iff x (tz x)).1 h
      have h4 : x / 2 ^ tz x * 2 ^ tz x = x := tz_back (Nat.le_refl _)
      rw [Nat.div_eq_of_lt h3] at h4
      omega
  have hw := wid_le64 x hx
  unfold ldz
  omega
theorem Win.next {x : Nat} {wn : Option (Nat × Nat)} (hw : Win wn) (hx : x < 18446744073709551616) : Win (gx x wn).2 := by
  intro a z h
  unfold gx at h
  by_cases h0 : x = 0
  · rw [if_pos h0] at h; exact hw a z h
  · rw [if_neg h0] at h
    have hn := win_new (by omega) hx
    cases wn with
    | none =>
      simp only [Option.some.injEq, Prod.mk.injEq] at h
      obtain ⟨rfl, rfl⟩ := h
      exact ⟨hn.1, hn.2.2⟩
    | some p =>
      obtain ⟨a', z'⟩ := p
      simp only at h
      by_cases hf : fitsW x a' z'
      · rw [if_pos hf] at h; exact hw a z h
      · rw [if_neg hf] at h
        simp only [Option.some.injEq, Prod.mk.injEq] at h
        obtain ⟨rfl, rfl⟩ := h
        exact ⟨hn.1, hn.2.2⟩
theorem Win.none : Win none := fun a z h => by cases h

/-! reading -/
/-- what differs, the window behind it, what is left, the error -/
def gR (wn : Option (Nat × Nat)) : List Bool → Nat × Option (Nat × Nat) × List Bool × Int
  | [] => (0, wn, [], 2)
  | false :: r => (0, wn, r, 0)
  | [true] => (0, wn, [], 2)
  | true :: false :: r =>
    match wn with
    | none => (0, none, r, 3)
    | some (a, z) => if r.length < 64 - a - z then (0, wn, r, 2) else (bnum (r.take (64 - a - z)) * 2 ^ z, wn, r.drop (64 - a - z), 0)
  | true :: true :: r =>
    if r.length < 5 then (0, wn, r, 2) else
    if r.length < 11 then (0, wn, r, 2) else
    if 63 < bnum (r.take 5) + bnum ((r.drop 5).take 6) then (0, wn, r, 3) else
    if r.length < 12 + bnum ((r.drop 5).take 6) then (0, wn, r, 2) else
    (bnum ((r.drop 11).take (bnum ((r.drop 5).take 6) + 1)) * 2 ^ (63 - bnum (r.take 5) - bnum ((r.drop 5).take 6)), some (bnum (r.take 5), 63 - bnum (r.take 5) - bnum ((r.drop 5).take 6)), r.drop (12 + bnum ((r.drop 5).take 6)), 0)
/-- so many more: those read, the error -/
def gDA : Nat → List Int → Nat → Option (Nat × Nat) → List Bool → List Int × Int
  | 0, acc, _, _, _ => (acc, 0)
  | n + 1, acc, p, wn, l => if (gR wn l).2.2.2 ≠ 0 then ([], (gR wn l).2.2.2) else gDA n (acc ++ [((p ^^^ (gR wn l).1 : Nat) : Int)]) (p ^^^ (gR wn l).1) (gR wn l).2.1 (gR wn l).2.2.1
def gRd (l : List Bool) (n : Nat) : List Int × Int :=
  if n = 0 then ([], 0) else if l.length < 64 then ([], 2) else gDA (n - 1) [(bnum (l.take 64) : Int)] (bnum (l.take 64)) none (l.drop 64)

theorem bnum_of {v n : Nat} (h : v < 2 ^ n) : bnum (bitsOf v n) = v := by rw [num_bitsOf, Nat.mod_eq_of_lt h]
theorem gR_new {x : Nat} {wn : Option (Nat × Nat)} (h0 : 0 < x) (hx : x < 18446744073709551616) (r : List Bool) : gR wn (newW x ++ r) = (x, some (ldz x, tz x), r, 0) := by
  obtain ⟨h1, h2, h3⟩ := win_new h0 hx
  have l5 : (bitsOf (ldz x) 5).length = 5 := bitsOf_length _ _
  have l6 : (bitsOf (63 - ldz x - tz x) 6).length = 6 := bitsOf_length _ _
  have lm : (bitsOf (x / 2 ^ tz x) (64 - ldz x - tz x)).length = 64 - ldz x - tz x := bitsOf_length _ _
  have p5 : (2 : Nat) ^ 5 = 32 := by decide
  have p6 : (2 : Nat) ^ 6 = 64 := by decide
  have e5 : bnum (bitsOf (ldz x) 5) = ldz x := bnum_of (by omega)
  have e6 : bnum (bitsOf (63 - ldz x - tz x) 6) = 63 - ldz x - tz x := bnum_of (by omega)
  have em : bnum (bitsOf (x / 2 ^ tz x) (64 - ldz x - tz x)) = x / 2 ^ tz x := bnum_of (fits_lt hx h2 h3)
  have hb := tz_back (Nat.le_refl (tz x))
  generalize hA : bitsOf (ldz x) 5 = A at *
  generalize hB : bitsOf (63 - ldz x - tz x) 6 = B at *
  generalize hC : bitsOf (x / 2 ^ tz x) (64 - ldz x - tz x) = C at *
  have hn : newW x ++ r = true :: true :: (A ++ (B ++ (C ++ r))) := by
    unfold newW; rw [hA, hB, hC]; simp
  rw [hn]
  have t5 : (A ++ (B ++ (C ++ r))).take 5 = A := by rw [List.take_left' l5]
  have d5 : (A ++ (B ++ (C ++ r))).drop 5 = B ++ (C ++ r) := by rw [List.drop_left' l5]
  have t6 : (B ++ (C ++ r)).take 6 = B := by rw [List.take_left' l6]
  have d6 : (B ++ (C ++ r)).drop 6 = C ++ r := by rw [List.drop_left' l6]
  have d11 : (A ++ (B ++ (C ++ r))).drop 11 = C ++ r := by rw [show (11 : Nat) = 5 + 6 from rfl, ← List.drop_drop, d5, d6]
  have hlen : (A ++ (B ++ (C ++ r))).length = 11 + (64 - ldz x - tz x) + r.length := by
    simp only [List.length_append]; omega
  rw [gR]
  rw [t5, d5, t6, d11, e5, e6]
  rw [if_neg (by omega), if_neg (by omega), if_neg (by omega), if_neg (by omega)]
  have q1 : 63 - ldz x - tz x + 1 = 64 - ldz x - tz x := by omega
  have q2 : 63 - ldz x - (63 - ldz x - tz x) = tz x := by omega
  have d12 : (A ++ (B ++ (C ++ r))).drop (12 + (63 - ldz x - tz x)) = r := by
    rw [show 12 + (63 - ldz x - tz x) = 11 + (64 - ldz x - tz x) by omega, ← List.drop_drop, d11, List.drop_left' lm]
  rw [q1, q2, d12, List.take_left' lm, em, hb]
/-- one pattern is read back -/
theorem gR_gx {x : Nat} {wn : Option (Nat × Nat)} (hw : Win wn) (hx : x < 18446744073709551616) (r : List Bool) : gR wn ((gx x wn).1 ++ r) = (x, (gx x wn).2, r, 0) := by
  unfold gx
  by_cases h0 : x = 0
  · subst h0
    rw [if_pos rfl]; rfl
  · rw [if_neg h0]
    cases wn with
    | none => exact gR_new (by omega) hx r
    | some p =>
      obtain ⟨a, z⟩ := p
      simp only
      by_cases hf : fitsW x a z
      · rw [if_pos hf]
        obtain ⟨ha, hz⟩ := hf
        obtain ⟨w1, w2⟩ := hw a z rfl
        have lm : (bitsOf (x / 2 ^ z) (64 - a - z)).length = 64 - a - z := bitsOf_length _ _
        have em : bnum (bitsOf (x / 2 ^ z) (64 - a - z)) = x / 2 ^ z := bnum_of (fits_lt hx ha w2)
        have hb := tz_back hz
        generalize bitsOf (x / 2 ^ z) (64 - a - z) = C at *
        show gR (some (a, z)) (true :: false :: (C ++ r)) = _
        rw [gR]
        simp only
        rw [if_neg (by rw [List.length_append]; omega), List.take_left' lm, List.drop_left' lm, em, hb]
      · rw [if_neg hf]
        exact gR_new (by omega) hx r

theorem gR_newcut {x : Nat} {wn : Option (Nat × Nat)} (h0 : 0 < x) (hx : x < 18446744073709551616) (j : Nat) (hj : j < (newW x).length) : (gR wn ((newW x).take j)).2.2.2 = 2 := by
  obtain ⟨h1, h2, h3⟩ := win_new h0 hx
  have l5 : (bitsOf (ldz x) 5).length = 5 := bitsOf_length _ _
  have l6 : (bitsOf (63 - ldz x - tz x) 6).length = 6 := bitsOf_length _ _
  have lm : (bitsOf (x / 2 ^ tz x) (64 - ldz x - tz x)).length = 64 - ldz x - tz x := bitsOf_length _ _
  have p5 : (2 : Nat) ^ 5 = 32 := by decide
  have p6 : (2 : Nat) ^ 6 = 64 := by decide
  have e5 : bnum (bitsOf (ldz x) 5) = ldz x := bnum_of (by omega)
  have e6 : bnum (bitsOf (63 - ldz x - tz x) 6) = 63 - ldz x - tz x := bnum_of (by omega)
  unfold newW at hj ⊢
  generalize bitsOf (ldz x) 5 = A at *
  generalize bitsOf (63 - ldz x - tz x) 6 = B at *
  generalize bitsOf (x / 2 ^ tz x) (64 - ldz x - tz x) = C at *
  simp only [List.length_cons, List.length_append] at hj
  rcases j with _ | _ | i
  · rfl
  · rfl
  · show (gR wn (true :: true :: (A ++ (B ++ C)).take i)).2.2.2 = 2
    rw [gR]
    have hl : ((A ++ (B ++ C)).take i).length = i := by
      rw [List.length_take]; simp only [List.length_append]; omega
    by_cases i5 : i < 5
    · rw [if_pos (by omega)]
    · rw [if_neg (by omega)]
      by_cases i11 : i < 11
      · rw [if_pos (by omega)]
      · rw [if_neg (by omega)]
        have t5 : ((A ++ (B ++ C)).take i).take 5 = A := by
          rw [List.take_take, Nat.min_eq_left (by omega), List.take_left' l5]
        have t6 : (((A ++ (B ++ C)).take i).drop 5).take 6 = B := by
          rw [List.drop_take, List.take_take, Nat.min_eq_left (by omega), List.drop_left' l5, List.take_left' l6]
        rw [t5, t6, e5, e6, if_neg (by omega), if_pos (by omega)]
theorem gR_cut {x : Nat} {wn : Option (Nat × Nat)} (hw : Win wn) (hx : x < 18446744073709551616) (j : Nat) (hj : j < (gx x wn).1.length) : (gR wn ((gx x wn).1.take j)).2.2.2 = 2 := by
  unfold gx at hj ⊢
  by_cases h0 : x = 0
  · rw [if_pos h0] at hj ⊢
    obtain rfl : j = 0 := by simpa using hj
    rfl
  · rw [if_neg h0] at hj ⊢
    cases wn with
    | none => exact gR_newcut (by omega) hx j hj
    | some p =>
      obtain ⟨a, z⟩ := p
      simp only at hj ⊢
      by_cases hf : fitsW x a z
      · rw [if_pos hf] at hj ⊢
        have lm : (bitsOf (x / 2 ^ z) (64 - a - z)).length = 64 - a - z := bitsOf_length _ _
        generalize bitsOf (x / 2 ^ z) (64 - a - z) = C at *
        simp only [List.length_cons] at hj
        rcases j with _ | _ | i
        · rfl
        · rfl
        · show (gR (some (a, z)) (true :: false :: C.take i)).2.2.2 = 2
          rw [gR]
          rw [if_pos (by rw [List.length_take]; omega)]
      · rw [if_neg hf] at hj ⊢
        exact gR_newcut (by omega) hx j hj

/-! a list -/
theorem xor_lt {a b : Nat} (ha : a < 18446744073709551616) (hb : b < 18446744073709551616) : a ^^^ b < 18446744073709551616 := by
  rw [← p64] at *
  exact Nat.xor_lt_two_pow ha hb
theorem xor_twice (a b : Nat) : a ^^^ (a ^^^ b) = b := by rw [← Nat.xor_assoc, Nat.xor_self, Nat.zero_xor]
theorem gDA_gE (l : List Int) : ∀ (acc : List Int) (p : Nat) (wn : Option (Nat × Nat)) (r : List Bool), U64 l → p < 18446744073709551616 → Win wn → gDA l.length acc p wn (gE p wn l ++ r) = (acc ++ l, 0) := by
  induction l with
  | nil => intro acc p wn r _ _ _; simp [gDA]
  | cons y t ih =>
    intro acc p wn r hu hp hw
    have hy := hu y List.mem_cons_self
    have hx := xor_lt hp (show y.toNat < 18446744073709551616 by omega)
    have e : gE p wn (y :: t) ++ r = (gx (p ^^^ y.toNat) wn).1 ++ (gE y.toNat (gx (p ^^^ y.toNat) wn).2 t ++ r) := by rw [gE, List.append_assoc]
    rw [e, List.length_cons, gDA, gR_gx hw hx]
    simp only [ne_eq, not_true_eq_false, if_false, xor_twice]
    rw [ih _ _ _ _ (fun z hz => hu z (List.mem_cons_of_mem _ hz)) (by omega) (hw.next hx), Int.toNat_of_nonneg hy.1]
    simp
theorem gDA_cut (l : List Int) : ∀ (acc : List Int) (p : Nat) (wn : Option (Nat × Nat)) (j : Nat), U64 l → p < 18446744073709551616 → Win wn → j < (gE p wn l).length → gDA l.length acc p wn ((gE p wn l).take j) = ([], 2) := by
  induction l with
  | nil => intro acc p wn j _ _ _ hj; simp [gE] at hj
  | cons y t ih =>
    intro acc p wn j hu hp hw hj
    have hy := hu y List.mem_cons_self
    have hx := xor_lt hp (show y.toNat < 18446744073709551616 by omega)
    rw [gE] at hj ⊢
    rw [List.length_append] at hj
    by_cases h : j < (gx (p ^^^ y.toNat) wn).1.length
    · rw [List.take_append_of_le_length (by omega), List.length_cons, gDA, gR_cut hw hx j h]
      simp
    · have e : ((gx (p ^^^ y.toNat) wn).1 ++ gE y.toNat (gx (p ^^^ y.toNat) wn).2 t).take j = (gx (p ^^^ y.toNat) wn).1 ++ (gE y.toNat (gx (p ^^^ y.toNat) wn).2 t).take (j - (gx (p ^^^ y.toNat) wn).1.length) := by
        rw [List.take_append, List.take_of_length_le (by omega)]
      rw [e, List.length_cons, gDA, gR_gx hw hx]
      simp only [ne_eq, not_true_eq_false, if_false, xor_twice]
      exact ih _ _ _ _ (fun z hz => hu z (List.mem_cons_of_mem _ hz)) (by omega) (hw.next hx) (by omega)
theorem gRd_GB {l : List Int} (hu : U64 l) (r : List Bool) : gRd (GB l ++ r) l.length = (l, 0) := by
  cases l with
  | nil => rfl
  | cons y t =>
    have hy := hu y List.mem_cons_self
    have l64 : (bitsOf y.toNat 64).length = 64 := bitsOf_length _ _
    have e64 : bnum (bitsOf y.toNat 64) = y.toNat := bnum_of (by rw [p64]; omega)
    unfold gRd GB
    rw [if_neg (by simp), List.append_assoc, if_neg (by rw [List.length_append]; omega), List.take_left' l64, List.drop_left' l64, e64, List.length_cons, Nat.add_sub_cancel]
    rw [gDA_gE t _ _ _ _ (fun z hz => hu z (List.mem_cons_of_mem _ hz)) (by omega) Win.none, Int.toNat_of_nonneg hy.1]
    rfl
theorem gRd_cut {l : List Int} (hu : U64 l) (j : Nat) (hj : j < (GB l).length) : gRd ((GB l).take j) l.length = ([], 2) := by
  cases l with
  | nil => simp [GB] at hj
  | cons y t =>
    have hy := hu y List.mem_cons_self
    have l64 : (bitsOf y.toNat 64).length = 64 := bitsOf_length _ _
    have e64 : bnum (bitsOf y.toNat 64) = y.toNat := bnum_of (by rw [p64]; omega)
    unfold gRd
    unfold GB at hj ⊢
    rw [List.length_append] at hj
    rw [if_neg (by simp)]
    by_cases h : j < 64
    · rw [if_pos (by rw [List.length_take]; omega)]
    · have e : (bitsOf y.toNat 64 ++ gE y.toNat none t).take j = bitsOf y.toNat 64 ++ (gE y.toNat none t).take (j - 64) := by
        rw [List.take_append, List.take_of_length_le (by omega), l64]
      rw [e, if_neg (by rw [List.length_append]; omega), List.take_left' l64, List.drop_left' l64, e64, List.length_cons, Nat.add_sub_cancel]
      exact gDA_cut t _ _ _ _ (fun z hz => hu z (List.mem_cons_of_mem _ hz)) (by omega) Win.none (by omega)
/-- what is read are so many patterns of 64 bits -/
theorem gR_ok {wn : Option (Nat × Nat)} (hw : Win wn) (l : List Bool) (h : (gR wn l).2.2.2 = 0) : (gR wn l).1 < 18446744073709551616 ∧ Win (gR wn l).2.1 := by
  have key : ∀ (c : List Bool) (a z m : Nat), c.length ≤ m → m + z + a ≤ 64 → bnum c * 2 ^ z < 18446744073709551616 := by
    intro c a z m hc hm
    have h1 := bnum_lt c
    have h2 : 2 ^ c.length ≤ 2 ^ m := Nat.pow_le_pow_right (by omega) hc
    have h3 : bnum c * 2 ^ z < 2 ^ m * 2 ^ z := Nat.mul_lt_mul_of_pos_right (by omega) (Nat.two_pow_pos z)
    rw [← Nat.pow_add] at h3
    have h4 : 2 ^ (m + z) ≤ 2 ^ 64 := Nat.pow_le_pow_right (by omega) (by omega)
    rw [p64] at h4
    omega
  match l, h with
  | [], h => exact absurd h (by simp [gR])
  | false :: r, _ => exact ⟨by simp [gR], by simpa [gR] using hw⟩
  | [true], h => exact absurd h (by simp [gR])
  | true :: false :: r, h =>
    cases wn with
    | none => exact absurd h (by simp [gR])
    | some p =>
      obtain ⟨a, z⟩ := p
      obtain ⟨w1, w2⟩ := hw a z rfl
      rw [gR] at h ⊢
      by_cases hl : r.length < 64 - a - z
      · rw [if_pos hl] at h; cases h
      · rw [if_neg hl]
        exact ⟨key _ a z (64 - a - z) (by rw [List.length_take]; omega) (by omega), hw⟩
  | true :: true :: r, h =>
    rw [gR] at h ⊢
    by_cases c1 : r.length < 5
    · rw [if_pos c1] at h; cases h
    · rw [if_neg c1] at h ⊢
      by_cases c2 : r.length < 11
      · rw [if_pos c2] at h; cases h
      · rw [if_neg c2] at h ⊢
        by_cases c3 : 63 < bnum (r.take 5) + bnum ((r.drop 5).take 6)
        · rw [if_pos c3] at h; cases h
        · rw [if_neg c3] at h ⊢
          by_cases c4 : r.length < 12 + bnum ((r.drop 5).take 6)
          · rw [if_pos c4] at h; cases h
          · rw [if_neg c4]
            have hb := bnum_lt (r.take 5)
            have hb2 : (r.take 5).length = 5 := by rw [List.length_take]; omega
            rw [hb2] at hb
            refine ⟨key _ (bnum (r.take 5)) _ (bnum ((r.drop 5).take 6) + 1) (by rw [List.length_take]; omega) (by omega), ?_⟩
            intro a z e
            simp only [Option.some.injEq, Prod.mk.injEq] at e
            obtain ⟨rfl, rfl⟩ := e
            have : (2 : Nat) ^ 5 = 32 := by decide
            omega
theorem gDA_ok : ∀ (n : Nat) (acc : List Int) (p : Nat) (wn : Option (Nat × Nat)) (l : List Bool), U64 acc → p < 18446744073709551616 → Win wn → (gDA n acc p wn l).2 = 0 → U64 (gDA n acc p wn l).1 ∧ (gDA n acc p wn l).1.length = acc.length + n
  | 0, acc, _, _, _, hu, _, _, _ => ⟨hu, rfl⟩
  | n + 1, acc, p, wn, l, hu, hp, hw, h => by
    rw [gDA] at h ⊢
    by_cases hc : (gR wn l).2.2.2 ≠ 0
    · rw [if_pos hc] at h; exact absurd h hc
    · rw [if_neg hc] at h ⊢
      obtain ⟨h1, h2⟩ := gR_ok hw l (by simpa using hc)
      have hx := xor_lt hp h1
      obtain ⟨h3, h4⟩ := gDA_ok n _ _ _ _ (fun y hy => by
        rcases List.mem_append.1 hy with h | h
        · exact hu y h
        · simp at h; omega) hx h2 h
      exact ⟨h3, by rw [h4, List.length_append]; simp; omega⟩
theorem gDA_err : ∀ (n : Nat) (acc : List Int) (p : Nat) (wn : Option (Nat × Nat)) (l : List Bool), (gDA n acc p wn l).2 ≠ 0 → (gDA n acc p wn l).1 = []
  | 0, _, _, _, _, h => absurd rfl h
  | n + 1, acc, p, wn, l, h => by
    rw [gDA] at h ⊢
    by_cases hc : (gR wn l).2.2.2 ≠ 0
    · rw [if_pos hc]
    · rw [if_neg hc] at h ⊢
      exact gDA_err n _ _ _ _ h
theorem gRd_ok {l : List Bool} {n : Nat} (h : (gRd l n).2 = 0) : U64 (gRd l n).1 ∧ (gRd l n).1.length = n := by
  unfold gRd at *
  by_cases h0 : n = 0
  · rw [if_pos h0]; exact ⟨fun x hx => by simp at hx, by simp [h0]⟩
  · rw [if_neg h0] at h ⊢
    by_cases h1 : l.length < 64
    · rw [if_pos h1] at h; cases h
    · rw [if_neg h1] at h ⊢
      have hb := bnum_lt (l.take 64)
      have hl : (l.take 64).length = 64 := by rw [List.length_take]; omega
      rw [hl, p64] at hb
      obtain ⟨h2, h3⟩ := gDA_ok (n - 1) _ _ _ _ (fun y hy => by simp at hy; omega) hb Win.none h
      exact ⟨h2, by rw [h3]; simp; omega⟩
theorem gRd_err {l : List Bool} {n : Nat} (h : (gRd l n).2 ≠ 0) : (gRd l n).1 = [] := by
  unfold gRd at *
  by_cases h0 : n = 0
  · rw [if_pos h0]
  · rw [if_neg h0] at h ⊢
    by_cases h1 : l.length < 64
    · rw [if_pos h1]
    · rw [if_neg h1] at h ⊢
      exact gDA_err _ _ _ _ _ h
end Go.Proofs.YthpcibofcgjcdaaDoor

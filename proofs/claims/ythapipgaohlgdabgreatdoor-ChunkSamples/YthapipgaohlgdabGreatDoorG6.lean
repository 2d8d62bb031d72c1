/- Several texts in one: Gm, Gm2, Gt, Laid9. -/
import Derived.Test.YthapipgaohlgdabGreatDoorG2
import Derived.Lib.TrailingZeros
import Derived.Laws.Bits64b
import Derived.WalkSpells
import Derived.Laws.Rows
import Derived.Deep.WholeRow
import Derived.Deep.RegionHeld3
import Derived.Test.YthapipgaohlgdabGreatDoorRows
import Derived.ProofKit
import Derived.LaidMore
import Derived.Lib.LaidTab

/- Patterns as what differs from the one ahead, as lists of bits: what is written, what is read back. -/
namespace Go.Proofs.YthapipgaohlgdabGreatDoor
open Go.RowKit

/-- how many of the lowest bits are 0 -/
def tzF : Nat → Nat → Nat
  | 0, _ => 0
  | f + 1, x => if x % 2 = 0 then tzF f (x / 2) + 1 else 0
def tz (x : Nat) : Nat := tzF 64 x
/-- how many of the highest bits are 0, at most 31 -/
def ldz (x : Nat) : Nat := min (64 - wid x) 31
abbrev fitsW (x a z : Nat) : Prop := a ≤ 64 - wid x ∧ z ≤ tz x
def newW (x : Nat) : List Bool := true :: true :: (bitsOf (ldz x) 5 ++ (bitsOf (63 - ldz x - tz x) 6 ++ bitsOf (x / 2 ^ tz x) (64 - ldz x - tz x)))
/-- what one pattern is written as, by what differs, and the window behind it -/
def gx (x : Nat) (wn : Option (Nat × Nat)) : List Bool × Option (Nat × Nat) :=
  if x = 0 then ([false], wn) else
  match wn with
  | none => (newW x, some (ldz x, tz x))
  | some (a, z) => if fitsW x a z then (true :: false :: bitsOf (x / 2 ^ z) (64 - a - z), some (a, z)) else (newW x, some (ldz x, tz x))
def gE : Nat → Option (Nat × Nat) → List Int → List Bool
  | _, _, [] => []
  | p, wn, y :: t => (gx (p ^^^ y.toNat) wn).1 ++ gE y.toNat (gx (p ^^^ y.toNat) wn).2 t
def GB : List Int → List Bool
  | [] => []
  | y :: t => bitsOf y.toNat 64 ++ gE y.toNat none t
/-- a window that there may be -/
def Win (wn : Option (Nat × Nat)) : Prop := ∀ a z, wn = some (a, z) → a ≤ 31 ∧ a + z ≤ 63

/-! plain facts on the lowest and the highest bits -/
theorem tzF_dvd : ∀ (f x : Nat), 2 ^ tzF f x ∣ x
  | 0, x => by simp [tzF]
  | f + 1, x => by
    rw [tzF]
    by_cases h : x % 2 = 0
    · rw [if_pos h]
      obtain ⟨k, hk⟩ := tzF_dvd f (x / 2)
      refine ⟨k, ?_⟩
      have e : x = 2 * (x / 2) := by omega
      rw [Nat.pow_succ, Nat.mul_comm (2 ^ tzF f (x / 2)) 2, Nat.mul_assoc, ← hk]
      exact e
    · rw [if_neg h]; simp
theorem tzF_odd : ∀ (f x : Nat), 0 < x → x < 2 ^ f → x / 2 ^ tzF f x % 2 = 1
  | 0, x, h0, h1 => by simp at h1; omega
  | f + 1, x, h0, h1 => by
    rw [tzF]
    by_cases h : x % 2 = 0
    · rw [if_pos h, Nat.pow_succ, Nat.mul_comm, ← Nat.div_div_eq_div_mul]
      exact tzF_odd f (x / 2) (by omega) (by rw [Nat.pow_succ] at h1; omega)
    · rw [if_neg h]; simp; omega
theorem tzF_lt : ∀ (f x : Nat), 0 < x → x < 2 ^ f → tzF f x < f
  | 0, x, h0, h1 => by simp at h1; omega
  | f + 1, x, h0, h1 => by
    rw [tzF]
    by_cases h : x % 2 = 0
    · rw [if_pos h]
      have := tzF_lt f (x / 2) (by omega) (by rw [Nat.pow_succ] at h1; omega)
      omega
    · rw [if_neg h]; omega
theorem p64 : (2 : Nat) ^ 64 = 18446744073709551616 := by decide
/-- the window's bits off, and on again -/
theorem tz_back {x z : Nat} (h : z ≤ tz x) : x / 2 ^ z * 2 ^ z = x := by
  have h1 : 2 ^ z ∣ x := Nat.dvd_trans (Nat.pow_dvd_pow 2 h) (tzF_dvd 64 x)
  exact Nat.div_mul_cancel h1
theorem fits_lt {x a z : Nat} (hx : x < 18446744073709551616) (ha : a ≤ 64 - wid x) (hz : a + z ≤ 63) : x / 2 ^ z < 2 ^ (64 - a - z) := by
  have hw := wid_le64 x hx
  have h1 : x < 2 ^ (64 - a) := (wid_le_iff x (64 - a)).1 (by omega)
  rw [Nat.div_lt_iff_lt_mul (Nat.two_pow_pos z), ← Nat.pow_add]
  rw [show 64 - a - z + z = 64 - a by omega]
  exact h1
theorem win_new {x : Nat} (h0 : 0 < x) (hx : x < 18446744073709551616) : ldz x ≤ 31 ∧ ldz x ≤ 64 - wid x ∧ ldz x + tz x ≤ 63 := by
  have h1 : tz x < 64 := tzF_lt 64 x h0 (by rw [p64]; exact hx)
  have h2 : tz x < wid x := by
    rcases Nat.lt_or_ge (tz x) (wid x) with h | h
    · exact h
    · have h3 : x < 2 ^ tz x := (wid_le_iff x (tz x)).1 h
      have h4 : x / 2 ^ tz x * 2 ^ tz x = x := tz_back (Nat.le_refl _)
      rw [Nat.div_eq_of_lt h3] at h4
      omega
  have hw := wid_le64 x hx
  unfold ldz
  omega
theorem Win.next {x : Nat} {wn : Option (Nat × Nat)} (hw : Win wn) (hx : x < 18446744073709551616) : Win (gx x wn).2 := by
  intro a z h
  unfold gx at h
  by_cases h0 : x = 0
  · rw [if_pos h0] at h; exact hw a z h
  · rw [if_neg h0] at h
    have hn := win_new (by omega) hx
    cases wn with
    | none =>
      simp only [Option.some.injEq, Prod.mk.injEq] at h
      obtain ⟨rfl, rfl⟩ := h
      exact ⟨hn.1, hn.2.2⟩
    | some p =>
      obtain ⟨a', z'⟩ := p
      simp only at h
      by_cases hf : fitsW x a' z'
      · rw [if_pos hf] at h; exact hw a z h
      · rw [if_neg hf] at h
        simp only [Option.some.injEq, Prod.mk.injEq] at h
        obtain ⟨rfl, rfl⟩ := h
        exact ⟨hn.1, hn.2.2⟩
theorem Win.none : Win none := fun a z h => by cases h

/-! reading -/
/-- what differs, the window behind it, what is left, the error -/
def gR (wn : Option (Nat × Nat)) : List Bool → Nat × Option (Nat × Nat) × List Bool × Int
  | [] => (0, wn, [], 2)
  | false :: r => (0, wn, r, 0)
  | [true] => (0, wn, [], 2)
  | true :: false :: r =>
    match wn with
    | none => (0, none, r, 3)
    | some (a, z) => if r.length < 64 - a - z then (0, wn, r, 2) else (bnum (r.take (64 - a - z)) * 2 ^ z, wn, r.drop (64 - a - z), 0)
  | true :: true :: r =>
    if r.length < 5 then (0, wn, r, 2) else
    if r.length < 11 then (0, wn, r, 2) else
    if 63 < bnum (r.take 5) + bnum ((r.drop 5).take 6) then (0, wn, r, 3) else
    if r.length < 12 + bnum ((r.drop 5).take 6) then (0, wn, r, 2) else
    (bnum ((r.drop 11).take (bnum ((r.drop 5).take 6) + 1)) * 2 ^ (63 - bnum (r.take 5) - bnum ((r.drop 5).take 6)), some (bnum (r.take 5), 63 - bnum (r.take 5) - bnum ((r.drop 5).take 6)), r.drop (12 + bnum ((r.drop 5).take 6)), 0)
/-- so many more: those read, the error -/
def gDA : Nat → List Int → Nat → Option (Nat × Nat) → List Bool → List Int × Int
  | 0, acc, _, _, _ => (acc, 0)
  | n + 1, acc, p, wn, l => if (gR wn l).2.2.2 ≠ 0 then ([], (gR wn l).2.2.2) else gDA n (acc ++ [((p ^^^ (gR wn l).1 : Nat) : Int)]) (p ^^^ (gR wn l).1) (gR wn l).2.1 (gR wn l).2.2.1
def gRd (l : List Bool) (n : Nat) : List Int × Int :=
  if n = 0 then ([], 0) else if l.length < 64 then ([], 2) else gDA (n - 1) [(bnum (l.take 64) : Int)] (bnum (l.take 64)) none (l.drop 64)

theorem bnum_of {v n : Nat} (h : v < 2 ^ n) : bnum (bitsOf v n) = v := by rw [num_bitsOf, Nat.mod_eq_of_lt h]
theorem gR_new {x : Nat} {wn : Option (Nat × Nat)} (h0 : 0 < x) (hx : x < 18446744073709551616) (r : List Bool) : gR wn (newW x ++ r) = (x, some (ldz x, tz x), r, 0) := by
  obtain ⟨h1, h2, h3⟩ := win_new h0 hx
  have l5 : (bitsOf (ldz x) 5).length = 5 := bitsOf_length _ _
  have l6 : (bitsOf (63 - ldz x - tz x) 6).length = 6 := bitsOf_length _ _
  have lm : (bitsOf (x / 2 ^ tz x) (64 - ldz x - tz x)).length = 64 - ldz x - tz x := bitsOf_length _ _
  have p5 : (2 : Nat) ^ 5 = 32 := by decide
  have p6 : (2 : Nat) ^ 6 = 64 := by decide
  have e5 : bnum (bitsOf (ldz x) 5) = ldz x := bnum_of (by omega)
  have e6 : bnum (bitsOf (63 - ldz x - tz x) 6) = 63 - ldz x - tz x := bnum_of (by omega)
  have em : bnum (bitsOf (x / 2 ^ tz x) (64 - ldz x - tz x)) = x / 2 ^ tz x := bnum_of (fits_lt hx h2 h3)
  have hb := tz_back (Nat.le_refl (tz x))
  generalize hA : bitsOf (ldz x) 5 = A at *
  generalize hB : bitsOf (63 - ldz x - tz x) 6 = B at *
  generalize hC : bitsOf (x / 2 ^ tz x) (64 - ldz x - tz x) = C at *
  have hn : newW x ++ r = true :: true :: (A ++ (B ++ (C ++ r))) := by
    unfold newW; rw [hA, hB, hC]; simp
  rw [hn]
  have t5 : (A ++ (B ++ (C ++ r))).take 5 = A := by rw [List.take_left' l5]
  have d5 : (A ++ (B ++ (C ++ r))).drop 5 = B ++ (C ++ r) := by rw [List.drop_left' l5]
  have t6 : (B ++ (C ++ r)).take 6 = B := by rw [List.take_left' l6]
  have d6 : (B ++ (C ++ r)).drop 6 = C ++ r := by rw [List.drop_left' l6]
  have d11 : (A ++ (B ++ (C ++ r))).drop 11 = C ++ r := by rw [show (11 : Nat) = 5 + 6 from rfl, ← List.drop_drop, d5, d6]
  have hlen : (A ++ (B ++ (C ++ r))).length = 11 + (64 - ldz x - tz x) + r.length := by
    simp only [List.length_append]; omega
  rw [gR]
  rw [t5, d5, t6, d11, e5, e6]
  rw [if_neg (by omega), if_neg (by omega), if_neg (by omega), if_neg (by omega)]
  have q1 : 63 - ldz x - tz x + 1 = 64 - ldz x - tz x := by omega
  have q2 : 63 - ldz x - (63 - ldz x - tz x) = tz x := by omega
  have d12 : (A ++ (B ++ (C ++ r))).drop (12 + (63 - ldz x - tz x)) = r := by
    rw [show 12 + (63 - ldz x - tz x) = 11 + (64 - ldz x - tz x) by omega, ← List.drop_drop, d11, List.drop_left' lm]
  rw [q1, q2, d12, List.take_left' lm, em, hb]
/-- one pattern is read back -/
theorem gR_gx {x : Nat} {wn : Option (Nat × Nat)} (hw : Win wn) (hx : x < 18446744073709551616) (r : List Bool) : gR wn ((gx x wn).1 ++ r) = (x, (gx x wn).2, r, 0) := by
  unfold gx
  by_cases h0 : x = 0
  · subst h0
    rw [if_pos rfl]; rfl
  · rw [if_neg h0]
    cases wn with
    | none => exact gR_new (by omega) hx r
    | some p =>
      obtain ⟨a, z⟩ := p
      simp only
      by_cases hf : fitsW x a z
      · rw [if_pos hf]
        obtain ⟨ha, hz⟩ := hf
        obtain ⟨w1, w2⟩ := hw a z rfl
        have lm : (bitsOf (x / 2 ^ z) (64 - a - z)).length = 64 - a - z := bitsOf_length _ _
        have em : bnum (bitsOf (x / 2 ^ z) (64 - a - z)) = x / 2 ^ z := bnum_of (fits_lt hx ha w2)
        have hb := tz_back hz
        generalize bitsOf (x / 2 ^ z) (64 - a - z) = C at *
        show gR (some (a, z)) (true :: false :: (C ++ r)) = _
        rw [gR]
        simp only
        rw [if_neg (by rw [List.length_append]; omega), List.take_left' lm, List.drop_left' lm, em, hb]
      · rw [if_neg hf]
        exact gR_new (by omega) hx r

theorem gR_newcut {x : Nat} {wn : Option (Nat × Nat)} (h0 : 0 < x) (hx : x < 18446744073709551616) (j : Nat) (hj : j < (newW x).length) : (gR wn ((newW x).take j)).2.2.2 = 2 := by
  obtain ⟨h1, h2, h3⟩ := win_new h0 hx
  have l5 : (bitsOf (ldz x) 5).length = 5 := bitsOf_length _ _
  have l6 : (bitsOf (63 - ldz x - tz x) 6).length = 6 := bitsOf_length _ _
  have lm : (bitsOf (x / 2 ^ tz x) (64 - ldz x - tz x)).length = 64 - ldz x - tz x := bitsOf_length _ _
  have p5 : (2 : Nat) ^ 5 = 32 := by decide
  have p6 : (2 : Nat) ^ 6 = 64 := by decide
  have e5 : bnum (bitsOf (ldz x) 5) = ldz x := bnum_of (by omega)
  have e6 : bnum (bitsOf (63 - ldz x - tz x) 6) = 63 - ldz x - tz x := bnum_of (by omega)
  unfold newW at hj ⊢
  generalize bitsOf (ldz x) 5 = A at *
  generalize bitsOf (63 - ldz x - tz x) 6 = B at *
  generalize bitsOf (x / 2 ^ tz x) (64 - ldz x - tz x) = C at *
  simp only [List.length_cons, List.length_append] at hj
  rcases j with _ | _ | i
  · rfl
  · rfl
  · show (gR wn (true :: true :: (A ++ (B ++ C)).take i)).2.2.2 = 2
    rw [gR]
    have hl : ((A ++ (B ++ C)).take i).length = i := by
      rw [List.length_take]; simp only [List.length_append]; omega
    by_cases i5 : i < 5
    · rw [if_pos (by omega)]
    · rw [if_neg (by omega)]
      by_cases i11 : i < 11
      · rw [if_pos (by omega)]
      · rw [if_neg (by omega)]
        have t5 : ((A ++ (B ++ C)).take i).take 5 = A := by
          rw [List.take_take, Nat.min_eq_left (by omega), List.take_left' l5]
        have t6 : (((A ++ (B ++ C)).take i).drop 5).take 6 = B := by
          rw [List.drop_take, List.take_take, Nat.min_eq_left (by omega), List.drop_left' l5, List.take_left' l6]
        rw [t5, t6, e5, e6, if_neg (by omega), if_pos (by omega)]
theorem gR_cut {x : Nat} {wn : Option (Nat × Nat)} (hw : Win wn) (hx : x < 18446744073709551616) (j : Nat) (hj : j < (gx x wn).1.length) : (gR wn ((gx x wn).1.take j)).2.2.2 = 2 := by
  unfold gx at hj ⊢
  by_cases h0 : x = 0
  · rw [if_pos h0] at hj ⊢
    obtain rfl : j = 0 := by simpa using hj
    rfl
  · rw [if_neg h0] at hj ⊢
    cases wn with
    | none => exact gR_newcut (by omega) hx j hj
    | some p =>
      obtain ⟨a, z⟩ := p
      simp only at hj ⊢
      by_cases hf : fitsW x a z
      · rw [if_pos hf] at hj ⊢
        have lm : (bitsOf (x / 2 ^ z) (64 - a - z)).length = 64 - a - z := bitsOf_length _ _
        generalize bitsOf (x / 2 ^ z) (64 - a - z) = C at *
        simp only [List.length_cons] at hj
        rcases j with _ | _ | i
        · rfl
        · rfl
        · show (gR (some (a, z)) (true :: false :: C.take i)).2.2.2 = 2
          rw [gR]
          rw [if_pos (by rw [List.length_take]; omega)]
      · rw [if_neg hf] at hj ⊢
        exact gR_newcut (by omega) hx j hj

/-! a list -/
theorem xor_lt {a b : Nat} (ha : a < 18446744073709551616) (hb : b < 18446744073709551616) : a ^^^ b < 18446744073709551616 := by
  rw [← p64] at *
  exact Nat.xor_lt_two_pow ha hb
theorem xor_twice (a b : Nat) : a ^^^ (a ^^^ b) = b := by rw [← Nat.xor_assoc, Nat.xor_self, Nat.zero_xor]
theorem gDA_gE (l : List Int) : ∀ (acc : List Int) (p : Nat) (wn : Option (Nat × Nat)) (r : List Bool), U64 l → p < 18446744073709551616 → Win wn → gDA l.length acc p wn (gE p wn l ++ r) = (acc ++ l, 0) := by
  induction l with
  | nil => intro acc p wn r _ _ _; simp [gDA]
  | cons y t ih =>
    intro acc p wn r hu hp hw
    have hy := hu y List.mem_cons_self
    have hx := xor_lt hp (show y.toNat < 18446744073709551616 by omega)
    have e : gE p wn (y :: t) ++ r = (gx (p ^^^ y.toNat) wn).1 ++ (gE y.toNat (gx (p ^^^ y.toNat) wn).2 t ++ r) := by rw [gE, List.append_assoc]
    rw [e, List.length_cons, gDA, gR_gx hw hx]
    simp only [ne_eq, not_true_eq_false, if_false, xor_twice]
    rw [ih _ _ _ _ (fun z hz => hu z (List.mem_cons_of_mem _ hz)) (by omega) (hw.next hx), Int.toNat_of_nonneg hy.1]
    simp
theorem gDA_cut (l : List Int) : ∀ (acc : List Int) (p : Nat) (wn : Option (Nat × Nat)) (j : Nat), U64 l → p < 18446744073709551616 → Win wn → j < (gE p wn l).length → gDA l.length acc p wn ((gE p wn l).take j) = ([], 2) := by
  induction l with
  | nil => intro acc p wn j _ _ _ hj; simp [gE] at hj
  | cons y t ih =>
    intro acc p wn j hu hp hw hj
    have hy := hu y List.mem_cons_self
    have hx := xor_lt hp (show y.toNat < 18446744073709551616 by omega)
    rw [gE] at hj ⊢
    rw [List.length_append] at hj
    by_cases h : j < (gx (p ^^^ y.toNat) wn).1.length
    · rw [List.take_append_of_le_length (by omega), List.length_cons, gDA, gR_cut hw hx j h]
      simp
    · have e : ((gx (p ^^^ y.toNat) wn).1 ++ gE y.toNat (gx (p ^^^ y.toNat) wn).2 t).take j = (gx (p ^^^ y.toNat) wn).1 ++ (gE y.toNat (gx (p ^^^ y.toNat) wn).2 t).take (j - (gx (p ^^^ y.toNat) wn).1.length) := by
        rw [List.take_append, List.take_of_length_le (by omega)]
      rw [e, List.length_cons, gDA, gR_gx hw hx]
      simp only [ne_eq, not_true_eq_false, if_false, xor_twice]
      exact ih _ _ _ _ (fun z hz => hu z (List.mem_cons_of_mem _ hz)) (by omega) (hw.next hx) (by omega)
theorem gRd_GB {l : List Int} (hu : U64 l) (r : List Bool) : gRd (GB l ++ r) l.length = (l, 0) := by
  cases l with
  | nil => rfl
  | cons y t =>
    have hy := hu y List.mem_cons_self
    have l64 : (bitsOf y.toNat 64).length = 64 := bitsOf_length _ _
    have e64 : bnum (bitsOf y.toNat 64) = y.toNat := bnum_of (by rw [p64]; omega)
    unfold gRd GB
    rw [if_neg (by simp), List.append_assoc, if_neg (by rw [List.length_append]; omega), List.take_left' l64, List.drop_left' l64, e64, List.length_cons, Nat.add_sub_cancel]
    rw [gDA_gE t _ _ _ _ (fun z hz => hu z (List.mem_cons_of_mem _ hz)) (by omega) Win.none, Int.toNat_of_nonneg hy.1]
    rfl
theorem gRd_cut {l : List Int} (hu : U64 l) (j : Nat) (hj : j < (GB l).length) : gRd ((GB l).take j) l.length = ([], 2) := by
  cases l with
  | nil => simp [GB] at hj
  | cons y t =>
    have hy := hu y List.mem_cons_self
    have l64 : (bitsOf y.toNat 64).length = 64 := bitsOf_length _ _
    have e64 : bnum (bitsOf y.toNat 64) = y.toNat := bnum_of (by rw [p64]; omega)
    unfold gRd
    unfold GB at hj ⊢
    rw [List.length_append] at hj
    rw [if_neg (by simp)]
    by_cases h : j < 64
    · rw [if_pos (by rw [List.length_take]; omega)]
    · have e : (bitsOf y.toNat 64 ++ gE y.toNat none t).take j = bitsOf y.toNat 64 ++ (gE y.toNat none t).take (j - 64) := by
        rw [List.take_append, List.take_of_length_le (by omega), l64]
      rw [e, if_neg (by rw [List.length_append]; omega), List.take_left' l64, List.drop_left' l64, e64, List.length_cons, Nat.add_sub_cancel]
      exact gDA_cut t _ _ _ _ (fun z hz => hu z (List.mem_cons_of_mem _ hz)) (by omega) Win.none (by omega)
/-- what is read are so many patterns of 64 bits -/
theorem gR_ok {wn : Option (Nat × Nat)} (hw : Win wn) (l : List Bool) (h : (gR wn l).2.2.2 = 0) : (gR wn l).1 < 18446744073709551616 ∧ Win (gR wn l).2.1 := by
  have key : ∀ (c : List Bool) (a z m : Nat), c.length ≤ m → m + z + a ≤ 64 → bnum c * 2 ^ z < 18446744073709551616 := by
    intro c a z m hc hm
    have h1 := bnum_lt c
    have h2 : 2 ^ c.length ≤ 2 ^ m := Nat.pow_le_pow_right (by omega) hc
    have h3 : bnum c * 2 ^ z < 2 ^ m * 2 ^ z := Nat.mul_lt_mul_of_pos_right (by omega) (Nat.two_pow_pos z)
    rw [← Nat.pow_add] at h3
    have h4 : 2 ^ (m + z) ≤ 2 ^ 64 := Nat.pow_le_pow_right (by omega) (by omega)
    rw [p64] at h4
    omega
  match l, h with
  | [], h => exact absurd h (by simp [gR])
  | false :: r, _ => exact ⟨by simp [gR], by simpa [gR] using hw⟩
  | [true], h => exact absurd h (by simp [gR])
  | true :: false :: r, h =>
    cases wn with
    | none => exact absurd h (by simp [gR])
    | some p =>
      obtain ⟨a, z⟩ := p
      obtain ⟨w1, w2⟩ := hw a z rfl
      rw [gR] at h ⊢
      by_cases hl : r.length < 64 - a - z
      · rw [if_pos hl] at h; cases h
      · rw [if_neg hl]
        exact ⟨key _ a z (64 - a - z) (by rw [List.length_take]; omega) (by omega), hw⟩
  | true :: true :: r, h =>
    rw [gR] at h ⊢
    by_cases c1 : r.length < 5
    · rw [if_pos c1] at h; cases h
    · rw [if_neg c1] at h ⊢
      by_cases c2 : r.length < 11
      · rw [if_pos c2] at h; cases h
      · rw [if_neg c2] at h ⊢
        by_cases c3 : 63 < bnum (r.take 5) + bnum ((r.drop 5).take 6)
        · rw [if_pos c3] at h; cases h
        · rw [if_neg c3] at h ⊢
          by_cases c4 : r.length < 12 + bnum ((r.drop 5).take 6)
          · rw [if_pos c4] at h; cases h
          · rw [if_neg c4]
            have hb := bnum_lt (r.take 5)
            have hb2 : (r.take 5).length = 5 := by rw [List.length_take]; omega
            rw [hb2] at hb
            refine ⟨key _ (bnum (r.take 5)) _ (bnum ((r.drop 5).take 6) + 1) (by rw [List.length_take]; omega) (by omega), ?_⟩
            intro a z e
            simp only [Option.some.injEq, Prod.mk.injEq] at e
            obtain ⟨rfl, rfl⟩ := e
            have : (2 : Nat) ^ 5 = 32 := by decide
            omega
theorem gDA_ok : ∀ (n : Nat) (acc : List Int) (p : Nat) (wn : Option (Nat × Nat)) (l : List Bool), U64 acc → p < 18446744073709551616 → Win wn → (gDA n acc p wn l).2 = 0 → U64 (gDA n acc p wn l).1 ∧ (gDA n acc p wn l).1.length = acc.length + n
  | 0, acc, _, _, _, hu, _, _, _ => ⟨hu, rfl⟩
  | n + 1, acc, p, wn, l, hu, hp, hw, h => by
    rw [gDA] at h ⊢
    by_cases hc : (gR wn l).2.2.2 ≠ 0
    · rw [if_pos hc] at h; exact absurd h hc
    · rw [if_neg hc] at h ⊢
      obtain ⟨h1, h2⟩ := gR_ok hw l (by simpa using hc)
      have hx := xor_lt hp h1
      obtain ⟨h3, h4⟩ := gDA_ok n _ _ _ _ (fun y hy => by
        rcases List.mem_append.1 hy with h | h
        · exact hu y h
        · simp at h; omega) hx h2 h
      exact ⟨h3, by rw [h4, List.length_append]; simp; omega⟩
theorem gDA_err : ∀ (n : Nat) (acc : List Int) (p : Nat) (wn : Option (Nat × Nat)) (l : List Bool), (gDA n acc p wn l).2 ≠ 0 → (gDA n acc p wn l).1 = []
  | 0, _, _, _, _, h => absurd rfl h
  | n + 1, acc, p, wn, l, h => by
    rw [gDA] at h ⊢
    by_cases hc : (gR wn l).2.2.2 ≠ 0
    · rw [if_pos hc]
    · rw [if_neg hc] at h ⊢
      exact gDA_err n _ _ _ _ h
theorem gRd_ok {l : List Bool} {n : Nat} (h : (gRd l n).2 = 0) : U64 (gRd l n).1 ∧ (gRd l n).1.length = n := by
  unfold gRd at *
  by_cases h0 : n = 0
  · rw [if_pos h0]; exact ⟨fun x hx => by simp at hx, by simp [h0]⟩
  · rw [if_neg h0] at h ⊢
    by_cases h1 : l.length < 64
    · rw [if_pos h1] at h; cases h
    · rw [if_neg h1] at h ⊢
      have hb := bnum_lt (l.take 64)
      have hl : (l.take 64).length = 64 := by rw [List.length_take]; omega
      rw [hl, p64] at hb
      obtain ⟨h2, h3⟩ := gDA_ok (n - 1) _ _ _ _ (fun y hy => by simp at hy; omega) hb Win.none h
      exact ⟨h2, by rw [h3]; simp; omega⟩
theorem gRd_err {l : List Bool} {n : Nat} (h : (gRd l n).2 ≠ 0) : (gRd l n).1 = [] := by
  unfold gRd at *
  by_cases h0 : n = 0
  · rw [if_pos h0]
  · rw [if_neg h0] at h ⊢
    by_cases h1 : l.length < 64
    · rw [if_pos h1]
    · rw [if_neg h1] at h ⊢
      exact gDA_err _ _ _ _ _ h
end Go.Proofs.YthapipgaohlgdabGreatDoor

/- Patterns as bytes: there and back, cut off, one byte more; only what differs counts; a list cut off. -/
namespace Go.Proofs.YthapipgaohlgdabGreatDoor
open Go.RowKit

def ENC9 (l : List Int) : List Int × Int := if 65536 < l.length then ([], 4) else (bytesI (GB l), 0)
def DEC9 (b : List Int) (n : Int) : List Int × Int :=
  if n < 0 ∨ 65536 < n then ([], 1) else
  if (gRd (allBits b) n.toNat).2 ≠ 0 then ([], (gRd (allBits b) n.toNat).2) else
  if (ENC9 (gRd (allBits b) n.toNat).1).1 = b then ((gRd (allBits b) n.toNat).1, 0) else ([], 3)

theorem ENC9_of {l : List Int} (hl : l.length ≤ 65536) : ENC9 l = (bytesI (GB l), 0) := if_neg (by omega)
theorem ENC9_rng (l : List Int) : ∀ y ∈ (ENC9 l).1, 0 ≤ y ∧ y ≤ 255 := by
  unfold ENC9
  by_cases h : 65536 < l.length
  · rw [if_pos h]; intro y hy; simp at hy
  · rw [if_neg h]; exact bytesI_rng _
theorem gx_len (x : Nat) {wn : Option (Nat × Nat)} : (gx x wn).1.length ≤ 77 ∧ 1 ≤ (gx x wn).1.length := by
  have hn : ∀ x, (newW x).length ≤ 77 ∧ 1 ≤ (newW x).length := fun x => by
    unfold newW
    simp only [List.length_cons, List.length_append, bitsOf_length]
    omega
  unfold gx
  by_cases h0 : x = 0
  · rw [if_pos h0]; exact ⟨by simp, by simp⟩
  · rw [if_neg h0]
    cases wn with
    | none => exact hn x
    | some p =>
      obtain ⟨a, z⟩ := p
      simp only
      by_cases hf : fitsW x a z
      · rw [if_pos hf]
        simp only [List.length_cons, bitsOf_length]
        omega
      · rw [if_neg hf]; exact hn x
theorem gE_len (l : List Int) : ∀ (p : Nat) (wn : Option (Nat × Nat)), (gE p wn l).length ≤ 77 * l.length ∧ l.length ≤ (gE p wn l).length := by
  induction l with
  | nil => intro p wn; simp [gE]
  | cons y t ih =>
    intro p wn
    rw [gE, List.length_append, List.length_cons]
    have h1 := gx_len (p ^^^ y.toNat) (wn := wn)
    have h2 := ih y.toNat (gx (p ^^^ y.toNat) wn).2
    omega
theorem GB_len (l : List Int) : (GB l).length ≤ 77 * l.length ∧ l.length ≤ (GB l).length := by
  cases l with
  | nil => simp [GB]
  | cons y t =>
    have h := gE_len t y.toNat none
    unfold GB
    rw [List.length_append, bitsOf_length, List.length_cons]
    omega
theorem nb_lt {l : List Bool} {k : Nat} (h : k < nb l) : 8 * k < l.length := by unfold nb at h; omega
theorem allBits_take8 (ys : List Int) (k : Nat) (h : k ≤ ys.length) : allBits (ys.take k) = (allBits ys).take (8 * k) := by
  have e := allBits_append (ys.take k) (ys.drop k)
  rw [List.take_append_drop] at e
  have hl : (allBits (ys.take k)).length = 8 * k := by rw [allBits_length, List.length_take]; omega
  rw [e, List.take_left' hl]
theorem DEC9_ENC9 {l : List Int} (hu : U64 l) (hl : l.length ≤ 65536) : DEC9 (ENC9 l).1 l.length = (l, 0) := by
  have e : gRd (allBits (ENC9 l).1) l.length = (l, 0) := by
    rw [ENC9_of hl]
    simp only [bits_back]
    exact gRd_GB hu _
  unfold DEC9
  rw [if_neg (by omega), Int.toNat_natCast, e]
  simp
theorem DEC9_more {l : List Int} (hu : U64 l) (hl : l.length ≤ 65536) {r : List Int} (hr : r ≠ []) : DEC9 ((ENC9 l).1 ++ r) l.length = ([], 3) := by
  have e : gRd (allBits ((ENC9 l).1 ++ r)) l.length = (l, 0) := by
    rw [allBits_append, ENC9_of hl]
    simp only [bits_back, List.append_assoc]
    exact gRd_GB hu _
  unfold DEC9
  rw [if_neg (by omega), Int.toNat_natCast, e]
  simp only [ne_eq, not_true_eq_false, if_false]
  rw [if_neg (fun h => hr (List.self_eq_append_right.1 h))]
theorem DEC9_cut {l : List Int} (hu : U64 l) (hl : l.length ≤ 65536) {k : Nat} (hk : k < (ENC9 l).1.length) : DEC9 ((ENC9 l).1.take k) l.length = ([], 2) := by
  have e : gRd (allBits ((ENC9 l).1.take k)) l.length = ([], 2) := by
    rw [allBits_take8 _ _ (by omega)]
    rw [ENC9_of hl] at hk ⊢
    simp only [bytesI_length] at hk
    have h8 := nb_lt hk
    simp only [bits_back]
    rw [List.take_append_of_le_length (by omega)]
    exact gRd_cut hu _ h8
  unfold DEC9
  rw [if_neg (by omega), Int.toNat_natCast, e]
  simp
theorem DEC9_ok {b : List Int} {n : Int} (h : (DEC9 b n).2 = 0) : 0 ≤ n ∧ n ≤ 65536 ∧ ((DEC9 b n).1.length : Int) = n ∧ U64 (DEC9 b n).1 ∧ ENC9 (DEC9 b n).1 = (b, 0) := by
  unfold DEC9 at *
  by_cases hn : n < 0 ∨ 65536 < n
  · rw [if_pos hn] at h; cases h
  · rw [if_neg hn] at h ⊢
    by_cases hR : (gRd (allBits b) n.toNat).2 ≠ 0
    · rw [if_pos hR] at h; exact absurd h hR
    · rw [if_neg hR] at h ⊢
      by_cases hE : (ENC9 (gRd (allBits b) n.toNat).1).1 = b
      · rw [if_pos hE]
        obtain ⟨h1, h2⟩ := gRd_ok (l := allBits b) (n := n.toNat) (by simpa using hR)
        refine ⟨by omega, by omega, by simp only [h2]; omega, h1, ?_⟩
        have h3 := ENC9_of (l := (gRd (allBits b) n.toNat).1) (by rw [h2]; omega)
        rw [h3] at hE ⊢
        simp only at hE
        simp only [hE]
      · rw [if_neg hE] at h; cases h
theorem DEC9_err {b : List Int} {n : Int} (h : (DEC9 b n).2 ≠ 0) : (DEC9 b n).1 = [] := by
  unfold DEC9 at *
  by_cases hn : n < 0 ∨ 65536 < n
  · rw [if_pos hn]
  · rw [if_neg hn] at h ⊢
    by_cases hR : (gRd (allBits b) n.toNat).2 ≠ 0
    · rw [if_pos hR]
    · rw [if_neg hR] at h ⊢
      by_cases hE : (ENC9 (gRd (allBits b) n.toNat).1).1 = b
      · rw [if_pos hE] at h; exact absurd rfl h
      · rw [if_neg hE]

/-! only what differs counts -/
def msk (m : Nat) (l : List Int) : List Int := l.map fun y => ((y.toNat ^^^ m : Nat) : Int)
theorem xor_mask (p y m : Nat) : (p ^^^ m) ^^^ (y ^^^ m) = p ^^^ y := by
  rw [Nat.xor_assoc, ← Nat.xor_assoc m y m, Nat.xor_comm m y, Nat.xor_assoc y m m, Nat.xor_self, Nat.xor_zero]
theorem gE_mask (m : Nat) (l : List Int) : ∀ (p : Nat) (wn : Option (Nat × Nat)), gE (p ^^^ m) wn (msk m l) = gE p wn l := by
  induction l with
  | nil => intro p wn; rfl
  | cons y t ih =>
    intro p wn
    show (gx ((p ^^^ m) ^^^ (((y.toNat ^^^ m : Nat) : Int)).toNat) wn).1 ++ gE (((y.toNat ^^^ m : Nat) : Int)).toNat (gx ((p ^^^ m) ^^^ (((y.toNat ^^^ m : Nat) : Int)).toNat) wn).2 (msk m t) = _
    rw [Int.toNat_natCast, xor_mask, ih]
    rfl
theorem GB_mask (m : Nat) (l : List Int) (hl : l ≠ []) : (GB (msk m l)).drop 64 = (GB l).drop 64 ∧ (GB (msk m l)).length = (GB l).length := by
  cases l with
  | nil => exact absurd rfl hl
  | cons y t =>
    have e : GB (msk m (y :: t)) = bitsOf (y.toNat ^^^ m) 64 ++ gE (y.toNat ^^^ m) none (msk m t) := by
      show bitsOf (((y.toNat ^^^ m : Nat) : Int)).toNat 64 ++ gE (((y.toNat ^^^ m : Nat) : Int)).toNat none (msk m t) = _
      rw [Int.toNat_natCast]
    rw [e, gE_mask]
    unfold GB
    rw [List.drop_left' (bitsOf_length _ _), List.drop_left' (bitsOf_length _ _)]
    simp [bitsOf_length]
theorem bytesI_drop (l : List Bool) (k : Nat) (h : 8 * k ≤ l.length) : bytesI (l.drop (8 * k)) = (bytesI l).drop k := by
  apply List.ext_getElem?
  intro i
  have hn : nb (l.drop (8 * k)) = nb l - k := by unfold nb; rw [List.length_drop]; omega
  have hb : byteAt (l.drop (8 * k)) i = byteAt l (k + i) := by
    have hg : ∀ q, (l.drop (8 * k)).getD q false = l.getD (8 * k + q) false := fun q => by
      rw [List.getD_eq_getElem?_getD, List.getD_eq_getElem?_getD, List.getElem?_drop]
    unfold byteAt
    simp only [hg]
    rw [show 8 * (k + i) = 8 * k + 8 * i by omega]
    simp only [Nat.add_assoc]
  rw [List.getElem?_drop]
  unfold bytesI
  by_cases hi : i < nb l - k
  · rw [List.getElem?_map, List.getElem?_map, List.getElem?_range (by omega), List.getElem?_range (by omega)]
    simp only [Option.map_some, hb]
  · rw [List.getElem?_eq_none (by simp; omega), List.getElem?_eq_none (by simp; omega)]

/-! a list cut off; equal ones -/
theorem gE_app (l t : List Int) : ∀ (p : Nat) (wn : Option (Nat × Nat)), ∃ q wn', gE p wn (l ++ t) = gE p wn l ++ gE q wn' t := by
  induction l with
  | nil => intro p wn; exact ⟨p, wn, rfl⟩
  | cons y r ih =>
    intro p wn
    obtain ⟨q, wn', e⟩ := ih y.toNat (gx (p ^^^ y.toNat) wn).2
    refine ⟨q, wn', ?_⟩
    rw [List.cons_append, gE, gE, e, List.append_assoc]
theorem GB_take (l : List Int) (k : Nat) : ∃ r, GB l = GB (l.take k) ++ r := by
  cases l with
  | nil => exact ⟨[], by simp [GB]⟩
  | cons y t =>
    cases k with
    | zero => exact ⟨_, rfl⟩
    | succ k =>
      obtain ⟨q, wn', e⟩ := gE_app (t.take k) (t.drop k) y.toNat none
      rw [List.take_append_drop] at e
      refine ⟨gE q wn' (t.drop k), ?_⟩
      rw [List.take_succ_cons]
      show bitsOf y.toNat 64 ++ gE y.toNat none t = (bitsOf y.toNat 64 ++ gE y.toNat none (t.take k)) ++ gE q wn' (t.drop k)
      rw [e, List.append_assoc]
theorem nb_mono {a b : List Bool} (h : a.length ≤ b.length) : nb a ≤ nb b := by unfold nb; omega
theorem gE_same (v : Int) (wn : Option (Nat × Nat)) : ∀ k, gE v.toNat wn (List.replicate k v) = List.replicate k false
  | 0 => rfl
  | k + 1 => by
    rw [List.replicate_succ, gE, Nat.xor_self]
    have e : gx 0 wn = ([false], wn) := by unfold gx; rw [if_pos rfl]
    rw [e, gE_same v wn k]
    rfl
theorem GB_same (v : Int) (k : Nat) : GB (List.replicate (k + 1) v) = bitsOf v.toNat 64 ++ List.replicate k false := by
  rw [List.replicate_succ]
  show bitsOf v.toNat 64 ++ gE v.toNat none (List.replicate k v) = _
  rw [gE_same]

theorem GB_ex : GB [5, 5] = bitsOf 5 64 ++ [false] := GB_same 5 1
theorem ENC9_ex : ENC9 [5, 5] = ([0, 0, 0, 0, 0, 0, 0, 5, 0], 0) := by decide +kernel
theorem u64_ex9 : U64 [5, 5] := by intro x hx; simp at hx; omega
theorem DEC9_ex : DEC9 [0, 0, 0, 0, 0, 0, 0, 5, 0] 2 = ([5, 5], 0) := by
  have := DEC9_ENC9 u64_ex9 (by decide)
  rw [ENC9_ex] at this
  exact this
end Go.Proofs.YthapipgaohlgdabGreatDoor

/- math/bits.TrailingZeros64 over its table, and package gorilla's window. -/
namespace Go.Proofs.YthapipgaohlgdabGreatDoor
open Go.RowKit

/-- the table of the lowest bits' places lies in its variable -/
def Tab (w : World) : Prop := ∀ j, j < 64 → w.cell? ⟨0, j, none⟩ = some (.int .u8 ((Lib.deBruijn64tab.getD j 0 : Nat) : Int))
theorem Tab.pos {w : World} (h : Tab w) : 0 < w.heap.size := by
  rcases Nat.eq_zero_or_pos w.heap.size with e | e
  · have := h 0 (by omega)
    have e2 : w.heap[0]? = none := Array.getElem?_eq_none (by omega)
    simp [World.cell?, e2] at this
  · exact e
theorem Tab.keep {w w' : World} (h : Tab w) {S : Nat → Prop} (o : Only S w w') (hs : ¬ S 0) : Tab w' := by
  intro j hj
  have e := o.block 0 h.pos hs
  have := h j hj
  simpa [World.cell?, e] using this
theorem Tab.past {w w' : World} (h : Tab w) (o : Only (fun _ => False) w w') : Tab w' := h.keep o (fun f => f)
theorem Tab.below {w w' : World} {N : Nat} (h : Tab w) (o : Below N w w') (hN : 0 < N) : Tab w' := by
  intro j hj
  have e := o.block 0 hN
  have := h j hj
  simpa [World.cell?, e] using this

theorem ctz_tz : ∀ (f x : Nat), Lib.ctzFrom f x = tzF f x
  | 0, _ => rfl
  | f + 1, x => by
    rw [Lib.ctzFrom, tzF]
    by_cases h : x % 2 = 1
    · rw [if_pos h, if_neg (by omega)]
    · rw [if_neg h, if_pos (by omega), ctz_tz f (x / 2)]; omega
theorem low_bit {x : Nat} (h0 : 0 < x) (hx : x < 18446744073709551616) : x &&& (18446744073709551616 - x) = 2 ^ tz x ∧ tz x < 64 := by
  have h := Lib.lowest_bit 64 x (by omega) (by rw [p64]; exact hx)
  have e : Lib.ctz 64 x = tz x := by unfold Lib.ctz tz; rw [if_neg (by omega), ctz_tz]
  rw [e, p64] at h
  exact h
theorem tz_key {n a : Nat} (hn : n < 18446744073709551616) (h0 : 0 < n) (hlow : n &&& (18446744073709551616 - n) = a) :
    IntKind.u64.wrap (bits BinOp.and IntKind.u64 (n : Int) (IntKind.u64.wrap (-(n : Int))) * 285870213051353865) / 288230376151711744 = ((a * 285870213051353865 % 18446744073709551616 / 288230376151711744 : Nat) : Int) := by
  have e1 : IntKind.u64.wrap (-(n : Int)) = ((18446744073709551616 - n : Nat) : Int) := by rw [IntKind.wrap_u64]; omega
  rw [e1, bits_and_u64_nat n _ hn (by omega), hlow, IntKind.wrap_u64]
  omega
set_option maxHeartbeats 1000000 in
theorem tz_core (n k i : Nat) (w : World) (hne : ((n : Int) == 0) = false)
    (key : IntKind.u64.wrap (bits BinOp.and IntKind.u64 (n : Int) (IntKind.u64.wrap (-(n : Int))) * 285870213051353865) / 288230376151711744 = (i : Int))
    (hi : i < 64) (hk : k < 64) (hc : w.cell? ⟨0, i, none⟩ = some (.int .u8 k)) :
    Calls Tryz.prog 127 #[.int .u64 n] w fun e w' => e = .returned (.int .i64 k) ∧ w = w' := by
  go_enter Tryz.func127, Tryz.ntmps127
  go_wp2_with (simp only [key])
  go_ret
  exact ⟨rfl, rfl⟩
theorem tz_any (x : Int) (w : World) (h0 : 0 < x) (hx : x ≤ 18446744073709551615) (hT : Tab w) :
    Calls Tryz.prog 127 #[.int .u64 x] w fun e w' => e = .returned (.int .i64 (tz x.toNat : Int)) ∧ w = w' := by
  obtain ⟨n, rfl⟩ := Int.eq_ofNat_of_zero_le (show 0 ≤ x by omega)
  rw [Int.toNat_natCast]
  obtain ⟨h1, hk⟩ := low_bit (x := n) (by omega) (by omega)
  generalize tz n = k at *
  obtain ⟨hi, ht⟩ := Lib.deBruijn64_at k hk
  have hc := hT _ hi
  rw [ht] at hc
  have key := tz_key (by omega) (by omega) h1
  exact tz_core n k _ w (by rw [beq_eq_false_iff_ne]; omega) key hi hk hc

/-! the window -/
theorem Tryz.sizeWin : (Tryz.prog.info? 124).map (·.size) = some 2 := by kernel_rfl
set_option maxHeartbeats 1000000 in
theorem isNone_yes (w : World) :
    Calls Tryz.prog 111 #[.agg #[.int .i64 0, .int .i64 0]] w fun e w' => e = .returned (.bool true) ∧ Only (fun _ => False) w w' := by
  go_enter Tryz.func111, Tryz.ntmps111
  go_wp2
  go_ret
  exact ⟨rfl, (Only.refl _ _).alloc _⟩
set_option maxHeartbeats 1000000 in
theorem isNone_no (a d : Nat) (w : World) (hd : ¬ d = 0) :
    Calls Tryz.prog 111 #[.agg #[.int .i64 a, .int .i64 d]] w fun e w' => e = .returned (.bool false) ∧ Only (fun _ => False) w w' := by
  go_enter Tryz.func111, Tryz.ntmps111
  go_wp2
  all_goals go_ret
  all_goals exact ⟨rfl, (Only.refl _ _).alloc _⟩
set_option maxHeartbeats 1000000 in
theorem trail_any (a d : Nat) (w : World) (ha : a ≤ 64) (hd : d ≤ 64) :
    Calls Tryz.prog 114 #[.agg #[.int .i64 a, .int .i64 d]] w fun e w' => e = .returned (.int .i64 (64 - (a : Int) - d)) ∧ Only (fun _ => False) w w' := by
  go_enter Tryz.func114, Tryz.ntmps114
  go_wp2
  go_ret
  exact ⟨rfl, (Only.refl _ _).alloc _⟩
set_option maxHeartbeats 1000000 in
theorem windowOf_any (x : Int) (w : World) (h0 : 0 < x) (hx : x ≤ 18446744073709551615) (hT : Tab w) :
    Calls Tryz.prog 113 #[.int .u64 x] w fun e w' => e = .returned (.agg #[.int .i64 (ldz x.toNat : Int), .int .i64 ((64 - ldz x.toNat - tz x.toNat : Nat) : Int)]) ∧ Only (fun _ => False) w w' := by
  obtain ⟨hn1, hn2, hn3⟩ := win_new (x := x.toNat) (by omega) (by omega)
  have hw := wid_le64 x.toNat (by omega)
  have T1 := hideIt (hT.past ((Only.refl (fun _ => False) w).alloc (.cells #[.int .i64 0, .int .i64 0] 124)))
  have W1 := hideIt (width_any x (w.alloc (.cells #[.int .i64 0, .int .i64 0] 124)) (by omega) hx)
  have Z1 := hideIt (tz_any x (w.alloc (.cells #[.int .i64 0, .int .i64 0] 124)) h0 hx T1.out)
  have hld : Hid (ldz x.toNat = min (64 - wid x.toNat) 31) := rfl
  generalize wid x.toNat = q at *
  generalize tz x.toNat = z at *
  generalize ldz x.toNat = a at *
  go_enter Tryz.func113, Tryz.ntmps113
  go_wp2_with fail
  refine W1.out.mono ?_
  rintro e w1 ⟨rfl, rfl⟩
  go_wp2_with fail
  all_goals
    refine Z1.out.mono ?_
    rintro e w1 ⟨rfl, rfl⟩
    go_wp2
    refine bodyPost_ret (results_cell_row rfl _ _ w.heap.size 124 _ (0, 0) _ rfl (heap_alloc_last w _) Tryz.underlying124 rfl Tryz.sizeWin) rfl ⟨?_, (Only.refl _ _).alloc _⟩
    have hl := hld.out
  · obtain rfl : a = 31 := by omega
    have e1 : ((64 - 31 - z : Nat) : Int) = 33 - (z : Int) := by omega
    rw [e1]; rfl
  · have e0 : (64 : Int) - (q : Int) = (a : Int) := by omega
    have e1 : ((64 - a - z : Nat) : Int) = 64 - (a : Int) - (z : Int) := by omega
    rw [e0, e1]
end Go.Proofs.YthapipgaohlgdabGreatDoor

/- The table that the program's own text lays: from the row's condition to the walks' fact, and a world that meets it. -/
namespace Go.Proofs.YthapipgaohlgdabGreatDoor
open Go.RowKit

abbrev laid1 : List (String × DataW Unit) := [("math/bits.deBruijn64tab", Rows.laid_math_bits_deBruijn64tab)]
theorem gTab : Tryz.prog.globalNamed "math/bits.deBruijn64tab" = some 0 := by kernel_rfl
theorem gTabType : (Tryz.prog.globals[0]?).map (·.type) = some 157 := by kernel_rfl
theorem cellsB : Tryz.prog.cellsOf 5 = 1 := by kernel_rfl
theorem cellsTab : Tryz.prog.cellsOf 157 = 64 := by kernel_rfl
theorem laid_tab : (Rows.laid_math_bits_deBruijn64tab : DataW Unit) = Lib.tabData .u8 (Lib.deBruijn64tab.map fun n : Nat => (n : Int)) := by kernel_rfl
theorem tab_of_laid {W : World} (h : laidMetH Tryz.prog laid1 W) : Tab W := by
  rw [MakeChecks.laidMetH_plain _ _ _ (by kernel_rfl)] at h
  unfold laid1 at h
  rw [laid_tab] at h
  have hT := Lib.tabIs_of_head gTab gTabType Tryz.underlying157 Tryz.underlying5 cellsB cellsTab h
  intro j hj
  have hl : (Lib.deBruijn64tab.map fun n : Nat => (n : Int)).length = 64 := by rw [List.length_map]; decide
  have hc := hT.cell gTab j (by omega)
  rw [hc]
  have e : (Lib.deBruijn64tab.map fun n : Nat => (n : Int)).getD j 0 = ((Lib.deBruijn64tab.getD j 0 : Nat) : Int) := by
    rw [List.getD_eq_getElem?_getD, List.getD_eq_getElem?_getD, List.getElem?_map]
    cases Lib.deBruijn64tab[j]? <;> rfl
  rw [e]
/-- The door's own heap meets the condition. -/
theorem door_met (os : Os) (args : Array Value) : laidMetH Tryz.prog laid1 ((World.doorLaid Tryz.prog 400 os).forCall (fun _ _ => 0) ⟨#[], args, []⟩).memory :=
  laidMetH_of_parts3 (fuel := 8) (laidMet_of_run' 8 (by kernel_rfl) (by kernel_rfl)) (by kernel_rfl) (by kernel_rfl)
end Go.Proofs.YthapipgaohlgdabGreatDoor

/- Several texts in one: Fm. -/
import Derived.Test.YthapipgaohlgdabGreatDoorG2
import Derived.Test.YthapipgaohlgdabGreatDoorG3

/- Numbers above their least one, as lists: the least and the greatest, what is packed, what is read back. -/
namespace Go.Proofs.YthapipgaohlgdabGreatDoor
open Go.RowKit

def loF (a : Int) (l : List Int) : Int := l.foldl (fun m x => min m x) a
def hiF (a : Int) (l : List Int) : Int := l.foldl (fun m x => max m x) a
def lo (l : List Int) : Int := loF (l.getD 0 0) (l.drop 1)
def hi (l : List Int) : Int := hiF (l.getD 0 0) (l.drop 1)

theorem loF_le (l : List Int) : ∀ a, loF a l ≤ a ∧ ∀ x ∈ l, loF a l ≤ x := by
  induction l with
  | nil => intro a; simp [loF]
  | cons b t ih =>
    intro a
    obtain ⟨h1, h2⟩ := ih (min a b)
    have e : loF a (b :: t) = loF (min a b) t := rfl
    rw [e]
    refine ⟨by omega, fun x hx => ?_⟩
    rcases List.mem_cons.1 hx with rfl | hx
    · omega
    · exact h2 x hx
theorem hiF_ge (l : List Int) : ∀ a, a ≤ hiF a l ∧ ∀ x ∈ l, x ≤ hiF a l := by
  induction l with
  | nil => intro a; simp [hiF]
  | cons b t ih =>
    intro a
    obtain ⟨h1, h2⟩ := ih (max a b)
    have e : hiF a (b :: t) = hiF (max a b) t := rfl
    rw [e]
    refine ⟨by omega, fun x hx => ?_⟩
    rcases List.mem_cons.1 hx with rfl | hx
    · omega
    · exact h2 x hx
theorem loF_mem (l : List Int) : ∀ a, loF a l = a ∨ loF a l ∈ l := by
  induction l with
  | nil => intro a; simp [loF]
  | cons b t ih =>
    intro a
    have e : loF a (b :: t) = loF (min a b) t := rfl
    rw [e]
    rcases ih (min a b) with h | h
    · rw [h]
      rcases Int.le_total a b with h' | h'
      · left; omega
      · right; rw [show min a b = b by omega]; exact List.mem_cons_self
    · exact .inr (List.mem_cons_of_mem _ h)
theorem hiF_mem (l : List Int) : ∀ a, hiF a l = a ∨ hiF a l ∈ l := by
  induction l with
  | nil => intro a; simp [hiF]
  | cons b t ih =>
    intro a
    have e : hiF a (b :: t) = hiF (max a b) t := rfl
    rw [e]
    rcases ih (max a b) with h | h
    · rw [h]
      rcases Int.le_total a b with h' | h'
      · right; rw [show max a b = b by omega]; exact List.mem_cons_self
      · left; omega
    · exact .inr (List.mem_cons_of_mem _ h)
theorem loF_snoc (a : Int) (l : List Int) (x : Int) : loF a (l ++ [x]) = min (loF a l) x := by simp [loF]
theorem hiF_snoc (a : Int) (l : List Int) (x : Int) : hiF a (l ++ [x]) = max (hiF a l) x := by simp [hiF]
theorem lo_cons (a : Int) (t : List Int) : lo (a :: t) = loF a t := rfl
theorem hi_cons (a : Int) (t : List Int) : hi (a :: t) = hiF a t := rfl
theorem lo_nil : lo [] = 0 := rfl
theorem hi_nil : hi [] = 0 := rfl
theorem lo_le (l : List Int) : ∀ x ∈ l, lo l ≤ x := by
  cases l with
  | nil => simp
  | cons a t =>
    intro x hx
    rw [lo_cons]
    rcases List.mem_cons.1 hx with rfl | hx
    · exact (loF_le t x).1
    · exact (loF_le t a).2 x hx
theorem le_hi (l : List Int) : ∀ x ∈ l, x ≤ hi l := by
  cases l with
  | nil => simp
  | cons a t =>
    intro x hx
    rw [hi_cons]
    rcases List.mem_cons.1 hx with rfl | hx
    · exact (hiF_ge t x).1
    · exact (hiF_ge t a).2 x hx
theorem lo_mem {l : List Int} (h : l ≠ []) : lo l ∈ l := by
  cases l with
  | nil => exact absurd rfl h
  | cons a t =>
    rw [lo_cons]
    rcases loF_mem t a with h | h
    · rw [h]; exact List.mem_cons_self
    · exact List.mem_cons_of_mem _ h
theorem hi_mem {l : List Int} (h : l ≠ []) : hi l ∈ l := by
  cases l with
  | nil => exact absurd rfl h
  | cons a t =>
    rw [hi_cons]
    rcases hiF_mem t a with h | h
    · rw [h]; exact List.mem_cons_self
    · exact List.mem_cons_of_mem _ h
theorem lohi {l : List Int} (h : U64 l) : 0 ≤ lo l ∧ lo l ≤ hi l ∧ hi l ≤ 18446744073709551615 := by
  by_cases hne : l = []
  · subst hne; rw [lo_nil, hi_nil]; omega
  · have h1 := h _ (lo_mem hne)
    have h2 := h _ (hi_mem hne)
    have h3 := lo_le l _ (hi_mem hne)
    omega

def wd (l : List Int) : Nat := wid (hi l - lo l).toNat
theorem wd_le {l : List Int} (h : U64 l) : wd l ≤ 64 := by
  have := lohi h
  exact wid_le64 _ (by omega)
theorem wd_fits (l : List Int) (x : Int) (hx : x ∈ l) : wid (x - lo l).toNat ≤ wd l := by
  have h1 := lo_le l x hx
  have h2 := le_hi l x hx
  exact wid_mono (by omega)
/-- the bits of all of t above a, w each -/
def ups (a : Int) (w : Nat) (t : List Int) : List Bool := t.flatMap fun x => bitsOf (x - a).toNat w
def up (l : List Int) : List Bool := ups (lo l) (wd l) l
theorem ups_length (a : Int) (w : Nat) (t : List Int) : (ups a w t).length = t.length * w := by
  induction t with
  | nil => simp [ups]
  | cons b t ih =>
    have e : ups a w (b :: t) = bitsOf (b - a).toNat w ++ ups a w t := rfl
    rw [e, List.length_append, ih, bitsOf_length, List.length_cons, Nat.add_mul]; omega
theorem ups_snoc (a : Int) (w : Nat) (t : List Int) (x : Int) : ups a w (t ++ [x]) = ups a w t ++ bitsOf (x - a).toNat w := by simp [ups]
theorem up_length (l : List Int) : (up l).length = l.length * wd l := ups_length _ _ _
/-- what l is packed to -/
def PK (l : List Int) : List Int := gs (lo l).toNat ++ ((wd l : Int) :: bytesI (up l))
theorem PK_length (l : List Int) : (PK l).length = (gs (lo l).toNat).length + 1 + (l.length * wd l + 7) / 8 := by
  unfold PK
  rw [List.length_append, List.length_cons, bytesI_length, nb, up_length]; omega
theorem PK_rng {l : List Int} (h : U64 l) : ∀ y ∈ PK l, 0 ≤ y ∧ y ≤ 255 := by
  intro y hy
  have hw := wd_le h
  unfold PK at hy
  rcases List.mem_append.1 hy with h1 | h1
  · exact gs_range _ y h1
  · rcases List.mem_cons.1 h1 with rfl | h1
    · omega
    · exact bytesI_rng _ y h1

/-- n numbers of w bits each, all greater by a, out of the bits l -/
def nums (a : Nat) (w : Nat) (l : List Bool) (n : Nat) : List Int := (List.range n).map fun i => (((a + bnum ((l.drop (i * w)).take w)) % 18446744073709551616 : Nat) : Int)
theorem nums_length (a w : Nat) (l : List Bool) (n : Nat) : (nums a w l n).length = n := by simp [nums]
theorem nums_succ (a w : Nat) (l : List Bool) (n : Nat) : nums a w l (n + 1) = nums a w l n ++ [(((a + bnum ((l.drop (n * w)).take w)) % 18446744073709551616 : Nat) : Int)] := by simp [nums, List.range_succ]
theorem nums_u64 (a w : Nat) (l : List Bool) (n : Nat) : U64 (nums a w l n) := by
  intro x hx
  simp only [nums, List.mem_map, List.mem_range] at hx
  obtain ⟨i, _, rfl⟩ := hx
  have := Nat.mod_lt (a + bnum ((l.drop (i * w)).take w)) (show 0 < 18446744073709551616 by decide)
  omega

/-- what reading the numbers tells: an error, or none and the numbers -/
def rdl (b : List Int) (n : Nat) : Int × List Int :=
  if (sVarint b).2.2 ≠ 0 then ((sVarint b).2.2, []) else
  if (b.drop (sVarint b).2.1).length = 0 then (2, []) else
  if 64 < (b.drop (sVarint b).2.1).getD 0 0 then (3, []) else
  if 8 * (b.drop ((sVarint b).2.1 + 1)).length < n * ((b.drop (sVarint b).2.1).getD 0 0).toNat then (2, []) else
  (0, nums (sVarint b).1.toNat ((b.drop (sVarint b).2.1).getD 0 0).toNat (allBits (b.drop ((sVarint b).2.1 + 1))) n)
theorem rdl_err {b : List Int} {c : Int} (n : Nat) (h : rd 0 0 b = (0, 0, c)) (hc : c ≠ 0) : rdl b n = (c, []) := by
  unfold rdl sVarint
  rw [h]; simp [hc]
theorem rdl_none (a n : Nat) (h : a < 18446744073709551616) : rdl (gs a) n = (2, []) := by
  have hs := sVarint_gs a [] h
  rw [List.append_nil] at hs
  unfold rdl
  rw [hs]; simp
theorem rdl_at (a n : Nat) (y : Int) (r : List Int) (h : a < 18446744073709551616) :
    rdl (gs a ++ y :: r) n = if 64 < y then (3, []) else if 8 * r.length < n * y.toNat then (2, []) else (0, nums a y.toNat (allBits r) n) := by
  have hd : (gs a ++ y :: r).drop (gs a).length = y :: r := by simp
  have hd1 : (gs a ++ y :: r).drop ((gs a).length + 1) = r := by rw [← List.drop_drop, hd]; rfl
  unfold rdl
  rw [sVarint_gs a _ h]
  simp only [hd, hd1, ne_eq, not_true_eq_false, if_false]
  simp
theorem rdl_len {b : List Int} {n : Nat} {l : List Int} (h : rdl b n = (0, l)) : l.length = n := by
  unfold rdl at h
  split at h
  · rename_i h0; simp at h; exact absurd h.1 h0
  · split at h
    · simp at h
    · split at h
      · simp at h
      · split at h
        · simp at h
        · simp at h; rw [← h, nums_length]
theorem rdl_u64 (b : List Int) (n : Nat) : U64 (rdl b n).2 := by
  have h0 : U64 [] := fun x hx => by simp at hx
  unfold rdl
  split
  · exact h0
  · split
    · exact h0
    · split
      · exact h0
      · split
        · exact h0
        · exact nums_u64 _ _ _ _
/-- bytes: no varint; a varint and no more; a varint, a byte, and what follows -/
theorem parse (b : List Int) (hr : ∀ y ∈ b, 0 ≤ y ∧ y ≤ 255) : (∃ c, rd 0 0 b = (0, 0, c) ∧ (c = 2 ∨ c = 3)) ∨ (∃ a : Nat, a < 18446744073709551616 ∧ b = gs a) ∨ (∃ (a : Nat) (y : Int) (r : List Int), a < 18446744073709551616 ∧ b = gs a ++ y :: r) := by
  rcases rd_cases b hr with h | ⟨a, k, h, h1, h2, h3, h4, h5⟩
  · exact .inl h
  · right
    have hb : b = gs a ++ b.drop k := by rw [h5, List.take_append_drop]
    cases hd : b.drop k with
    | nil => left; rw [hd, List.append_nil] at hb; exact ⟨a, h4, hb⟩
    | cons y r => right; rw [hd] at hb; exact ⟨a, y, r, h4, hb⟩

theorem ups_at (a : Int) (w : Nat) (t : List Int) : ∀ (i : Nat) (z : List Bool), i < t.length → ((ups a w t ++ z).drop (i * w)).take w = bitsOf (t.getD i 0 - a).toNat w := by
  induction t with
  | nil => intro i z h; simp at h
  | cons b t ih =>
    intro i z h
    have e : ups a w (b :: t) = bitsOf (b - a).toNat w ++ ups a w t := rfl
    have hl := bitsOf_length (b - a).toNat w
    cases i with
    | zero => rw [e, Nat.zero_mul, List.drop_zero, List.append_assoc, List.take_append_of_le_length (by omega), List.take_of_length_le (by omega)]; rfl
    | succ i =>
      have hd : (bitsOf (b - a).toNat w ++ (ups a w t ++ z)).drop w = ups a w t ++ z := by
        rw [List.drop_append_of_le_length (by omega), List.drop_of_length_le (l := bitsOf (b - a).toNat w) (by omega), List.nil_append]
      rw [e, List.append_assoc, Nat.add_mul, Nat.one_mul, Nat.add_comm, ← List.drop_drop, hd, ih i z (by simpa using h)]
      rfl

/-- WHAT IS PACKED IS READ BACK, whatever follows. -/
theorem pk_read {l : List Int} (h : U64 l) (t : List Int) : rdl (PK l ++ t) l.length = (0, l) := by
  obtain ⟨h1, h2, h3⟩ := lohi h
  have hw := wd_le h
  have e : PK l ++ t = gs (lo l).toNat ++ (wd l : Int) :: (bytesI (up l) ++ t) := by simp [PK]
  rw [e, rdl_at _ _ _ _ (by omega), if_neg (by omega), if_neg]
  · congr 1
    rw [Int.toNat_natCast, allBits_append, bits_back, List.append_assoc]
    apply List.ext_getElem
    · rw [nums_length]
    · intro i hi1 hi2
      have hx : l[i] ∈ l := List.getElem_mem _
      have hg : l.getD i 0 = l[i] := by rw [List.getD_eq_getElem?_getD, List.getElem?_eq_getElem hi2]; rfl
      simp only [nums, List.getElem_map, List.getElem_range]
      have hu : ∀ z, ((up l ++ z).drop (i * wd l)).take (wd l) = bitsOf (l.getD i 0 - lo l).toNat (wd l) := fun z => ups_at _ _ l i z hi2
      rw [hu, hg, num_bitsOf, Nat.mod_eq_of_lt ((wid_le_iff _ _).1 (wd_fits l _ hx))]
      have := lo_le l _ hx
      have := h _ hx
      rw [Nat.mod_eq_of_lt (by omega)]
      omega
  · rw [Int.toNat_natCast, List.length_append, bytesI_length, nb, up_length]; omega

/-- the parts of what is packed -/
theorem pk_split {l r : List Int} {a : Nat} {y : Int} (h : U64 l) (ha : a < 18446744073709551616) (e : PK l = gs a ++ y :: r) : (lo l).toNat = a ∧ (wd l : Int) = y ∧ bytesI (up l) = r := by
  obtain ⟨h1, h2, h3⟩ := lohi h
  have s1 : sVarint (PK l) = (((lo l).toNat : Int), (gs (lo l).toNat).length, 0) := sVarint_gs _ _ (by omega)
  have s2 := sVarint_gs a (y :: r) ha
  rw [← e, s1] at s2
  simp only [Prod.mk.injEq, Int.natCast_inj] at s2
  obtain ⟨s2, _⟩ := s2
  unfold PK at e
  rw [s2] at e
  have e2 := List.append_cancel_left e
  simp only [List.cons.injEq] at e2
  exact ⟨s2, e2.1, e2.2⟩

/-- so many numbers: no shorter bytes -/
theorem pk_cut {l m : List Int} {k : Nat} (h : U64 l) (hm : U64 m) (hl : m.length = l.length) (hk : k < (PK l).length) (e : PK m = (PK l).take k) : False := by
  obtain ⟨h1, h2, h3⟩ := lohi h
  obtain ⟨g1, g2, g3⟩ := lohi hm
  have s1 : sVarint (PK m) = (((lo m).toNat : Int), (gs (lo m).toNat).length, 0) := sVarint_gs _ _ (by omega)
  rcases Nat.lt_or_ge k (gs (lo l).toNat).length with hlt | hge
  · have e1 : PK m = (gs (lo l).toNat).take k := by rw [e]; unfold PK; rw [List.take_append_of_le_length (by omega)]
    rw [e1] at s1
    unfold sVarint at s1
    rw [rd_short _ 0 k 0 (by omega) (by simp; omega) hlt] at s1
    simp at s1
  · have e1 : PK m = gs (lo l).toNat ++ ((wd l : Int) :: bytesI (up l)).take (k - (gs (lo l).toNat).length) := by rw [e]; unfold PK; rw [List.take_append, List.take_of_length_le (by omega)]
    cases hd : k - (gs (lo l).toNat).length with
    | zero =>
      rw [hd, List.take_zero] at e1
      have s2 := sVarint_gs (lo l).toNat [] (by omega)
      rw [← e1, s1] at s2
      simp only [Prod.mk.injEq] at s2
      have := congrArg List.length e1
      rw [List.append_nil, PK_length] at this
      omega
    | succ j =>
      rw [hd, List.take_succ_cons] at e1
      obtain ⟨p1, p2, p3⟩ := pk_split hm (by omega) e1
      have p4 := congrArg List.length p3
      have p5 : wd m = wd l := by omega
      rw [bytesI_length, List.length_take, bytesI_length, nb, nb, up_length, up_length, p5, hl] at p4
      rw [PK_length] at hk
      omega

/-- what Pack would write again: no more than a byte's filling was left, that was 0, and no number went round -/
theorem pk_fits {a n : Nat} {y : Int} {r : List Int} (ha : a < 18446744073709551616) (e : PK (nums a y.toNat (allBits r) n) = gs a ++ y :: r) :
    bendV ((allBits r).drop (n * y.toNat)) = 0 ∧ ∀ i, i < n → a + bnum (((allBits r).drop (i * y.toNat)).take y.toNat) < 18446744073709551616 := by
  obtain ⟨m, hm⟩ : ∃ m, nums a y.toNat (allBits r) n = m := ⟨_, rfl⟩
  have hu : U64 m := by rw [← hm]; exact nums_u64 _ _ _ _
  have hlen : m.length = n := by rw [← hm]; exact nums_length _ _ _ _
  rw [hm] at e
  obtain ⟨p1, p2, p3⟩ := pk_split hu ha e
  have hy : y.toNat = wd m := by omega
  have hw := wd_le hu
  constructor
  · have := back_end (up m)
    rw [p3, up_length, hlen, ← hy] at this
    exact this
  · intro i hi
    have hb : bnum (((allBits r).drop (i * y.toNat)).take y.toNat) < 18446744073709551616 := by
      have h1 := bnum_lt (((allBits r).drop (i * y.toNat)).take y.toNat)
      have h2 : 2 ^ (((allBits r).drop (i * y.toNat)).take y.toNat).length ≤ 2 ^ 64 := Nat.pow_le_pow_right (by omega) (by rw [List.length_take]; omega)
      have h3 : (2 : Nat) ^ 64 = 18446744073709551616 := by decide
      omega
    have hx : (((a + bnum (((allBits r).drop (i * y.toNat)).take y.toNat)) % 18446744073709551616 : Nat) : Int) ∈ m := by
      rw [← hm]
      simp only [nums, List.mem_map, List.mem_range]
      exact ⟨i, hi, rfl⟩
    have h1 := lo_le m _ hx
    have h2 := (lohi hu).1
    omega

/-- what unpacking tells -/
def UN (b : List Int) (n : Int) : Int × List Int :=
  if n < 0 ∨ 65536 < n then (1, []) else
  if (rdl b n.toNat).1 ≠ 0 then ((rdl b n.toNat).1, []) else
  if PK (rdl b n.toNat).2 = b then (0, (rdl b n.toNat).2) else (3, [])
theorem UN_u64 (b : List Int) (n : Int) : U64 (UN b n).2 := by
  have h0 : U64 [] := fun x hx => by simp at hx
  unfold UN
  split
  · exact h0
  · split
    · exact h0
    · split
      · exact rdl_u64 _ _
      · exact h0
theorem UN_err (b : List Int) (n : Int) (h : (UN b n).1 ≠ 0) : (UN b n).2 = [] := by
  unfold UN at h ⊢
  split
  · rfl
  · split
    · rfl
    · split
      · rename_i h1 h2 h3; rw [if_neg h1, if_neg h2, if_pos h3] at h; simp at h
      · rfl
theorem UN_ok {b : List Int} {n : Int} (h : (UN b n).1 = 0) : PK (UN b n).2 = b ∧ ((UN b n).2.length : Int) = n ∧ n ≤ 65536 := by
  unfold UN at h ⊢
  split
  · rename_i h1; rw [if_pos h1] at h; simp at h
  · split
    · rename_i h1 h2; rw [if_neg h1, if_pos h2] at h; exact absurd h h2
    · split
      · rename_i h1 h2 h3
        have h4 : rdl b n.toNat = (0, (rdl b n.toNat).2) := by rw [← Decidable.of_not_not h2]
        have := rdl_len h4
        refine ⟨h3, ?_, by omega⟩
        show ((rdl b n.toNat).2.length : Int) = n
        omega
      · rename_i h1 h2 h3; rw [if_neg h1, if_neg h2, if_neg h3] at h; simp at h
/-- THERE AND BACK -/
theorem un_pk {l : List Int} (h : U64 l) (hl : l.length ≤ 65536) : UN (PK l) l.length = (0, l) := by
  have e := pk_read h []
  rw [List.append_nil] at e
  unfold UN
  rw [if_neg (by omega), Int.toNat_natCast, e]
  simp
theorem un_more {l t : List Int} (h : U64 l) (hl : l.length ≤ 65536) (ht : t ≠ []) : UN (PK l ++ t) l.length = (3, []) := by
  unfold UN
  rw [if_neg (by omega), Int.toNat_natCast, pk_read h t]
  simp [ht]
theorem un_cut {l : List Int} {k : Nat} (h : U64 l) (hk : k < (PK l).length) : (UN ((PK l).take k) l.length).1 ≠ 0 := by
  intro h0
  obtain ⟨h1, h2, _⟩ := UN_ok h0
  exact pk_cut h (UN_u64 _ _) (by omega) hk h1

/-! all greater by the same -/
theorem loF_add (by_ : Int) (l : List Int) : ∀ a, loF (a + by_) (l.map fun x => x + by_) = loF a l + by_ := by
  induction l with
  | nil => intro a; rfl
  | cons b t ih =>
    intro a
    have e : loF (a + by_) ((b :: t).map fun x => x + by_) = loF (min (a + by_) (b + by_)) (t.map fun x => x + by_) := rfl
    have e2 : loF a (b :: t) = loF (min a b) t := rfl
    rw [e, e2, ← ih, show min (a + by_) (b + by_) = min a b + by_ by omega]
theorem hiF_add (by_ : Int) (l : List Int) : ∀ a, hiF (a + by_) (l.map fun x => x + by_) = hiF a l + by_ := by
  induction l with
  | nil => intro a; rfl
  | cons b t ih =>
    intro a
    have e : hiF (a + by_) ((b :: t).map fun x => x + by_) = hiF (max (a + by_) (b + by_)) (t.map fun x => x + by_) := rfl
    have e2 : hiF a (b :: t) = hiF (max a b) t := rfl
    rw [e, e2, ← ih, show max (a + by_) (b + by_) = max a b + by_ by omega]
theorem ups_add (by_ a : Int) (w : Nat) (t : List Int) : ups (a + by_) w (t.map fun x => x + by_) = ups a w t := by
  simp only [ups, List.flatMap_map]
  congr 1
  funext x
  rw [show x + by_ - (a + by_) = x - a by omega]
theorem pk_add {l : List Int} (hne : l ≠ []) (by_ : Int) : PK (l.map fun x => x + by_) = gs (lo l + by_).toNat ++ ((wd l : Int) :: bytesI (up l)) := by
  have h1 : lo (l.map fun x => x + by_) = lo l + by_ := by
    cases l with
    | nil => exact absurd rfl hne
    | cons a t => exact loF_add by_ t a
  have h2 : hi (l.map fun x => x + by_) = hi l + by_ := by
    cases l with
    | nil => exact absurd rfl hne
    | cons a t => exact hiF_add by_ t a
  have h3 : wd (l.map fun x => x + by_) = wd l := by unfold wd; rw [h1, h2, show hi l + by_ - (lo l + by_) = hi l - lo l by omega]
  unfold PK up
  rw [h3, h1, ups_add]

/-! one number again and again -/
theorem loF_rep (v : Int) (n : Nat) : loF v (List.replicate n v) = v := by
  rcases loF_mem (List.replicate n v) v with h | h
  · exact h
  · exact (List.eq_of_mem_replicate h)
theorem hiF_rep (v : Int) (n : Nat) : hiF v (List.replicate n v) = v := by
  rcases hiF_mem (List.replicate n v) v with h | h
  · exact h
  · exact (List.eq_of_mem_replicate h)
theorem pk_rep (v : Int) (n : Nat) : PK (List.replicate (n + 1) v) = gs v.toNat ++ [0] := by
  have h1 : lo (List.replicate (n + 1) v) = v := loF_rep v n
  have h2 : hi (List.replicate (n + 1) v) = v := hiF_rep v n
  have h3 : wd (List.replicate (n + 1) v) = 0 := by unfold wd; rw [h1, h2, Int.sub_self]; rfl
  have h4 : up (List.replicate (n + 1) v) = [] := by
    apply List.eq_nil_of_length_eq_zero
    rw [up_length, h3, Nat.mul_zero]
  unfold PK
  rw [h1, h3, h4]; rfl

theorem pk_ex : PK [7, 9, 8] = [7, 2, 36] := by
  have h : gs (lo [7, 9, 8]).toNat = [7] := by rw [show (lo [7, 9, 8]).toNat = 7 by decide, gs_small (by omega)]; rfl
  unfold PK
  rw [h]
  decide
theorem un_ex : UN [7, 2, 36] 3 = (0, [7, 9, 8]) := by
  have h := un_pk (l := [7, 9, 8]) (by intro x hx; simp at hx; omega) (by decide)
  rw [pk_ex] at h
  exact h
end Go.Proofs.YthapipgaohlgdabGreatDoor

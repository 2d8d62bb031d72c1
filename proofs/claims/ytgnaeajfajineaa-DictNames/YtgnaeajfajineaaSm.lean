/- Package simple as plain mathematics: sorts, the least one that fits, words, what is written and what is read. -/
import Derived.Test.YtgnaeajfajineaaCu3
namespace Go.Proofs.Ytgnaeajfajineaa
open Go.RowKit

/-- the sorts: how many numbers, of how many bits -/
def tab : List (Nat × Nat) := [(240, 0), (120, 0), (60, 1), (30, 2), (20, 3), (15, 4), (12, 5), (10, 6), (8, 7), (7, 8), (6, 10), (5, 12), (4, 15), (3, 20), (2, 30), (1, 60)]
def cn (s : Nat) : Nat := (tab.getD s (0, 0)).1
def wi (s : Nat) : Nat := (tab.getD s (0, 0)).2
theorem sort_all : ∀ s : Fin 16, 1 ≤ cn s.val ∧ cn s.val ≤ 240 ∧ wi s.val ≤ 60 ∧ cn s.val * wi s.val ≤ 60 ∧ (s.val < 15 → wi s.val ≤ 30 ∧ 2 ≤ cn s.val) := by decide +kernel
theorem sort_at (s : Nat) (h : s < 16) : 1 ≤ cn s ∧ cn s ≤ 240 ∧ wi s ≤ 60 ∧ cn s * wi s ≤ 60 ∧ (s < 15 → wi s ≤ 30 ∧ 2 ≤ cn s) := sort_all ⟨s, h⟩

/-- numbers below 2^w -/
def Up (w : Nat) (xs : List Int) : Prop := ∀ x ∈ xs, 0 ≤ x ∧ x < 2 ^ w
theorem pow_mono {a b : Nat} (h : a ≤ b) : (2 : Int) ^ a ≤ 2 ^ b := by
  have : 2 ^ a ≤ 2 ^ b := Nat.pow_le_pow_right (by omega) h
  have e1 : ((2 ^ a : Nat) : Int) = 2 ^ a := by simp
  have e2 : ((2 ^ b : Nat) : Int) = 2 ^ b := by simp
  omega
theorem Up.mono {a b : Nat} {xs : List Int} (h : Up a xs) (hab : a ≤ b) : Up b xs := fun x hx => ⟨(h x hx).1, Int.lt_of_lt_of_le (h x hx).2 (pow_mono hab)⟩
theorem Up.take {a : Nat} {xs : List Int} (h : Up a xs) (n : Nat) : Up a (xs.take n) := fun x hx => h x (List.mem_of_mem_take hx)
theorem Up.drop {a : Nat} {xs : List Int} (h : Up a xs) (n : Nat) : Up a (xs.drop n) := fun x hx => h x (List.mem_of_mem_drop hx)
theorem Up.nil (a : Nat) : Up a [] := fun x hx => by cases hx
theorem Up.append {a : Nat} {xs ys : List Int} (h : Up a xs) (k : Up a ys) : Up a (xs ++ ys) := fun x hx => by
  rcases List.mem_append.1 hx with hx | hx
  · exact h x hx
  · exact k x hx

/-- are all below 2^w? -/
def small (w : Nat) (xs : List Int) : Bool := xs.all fun x => decide (x < 2 ^ w)
theorem small_up {w : Nat} {xs : List Int} (h : small w xs = true) (h0 : ∀ x ∈ xs, 0 ≤ x) : Up w xs := fun x hx => ⟨h0 x hx, by
  have := List.all_eq_true.1 h x hx
  simpa using this⟩
theorem up_small {w : Nat} {xs : List Int} (h : Up w xs) : small w xs = true := by
  unfold small
  rw [List.all_eq_true]
  intro x hx
  simpa using (h x hx).2
theorem small_snoc (w : Nat) (xs : List Int) (x : Int) : small w (xs ++ [x]) = (small w xs && decide (x < 2 ^ w)) := by simp [small]
theorem small_no {w : Nat} {xs : List Int} {k : Nat} (hk : k < xs.length) (h : ¬ xs.getD k 0 < 2 ^ w) : small w xs = false := by
  rw [Bool.eq_false_iff]
  intro hs
  have := List.all_eq_true.1 hs (xs.getD k 0) (by rw [List.getD_eq_getElem?_getD, List.getElem?_eq_getElem hk]; simp)
  simp only [decide_eq_true_eq] at this
  exact h this

/-- does what xs begins with fit the sort s? -/
def fitB (xs : List Int) (s : Nat) : Bool := decide (cn s ≤ xs.length) && small (wi s) (xs.take (cn s))
def leastF : Nat → Nat → List Int → Nat
  | 0, s, _ => s
  | f + 1, s, xs => if fitB xs s = true then s else leastF f (s + 1) xs
/-- the least sort that fits -/
def least (xs : List Int) : Nat := leastF 15 0 xs
theorem fit15 {xs : List Int} (h : xs ≠ []) (hu : Up 60 xs) : fitB xs 15 = true := by
  have : 0 < xs.length := List.length_pos_iff.2 h
  have e1 : cn 15 = 1 := rfl
  have e2 : wi 15 = 60 := rfl
  unfold fitB
  rw [e1, e2, up_small (hu.take 1)]
  simp; omega
theorem leastF_hit {xs : List Int} {s : Nat} (h : fitB xs s = true) (f : Nat) : leastF f s xs = s := by
  cases f with
  | zero => rfl
  | succ f => simp [leastF, h]
theorem leastF_miss {xs : List Int} {s : Nat} (h : fitB xs s = false) (hs : s < 15) : leastF (15 - s) s xs = leastF (15 - (s + 1)) (s + 1) xs := by
  obtain ⟨f, hf⟩ : ∃ f, 15 - s = f + 1 := ⟨14 - s, by omega⟩
  rw [hf, show 15 - (s + 1) = f by omega]
  simp [leastF, h]
theorem leastF_fits {xs : List Int} (h : fitB xs 15 = true) : ∀ f s, s + f = 15 → leastF f s xs < 16 ∧ fitB xs (leastF f s xs) = true
  | 0, s, e => by
    obtain rfl : s = 15 := by omega
    exact ⟨by simp [leastF], h⟩
  | f + 1, s, e => by
    by_cases hs : fitB xs s = true
    · rw [leastF_hit hs]
      exact ⟨by omega, hs⟩
    · have : leastF (f + 1) s xs = leastF f (s + 1) xs := by simp [leastF, hs]
      rw [this]
      exact leastF_fits h f (s + 1) (by omega)
theorem least_fits {xs : List Int} (h : xs ≠ []) (hu : Up 60 xs) : least xs < 16 ∧ cn (least xs) ≤ xs.length ∧ Up (wi (least xs)) (xs.take (cn (least xs))) := by
  obtain ⟨h1, h2⟩ := leastF_fits (fit15 h hu) 15 0 rfl
  unfold fitB at h2
  rw [Bool.and_eq_true, decide_eq_true_eq] at h2
  exact ⟨h1, h2.1, small_up h2.2 (fun x hx => (hu.take _ x hx).1)⟩
/-- a number of more than 30 bits stands alone -/
theorem least_great {x : Int} {t : List Int} (h : 2 ^ 30 ≤ x) : least (x :: t) = 15 := by
  have no : ∀ s, s < 15 → fitB (x :: t) s = false := by
    intro s hs
    obtain ⟨h1, _, _, _, h5⟩ := sort_at s (by omega)
    have h6 := (h5 hs).1
    unfold fitB
    rw [small_no (k := 0) (by simp; omega) (by
      rw [show ((x :: t).take (cn s)).getD 0 0 = x by
        obtain ⟨c, hc⟩ : ∃ c, cn s = c + 1 := ⟨cn s - 1, by omega⟩
        rw [hc]; simp]
      have := pow_mono h6
      omega)]
    simp
  unfold least
  simp [leastF, no 0, no 1, no 2, no 3, no 4, no 5, no 6, no 7, no 8, no 9, no 10, no 11, no 12, no 13, no 14]

/-- numbers behind one another, w bits each, behind a -/
def wacc (a w : Nat) (zs : List Int) : Nat := zs.foldl (fun a z => a * 2 ^ w + z.toNat) a
theorem wacc_snoc (a w : Nat) (zs : List Int) (z : Int) : wacc a w (zs ++ [z]) = wacc a w zs * 2 ^ w + z.toNat := by simp [wacc]
theorem wacc_cons (a w : Nat) (zs : List Int) (z : Int) : wacc a w (z :: zs) = wacc (a * 2 ^ w + z.toNat) w zs := rfl
theorem wacc_append (a w : Nat) (ys zs : List Int) : wacc a w (ys ++ zs) = wacc (wacc a w ys) w zs := by simp [wacc]
theorem toNat_up {w : Nat} {z : Int} (h : 0 ≤ z ∧ z < 2 ^ w) : z.toNat < 2 ^ w := by
  have e : ((2 ^ w : Nat) : Int) = 2 ^ w := by simp
  omega
theorem wacc_split (w : Nat) : ∀ (zs : List Int) (a : Nat), Up w zs → ∃ r, wacc a w zs = a * 2 ^ (zs.length * w) + r ∧ r < 2 ^ (zs.length * w)
  | [], a, _ => ⟨0, by simp [wacc], by simp⟩
  | z :: zs, a, h => by
    obtain ⟨r, h1, h2⟩ := wacc_split w zs (a * 2 ^ w + z.toNat) (fun x hx => h x (List.mem_cons_of_mem _ hx))
    have hz := toNat_up (h z List.mem_cons_self)
    refine ⟨z.toNat * 2 ^ (zs.length * w) + r, ?_, ?_⟩
    · rw [wacc_cons, h1, List.length_cons, Nat.add_mul, Nat.mul_assoc, ← Nat.pow_add, Nat.add_assoc]
      congr 3
      rw [Nat.add_mul]; omega
    · rw [List.length_cons, Nat.add_mul, Nat.one_mul, Nat.pow_add, Nat.mul_comm (2 ^ (zs.length * w)) (2 ^ w)]
      have h3 : (z.toNat + 1) * 2 ^ (zs.length * w) ≤ 2 ^ w * 2 ^ (zs.length * w) := Nat.mul_le_mul_right _ hz
      rw [Nat.add_mul, Nat.one_mul] at h3
      omega
/-- the word of a sort -/
def wordN (s w : Nat) (zs : List Int) : Nat := wacc s w zs * 2 ^ (60 - zs.length * w)
theorem wordN_lt {s w : Nat} {zs : List Int} (hs : s < 16) (h : Up w zs) (hw : zs.length * w ≤ 60) : wordN s w zs < 18446744073709551616 := by
  obtain ⟨r, h1, h2⟩ := wacc_split w zs s h
  have e : 2 ^ (zs.length * w) * 2 ^ (60 - zs.length * w) = 2 ^ 60 := by rw [← Nat.pow_add]; congr 1; omega
  have h3 : wacc s w zs < 16 * 2 ^ (zs.length * w) := by
    have : (s + 1) * 2 ^ (zs.length * w) ≤ 16 * 2 ^ (zs.length * w) := Nat.mul_le_mul_right _ (by omega)
    rw [Nat.add_mul, Nat.one_mul] at this
    omega
  have h4 := Nat.mul_lt_mul_of_pos_right h3 (Nat.two_pow_pos (60 - zs.length * w))
  rw [Nat.mul_assoc, e] at h4
  have e60 : (2 : Nat) ^ 60 = 1152921504606846976 := by decide
  unfold wordN
  omega
theorem wordN_sort {s w : Nat} {zs : List Int} (h : Up w zs) (hw : zs.length * w ≤ 60) : wordN s w zs / 2 ^ 60 = s := by
  obtain ⟨r, h1, h2⟩ := wacc_split w zs s h
  have e : (2 : Nat) ^ 60 = 2 ^ (60 - zs.length * w) * 2 ^ (zs.length * w) := by rw [← Nat.pow_add]; congr 1; omega
  unfold wordN
  rw [e, ← Nat.div_div_eq_div_mul, Nat.mul_div_cancel _ (Nat.two_pow_pos _), h1, Nat.add_comm, Nat.add_mul_div_right _ _ (Nat.two_pow_pos _), Nat.div_eq_of_lt h2, Nat.zero_add]

/-- number i of a word, w bits each -/
def numAt (v w i : Nat) : Nat := v / 2 ^ (60 - (i + 1) * w) % 2 ^ w
theorem numAt_word {s w : Nat} {zs : List Int} (h : Up w zs) (hw : zs.length * w ≤ 60) (i : Nat) (hi : i < zs.length) : (numAt (wordN s w zs) w i : Int) = zs.getD i 0 := by
  obtain ⟨a, z, b, rfl, rfl⟩ : ∃ a z b, zs = a ++ z :: b ∧ a.length = i := ⟨zs.take i, zs[i], zs.drop (i + 1), by rw [List.getElem_cons_drop, List.take_append_drop], by simp; omega⟩
  have hz := h z (by simp)
  have hn := toNat_up hz
  obtain ⟨r, h1, h2⟩ := wacc_split w b (wacc s w (a ++ [z])) (fun x hx => h x (by simp [hx]))
  have e0 : wacc s w (a ++ z :: b) = wacc s w (a ++ [z]) * 2 ^ (b.length * w) + r := by
    rw [← h1, ← wacc_append, List.append_assoc, List.singleton_append]
  have hl : (a ++ z :: b).length = a.length + 1 + b.length := by simp; omega
  rw [hl, Nat.add_mul] at hw
  have e1 : 60 - (a.length + 1) * w = (60 - (a ++ z :: b).length * w) + b.length * w := by rw [hl, Nat.add_mul (a.length + 1)]; omega
  unfold numAt wordN
  rw [e1, Nat.pow_add, ← Nat.div_div_eq_div_mul, Nat.mul_div_cancel _ (Nat.two_pow_pos _), e0, Nat.add_comm, Nat.add_mul_div_right _ _ (Nat.two_pow_pos _), Nat.div_eq_of_lt h2, Nat.zero_add, wacc_snoc,
    Nat.add_comm, Nat.add_mul_mod_self_right, Nat.mod_eq_of_lt hn]
  simp
  omega
/-- the numbers of a word -/
def nms (v : Nat) : List Int := (List.range (cn (v / 2 ^ 60))).map fun i => (numAt v (wi (v / 2 ^ 60)) i : Int)
theorem nms_length (v : Nat) : (nms v).length = cn (v / 2 ^ 60) := by simp [nms]
theorem nms_up (v : Nat) (hv : v < 18446744073709551616) : Up 60 (nms v) := by
  intro x hx
  simp only [nms, List.mem_map] at hx
  obtain ⟨i, _, rfl⟩ := hx
  have hs : v / 2 ^ 60 < 16 := by
    have e60 : (2 : Nat) ^ 60 = 1152921504606846976 := by decide
    rw [e60]; omega
  have h3 := (sort_at _ hs).2.2.1
  have h4 : numAt v (wi (v / 2 ^ 60)) i < 2 ^ wi (v / 2 ^ 60) := Nat.mod_lt _ (Nat.two_pow_pos _)
  have h5 : 2 ^ wi (v / 2 ^ 60) ≤ 2 ^ 60 := Nat.pow_le_pow_right (by omega) h3
  refine ⟨by omega, ?_⟩
  have : numAt v (wi (v / 2 ^ 60)) i < 2 ^ 60 := by omega
  exact_mod_cast this
theorem nms_word {s : Nat} {zs : List Int} (hs : s < 16) (hl : zs.length = cn s) (h : Up (wi s) zs) : nms (wordN s (wi s) zs) = zs := by
  have hw : zs.length * wi s ≤ 60 := by rw [hl]; exact (sort_at s hs).2.2.2.1
  have e := wordN_sort (s := s) h hw
  unfold nms
  rw [e, ← hl]
  apply List.ext_getElem
  · simp
  · intro i h1 h2
    rw [List.getElem_map, List.getElem_range, numAt_word h hw i h2, List.getD_eq_getElem?_getD, List.getElem?_eq_getElem h2]
    rfl
end Go.Proofs.Ytgnaeajfajineaa

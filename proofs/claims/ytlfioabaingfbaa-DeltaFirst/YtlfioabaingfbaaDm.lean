/- The arithmetic of differences and sums that go round. -/
import Derived.WalkKit
namespace Go.Proofs.Ytlfioabaingfbaa
open Go.RowKit

/-- numbers of 64 bits with a sign -/
def G64 (x : Int) : Prop := -9223372036854775808 ≤ x ∧ x ≤ 9223372036854775807
theorem w64_g (x : Int) : G64 (wrap64 x) := by unfold G64 wrap64; omega
theorem w64_id {x : Int} (h : G64 x) : wrap64 x = x := by unfold G64 at h; unfold wrap64; omega
theorem w64_back {a x : Int} (h : G64 x) : wrap64 (a + wrap64 (x - a)) = x := by unfold G64 at h; unfold wrap64; omega
theorem w64_forth {a x : Int} (h : G64 x) : wrap64 (wrap64 (a + x) - a) = x := by unfold G64 at h; unfold wrap64; omega
theorem w64_both (a b y : Int) : wrap64 (wrap64 (a + y) - wrap64 (b + y)) = wrap64 (a - b) := by unfold wrap64; omega
theorem w64_neg (a b : Int) : wrap64 (wrap64 (-a) - wrap64 (-b)) = wrap64 (-wrap64 (a - b)) := by unfold wrap64; omega
theorem w64_step (x s : Int) (h : G64 s) : wrap64 (wrap64 (x + s) - x) = s := by unfold G64 at h; unfold wrap64; omega

/-- each one less the one ahead -/
def dif : Int → List Int → List Int
  | _, [] => []
  | a, x :: t => wrap64 (x - a) :: dif x t
/-- each one and those ahead -/
def sm : Int → List Int → List Int
  | _, [] => []
  | a, x :: t => wrap64 (a + x) :: sm (wrap64 (a + x)) t
/-- the first s as they are, f of the others -/
def bh (f : List Int → List Int) (s : Nat) (l : List Int) : List Int := l.take s ++ f (l.drop s)
def D : Nat → List Int → List Int
  | 0, l => l
  | k + 1, l => bh (dif 0) k (D k l)
def S : Nat → List Int → List Int
  | 0, l => l
  | k + 1, l => S k (bh (sm 0) k l)

theorem dif_length (a : Int) (l : List Int) : (dif a l).length = l.length := by
  induction l generalizing a with
  | nil => rfl
  | cons x t ih => simp [dif, ih]
theorem sm_length (a : Int) (l : List Int) : (sm a l).length = l.length := by
  induction l generalizing a with
  | nil => rfl
  | cons x t ih => simp [sm, ih]
theorem dif_g (a : Int) (l : List Int) : ∀ x ∈ dif a l, G64 x := by
  induction l generalizing a with
  | nil => intro x hx; simp [dif] at hx
  | cons y t ih =>
    intro x hx
    simp only [dif, List.mem_cons] at hx
    rcases hx with rfl | hx
    · exact w64_g _
    · exact ih _ x hx
theorem sm_g (a : Int) (l : List Int) : ∀ x ∈ sm a l, G64 x := by
  induction l generalizing a with
  | nil => intro x hx; simp [sm] at hx
  | cons y t ih =>
    intro x hx
    simp only [sm, List.mem_cons] at hx
    rcases hx with rfl | hx
    · exact w64_g _
    · exact ih _ x hx
theorem sm_dif (a : Int) (l : List Int) (h : ∀ x ∈ l, G64 x) : sm a (dif a l) = l := by
  induction l generalizing a with
  | nil => rfl
  | cons x t ih =>
    simp only [dif, sm, w64_back (h x (by simp))]
    rw [ih x (fun y hy => h y (by simp [hy]))]
theorem dif_sm (a : Int) (l : List Int) (h : ∀ x ∈ l, G64 x) : dif a (sm a l) = l := by
  induction l generalizing a with
  | nil => rfl
  | cons x t ih =>
    simp only [dif, sm, w64_forth (h x (by simp))]
    rw [ih _ (fun y hy => h y (by simp [hy]))]
theorem bh_length {f : List Int → List Int} (hf : ∀ l, (f l).length = l.length) (s : Nat) (l : List Int) : (bh f s l).length = l.length := by
  simp only [bh, List.length_append, List.length_take, hf, List.length_drop]; omega
theorem bh_g {f : List Int → List Int} (hf : ∀ l, ∀ x ∈ f l, G64 x) (s : Nat) (l : List Int) (h : ∀ x ∈ l, G64 x) : ∀ x ∈ bh f s l, G64 x := by
  intro x hx
  simp only [bh, List.mem_append] at hx
  rcases hx with hx | hx
  · exact h x (List.mem_of_mem_take hx)
  · exact hf _ x hx
theorem bh_bh {f g : List Int → List Int} (hf : ∀ l, (f l).length = l.length) (s : Nat) (l : List Int) (hg : g (f (l.drop s)) = l.drop s) : bh g s (bh f s l) = l := by
  unfold bh
  by_cases h : s ≤ l.length
  · have e : (l.take s).length = s := by rw [List.length_take]; omega
    rw [List.take_append_of_le_length (by omega), List.take_take, Nat.min_self, List.drop_append_of_le_length (by omega), List.drop_of_length_le (by omega), List.nil_append, hg, List.take_append_drop]
  · have e : l.drop s = [] := List.drop_of_length_le (by omega)
    have e0 : f [] = [] := List.eq_nil_of_length_eq_zero (by rw [hf]; rfl)
    have e1 : l.take s = l := List.take_of_length_le (by omega)
    rw [e, e0] at hg
    rw [e, e0, e1, List.append_nil, e, e1, hg, List.append_nil]
theorem bh_take {f : List Int → List Int} (hf : ∀ l, (f l).length = l.length) (ht : ∀ l n, (f l).take n = f (l.take n)) (s : Nat) (l : List Int) (c : Nat) : (bh f s l).take c = bh f s (l.take c) := by
  unfold bh
  have e0 : f [] = [] := List.eq_nil_of_length_eq_zero (by rw [hf]; rfl)
  rw [List.take_append, List.take_take, List.take_take, Nat.min_comm, ht, List.length_take, List.drop_take]
  congr 2
  by_cases h : s ≤ l.length
  · rw [Nat.min_eq_left h]
  · rw [List.drop_of_length_le (by omega)]; simp
theorem dif_take (a : Int) (l : List Int) (n : Nat) : (dif a l).take n = dif a (l.take n) := by
  induction l generalizing a n with
  | nil => simp [dif]
  | cons x t ih =>
    cases n with
    | zero => rfl
    | succ n => simp only [dif, List.take_succ_cons, ih]
theorem sm_take (a : Int) (l : List Int) (n : Nat) : (sm a l).take n = sm a (l.take n) := by
  induction l generalizing a n with
  | nil => simp [sm]
  | cons x t ih =>
    cases n with
    | zero => rfl
    | succ n => simp only [sm, List.take_succ_cons, ih]

theorem D_length (k : Nat) (l : List Int) : (D k l).length = l.length := by
  induction k with
  | zero => rfl
  | succ k ih => rw [D, bh_length (dif_length 0), ih]
theorem S_length (k : Nat) (l : List Int) : (S k l).length = l.length := by
  induction k generalizing l with
  | zero => rfl
  | succ k ih => rw [S, ih, bh_length (sm_length 0)]
theorem D_g (k : Nat) (l : List Int) (h : ∀ x ∈ l, G64 x) : ∀ x ∈ D k l, G64 x := by
  induction k with
  | zero => exact h
  | succ k ih => exact bh_g (dif_g 0) k _ ih
theorem S_g (k : Nat) (l : List Int) (h : ∀ x ∈ l, G64 x) : ∀ x ∈ S k l, G64 x := by
  induction k generalizing l with
  | zero => exact h
  | succ k ih => exact ih _ (bh_g (sm_g 0) k _ h)
/-- THERE AND BACK -/
theorem S_D (k : Nat) (l : List Int) (h : ∀ x ∈ l, G64 x) : S k (D k l) = l := by
  induction k with
  | zero => rfl
  | succ k ih =>
    rw [S, D, bh_bh (dif_length 0) k _ (sm_dif 0 _ (fun x hx => D_g k l h x (List.mem_of_mem_drop hx))), ih]
/-- BACK AND THERE -/
theorem D_S (k : Nat) (l : List Int) (h : ∀ x ∈ l, G64 x) : D k (S k l) = l := by
  induction k generalizing l with
  | zero => rfl
  | succ k ih =>
    rw [S, D, ih _ (bh_g (sm_g 0) k _ h), bh_bh (sm_length 0) k _ (dif_sm 0 _ (fun x hx => h x (List.mem_of_mem_drop hx)))]
/-- A LIST THAT IS CUT OFF -/
theorem D_take (k : Nat) (l : List Int) (c : Nat) : (D k l).take c = D k (l.take c) := by
  induction k with
  | zero => rfl
  | succ k ih => rw [D, D, bh_take (dif_length 0) (dif_take 0), ih]
theorem S_take (k : Nat) (l : List Int) (c : Nat) : (S k l).take c = S k (l.take c) := by
  induction k generalizing l with
  | zero => rfl
  | succ k ih => rw [S, S, ih, bh_take (sm_length 0) (sm_take 0)]
theorem bh_one {f : List Int → List Int} (hf : ∀ l, (f l).length = l.length) (x : Int) (h : f [x] = [x]) (s : Nat) : bh f s [x] = [x] := by
  have e0 : f [] = [] := List.eq_nil_of_length_eq_zero (by rw [hf]; rfl)
  cases s with
  | zero => simp [bh, h]
  | succ s => simp [bh, e0]
theorem D_one (k : Nat) (x : Int) (h : G64 x) : D k [x] = [x] := by
  induction k with
  | zero => rfl
  | succ k ih => rw [D, ih]; exact bh_one (dif_length 0) x (by simp [dif, w64_id h]) k
theorem S_one (k : Nat) (x : Int) (h : G64 x) : S k [x] = [x] := by
  induction k with
  | zero => rfl
  | succ k ih => rw [S, bh_one (sm_length 0) x (by simp [sm, w64_id h]) k, ih]
theorem head_of_take {l m : List Int} (h : m.take 1 = l.take 1) : m.getD 0 0 = l.getD 0 0 := by
  cases l <;> cases m <;> simp_all
/-- THE FIRST ONE STAYS -/
theorem D_first (k : Nat) (l : List Int) (h : ∀ x ∈ l, G64 x) : (D k l).getD 0 0 = l.getD 0 0 := by
  refine head_of_take ?_
  rw [D_take]
  cases l with
  | nil => exact List.eq_nil_of_length_eq_zero (by rw [D_length]; rfl)
  | cons x t => exact D_one k x (h x (by simp))
theorem S_first (k : Nat) (l : List Int) (h : ∀ x ∈ l, G64 x) : (S k l).getD 0 0 = l.getD 0 0 := by
  refine head_of_take ?_
  rw [S_take]
  cases l with
  | nil => exact List.eq_nil_of_length_eq_zero (by rw [S_length]; rfl)
  | cons x t => exact S_one k x (h x (by simp))
theorem dif_at (a : Int) (l : List Int) (i : Nat) (hi : i + 1 < l.length) : (dif a l).getD (i + 1) 0 = wrap64 (l.getD (i + 1) 0 - l.getD i 0) := by
  induction l generalizing a i with
  | nil => simp at hi
  | cons x t ih =>
    cases t with
    | nil => simp at hi
    | cons y t =>
      cases i with
      | zero => simp [dif]
      | succ i =>
        have := ih x i (by simpa using hi)
        simp only [dif, List.getD_cons_succ] at this ⊢
        exact this
theorem dif_zero (l : List Int) (h : ∀ x ∈ l, G64 x) : (dif 0 l).getD 0 0 = l.getD 0 0 := by
  cases l with
  | nil => rfl
  | cons x t => simp [dif, w64_id (h x (by simp))]

/-- numbers that lie equally far apart -/
def ap (s : Int) : Int → Nat → List Int
  | _, 0 => []
  | x, n + 1 => x :: ap s (wrap64 (x + s)) n
theorem ap_length (s x : Int) (n : Nat) : (ap s x n).length = n := by
  induction n generalizing x with
  | zero => rfl
  | succ n ih => simp [ap, ih]
theorem ap_g (s x : Int) (n : Nat) (h : G64 x) : ∀ y ∈ ap s x n, G64 y := by
  induction n generalizing x with
  | zero => intro y hy; simp [ap] at hy
  | succ n ih =>
    intro y hy
    simp only [ap, List.mem_cons] at hy
    rcases hy with rfl | hy
    · exact h
    · exact ih _ (w64_g _) y hy
theorem dif_ap (s x : Int) (n : Nat) (hs : G64 s) : dif x (ap s (wrap64 (x + s)) n) = List.replicate n s := by
  induction n generalizing x with
  | zero => rfl
  | succ n ih => simp only [ap, dif, w64_step x s hs, List.replicate_succ, ih]
theorem dif_rep (s : Int) (n : Nat) : dif s (List.replicate n s) = List.replicate n 0 := by
  induction n with
  | zero => rfl
  | succ n ih =>
    have e : wrap64 (s - s) = 0 := by unfold wrap64; omega
    simp only [List.replicate_succ, dif, ih, e]
theorem D2_ap (s x : Int) (n : Nat) (hs : G64 s) (hx : G64 x) : D 2 (ap s x (n + 2)) = x :: s :: List.replicate n 0 := by
  have h1 : D 1 (ap s x (n + 2)) = x :: List.replicate (n + 1) s := by
    show bh (dif 0) 0 (ap s x (n + 2)) = _
    rw [ap]
    simp only [bh, List.take_zero, List.drop_zero, List.nil_append, dif]
    rw [dif_ap s x (n + 1) hs, Int.sub_zero, w64_id hx]
  show bh (dif 0) 1 (D 1 (ap s x (n + 2))) = _
  rw [h1]
  simp only [bh, List.take_succ_cons, List.take_zero, List.drop_succ_cons, List.drop_zero, List.replicate_succ, dif, dif_rep, Int.sub_zero, w64_id hs, List.cons_append, List.nil_append]
theorem D3_ap (s x : Int) (n : Nat) (hs : G64 s) (hx : G64 x) : D 3 (ap s x (n + 2)) = x :: s :: List.replicate n 0 := by
  show bh (dif 0) 2 (D 2 (ap s x (n + 2))) = _
  rw [D2_ap s x n hs hx]
  simp only [bh, List.take_succ_cons, List.take_zero, List.drop_succ_cons, List.drop_zero, dif_rep, List.cons_append, List.nil_append]
theorem even_at (s x : Int) (n i : Nat) (hs : G64 s) (hx : G64 x) (hi : 2 ≤ i) (hn : i < n) : (D 2 (ap s x n)).getD i 0 = 0 ∧ (D 3 (ap s x n)).getD i 0 = 0 := by
  obtain ⟨m, rfl⟩ : ∃ m, n = m + 2 := ⟨n - 2, by omega⟩
  obtain ⟨j, rfl⟩ : ∃ j, i = j + 2 := ⟨i - 2, by omega⟩
  rw [D2_ap s x m hs hx, D3_ap s x m hs hx]
  have e : (x :: s :: List.replicate m 0).getD (j + 2) 0 = 0 := by
    rw [List.getD_cons_succ, List.getD_cons_succ, List.getD_eq_getElem?_getD, List.getElem?_replicate]
    split <;> rfl
  exact ⟨e, e⟩
end Go.Proofs.Ytlfioabaingfbaa

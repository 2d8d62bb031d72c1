/- Several texts in one: Tot7, Dm, De, CloneI, De2. -/
import Derived.Test.YtgbimghhdbmjiaaGreatG9
import Derived.Test.YtgbimghhdbmjiaaGreatG8
import Derived.WalkKit
import Derived.Test.YtgbimghhdbmjiaaGreatProg
import Derived.Test.YtgbimghhdbmjiaaGreatG1
import Derived.WalkSpells
import Derived.BigRegion

/- Package runs, whatever comes in; and the head of each statement: the document's example holds. -/
namespace Go.Proofs.YtgbimghhdbmjiaaGreat
open Go.RowKit

/-- what any numbers are encoded to, and the error -/
def RUNE (xs : List Int) : List Int × Int := if 65536 < xs.length then ([], 4) else (runE xs, 0)
/-- what any bytes are decoded to, and the error -/
def RUND (ys : List Int) (n : Int) : List Int × Int := if n < 0 ∨ 65536 < n then ([], 1) else runDec ys n.toNat

theorem run_encode_all (v : Value) (xs : List Int) (w : World) (h : Bs .u64 w v xs) (hu : U64 xs) :
    Calls Tryz.prog 73 #[v] w fun e w' => ∃ v', e = .returned (.tuple #[v', .int .i64 (RUNE xs).2]) ∧ w'.ownsRow w.heap.size 5 1 v' (RUNE xs).1.length ((RUNE xs).1.map (Value.int .u8)) ∧ Only (fun _ => False) w w' := by
  unfold RUNE
  by_cases hl : 65536 < xs.length
  · rw [if_pos hl]
    refine (run_encode_long v xs w h hl).mono ?_
    rintro e w' ⟨rfl, rfl⟩
    exact ⟨_, rfl, World.ownsRow_nil _ _ _ _, Only.refl _ _⟩
  · rw [if_neg hl]
    exact run_encode_bs v xs w h hu (by omega)
theorem run_decode_all (v : Value) (ys : List Int) (n : Int) (w : World) (h : Bs .u8 w v ys) (hr : ∀ y ∈ ys, 0 ≤ y ∧ y ≤ 255) (hl : ys.length ≤ 1000000000000) :
    Calls Tryz.prog 49 #[v, .int .i64 n] w fun e w' => ∃ u, e = .returned (.tuple #[u, .int .i64 (RUND ys n).2]) ∧ w'.ownsRow w.heap.size 42 1 u (RUND ys n).1.length ((RUND ys n).1.map (Value.int .u64)) ∧ Only (fun _ => False) w w' := by
  unfold RUND
  by_cases hn : n < 0 ∨ 65536 < n
  · rw [if_pos hn]
    refine (run_decode_arg v n w hn).mono ?_
    rintro e w' ⟨rfl, rfl⟩
    exact ⟨_, rfl, World.ownsRow_nil _ _ _ _, Only.refl _ _⟩
  · rw [if_neg hn]
    obtain ⟨m, rfl⟩ := Int.eq_ofNat_of_zero_le (show 0 ≤ n by omega)
    exact run_decode_bs v ys m w h hr hl (by omega)
theorem RUNE_of {xs : List Int} (hl : xs.length ≤ 65536) : RUNE xs = (runE xs, 0) := if_neg (by omega)
theorem RUNE_len {xs : List Int} (hu : U64 xs) : (RUNE xs).1.length ≤ 1400000 := by
  unfold RUNE
  by_cases hl : 65536 < xs.length
  · rw [if_pos hl]; decide
  · rw [if_neg hl]
    have := runE_len xs hu (by omega)
    simp only; omega
theorem RUND_nat (ys : List Int) (n : Nat) (h : n ≤ 65536) : RUND ys n = runDec ys n := by
  unfold RUND
  rw [if_neg (by omega)]
  rfl
theorem RUND_facts {ys : List Int} {n : Int} (hr : ∀ y ∈ ys, 0 ≤ y ∧ y ≤ 255) :
    (∃ c, RUND ys n = ([], c) ∧ c ≠ 0) ∨ (∃ l, RUND ys n = (l, 0) ∧ U64 l ∧ (l.length : Int) = n ∧ l.length ≤ 65536 ∧ runE l = ys) := by
  unfold RUND
  by_cases hn : n < 0 ∨ 65536 < n
  · rw [if_pos hn]; exact .inl ⟨1, rfl, by decide⟩
  · rw [if_neg hn]
    rcases runD_only (n.toNat + 1) [] ys n.toNat hr (by simp) (by simp) with ⟨c, h1, h2⟩ | ⟨t, h1, h2, h3, h4, _⟩
    · exact .inl ⟨c, h1, by omega⟩
    · rw [List.nil_append] at h1
      rw [List.length_nil, Nat.zero_add] at h2
      exact .inr ⟨t, h1, h4, by omega, by omega, h3.symm⟩
theorem runDec_enc {l : List Int} (hu : U64 l) (hl : l.length ≤ 65536) (z : List Int) : runDec (runE l ++ z) l.length = if 0 < z.length then ([], 3) else (l, 0) := by
  have := runD_enc l (l.length + 1) [] z l.length hu (by omega) (by simp) (by omega) (joins_nil l)
  rw [List.nil_append] at this
  exact this
theorem runDec_cut {l : List Int} (hu : U64 l) (hl : l.length ≤ 65536) (k : Nat) (hk : k < (runE l).length) : runDec ((runE l).take k) l.length = ([], 2) :=
  runD_cut l (l.length + 1) [] l.length k hu (by omega) (by simp) (by omega) (joins_nil l) hk
theorem runDec_less {l : List Int} (hu : U64 l) (hl : l.length ≤ 65536) (k : Nat) (hk : k < l.length) : runDec (runE l) k = ([], 3) :=
  runD_less l (k + 1) [] k hu (by omega) (by simp) (by simpa using hk) (by simp) (joins_nil l)

theorem runE_ex : runE [5, 5, 5, 9] = [5, 2, 9, 0] := by decide +kernel
theorem u64_ex : U64 [5, 5, 5, 9] := by intro x hx; simp at hx; omega
theorem RUNE_ex : RUNE [5, 5, 5, 9] = ([5, 2, 9, 0], 0) := by rw [RUNE_of (by decide), runE_ex]
theorem RUND_ex : RUND [5, 2, 9, 0] 4 = ([5, 5, 5, 9], 0) := by
  have := runDec_enc u64_ex (by decide) []
  rw [runE_ex] at this
  exact this

end Go.Proofs.YtgbimghhdbmjiaaGreat

/- The arithmetic of differences and sums that go round. -/
namespace Go.Proofs.YtgbimghhdbmjiaaGreat
open Go.RowKit

/-- numbers of 64 bits with a sign -/
def G64 (x : Int) : Prop := -9223372036854775808 ≤ x ∧ x ≤ 9223372036854775807
theorem w64_g (x : Int) : G64 (wrap64 x) := by unfold G64 wrap64; omega
theorem w64_id {x : Int} (h : G64 x) : wrap64 x = x := by unfold G64 at h; unfold wrap64; omega
theorem w64_back {a x : Int} (h : G64 x) : wrap64 (a + wrap64 (x - a)) = x := by unfold G64 at h; unfold wrap64; omega
theorem w64_forth {a x : Int} (h : G64 x) : wrap64 (wrap64 (a + x) - a) = x := by unfold G64 at h; unfold wrap64; omega
theorem w64_both (a b y : Int) : wrap64 (wrap64 (a + y) - wrap64 (b + y)) = wrap64 (a - b) := by unfold wrap64; omega
theorem w64_neg (a b : Int) : wrap64 (wrap64 (-a) - wrap64 (-b)) = wrap64 (-wrap64 (a - b)) := by unfold wrap64; omega
theorem w64_step (x s : Int) (h : G64 s) : wrap64 (wrap64 (x + s) - x) = s := by unfold G64 at h; unfold wrap64; omega

/-- each one less the one ahead -/
def dif : Int → List Int → List Int
  | _, [] => []
  | a, x :: t => wrap64 (x - a) :: dif x t
/-- each one and those ahead -/
def sm : Int → List Int → List Int
  | _, [] => []
  | a, x :: t => wrap64 (a + x) :: sm (wrap64 (a + x)) t
/-- the first s as they are, f of the others -/
def bh (f : List Int → List Int) (s : Nat) (l : List Int) : List Int := l.take s ++ f (l.drop s)
def D : Nat → List Int → List Int
  | 0, l => l
  | k + 1, l => bh (dif 0) k (D k l)
def S : Nat → List Int → List Int
  | 0, l => l
  | k + 1, l => S k (bh (sm 0) k l)

theorem dif_length (a : Int) (l : List Int) : (dif a l).length = l.length := by
  induction l generalizing a with
  | nil => rfl
  | cons x t ih => simp [dif, ih]
theorem sm_length (a : Int) (l : List Int) : (sm a l).length = l.length := by
  induction l generalizing a with
  | nil => rfl
  | cons x t ih => simp [sm, ih]
theorem dif_g (a : Int) (l : List Int) : ∀ x ∈ dif a l, G64 x := by
  induction l generalizing a with
  | nil => intro x hx; simp [dif] at hx
  | cons y t ih =>
    intro x hx
    simp only [dif, List.mem_cons] at hx
    rcases hx with rfl | hx
    · exact w64_g _
    · exact ih _ x hx
theorem sm_g (a : Int) (l : List Int) : ∀ x ∈ sm a l, G64 x := by
  induction l generalizing a with
  | nil => intro x hx; simp [sm] at hx
  | cons y t ih =>
    intro x hx
    simp only [sm, List.mem_cons] at hx
    rcases hx with rfl | hx
    · exact w64_g _
    · exact ih _ x hx
theorem sm_dif (a : Int) (l : List Int) (h : ∀ x ∈ l, G64 x) : sm a (dif a l) = l := by
  induction l generalizing a with
  | nil => rfl
  | cons x t ih =>
    simp only [dif, sm, w64_back (h x (by simp))]
    rw [ih x (fun y hy => h y (by simp [hy]))]
theorem dif_sm (a : Int) (l : List Int) (h : ∀ x ∈ l, G64 x) : dif a (sm a l) = l := by
  induction l generalizing a with
  | nil => rfl
  | cons x t ih =>
    simp only [dif, sm, w64_forth (h x (by simp))]
    rw [ih _ (fun y hy => h y (by simp [hy]))]
theorem bh_length {f : List Int → List Int} (hf : ∀ l, (f l).length = l.length) (s : Nat) (l : List Int) : (bh f s l).length = l.length := by
  simp only [bh, List.length_append, List.length_take, hf, List.length_drop]; omega
theorem bh_g {f : List Int → List Int} (hf : ∀ l, ∀ x ∈ f l, G64 x) (s : Nat) (l : List Int) (h : ∀ x ∈ l, G64 x) : ∀ x ∈ bh f s l, G64 x := by
  intro x hx
  simp only [bh, List.mem_append] at hx
  rcases hx with hx | hx
  · exact h x (List.mem_of_mem_take hx)
  · exact hf _ x hx
theorem bh_bh {f g : List Int → List Int} (hf : ∀ l, (f l).length = l.length) (s : Nat) (l : List Int) (hg : g (f (l.drop s)) = l.drop s) : bh g s (bh f s l) = l := by
  unfold bh
  by_cases h : s ≤ l.length
  · have e : (l.take s).length = s := by rw [List.length_take]; omega
    rw [List.take_append_of_le_length (by omega), List.take_take, Nat.min_self, List.drop_append_of_le_length (by omega), List.drop_of_length_le (by omega), List.nil_append, hg, List.take_append_drop]
  · have e : l.drop s = [] := List.drop_of_length_le (by omega)
    have e0 : f [] = [] := List.eq_nil_of_length_eq_zero (by rw [hf]; rfl)
    have e1 : l.take s = l := List.take_of_length_le (by omega)
    rw [e, e0] at hg
    rw [e, e0, e1, List.append_nil, e, e1, hg, List.append_nil]
theorem bh_take {f : List Int → List Int} (hf : ∀ l, (f l).length = l.length) (ht : ∀ l n, (f l).take n = f (l.take n)) (s : Nat) (l : List Int) (c : Nat) : (bh f s l).take c = bh f s (l.take c) := by
  unfold bh
  have e0 : f [] = [] := List.eq_nil_of_length_eq_zero (by rw [hf]; rfl)
  rw [List.take_append, List.take_take, List.take_take, Nat.min_comm, ht, List.length_take, List.drop_take]
  congr 2
  by_cases h : s ≤ l.length
  · rw [Nat.min_eq_left h]
  · rw [List.drop_of_length_le (by omega)]; simp
theorem dif_take (a : Int) (l : List Int) (n : Nat) : (dif a l).take n = dif a (l.take n) := by
  induction l generalizing a n with
  | nil => simp [dif]
  | cons x t ih =>
    cases n with
    | zero => rfl
    | succ n => simp only [dif, List.take_succ_cons, ih]
theorem sm_take (a : Int) (l : List Int) (n : Nat) : (sm a l).take n = sm a (l.take n) := by
  induction l generalizing a n with
  | nil => simp [sm]
  | cons x t ih =>
    cases n with
    | zero => rfl
    | succ n => simp only [sm, List.take_succ_cons, ih]

theorem D_length (k : Nat) (l : List Int) : (D k l).length = l.length := by
  induction k with
  | zero => rfl
  | succ k ih => rw [D, bh_length (dif_length 0), ih]
theorem S_length (k : Nat) (l : List Int) : (S k l).length = l.length := by
  induction k generalizing l with
  | zero => rfl
  | succ k ih => rw [S, ih, bh_length (sm_length 0)]
theorem D_g (k : Nat) (l : List Int) (h : ∀ x ∈ l, G64 x) : ∀ x ∈ D k l, G64 x := by
  induction k with
  | zero => exact h
  | succ k ih => exact bh_g (dif_g 0) k _ ih
theorem S_g (k : Nat) (l : List Int) (h : ∀ x ∈ l, G64 x) : ∀ x ∈ S k l, G64 x := by
  induction k generalizing l with
  | zero => exact h
  | succ k ih => exact ih _ (bh_g (sm_g 0) k _ h)
/-- THERE AND BACK -/
theorem S_D (k : Nat) (l : List Int) (h : ∀ x ∈ l, G64 x) : S k (D k l) = l := by
  induction k with
  | zero => rfl
  | succ k ih =>
    rw [S, D, bh_bh (dif_length 0) k _ (sm_dif 0 _ (fun x hx => D_g k l h x (List.mem_of_mem_drop hx))), ih]
/-- BACK AND THERE -/
theorem D_S (k : Nat) (l : List Int) (h : ∀ x ∈ l, G64 x) : D k (S k l) = l := by
  induction k generalizing l with
  | zero => rfl
  | succ k ih =>
    rw [S, D, ih _ (bh_g (sm_g 0) k _ h), bh_bh (sm_length 0) k _ (dif_sm 0 _ (fun x hx => h x (List.mem_of_mem_drop hx)))]
/-- A LIST THAT IS CUT OFF -/
theorem D_take (k : Nat) (l : List Int) (c : Nat) : (D k l).take c = D k (l.take c) := by
  induction k with
  | zero => rfl
  | succ k ih => rw [D, D, bh_take (dif_length 0) (dif_take 0), ih]
theorem S_take (k : Nat) (l : List Int) (c : Nat) : (S k l).take c = S k (l.take c) := by
  induction k generalizing l with
  | zero => rfl
  | succ k ih => rw [S, S, ih, bh_take (sm_length 0) (sm_take 0)]
theorem bh_one {f : List Int → List Int} (hf : ∀ l, (f l).length = l.length) (x : Int) (h : f [x] = [x]) (s : Nat) : bh f s [x] = [x] := by
  have e0 : f [] = [] := List.eq_nil_of_length_eq_zero (by rw [hf]; rfl)
  cases s with
  | zero => simp [bh, h]
  | succ s => simp [bh, e0]
theorem D_one (k : Nat) (x : Int) (h : G64 x) : D k [x] = [x] := by
  induction k with
  | zero => rfl
  | succ k ih => rw [D, ih]; exact bh_one (dif_length 0) x (by simp [dif, w64_id h]) k
theorem S_one (k : Nat) (x : Int) (h : G64 x) : S k [x] = [x] := by
  induction k with
  | zero => rfl
  | succ k ih => rw [S, bh_one (sm_length 0) x (by simp [sm, w64_id h]) k, ih]
theorem head_of_take {l m : List Int} (h : m.take 1 = l.take 1) : m.getD 0 0 = l.getD 0 0 := by
  cases l <;> cases m <;> simp_all
/-- THE FIRST ONE STAYS -/
theorem D_first (k : Nat) (l : List Int) (h : ∀ x ∈ l, G64 x) : (D k l).getD 0 0 = l.getD 0 0 := by
  refine head_of_take ?_
  rw [D_take]
  cases l with
  | nil => exact List.eq_nil_of_length_eq_zero (by rw [D_length]; rfl)
  | cons x t => exact D_one k x (h x (by simp))
theorem S_first (k : Nat) (l : List Int) (h : ∀ x ∈ l, G64 x) : (S k l).getD 0 0 = l.getD 0 0 := by
  refine head_of_take ?_
  rw [S_take]
  cases l with
  | nil => exact List.eq_nil_of_length_eq_zero (by rw [S_length]; rfl)
  | cons x t => exact S_one k x (h x (by simp))
theorem dif_at (a : Int) (l : List Int) (i : Nat) (hi : i + 1 < l.length) : (dif a l).getD (i + 1) 0 = wrap64 (l.getD (i + 1) 0 - l.getD i 0) := by
  induction l generalizing a i with
  | nil => simp at hi
  | cons x t ih =>
    cases t with
    | nil => simp at hi
    | cons y t =>
      cases i with
      | zero => simp [dif]
      | succ i =>
        have := ih x i (by simpa using hi)
        simp only [dif, List.getD_cons_succ] at this ⊢
        exact this
theorem dif_zero (l : List Int) (h : ∀ x ∈ l, G64 x) : (dif 0 l).getD 0 0 = l.getD 0 0 := by
  cases l with
  | nil => rfl
  | cons x t => simp [dif, w64_id (h x (by simp))]

/-- numbers that lie equally far apart -/
def ap (s : Int) : Int → Nat → List Int
  | _, 0 => []
  | x, n + 1 => x :: ap s (wrap64 (x + s)) n
theorem ap_length (s x : Int) (n : Nat) : (ap s x n).length = n := by
  induction n generalizing x with
  | zero => rfl
  | succ n ih => simp [ap, ih]
theorem ap_g (s x : Int) (n : Nat) (h : G64 x) : ∀ y ∈ ap s x n, G64 y := by
  induction n generalizing x with
  | zero => intro y hy; simp [ap] at hy
  | succ n ih =>
    intro y hy
    simp only [ap, List.mem_cons] at hy
    rcases hy with rfl | hy
    · exact h
    · exact ih _ (w64_g _) y hy
theorem dif_ap (s x : Int) (n : Nat) (hs : G64 s) : dif x (ap s (wrap64 (x + s)) n) = List.replicate n s := by
  induction n generalizing x with
  | zero => rfl
  | succ n ih => simp only [ap, dif, w64_step x s hs, List.replicate_succ, ih]
theorem dif_rep (s : Int) (n : Nat) : dif s (List.replicate n s) = List.replicate n 0 := by
  induction n with
  | zero => rfl
  | succ n ih =>
    have e : wrap64 (s - s) = 0 := by unfold wrap64; omega
    simp only [List.replicate_succ, dif, ih, e]
theorem D2_ap (s x : Int) (n : Nat) (hs : G64 s) (hx : G64 x) : D 2 (ap s x (n + 2)) = x :: s :: List.replicate n 0 := by
  have h1 : D 1 (ap s x (n + 2)) = x :: List.replicate (n + 1) s := by
    show bh (dif 0) 0 (ap s x (n + 2)) = _
    rw [ap]
    simp only [bh, List.take_zero, List.drop_zero, List.nil_append, dif]
    rw [dif_ap s x (n + 1) hs, Int.sub_zero, w64_id hx]
  show bh (dif 0) 1 (D 1 (ap s x (n + 2))) = _
  rw [h1]
  simp only [bh, List.take_succ_cons, List.take_zero, List.drop_succ_cons, List.drop_zero, List.replicate_succ, dif, dif_rep, Int.sub_zero, w64_id hs, List.cons_append, List.nil_append]
theorem D3_ap (s x : Int) (n : Nat) (hs : G64 s) (hx : G64 x) : D 3 (ap s x (n + 2)) = x :: s :: List.replicate n 0 := by
  show bh (dif 0) 2 (D 2 (ap s x (n + 2))) = _
  rw [D2_ap s x n hs hx]
  simp only [bh, List.take_succ_cons, List.take_zero, List.drop_succ_cons, List.drop_zero, dif_rep, List.cons_append, List.nil_append]
theorem even_at (s x : Int) (n i : Nat) (hs : G64 s) (hx : G64 x) (hi : 2 ≤ i) (hn : i < n) : (D 2 (ap s x n)).getD i 0 = 0 ∧ (D 3 (ap s x n)).getD i 0 = 0 := by
  obtain ⟨m, rfl⟩ : ∃ m, n = m + 2 := ⟨n - 2, by omega⟩
  obtain ⟨j, rfl⟩ : ∃ j, i = j + 2 := ⟨i - 2, by omega⟩
  rw [D2_ap s x m hs hx, D3_ap s x m hs hx]
  have e : (x :: s :: List.replicate m 0).getD (j + 2) 0 = 0 := by
    rw [List.getD_cons_succ, List.getD_cons_succ, List.getD_eq_getElem?_getD, List.getElem?_replicate]
    split <;> rfl
  exact ⟨e, e⟩
end Go.Proofs.YtgbimghhdbmjiaaGreat

/- Contracts of package delta: the closures, and what is replaced. -/
namespace Go.Proofs.YtgbimghhdbmjiaaGreat
open Go.RowKit

set_option maxHeartbeats 400000 in
set_option maxRecDepth 100000 in
theorem dclo (c : Nat) (x a : Int) (w : World) (hc : w.cell? ⟨c, 0, none⟩ = some (.int .i64 a)) (hf : w.frozen? ⟨c, 0, none⟩ = false) :
    Calls Tryz.prog 91 #[.int .i64 x, .pointer (some ⟨c, 0, none⟩)] w fun e w' => e = .returned (.int .i64 (wrap64 (x - a))) ∧ w' = w.setCell ⟨c, 0, none⟩ (.int .i64 x) := by
  go_enter Tryz.func91, Tryz.ntmps91
  go_wp2
  go_ret
  exact ⟨rfl, rfl⟩

set_option maxHeartbeats 400000 in
set_option maxRecDepth 100000 in
theorem sclo (c : Nat) (x a : Int) (w : World) (hc : w.cell? ⟨c, 0, none⟩ = some (.int .i64 a)) (hf : w.frozen? ⟨c, 0, none⟩ = false) :
    Calls Tryz.prog 84 #[.int .i64 x, .pointer (some ⟨c, 0, none⟩)] w fun e w' => e = .returned (.int .i64 (wrap64 (a + x))) ∧ w' = w.setCell ⟨c, 0, none⟩ (.int .i64 (wrap64 (a + x))) := by
  go_enter Tryz.func84, Tryz.ntmps84
  go_wp2
  go_ret
  exact ⟨rfl, rfl⟩

/-! replace -/
theorem dif_round {f : Int → List Int → List Int} {st : Int → Int → Int × Int} (hf : ∀ a x t, f a (x :: t) = (st a x).1 :: f (st a x).2 t) (xs : List Int) (j : Nat) (a : Int) (hj : j < xs.length) :
    (xs.set j (st a (xs.getD j 0)).1).take (j + 1) ++ f (st a (xs.getD j 0)).2 ((xs.set j (st a (xs.getD j 0)).1).drop (j + 1)) = xs.take j ++ f a (xs.drop j) := by
  have e1 : xs.drop j = xs.getD j 0 :: xs.drop (j + 1) := by
    rw [List.getD_eq_getElem?_getD, List.getElem?_eq_getElem hj]
    exact List.drop_eq_getElem_cons hj
  rw [e1, hf, List.take_add_one, List.take_set_of_le (Nat.le_refl _), List.drop_set_of_lt (Nat.lt_succ_self _), List.getElem?_set_self hj]
  simp

set_option maxHeartbeats 800000 in
set_option maxRecDepth 100000 in
/-- THE NUMBERS OF A LIST BEHIND THE FIRST st ARE REPLACED, with dif. -/
theorem rep_d (lo c st n : Nat) (a0 : Int) (v : Value) (xs : List Int) (w : World) (hn : xs.length = n) (hown : w.ownsRow lo 3 1 v n (xs.map (Value.int .i64)))
    (hc : w.cell? ⟨c, 0, none⟩ = some (.int .i64 a0)) (hf : w.frozen? ⟨c, 0, none⟩ = false) (hne : ∀ k, v.ownBlock = some k → k ≠ c) (hl : n ≤ 1000000) (hs : st ≤ 1000000) :
    Calls Tryz.prog 53 #[v, .int .i64 st, .func (.func 91) #[] #[.pointer (some ⟨c, 0, none⟩)]] w fun e w' => e = .returned (.tuple #[]) ∧
      w'.ownsRow lo 3 1 v n ((xs.take st ++ dif a0 (xs.drop st)).map (Value.int .i64)) ∧ Only (fun k => v.ownBlock = some k ∨ k = c) w w' := by
  have hform : v = .slice none 0 0 ∧ n = 0 ∨ ∃ g cap, v = .slice (some ⟨g, 0, none⟩) n cap := by
    rcases hown.2 with h | ⟨g, cap, cur, h, _⟩
    · exact .inl h
    · exact .inr ⟨g, cap, h⟩
  obtain ⟨fin, hfin⟩ : ∃ fin, fin = xs.take st ++ dif a0 (xs.drop st) := ⟨_, rfl⟩
  rw [← hfin]
  rcases hform with ⟨rfl, rfl⟩ | ⟨g, cap, rfl⟩
  · have hx : xs = [] := List.eq_nil_of_length_eq_zero hn
    subst hx
    have hfin' : fin = [] := by rw [hfin]; simp [dif]
    subst hfin'
    have H := hideIt hown
    clear hown hfin hc hf hne hn
    go_enter Tryz.func53, Tryz.ntmps53
    go_wp2
    go_loop [6] (fun i => i = .int .i64 st) (fun _ => 0)
    case atStart => rfl
    case round =>
      subst hrel
      go_wp2
      go_end0
      exact ⟨rfl, H.out, Only.refl _ _⟩
  · have hgc : g ≠ c := hne g rfl
    have START := hideIt (And.intro hown (And.intro hc hf))
    have HF := hideIt hfin
    have HN := hideIt hn
    clear hown hc hf hfin hne hn
    go_enter Tryz.func53, Tryz.ntmps53
    go_wp2
    go_loopw [6] (fun i wr => ∃ (j : Nat) (ys : List Int) (a : Int), j ≤ 1000000 ∧ i = .int .i64 j ∧ ys.length = n ∧ wr.ownsRow lo 3 1 (.slice (some ⟨g, 0, none⟩) n cap) n (ys.map (Value.int .i64)) ∧
        wr.cell? ⟨c, 0, none⟩ = some (.int .i64 a) ∧ wr.frozen? ⟨c, 0, none⟩ = false ∧ fin = ys.take j ++ dif a (ys.drop j) ∧ Only (fun k => k = g ∨ k = c) w wr) (fun i _ => n - (intOf i).toNat)
    case atStart => exact ⟨st, xs, a0, hs, rfl, HN.out, START.out.1, START.out.2.1, START.out.2.2, HF.out, Only.refl _ _⟩
    case round =>
      obtain ⟨j, ys, a, hj, rfl, hyl, hown, hc, hf, hfin, hon⟩ := hrel
      clear START HF HN
      by_cases hlt : j < n
      · have hcell : wr.cell? ⟨g, j, none⟩ = some (.int .i64 (ys.getD j 0)) := by
          rw [hown.cellAt j (by omega), List.getElem?_map, List.getElem?_eq_getElem (by omega), List.getD_eq_getElem?_getD, List.getElem?_eq_getElem (by omega)]
          rfl
        have hrnd := dif_round (f := dif) (st := fun a x => (wrap64 (x - a), x)) (fun _ _ _ => rfl) ys j a (by omega)
        obtain ⟨y, hy⟩ : ∃ y, y = ys.getD j 0 := ⟨_, rfl⟩
        rw [← hy] at hcell hrnd
        have A := hideIt (dclo c y a wr hc hf)
        have hcell2 : (wr.setCell ⟨c, 0, none⟩ (.int .i64 (y))).cell? ⟨g, j, none⟩ = some (.int .i64 y) := by
          rw [World.cell?_setCell_other (h := by intro h; exact hgc (by cases h; rfl))]; exact hcell
        have hfr2 : (wr.setCell ⟨c, 0, none⟩ (.int .i64 (y))).frozen? ⟨g, j, none⟩ = false := by
          rw [World.frozen?_setCell]; exact hown.frozenAt _
        have hon2 : Only (fun k => k = g ∨ k = c) w (wr.setCell ⟨c, 0, none⟩ (.int .i64 (y))) := hon.setCell (fun _ => .inr rfl) _
        have hown2 : (wr.setCell ⟨c, 0, none⟩ (.int .i64 (y))).ownsRow lo 3 1 (.slice (some ⟨g, 0, none⟩) n cap) n (ys.map (Value.int .i64)) :=
          ((Only.refl (fun k => k = c) wr).setCell (p := ⟨c, 0, none⟩) (fun _ => rfl) _).own hown (fun k hk => by simp [Value.ownBlock] at hk; omega)
        have hc2 : (wr.setCell ⟨c, 0, none⟩ (.int .i64 (y))).cell? ⟨c, 0, none⟩ = some (.int .i64 (y)) := World.cell?_setCell_same _ _ _ hc
        have hf2 : (wr.setCell ⟨c, 0, none⟩ (.int .i64 (y))).frozen? ⟨c, 0, none⟩ = false := by rw [World.frozen?_setCell]; exact hf
        have H := hideIt (And.intro hon2 (And.intro hown2 (And.intro hc2 (And.intro hf2 (And.intro hfin hrnd)))))
        have i0 : (0 : Int) ≤ (j : Int) := by omega
        have i1 : (j : Int) < (n : Int) := by omega
        clear hown hc hf hfin hon hon2 hown2 hc2 hf2 hrnd
        have HY := hideIt hy
        have HYL := hideIt hyl
        clear hy hyl
        go_wp2_with fail
        refine A.out.mono ?_
        rintro e w1 ⟨rfl, rfl⟩
        clear A
        go_wp2
        go_roundw
        case rel =>
          refine ⟨j + 1, ys.set j (wrap64 (y - a)), y, by omega, by go_num, by rw [List.length_set]; exact HYL.out, ?_, ?_, ?_, ?_, ?_⟩
          · have h1 := (H.out.2.1.stored j (.int .i64 (wrap64 (y - a)))).1
            rw [← List.map_set] at h1
            exact h1
          · rw [World.cell?_setCell_other (h := by intro h; exact hgc (by cases h; rfl))]; exact H.out.2.2.1
          · rw [World.frozen?_setCell]; exact H.out.2.2.2.1
          · rw [H.out.2.2.2.2.1]; exact H.out.2.2.2.2.2.symm
          · exact H.out.1.setCell (fun _ => .inl rfl) _
        case measure => simp [intOf]; omega
      · have e1 : fin = ys := by
          rw [hfin, List.drop_of_length_le (by omega), List.take_of_length_le (by omega)]; simp [dif]
        subst e1
        have H := hideIt (And.intro hown hon)
        clear hown hon hc hf hfin
        have HYL := hideIt hyl
        clear hyl
        go_wp2
        go_end0
        exact ⟨rfl, H.out.1, H.out.2.mono (fun i _ h => h.imp (fun e => by rw [e]; rfl) id)⟩

set_option maxHeartbeats 800000 in
set_option maxRecDepth 100000 in
/-- THE NUMBERS OF A LIST BEHIND THE FIRST st ARE REPLACED, with sm. -/
theorem rep_s (lo c st n : Nat) (a0 : Int) (v : Value) (xs : List Int) (w : World) (hn : xs.length = n) (hown : w.ownsRow lo 3 1 v n (xs.map (Value.int .i64)))
    (hc : w.cell? ⟨c, 0, none⟩ = some (.int .i64 a0)) (hf : w.frozen? ⟨c, 0, none⟩ = false) (hne : ∀ k, v.ownBlock = some k → k ≠ c) (hl : n ≤ 1000000) (hs : st ≤ 1000000) :
    Calls Tryz.prog 53 #[v, .int .i64 st, .func (.func 84) #[] #[.pointer (some ⟨c, 0, none⟩)]] w fun e w' => e = .returned (.tuple #[]) ∧
      w'.ownsRow lo 3 1 v n ((xs.take st ++ sm a0 (xs.drop st)).map (Value.int .i64)) ∧ Only (fun k => v.ownBlock = some k ∨ k = c) w w' := by
  have hform : v = .slice none 0 0 ∧ n = 0 ∨ ∃ g cap, v = .slice (some ⟨g, 0, none⟩) n cap := by
    rcases hown.2 with h | ⟨g, cap, cur, h, _⟩
    · exact .inl h
    · exact .inr ⟨g, cap, h⟩
  obtain ⟨fin, hfin⟩ : ∃ fin, fin = xs.take st ++ sm a0 (xs.drop st) := ⟨_, rfl⟩
  rw [← hfin]
  rcases hform with ⟨rfl, rfl⟩ | ⟨g, cap, rfl⟩
  · have hx : xs = [] := List.eq_nil_of_length_eq_zero hn
    subst hx
    have hfin' : fin = [] := by rw [hfin]; simp [sm]
    subst hfin'
    have H := hideIt hown
    clear hown hfin hc hf hne hn
    go_enter Tryz.func53, Tryz.ntmps53
    go_wp2
    go_loop [6] (fun i => i = .int .i64 st) (fun _ => 0)
    case atStart => rfl
    case round =>
      subst hrel
      go_wp2
      go_end0
      exact ⟨rfl, H.out, Only.refl _ _⟩
  · have hgc : g ≠ c := hne g rfl
    have START := hideIt (And.intro hown (And.intro hc hf))
    have HF := hideIt hfin
    have HN := hideIt hn
    clear hown hc hf hfin hne hn
    go_enter Tryz.func53, Tryz.ntmps53
    go_wp2
    go_loopw [6] (fun i wr => ∃ (j : Nat) (ys : List Int) (a : Int), j ≤ 1000000 ∧ i = .int .i64 j ∧ ys.length = n ∧ wr.ownsRow lo 3 1 (.slice (some ⟨g, 0, none⟩) n cap) n (ys.map (Value.int .i64)) ∧
        wr.cell? ⟨c, 0, none⟩ = some (.int .i64 a) ∧ wr.frozen? ⟨c, 0, none⟩ = false ∧ fin = ys.take j ++ sm a (ys.drop j) ∧ Only (fun k => k = g ∨ k = c) w wr) (fun i _ => n - (intOf i).toNat)
    case atStart => exact ⟨st, xs, a0, hs, rfl, HN.out, START.out.1, START.out.2.1, START.out.2.2, HF.out, Only.refl _ _⟩
    case round =>
      obtain ⟨j, ys, a, hj, rfl, hyl, hown, hc, hf, hfin, hon⟩ := hrel
      clear START HF HN
      by_cases hlt : j < n
      · have hcell : wr.cell? ⟨g, j, none⟩ = some (.int .i64 (ys.getD j 0)) := by
          rw [hown.cellAt j (by omega), List.getElem?_map, List.getElem?_eq_getElem (by omega), List.getD_eq_getElem?_getD, List.getElem?_eq_getElem (by omega)]
          rfl
        have hrnd := dif_round (f := sm) (st := fun a x => (wrap64 (a + x), wrap64 (a + x))) (fun _ _ _ => rfl) ys j a (by omega)
        obtain ⟨y, hy⟩ : ∃ y, y = ys.getD j 0 := ⟨_, rfl⟩
        rw [← hy] at hcell hrnd
        have A := hideIt (sclo c y a wr hc hf)
        have hcell2 : (wr.setCell ⟨c, 0, none⟩ (.int .i64 (wrap64 (a + y)))).cell? ⟨g, j, none⟩ = some (.int .i64 y) := by
          rw [World.cell?_setCell_other (h := by intro h; exact hgc (by cases h; rfl))]; exact hcell
        have hfr2 : (wr.setCell ⟨c, 0, none⟩ (.int .i64 (wrap64 (a + y)))).frozen? ⟨g, j, none⟩ = false := by
          rw [World.frozen?_setCell]; exact hown.frozenAt _
        have hon2 : Only (fun k => k = g ∨ k = c) w (wr.setCell ⟨c, 0, none⟩ (.int .i64 (wrap64 (a + y)))) := hon.setCell (fun _ => .inr rfl) _
        have hown2 : (wr.setCell ⟨c, 0, none⟩ (.int .i64 (wrap64 (a + y)))).ownsRow lo 3 1 (.slice (some ⟨g, 0, none⟩) n cap) n (ys.map (Value.int .i64)) :=
          ((Only.refl (fun k => k = c) wr).setCell (p := ⟨c, 0, none⟩) (fun _ => rfl) _).own hown (fun k hk => by simp [Value.ownBlock] at hk; omega)
        have hc2 : (wr.setCell ⟨c, 0, none⟩ (.int .i64 (wrap64 (a + y)))).cell? ⟨c, 0, none⟩ = some (.int .i64 (wrap64 (a + y))) := World.cell?_setCell_same _ _ _ hc
        have hf2 : (wr.setCell ⟨c, 0, none⟩ (.int .i64 (wrap64 (a + y)))).frozen? ⟨c, 0, none⟩ = false := by rw [World.frozen?_setCell]; exact hf
        have H := hideIt (And.intro hon2 (And.intro hown2 (And.intro hc2 (And.intro hf2 (And.intro hfin hrnd)))))
        have i0 : (0 : Int) ≤ (j : Int) := by omega
        have i1 : (j : Int) < (n : Int) := by omega
        clear hown hc hf hfin hon hon2 hown2 hc2 hf2 hrnd
        have HY := hideIt hy
        have HYL := hideIt hyl
        clear hy hyl
        go_wp2_with fail
        refine A.out.mono ?_
        rintro e w1 ⟨rfl, rfl⟩
        clear A
        go_wp2
        go_roundw
        case rel =>
          refine ⟨j + 1, ys.set j (wrap64 (a + y)), wrap64 (a + y), by omega, by go_num, by rw [List.length_set]; exact HYL.out, ?_, ?_, ?_, ?_, ?_⟩
          · have h1 := (H.out.2.1.stored j (.int .i64 (wrap64 (a + y)))).1
            rw [← List.map_set] at h1
            exact h1
          · rw [World.cell?_setCell_other (h := by intro h; exact hgc (by cases h; rfl))]; exact H.out.2.2.1
          · rw [World.frozen?_setCell]; exact H.out.2.2.2.1
          · rw [H.out.2.2.2.2.1]; exact H.out.2.2.2.2.2.symm
          · exact H.out.1.setCell (fun _ => .inl rfl) _
        case measure => simp [intOf]; omega
      · have e1 : fin = ys := by
          rw [hfin, List.drop_of_length_le (by omega), List.take_of_length_le (by omega)]; simp [sm]
        subst e1
        have H := hideIt (And.intro hown hon)
        clear hown hon hc hf hfin
        have HYL := hideIt hyl
        clear hyl
        go_wp2
        go_end0
        exact ⟨rfl, H.out.1, H.out.2.mono (fun i _ h => h.imp (fun e => by rw [e]; rfl) id)⟩
end Go.Proofs.YtgbimghhdbmjiaaGreat

/- Contract of slices.Clone of ints: new memory, the same ints. -/
namespace Go.Proofs.YtgbimghhdbmjiaaGreat
open Go.RowKit

theorem Tryz.infoCI : (Tryz.prog.info? 3).map (fun i => (i.zero, i.size, i.bytes)) = some (some (.int .i64 0), 1, 8) := by kernel_rfl
set_option maxHeartbeats 400000 in
set_option maxRecDepth 100000 in
theorem iclone_nil (c : Nat) (w : World) : Calls Tryz.prog 52 #[.slice none 0 c] w fun e w' => e = .returned (.slice none 0 0) ∧ w = w' := by
  have hnil : ∀ W, (binOp .eql 24 (.slice none 0 c) (.slice none 0 0)).run Tryz.prog W = .ok (.bool true) W := fun W => by
    rw [Lib.run_eql_slice_nil W 24 3 none 0 c 0 0 Tryz.underlying24]; rfl
  go_enter Tryz.func52, Tryz.ntmps52
  go_wp2
  go_ret
  exact ⟨rfl, rfl⟩

set_option maxHeartbeats 400000 in
set_option maxRecDepth 100000 in
theorem iclone_some (ad : Addr) (m c : Nat) (news : List Value) (w : World) (hl : news.length = m) (hnews : ∀ j u, news[j]? = some u → w.cell? (ad.add j) = some u) (h1 : ∀ u ∈ news, u.oneCell' = true) (hm : m ≤ 1000000) :
    Calls Tryz.prog 52 #[.slice (some ad) m c] w fun e w' => ∃ v', e = .returned v' ∧ w'.ownsRow w.heap.size 3 1 v' m news ∧ Only (fun _ => False) w w' ∧ v' ≠ .slice none 0 0 := by
  obtain ⟨i0, hi, hz0, hz1, hz2⟩ := info_parts Tryz.infoCI
  have hnil : ∀ W, (binOp .eql 24 (.slice (some ad) m c) (.slice none 0 0)).run Tryz.prog W = .ok (.bool false) W := fun W => by
    rw [Lib.run_eql_slice_nil W 24 3 (some ad) m c 0 0 Tryz.underlying24]; rfl
  have ho := World.ownsRow_made (base := w.heap.size) (e := 3) (size := 1) w #[] 0 (Nat.le_refl _) (by unfold maxLen; omega) rfl
  have HN : Hid (∀ j u, news[j]? = some u → w.cell? (ad.add j) = some u) := hnews
  clear hnews
  go_enter Tryz.func52, Tryz.ntmps52
  go_wp2_with (at_builtin; refine wpList_append_own_at _ rfl _ _ _ rfl w.heap.size 3 i0 (.int .i64 0) 1 8 Tryz.underlying24 hi hz0 hz1 hz2 rfl (by omega) (.slice (some ⟨w.heap.size, 0, none⟩) 0 0) 0 [] rfl ho ad m c news rfl ?c0 ?c1 h1 ?c3 ?c4 ?c5 ?_)
  case c0 => omega
  case c1 =>
    intro j u hu
    have h0 := HN.out j u hu
    rw [World.cell?_of_block (Below.heap_alloc w _ _ (World.block_lt_of_cell? w _ h0))]; exact h0
  case c3 => unfold maxLen; omega
  case c4 => omega
  case c5 => simp
  intro v' w1 hown1 hgrow hnn hat
  have FIN : Hid (w1.ownsRow w.heap.size 3 1 v' m news ∧ Only (fun _ => False) w w1 ∧ v' ≠ .slice none 0 0) := by
    refine ⟨by simpa using hown1, ((Only.refl _ _).alloc _).grown hgrow (fun k hk e => ?_), hnn⟩
    simp [Value.ownBlock] at e
    omega
  clear hown1 hgrow hnn hat ho
  go_wp2
  go_ret
  exact ⟨v', rfl, FIN.out⟩

/-- A COPY of a slice of ints: new memory, the same ints. -/
theorem iclone_bs (v : Value) (xs : List Int) (w : World) (h : Bs .i64 w v xs) (hm : xs.length ≤ 1000000) :
    Calls Tryz.prog 52 #[v] w fun e w' => ∃ v', e = .returned v' ∧ w'.ownsRow w.heap.size 3 1 v' xs.length (xs.map (Value.int .i64)) ∧ Only (fun _ => False) w w' := by
  obtain ⟨ao, cap, rfl, hc, hr⟩ := h
  cases ao with
  | none =>
    have hx : xs = [] := by
      cases xs with
      | nil => rfl
      | cons a t => obtain ⟨b, off, h, _⟩ := hr (by simp); cases h
    subst hx
    refine (iclone_nil cap w).mono ?_
    rintro e w' ⟨rfl, rfl⟩
    exact ⟨_, rfl, World.ownsRow_nil _ _ _ _, Only.refl _ _⟩
  | some ad =>
    refine (iclone_some ad xs.length cap (xs.map (Value.int .i64)) w (by simp) ?_ (oneCell_ints _ _) hm).mono ?_
    · intro j u hu
      have hj : j < xs.length := by
        have := (List.getElem?_eq_some_iff.1 hu).1
        simpa using this
      obtain ⟨b, off, hb, hcell⟩ := hr (by intro h; subst h; simp at hj)
      cases hb
      have hadd : (⟨b, off, none⟩ : Addr).add j = ⟨b, off + j, none⟩ := by unfold Addr.add; split <;> simp_all
      rw [hadd, hcell j hj]
      rw [← hu]
      simp [List.getElem?_eq_getElem hj]
    · rintro e w' ⟨v', rfl, h1, h2, _⟩
      exact ⟨v', rfl, h1, h2⟩

end Go.Proofs.YtgbimghhdbmjiaaGreat

/- Contracts of package delta: Diff and Sum. -/
namespace Go.Proofs.YtgbimghhdbmjiaaGreat
open Go.RowKit

theorem own_at_lt {w : World} {lo : Nat} {E : TypeId} {size : Nat} {v : Value} {n : Nat} {xs : List Value} (h : w.ownsRow lo E size v n xs) {b : Nat} (hb : v.ownBlock = some b) : lo ≤ b ∧ b < w.heap.size := by
  rcases h.2 with ⟨rfl, _⟩ | ⟨g, cap, cur, rfl, hg, hh, _⟩
  · simp [Value.ownBlock] at hb
  · simp [Value.ownBlock] at hb
    subst hb
    exact ⟨hg, (Array.getElem?_eq_some_iff.1 hh).1⟩

set_option maxHeartbeats 400000 in
set_option maxRecDepth 100000 in
theorem maybe_in (k : Nat) (w : World) (hk : k ≤ 3) : Calls Tryz.prog 51 #[.int .i64 k] w fun e w' => e = .returned (.bool true) ∧ w = w' := by
  have h1 : decide ((0 : Int) ≤ k) = true := decide_eq_true (by omega)
  have h2 : decide ((k : Int) ≤ 3) = true := decide_eq_true (by omega)
  go_enter Tryz.func51, Tryz.ntmps51
  go_wp2
  go_ret
  exact ⟨rfl, rfl⟩
set_option maxHeartbeats 400000 in
set_option maxRecDepth 100000 in
theorem maybe_out (k : Int) (w : World) (hk : k < 0 ∨ 3 < k) : Calls Tryz.prog 51 #[.int .i64 k] w fun e w' => e = .returned (.bool false) ∧ w = w' := by
  by_cases h0 : 0 ≤ k
  · have h1 : decide (0 ≤ k) = true := decide_eq_true h0
    have h2 : decide (k ≤ 3) = false := decide_eq_false (by omega)
    clear hk
    go_enter Tryz.func51, Tryz.ntmps51
    go_wp2
    go_ret
    exact ⟨rfl, rfl⟩
  · have h1 : decide (0 ≤ k) = false := decide_eq_false h0
    clear hk
    go_enter Tryz.func51, Tryz.ntmps51
    go_wp2
    go_ret
    exact ⟨rfl, rfl⟩

theorem zero_new (w : World) : (w.alloc (.cells #[.int .i64 0] 3)).cell? ⟨w.heap.size, 0, none⟩ = some (.int .i64 0) ∧
    (w.alloc (.cells #[.int .i64 0] 3)).frozen? ⟨w.heap.size, 0, none⟩ = false ∧ Only (fun _ => False) w (w.alloc (.cells #[.int .i64 0] 3)) :=
  ⟨by rw [World.cell?_alloc_at _ _ _ _ rfl]; rfl, World.frozen?_alloc_at _ _ _ _ rfl, (Only.refl _ _).alloc _⟩

set_option maxHeartbeats 400000 in
set_option maxRecDepth 100000 in
theorem differences_any (w : World) : Calls Tryz.prog 70 #[] w fun e w' => e = .returned (.func (.func 91) #[] #[.pointer (some ⟨w.heap.size, 0, none⟩)]) ∧
    w'.cell? ⟨w.heap.size, 0, none⟩ = some (.int .i64 0) ∧ w'.frozen? ⟨w.heap.size, 0, none⟩ = false ∧ Only (fun _ => False) w w' := by
  have hmf : ∀ (fn : Fn) (first cap : Array Value) (w : World), (Instr.makeFunc fn first cap).run Tryz.prog w = .ok (.func fn first cap) w := fun _ _ _ _ => rfl
  have H := hideIt (zero_new w)
  go_enter Tryz.func70, Tryz.ntmps70
  go_wp2
  go_ret
  exact ⟨rfl, H.out⟩
set_option maxHeartbeats 400000 in
set_option maxRecDepth 100000 in
theorem sums_any (w : World) : Calls Tryz.prog 54 #[] w fun e w' => e = .returned (.func (.func 84) #[] #[.pointer (some ⟨w.heap.size, 0, none⟩)]) ∧
    w'.cell? ⟨w.heap.size, 0, none⟩ = some (.int .i64 0) ∧ w'.frozen? ⟨w.heap.size, 0, none⟩ = false ∧ Only (fun _ => False) w w' := by
  have hmf : ∀ (fn : Fn) (first cap : Array Value) (w : World), (Instr.makeFunc fn first cap).run Tryz.prog w = .ok (.func fn first cap) w := fun _ _ _ _ => rfl
  have H := hideIt (zero_new w)
  go_enter Tryz.func54, Tryz.ntmps54
  go_wp2
  go_ret
  exact ⟨rfl, H.out⟩

set_option maxHeartbeats 800000 in
set_option maxRecDepth 100000 in
/-- DIFF of numbers by k, 0 to 3: new memory. -/
theorem diff_in (v : Value) (xs : List Int) (k : Nat) (w : World) (hb : Bs .i64 w v xs) (hl : xs.length ≤ 1000000) (hk : k ≤ 3) :
    Calls Tryz.prog 36 #[v, .int .i64 k] w fun e w' => ∃ v', e = .returned (.tuple #[v', .int .i64 0]) ∧ w'.ownsRow w.heap.size 3 1 v' xs.length ((D k xs).map (Value.int .i64)) ∧ Only (fun _ => False) w w' := by
  have A0 := hideIt (maybe_in k w hk)
  have A1 := hideIt (iclone_bs v xs w hb hl)
  obtain ⟨n, hn⟩ : ∃ n, n = xs.length := ⟨_, rfl⟩
  rw [← hn] at hl A1 ⊢
  obtain ⟨N, hN⟩ : ∃ N, N = w.heap.size := ⟨_, rfl⟩
  rw [← hN] at A1 ⊢
  have HN := hideIt (And.intro hn hN)
  clear hn hN hb
  go_enter Tryz.func36, Tryz.ntmps36
  go_wp2_with fail
  refine A0.out.mono ?_
  rintro e w1 ⟨rfl, rfl⟩
  clear A0
  go_wp2_with fail
  refine A1.out.mono ?_
  rintro e w1 ⟨v', rfl, own1, on1⟩
  have H1 := hideIt (And.intro own1 on1)
  clear A1 own1 on1
  go_wp2
  go_loopw [14] (fun i wr => ∃ j : Nat, j ≤ k ∧ i = .int .i64 j ∧ wr.ownsRow N 3 1 v' n ((D j xs).map (Value.int .i64)) ∧ Only (fun _ => False) w wr) (fun i _ => k - (intOf i).toNat)
  case atStart => exact ⟨0, Nat.zero_le _, rfl, H1.out⟩
  case round =>
    obtain ⟨j, hj, rfl, hown, hon⟩ := hrel
    clear H1
    by_cases hlt : j < k
    · have H := hideIt (And.intro hown hon)
      clear hown hon
      have A2 := hideIt (differences_any wr)
      go_wp2_with fail
      refine A2.out.mono ?_
      rintro e w2 ⟨rfl, hc, hf, on2⟩
      have hown2 := on2.own H.out.1 (fun _ _ f => f)
      have hln : (D j xs).length = n := by rw [D_length]; exact HN.out.1.symm
      have A3 := hideIt (rep_d N wr.heap.size j n 0 v' (D j xs) w2 hln hown2 hc hf (fun b hb => Nat.ne_of_lt (own_at_lt H.out.1 hb).2) hl (by omega))
      have H2 := hideIt (And.intro on2 hown2)
      clear A2 hc hf on2 hown2
      go_wp2_with fail
      refine A3.out.mono ?_
      rintro e w3 ⟨rfl, hown3, on3⟩
      have H3 := hideIt (And.intro hown3 on3)
      clear A3 hown3 on3
      go_wp2
      go_roundw
      case rel =>
        refine ⟨j + 1, by omega, by go_num, H3.out.1, ?_⟩
        have o2 := H.out.2.trans H2.out.1 (fun _ _ f => f)
        refine o2.trans H3.out.2 (fun i hi h => ?_)
        rcases h with h | h
        · have := (own_at_lt H.out.1 h).1
          have := HN.out.2
          omega
        · have := H.out.2.size
          omega
      case measure => simp [intOf]; omega
    · have e1 : j = k := by omega
      subst e1
      have H := hideIt (And.intro hown hon)
      clear hown hon
      go_wp2
      go_ret2
      exact ⟨_, rfl, H.out⟩

set_option maxHeartbeats 800000 in
set_option maxRecDepth 100000 in
/-- SUM of numbers by k, 0 to 3: new memory. -/
theorem sum_in (v : Value) (xs : List Int) (k : Nat) (w : World) (hb : Bs .i64 w v xs) (hl : xs.length ≤ 1000000) (hk : k ≤ 3) :
    Calls Tryz.prog 26 #[v, .int .i64 k] w fun e w' => ∃ v', e = .returned (.tuple #[v', .int .i64 0]) ∧ w'.ownsRow w.heap.size 3 1 v' xs.length ((S k xs).map (Value.int .i64)) ∧ Only (fun _ => False) w w' := by
  have A0 := hideIt (maybe_in k w hk)
  have A1 := hideIt (iclone_bs v xs w hb hl)
  obtain ⟨n, hn⟩ : ∃ n, n = xs.length := ⟨_, rfl⟩
  rw [← hn] at hl A1 ⊢
  obtain ⟨N, hN⟩ : ∃ N, N = w.heap.size := ⟨_, rfl⟩
  rw [← hN] at A1 ⊢
  have HN := hideIt (And.intro hn hN)
  clear hn hN hb
  go_enter Tryz.func26, Tryz.ntmps26
  go_wp2_with fail
  refine A0.out.mono ?_
  rintro e w1 ⟨rfl, rfl⟩
  clear A0
  go_wp2_with fail
  refine A1.out.mono ?_
  rintro e w1 ⟨v', rfl, own1, on1⟩
  have H1 := hideIt (And.intro own1 on1)
  clear A1 own1 on1
  go_wp2
  go_loopw [14] (fun i wr => ∃ j : Nat, j ≤ k ∧ i = .int .i64 j ∧ ∃ ys, ys.length = n ∧ S (k - j) ys = S k xs ∧ wr.ownsRow N 3 1 v' n (ys.map (Value.int .i64)) ∧ Only (fun _ => False) w wr) (fun i _ => k - (intOf i).toNat)
  case atStart => exact ⟨0, Nat.zero_le _, rfl, xs, HN.out.1.symm, rfl, H1.out⟩
  case round =>
    obtain ⟨j, hj, rfl, ys, hyl, hys, hown, hon⟩ := hrel
    have HY := hideIt (And.intro hyl hys)
    clear hyl hys
    clear H1
    by_cases hlt : j < k
    · have H := hideIt (And.intro hown hon)
      clear hown hon
      have A2 := hideIt (sums_any wr)
      have it : ((k : Int) - 1 - j) = ((k - 1 - j : Nat) : Int) := by omega
      go_wp2_with fail
      refine A2.out.mono ?_
      rintro e w2 ⟨rfl, hc, hf, on2⟩
      have hown2 := on2.own H.out.1 (fun _ _ f => f)
      have A3 := hideIt (rep_s N wr.heap.size (k - 1 - j) n 0 v' ys w2 HY.out.1 hown2 hc hf (fun b hb => Nat.ne_of_lt (own_at_lt H.out.1 hb).2) hl (by omega))
      have H2 := hideIt (And.intro on2 hown2)
      clear A2 hc hf on2 hown2
      go_wp2_with fail
      refine A3.out.mono ?_
      rintro e w3 ⟨rfl, hown3, on3⟩
      have H3 := hideIt (And.intro hown3 on3)
      clear A3 hown3 on3
      go_wp2
      go_roundw
      case rel =>
        refine ⟨j + 1, by omega, by go_num, _, ?_, ?_, H3.out.1, ?_⟩
        · exact (bh_length (sm_length 0) (k - 1 - j) ys).trans HY.out.1
        · rw [← HY.out.2, show k - j = (k - (j + 1)) + 1 by omega, S, show k - 1 - j = k - (j + 1) by omega]; rfl
        have o2 := H.out.2.trans H2.out.1 (fun _ _ f => f)
        refine o2.trans H3.out.2 (fun i hi h => ?_)
        rcases h with h | h
        · have := (own_at_lt H.out.1 h).1
          have := HN.out.2
          omega
        · have := H.out.2.size
          omega
      case measure => simp [intOf]; omega
    · have e1 : j = k := by omega
      subst e1
      have e2 : ys = S j xs := by have := HY.out.2; rw [Nat.sub_self] at this; exact this
      subst e2
      have H := hideIt (And.intro hown hon)
      clear hown hon
      go_wp2
      go_ret2
      exact ⟨_, rfl, H.out⟩

set_option maxHeartbeats 400000 in
set_option maxRecDepth 100000 in
theorem diff_out (v : Value) (k : Int) (w : World) (hk : k < 0 ∨ 3 < k) : Calls Tryz.prog 36 #[v, .int .i64 k] w fun e w' => e = .returned (.tuple #[.slice none 0 0, .int .i64 1]) ∧ w = w' := by
  have A0 := hideIt (maybe_out k w hk)
  clear hk
  go_enter Tryz.func36, Tryz.ntmps36
  go_wp2_with fail
  refine A0.out.mono ?_
  rintro e w1 ⟨rfl, rfl⟩
  go_wp2
  go_ret2
  exact ⟨rfl, rfl⟩

set_option maxHeartbeats 400000 in
set_option maxRecDepth 100000 in
theorem sum_out (v : Value) (k : Int) (w : World) (hk : k < 0 ∨ 3 < k) : Calls Tryz.prog 26 #[v, .int .i64 k] w fun e w' => e = .returned (.tuple #[.slice none 0 0, .int .i64 1]) ∧ w = w' := by
  have A0 := hideIt (maybe_out k w hk)
  clear hk
  go_enter Tryz.func26, Tryz.ntmps26
  go_wp2_with fail
  refine A0.out.mono ?_
  rintro e w1 ⟨rfl, rfl⟩
  go_wp2
  go_ret2
  exact ⟨rfl, rfl⟩

theorem int_nat {k : Int} (h0 : 0 ≤ k) (h3 : k ≤ 3) : ∃ m : Nat, m ≤ 3 ∧ k = m := ⟨k.toNat, by omega, by omega⟩
/-- what Diff by k makes: a slice that reads so -/
theorem diff_bs (v : Value) (xs : List Int) (k : Nat) (w : World) (hb : Bs .i64 w v xs) (hl : xs.length ≤ 1000000) (hk : k ≤ 3) :
    Calls Tryz.prog 36 #[v, .int .i64 k] w fun e w' => ∃ v', e = .returned (.tuple #[v', .int .i64 0]) ∧ Bs .i64 w' v' (D k xs) ∧ NoCap v' ∧ Only (fun _ => False) w w' := by
  refine (diff_in v xs k w hb hl hk).mono ?_
  rintro e w' ⟨v', rfl, hown, hon⟩
  rw [← D_length k xs] at hown
  exact ⟨v', rfl, Bs.of_own hown, NoCap.of_own hown, hon⟩
theorem sum_bs (v : Value) (xs : List Int) (k : Nat) (w : World) (hb : Bs .i64 w v xs) (hl : xs.length ≤ 1000000) (hk : k ≤ 3) :
    Calls Tryz.prog 26 #[v, .int .i64 k] w fun e w' => ∃ v', e = .returned (.tuple #[v', .int .i64 0]) ∧ Bs .i64 w' v' (S k xs) ∧ NoCap v' ∧ Only (fun _ => False) w w' := by
  refine (sum_in v xs k w hb hl hk).mono ?_
  rintro e w' ⟨v', rfl, hown, hon⟩
  rw [← S_length k xs] at hown
  exact ⟨v', rfl, Bs.of_own hown, NoCap.of_own hown, hon⟩

end Go.Proofs.YtgbimghhdbmjiaaGreat

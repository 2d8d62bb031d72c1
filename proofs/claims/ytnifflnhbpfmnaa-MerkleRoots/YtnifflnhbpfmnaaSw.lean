/- The 64 words of a piece, laid one by one: plain facts. -/
import Derived.Test.YtnifflnhbpfmnaaSh
namespace Go.Proofs.Ytnifflnhbpfmnaa

/-- bytes -/
def U8 (b : List Int) : Prop := ∀ y ∈ b, 0 ≤ y ∧ y ≤ 255
theorem U8.at {b : List Int} (h : U8 b) (j : Nat) : 0 ≤ b.getD j 0 ∧ b.getD j 0 ≤ 255 := by
  rw [List.getD_eq_getElem?_getD]
  by_cases hj : j < b.length
  · rw [List.getElem?_eq_getElem hj]; exact h _ (List.getElem_mem hj)
  · rw [List.getElem?_eq_none (by omega)]; decide
theorem U8.app {a b : List Int} (h : U8 a) (k : U8 b) : U8 (a ++ b) := fun y hy => by
  rcases List.mem_append.1 hy with h1 | h1
  · exact h y h1
  · exact k y h1
theorem U8.take {a : List Int} (h : U8 a) (n : Nat) : U8 (a.take n) := fun y hy => h y (List.mem_of_mem_take hy)
theorem U8.drop {a : List Int} (h : U8 a) (n : Nat) : U8 (a.drop n) := fun y hy => h y (List.mem_of_mem_drop hy)
/-- words -/
def W32 (s : List Nat) : Prop := ∀ x ∈ s, x < 4294967296
theorem W32.at {s : List Nat} (h : W32 s) (j : Nat) : s.getD j 0 < 4294967296 := by
  rw [List.getD_eq_getElem?_getD]
  by_cases hj : j < s.length
  · rw [List.getElem?_eq_getElem hj]; exact h _ (List.getElem_mem hj)
  · rw [List.getElem?_eq_none (by omega)]; decide
theorem W32.app {a b : List Nat} (h : W32 a) (k : W32 b) : W32 (a ++ b) := fun y hy => by
  rcases List.mem_append.1 hy with h1 | h1
  · exact h y h1
  · exact k y h1
theorem W32.one {x : Nat} (h : x < 4294967296) : W32 [x] := fun y hy => by simp at hy; subst hy; exact h

/-- the first m bytes of word k -/
def accw (b : List Int) (k : Nat) : Nat → Nat
  | 0 => 0
  | m + 1 => accw b k m * 256 + (b.getD (4 * k + m) 0).toNat
theorem accw_lt (b : List Int) (h : U8 b) (k : Nat) : ∀ m, accw b k m < 256 ^ m := by
  intro m
  induction m with
  | zero => exact Nat.zero_lt_one
  | succ m ih =>
    have := h.at (4 * k + m)
    have e : 256 ^ (m + 1) = 256 ^ m * 256 := Nat.pow_succ ..
    show accw b k m * 256 + (b.getD (4 * k + m) 0).toNat < _
    rw [e]
    omega
theorem accw_four (b : List Int) (k : Nat) : accw b k 4 = wd4 b k := by
  simp only [accw, wd4, Nat.add_zero]
  omega
/-- the words when i bytes are laid -/
def wpart (b : List Int) (i : Nat) : List Nat := (List.range 64).map fun k => accw b k (min 4 (i - 4 * k))
theorem wpart_len (b : List Int) (i : Nat) : (wpart b i).length = 64 := by simp [wpart]
theorem wpart_at (b : List Int) (i k : Nat) (hk : k < 64) : (wpart b i).getD k 0 = accw b k (min 4 (i - 4 * k)) := by
  simp [wpart, List.getD_eq_getElem?_getD, hk]
theorem wpart_zero (b : List Int) : wpart b 0 = List.replicate 64 0 := by
  apply List.ext_getElem
  · simp [wpart]
  · intro i h1 h2
    simp only [wpart, List.getElem_map, List.getElem_range, List.getElem_replicate]
    rw [show min 4 (0 - 4 * i) = 0 by omega]; rfl
theorem wpart_here (b : List Int) (i : Nat) (_hi : i < 64) : (wpart b i).getD (i / 4) 0 = accw b (i / 4) (i % 4) := by
  rw [wpart_at b i _ (by omega), show min 4 (i - 4 * (i / 4)) = i % 4 by omega]
theorem wpart_next (b : List Int) (i : Nat) (_hi : i < 64) : wpart b (i + 1) = (wpart b i).set (i / 4) (accw b (i / 4) (i % 4) * 256 + (b.getD i 0).toNat) := by
  apply List.ext_getElem
  · simp [wpart]
  · intro k h1 h2
    have hk : k < 64 := by simpa [wpart] using h1
    rw [List.getElem_set]
    by_cases e : i / 4 = k
    · rw [if_pos e]
      simp only [wpart, List.getElem_map, List.getElem_range]
      subst e
      rw [show min 4 (i + 1 - 4 * (i / 4)) = i % 4 + 1 by omega]
      show accw b (i / 4) (i % 4) * 256 + (b.getD (4 * (i / 4) + i % 4) 0).toNat = _
      rw [show 4 * (i / 4) + i % 4 = i by omega]
    · rw [if_neg e]
      simp only [wpart, List.getElem_map, List.getElem_range]
      rw [show min 4 (i + 1 - 4 * k) = min 4 (i - 4 * k) by omega]
theorem wpart_all (b : List Int) : wpart b 64 = (List.range 16).map (wd4 b) ++ List.replicate 48 0 := by
  apply List.ext_getElem
  · simp [wpart]
  · intro k h1 h2
    have hk : k < 64 := by simpa [wpart] using h1
    by_cases h : k < 16
    · rw [List.getElem_append_left (by simpa using h)]
      simp only [wpart, List.getElem_map, List.getElem_range]
      rw [show min 4 (64 - 4 * k) = 4 by omega, accw_four]
    · rw [List.getElem_append_right (by simp; omega)]
      simp only [wpart, List.getElem_map, List.getElem_range, List.getElem_replicate]
      rw [show min 4 (64 - 4 * k) = 0 by omega]; rfl
theorem wd4_lt (b : List Int) (h : U8 b) (k : Nat) : wd4 b k < 4294967296 := by rw [← accw_four]; exact accw_lt b h k 4
theorem wext_succ : ∀ (n : Nat) (w : List Nat), wext (n + 1) w = wext n w ++ [nextw (wext n w)] := by
  intro n
  induction n with
  | zero => intro w; rfl
  | succ n ih => intro w; rw [show wext (n + 1 + 1) w = wext (n + 1) (w ++ [nextw w]) from rfl, ih]; rfl
theorem wext_len (n : Nat) (w : List Nat) : (wext n w).length = w.length + n := by
  induction n with
  | zero => rfl
  | succ n ih => rw [wext_succ, List.length_append, ih]; rfl
theorem nextw_lt (w : List Nat) : nextw w < 4294967296 := Nat.mod_lt _ (by decide)
/-- the first t words -/
def wv (b : List Int) (t : Nat) : List Nat := wext (t - 16) ((List.range 16).map (wd4 b))
theorem wv_len (b : List Int) (t : Nat) (h : 16 ≤ t) : (wv b t).length = t := by simp [wv, wext_len]; omega
theorem wv_next (b : List Int) (t : Nat) (h : 16 ≤ t) : wv b (t + 1) = wv b t ++ [nextw (wv b t)] := by
  unfold wv; rw [show t + 1 - 16 = (t - 16) + 1 by omega, wext_succ]
theorem wv_all (b : List Int) : wv b 64 = wds b := rfl
theorem wds_len (b : List Int) : (wds b).length = 64 := wv_len b 64 (by decide)
theorem wv_w32 (b : List Int) (h : U8 b) (n : Nat) : W32 (wv b (16 + n)) := by
  induction n with
  | zero =>
    intro x hx
    simp [wv, wext] at hx
    obtain ⟨k, _, rfl⟩ := hx
    exact wd4_lt b h k
  | succ n ih =>
    rw [← Nat.add_assoc, wv_next b _ (by omega)]
    exact ih.app (W32.one (nextw_lt _))
theorem wds_w32 (b : List Int) (h : U8 b) : W32 (wds b) := wv_w32 b h 48
theorem set_next (V : List Nat) (t x : Nat) (hV : V.length = t) (ht : t < 64) : (V ++ List.replicate (64 - t) 0).set t x = (V ++ [x]) ++ List.replicate (64 - (t + 1)) 0 := by
  subst hV
  rw [List.set_append_right _ _ (Nat.le_refl _), Nat.sub_self, show 64 - V.length = (64 - (V.length + 1)) + 1 by omega, List.replicate_succ, List.set_cons_zero]
  simp
theorem getD_left (V z : List Nat) (k : Nat) (h : k < V.length) : (V ++ z).getD k 0 = V.getD k 0 := by
  rw [List.getD_eq_getElem?_getD, List.getD_eq_getElem?_getD, List.getElem?_append_left h]
/-- the round's reckoning is the next word -/
theorem nextw_eq (V : List Nat) (t : Nat) (hV : V.length = t) : nextw V = (sg1 (V.getD (t - 2) 0) + V.getD (t - 7) 0 + sg0 (V.getD (t - 15) 0) + V.getD (t - 16) 0) % 4294967296 := by
  subst hV; rfl
theorem or_byte (x b : Nat) (hb : b < 256) : (x * 256) ||| b = x * 256 + b := by
  have := Nat.two_pow_add_eq_or_of_lt (i := 8) (b := b) (by simpa using hb) x
  rw [Nat.mul_comm x 256]
  exact this.symm
theorem xor_lt {x y : Nat} (hx : x < 4294967296) (hy : y < 4294967296) : x ^^^ y < 4294967296 := Nat.xor_lt_two_pow (n := 32) hx hy
theorem shr_lt (x n : Nat) (hx : x < 4294967296) : x / 2 ^ n < 4294967296 := Nat.lt_of_le_of_lt (Nat.div_le_self _ _) hx
end Go.Proofs.Ytnifflnhbpfmnaa

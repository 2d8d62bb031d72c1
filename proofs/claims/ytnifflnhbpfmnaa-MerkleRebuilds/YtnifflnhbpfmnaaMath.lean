/- Plain facts on bits, bytes and widths: no program is named here. -/
namespace Go.Proofs.Ytnifflnhbpfmnaa

/-- how many bits a number needs -/
def wid (v : Nat) : Nat := if v = 0 then 0 else v.log2 + 1

theorem wid_le_iff (v n : Nat) : wid v ≤ n ↔ v < 2 ^ n := by
  unfold wid
  by_cases h : v = 0
  · subst h; simp [Nat.two_pow_pos]
  · rw [if_neg h]; rw [← Nat.log2_lt h]; omega

theorem wid_ext {v n : Nat} (h : ∀ m, n ≤ m ↔ v < 2 ^ m) : wid v = n := by
  have h1 : wid v ≤ n := (wid_le_iff v n).2 ((h n).1 (Nat.le_refl _))
  have h2 : n ≤ wid v := (h (wid v)).2 ((wid_le_iff v (wid v)).1 (Nat.le_refl _))
  omega

theorem wid_div (v k : Nat) (h : 2 ^ k ≤ v) : wid v = wid (v / 2 ^ k) + k := by
  refine wid_ext fun m => ?_
  by_cases hm : k ≤ m
  · have e : 2 ^ m = 2 ^ (m - k) * 2 ^ k := by rw [← Nat.pow_add]; congr 1; omega
    rw [e, ← Nat.div_lt_iff_lt_mul (Nat.two_pow_pos k), ← wid_le_iff]; omega
  · have : 2 ^ m ≤ 2 ^ k := Nat.pow_le_pow_right (by omega) (by omega)
    constructor
    · intro hk; omega
    · intro hk; omega

theorem wid_half (v : Nat) (h : 0 < v) : wid v = wid (v / 2) + 1 := by
  rcases Nat.lt_or_ge v 2 with h2 | h2
  · have : v = 1 := by omega
    subst this; decide
  · have := wid_div v 1 (by simpa using h2); simpa using this

theorem wid_le64 (v : Nat) (h : v < 18446744073709551616) : wid v ≤ 64 := (wid_le_iff v 64).2 (by simpa using h)

def len8tab : ByteArray := ⟨#[0, 1, 2, 2, 3, 3, 3, 3, 4, 4, 4, 4, 4, 4, 4, 4, 5, 5, 5, 5, 5, 5, 5, 5, 5, 5, 5, 5, 5, 5, 5, 5, 6, 6, 6, 6, 6, 6, 6, 6, 6, 6, 6, 6, 6, 6, 6, 6, 6, 6, 6, 6, 6, 6, 6, 6, 6, 6, 6, 6, 6, 6, 6, 6, 7, 7, 7, 7, 7, 7, 7, 7, 7, 7, 7, 7, 7, 7, 7, 7, 7, 7, 7, 7, 7, 7, 7, 7, 7, 7, 7, 7, 7, 7, 7, 7, 7, 7, 7, 7, 7, 7, 7, 7, 7, 7, 7, 7, 7, 7, 7, 7, 7, 7, 7, 7, 7, 7, 7, 7, 7, 7, 7, 7, 7, 7, 7, 7, 8, 8, 8, 8, 8, 8, 8, 8, 8, 8, 8, 8, 8, 8, 8, 8, 8, 8, 8, 8, 8, 8, 8, 8, 8, 8, 8, 8, 8, 8, 8, 8, 8, 8, 8, 8, 8, 8, 8, 8, 8, 8, 8, 8, 8, 8, 8, 8, 8, 8, 8, 8, 8, 8, 8, 8, 8, 8, 8, 8, 8, 8, 8, 8, 8, 8, 8, 8, 8, 8, 8, 8, 8, 8, 8, 8, 8, 8, 8, 8, 8, 8, 8, 8, 8, 8, 8, 8, 8, 8, 8, 8, 8, 8, 8, 8, 8, 8, 8, 8, 8, 8, 8, 8, 8, 8, 8, 8, 8, 8, 8, 8, 8, 8, 8, 8, 8, 8, 8, 8, 8, 8, 8, 8, 8, 8, 8, 8]⟩
theorem len8tab_all : ∀ k : Fin 256, (len8tab.data.toList.getD k.val 0).toNat = wid k.val := by decide +kernel
theorem len8tab_size : len8tab.size = 256 := by decide +kernel
theorem len8tab_at (k : Nat) (h : k < 256) (hk : k < len8tab.size) : (len8tab[k]'hk).toNat = wid k := by
  have := len8tab_all ⟨k, h⟩
  simp only at this
  rw [← this]
  congr 1
  show len8tab.data[k]'hk = _
  rw [List.getD_eq_getElem?_getD, List.getElem?_eq_getElem (by simpa using hk)]
  simp

/-- what the table and the shifts come to -/
theorem wid_tab (v : Int) (d c : Nat) (hv : 0 ≤ v) (hk : (v / ((2 ^ d : Nat) : Int)).toNat < 256) (hd : d = 0 ∨ ((2 ^ d : Nat) : Int) ≤ v) (hc : c = d) :
    wid v.toNat = wid (v / ((2 ^ d : Nat) : Int)).toNat + c := by
  subst hc
  have e : (v / ((2 ^ c : Nat) : Int)).toNat = v.toNat / 2 ^ c := by
    obtain ⟨n, rfl⟩ := Int.eq_ofNat_of_zero_le hv
    rw [← Int.natCast_ediv]; rfl
  rw [e]
  rcases hd with rfl | hd
  · simp
  · exact wid_div _ _ (by omega)
end Go.Proofs.Ytnifflnhbpfmnaa

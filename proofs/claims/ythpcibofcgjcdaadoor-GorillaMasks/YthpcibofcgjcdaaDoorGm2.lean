/- Patterns as bytes: there and back, cut off, one byte more; only what differs counts; a list cut off. -/
import Derived.Test.YthpcibofcgjcdaaDoorGm
namespace Go.Proofs.YthpcibofcgjcdaaDoor
open Go.RowKit

def ENC9 (l : List Int) : List Int × Int := if 65536 < l.length then ([], 4) else (bytesI (GB l), 0)
def DEC9 (b : List Int) (n : Int) : List Int × Int :=
  if n < 0 ∨ 65536 < n then ([], 1) else
  if (gRd (allBits b) n.toNat).2 ≠ 0 then ([], (gRd (allBits b) n.toNat).2) else
  if (ENC9 (gRd (allBits b) n.toNat).1).1 = b then ((gRd (allBits b) n.toNat).1, 0) else ([], 3)

theorem ENC9_of {l : List Int} (hl : l.length ≤ 65536) : ENC9 l = (bytesI (GB l), 0) := if_neg (by omega)
theorem ENC9_rng (l : List Int) : ∀ y ∈ (ENC9 l).1, 0 ≤ y ∧ y ≤ 255 := by
  unfold ENC9
  by_cases h : 65536 < l.length
  · rw [if_pos h]; intro y hy; simp at hy
  · rw [if_neg h]; exact bytesI_rng _
theorem gx_len (x : Nat) {wn : Option (Nat × Nat)} : (gx x wn).1.length ≤ 77 ∧ 1 ≤ (gx x wn).1.length := by
  have hn : ∀ x, (newW x).length ≤ 77 ∧ 1 ≤ (newW x).length := fun x => by
    unfold newW
    simp only [List.length_cons, List.length_append, bitsOf_length]
    omega
  unfold gx
  by_cases h0 : x = 0
  · rw [if_pos h0]; exact ⟨by simp, by simp⟩
  · rw [if_neg h0]
    cases wn with
    | none => exact hn x
    | some p =>
      obtain ⟨a, z⟩ := p
      simp only
      by_cases hf : fitsW x a z
      · rw [if_pos hf]
        simp only [List.length_cons, bitsOf_length]
        omega
      · rw [if_neg hf]; exact hn x
theorem gE_len (l : List Int) : ∀ (p : Nat) (wn : Option (Nat × Nat)), (gE p wn l).length ≤ 77 * l.length ∧ l.length ≤ (gE p wn l).length := by
  induction l with
  | nil => intro p wn; simp [gE]
  | cons y t ih =>
    intro p wn
    rw [gE, List.length_append, List.length_cons]
    have h1 := gx_len (p ^^^ y.toNat) (wn := wn)
    have h2 := ih y.toNat (gx (p ^^^ y.toNat) wn).2
    omega
theorem GB_len (l : List Int) : (GB l).length ≤ 77 * l.length ∧ l.length ≤ (GB l).length := by
  cases l with
  | nil => simp [GB]
  | cons y t =>
    have h := gE_len t y.toNat none
    unfold GB
    rw [List.length_append, bitsOf_length, List.length_cons]
    omega
theorem nb_lt {l : List Bool} {k : Nat} (h : k < nb l) : 8 * k < l.length := by unfold nb at h; omega
theorem allBits_take8 (ys : List Int) (k : Nat) (h : k ≤ ys.length) : allBits (ys.take k) = (allBits ys).take (8 * k) := by
  have e := allBits_append (ys.take k) (ys.drop k)
  rw [List.take_append_drop] at e
  have hl : (allBits (ys.take k)).length = 8 * k := by rw [allBits_length, List.length_take]; omega
  rw [e, List.take_left' hl]
theorem DEC9_ENC9 {l : List Int} (hu : U64 l) (hl : l.length ≤ 65536) : DEC9 (ENC9 l).1 l.length = (l, 0) := by
  have e : gRd (allBits (ENC9 l).1) l.length = (l, 0) := by
    rw [ENC9_of hl]
    simp only [bits_back]
    exact gRd_GB hu _
  unfold DEC9
  rw [if_neg (by omega), Int.toNat_natCast, e]
  simp
theorem DEC9_more {l : List Int} (hu : U64 l) (hl : l.length ≤ 65536) {r : List Int} (hr : r ≠ []) : DEC9 ((ENC9 l).1 ++ r) l.length = ([], 3) := by
  have e : gRd (allBits ((ENC9 l).1 ++ r)) l.length = (l, 0) := by
    rw [allBits_append, ENC9_of hl]
    simp only [bits_back, List.append_assoc]
    exact gRd_GB hu _
  unfold DEC9
  rw [if_neg (by omega), Int.toNat_natCast, e]
  simp only [ne_eq, not_true_eq_false, if_false]
  rw [if_neg (fun h => hr (List.self_eq_append_right.1 h))]
theorem DEC9_cut {l : List Int} (hu : U64 l) (hl : l.length ≤ 65536) {k : Nat} (hk : k < (ENC9 l).1.length) : DEC9 ((ENC9 l).1.take k) l.length = ([], 2) := by
  have e : gRd (allBits ((ENC9 l).1.take k)) l.length = ([], 2) := by
    rw [allBits_take8 _ _ (by omega)]
    rw [ENC9_of hl] at hk ⊢
    simp only [bytesI_length] at hk
    have h8 := nb_lt hk
    simp only [bits_back]
    rw [List.take_append_of_le_length (by omega)]
    exact gRd_cut hu _ h8
  unfold DEC9
  rw [if_neg (by omega), Int.toNat_natCast, e]
  simp
theorem DEC9_ok {b : List Int} {n : Int} (h : (DEC9 b n).2 = 0) : 0 ≤ n ∧ n ≤ 65536 ∧ ((DEC9 b n).1.length : Int) = n ∧ U64 (DEC9 b n).1 ∧ ENC9 (DEC9 b n).1 = (b, 0) := by
  unfold DEC9 at *
  by_cases hn : n < 0 ∨ 65536 < n
  · rw [if_pos hn] at h; cases h
  · rw [if_neg hn] at h ⊢
    by_cases hR : (gRd (allBits b) n.toNat).2 ≠ 0
    · rw [if_pos hR] at h; exact absurd h hR
    · rw [if_neg hR] at h ⊢
      by_cases hE : (ENC9 (gRd (allBits b) n.toNat).1).1 = b
      · rw [if_pos hE]
        obtain ⟨h1, h2⟩ := gRd_ok (l := allBits b) (n := n.toNat) (by simpa using hR)
        refine ⟨by omega, by omega, by simp only [h2]; omega, h1, ?_⟩
        have h3 := ENC9_of (l := (gRd (allBits b) n.toNat).1) (by rw [h2]; omega)
        rw [h3] at hE ⊢
        simp only at hE
        simp only [hE]
      · rw [if_neg hE] at h; cases h
theorem DEC9_err {b : List Int} {n : Int} (h : (DEC9 b n).2 ≠ 0) : (DEC9 b n).1 = [] := by
  unfold DEC9 at *
  by_cases hn : n < 0 ∨ 65536 < n
  · rw [if_pos hn]
  · rw [if_neg hn] at h ⊢
    by_cases hR : (gRd (allBits b) n.toNat).2 ≠ 0
    · rw [if_pos hR]
    · rw [if_neg hR] at h ⊢
      by_cases hE : (ENC9 (gRd (allBits b) n.toNat).1).1 = b
      · rw [if_pos hE] at h; exact absurd rfl h
      · rw [if_neg hE]

/-! only what differs counts -/
def msk (m : Nat) (l : List Int) : List Int := l.map fun y => ((y.toNat ^^^ m : Nat) : Int)
theorem xor_mask (p y m : Nat) : (p ^^^ m) ^^^ (y ^^^ m) = p ^^^ y := by
  rw [Nat.xor_assoc, ← Nat.xor_assoc m y m, Nat.xor_comm m y, Nat.xor_assoc y m m, Nat.xor_self, Nat.xor_zero]
theorem gE_mask (m : Nat) (l : List Int) : ∀ (p : Nat) (wn : Option (Nat × Nat)), gE (p ^^^ m) wn (msk m l) = gE p wn l := by
  induction l with
  | nil => intro p wn; rfl
  | cons y t ih =>
    intro p wn
    show (gx ((p ^^^ m) ^^^ (((y.toNat ^^^ m : Nat) : Int)).toNat) wn).1 ++ gE (((y.toNat ^^^ m : Nat) : Int)).toNat (gx ((p ^^^ m) ^^^ (((y.toNat ^^^ m : Nat) : Int)).toNat) wn).2 (msk m t) = _
    rw [Int.toNat_natCast, xor_mask, ih]
    rfl
theorem GB_mask (m : Nat) (l : List Int) (hl : l ≠ []) : (GB (msk m l)).drop 64 = (GB l).drop 64 ∧ (GB (msk m l)).length = (GB l).length := by
  cases l with
  | nil => exact absurd rfl hl
  | cons y t =>
    have e : GB (msk m (y :: t)) = bitsOf (y.toNat ^^^ m) 64 ++ gE (y.toNat ^^^ m) none (msk m t) := by
      show bitsOf (((y.toNat ^^^ m : Nat) : Int)).toNat 64 ++ gE (((y.toNat ^^^ m : Nat) : Int)).toNat none (msk m t) = _
      rw [Int.toNat_natCast]
    rw [e, gE_mask]
    unfold GB
    rw [List.drop_left' (bitsOf_length _ _), List.drop_left' (bitsOf_length _ _)]
    simp [bitsOf_length]
theorem bytesI_drop (l : List Bool) (k : Nat) (h : 8 * k ≤ l.length) : bytesI (l.drop (8 * k)) = (bytesI l).drop k := by
  apply List.ext_getElem?
  intro i
  have hn : nb (l.drop (8 * k)) = nb l - k := by unfold nb; rw [List.length_drop]; omega
  have hb : byteAt (l.drop (8 * k)) i = byteAt l (k + i) := by
    have hg : ∀ q, (l.drop (8 * k)).getD q false = l.getD (8 * k + q) false := fun q => by
      rw [List.getD_eq_getElem?_getD, List.getD_eq_getElem?_getD, List.getElem?_drop]
    unfold byteAt
    simp only [hg]
    rw [show 8 * (k + i) = 8 * k + 8 * i by omega]
    simp only [Nat.add_assoc]
  rw [List.getElem?_drop]
  unfold bytesI
  by_cases hi : i < nb l - k
  · rw [List.getElem?_map, List.getElem?_map, List.getElem?_range (by omega), List.getElem?_range (by omega)]
    simp only [Option.map_some, hb]
  · rw [List.getElem?_eq_none (by simp; omega), List.getElem?_eq_none (by simp; omega)]

/-! a list cut off; equal ones -/
theorem gE_app (l t : List Int) : ∀ (p : Nat) (wn : Option (Nat × Nat)), ∃ q wn', gE p wn (l ++ t) = gE p wn l ++ gE q wn' t := by
  induction l with
  | nil => intro p wn; exact ⟨p, wn, rfl⟩
  | cons y r ih =>
    intro p wn
    obtain ⟨q, wn', e⟩ := ih y.toNat (gx (p ^^^ y.toNat) wn).2
    refine ⟨q, wn', ?_⟩
    rw [List.cons_append, gE, gE, e, List.append_assoc]
theorem GB_take (l : List Int) (k : Nat) : ∃ r, GB l = GB (l.take k) ++ r := by
  cases l with
  | nil => exact ⟨[], by simp [GB]⟩
  | cons y t =>
    cases k with
    | zero => exact ⟨_, rfl⟩
    | succ k =>
      obtain ⟨q, wn', e⟩ := gE_app (t.take k) (t.drop k) y.toNat none
      rw [List.take_append_drop] at e
      refine ⟨gE q wn' (t.drop k), ?_⟩
      rw [List.take_succ_cons]
      show bitsOf y.toNat 64 ++ gE y.toNat none t = (bitsOf y.toNat 64 ++ gE y.toNat none (t.take k)) ++ gE q wn' (t.drop k)
      rw [e, List.append_assoc]
theorem nb_mono {a b : List Bool} (h : a.length ≤ b.length) : nb a ≤ nb b := by unfold nb; omega
theorem gE_same (v : Int) (wn : Option (Nat × Nat)) : ∀ k, gE v.toNat wn (List.replicate k v) = List.replicate k false
  | 0 => rfl
  | k + 1 => by
    rw [List.replicate_succ, gE, Nat.xor_self]
    have e : gx 0 wn = ([false], wn) := by unfold gx; rw [if_pos rfl]
    rw [e, gE_same v wn k]
    rfl
theorem GB_same (v : Int) (k : Nat) : GB (List.replicate (k + 1) v) = bitsOf v.toNat 64 ++ List.replicate k false := by
  rw [List.replicate_succ]
  show bitsOf v.toNat 64 ++ gE v.toNat none (List.replicate k v) = _
  rw [gE_same]

theorem GB_ex : GB [5, 5] = bitsOf 5 64 ++ [false] := GB_same 5 1
theorem ENC9_ex : ENC9 [5, 5] = ([0, 0, 0, 0, 0, 0, 0, 5, 0], 0) := by decide +kernel
theorem u64_ex9 : U64 [5, 5] := by intro x hx; simp at hx; omega
theorem DEC9_ex : DEC9 [0, 0, 0, 0, 0, 0, 0, 5, 0] 2 = ([5, 5], 0) := by
  have := DEC9_ENC9 u64_ex9 (by decide)
  rw [ENC9_ex] at this
  exact this
end Go.Proofs.YthpcibofcgjcdaaDoor

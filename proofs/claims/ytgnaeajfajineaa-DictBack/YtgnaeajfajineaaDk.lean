/- Patterns by their place in a list of those that there are, as plain mathematics. -/
import Derived.Test.YtgnaeajfajineaaBMath4
import Derived.Test.YtgnaeajfajineaaRm
import Derived.Test.YtgnaeajfajineaaSm2
namespace Go.Proofs.Ytgnaeajfajineaa
open Go.RowKit

/-! the dictionary -/
/-- d, and of l what is not there yet -/
def dct : List Int → List Int → List Int
  | d, [] => d
  | d, x :: t => if x ∈ d then dct d t else dct (d ++ [x]) t
def dic (l : List Int) : List Int := dct [] l
theorem dct_snoc (l : List Int) (y : Int) : ∀ d, dct d (l ++ [y]) = if y ∈ dct d l then dct d l else dct d l ++ [y] := by
  induction l with
  | nil => intro d; rfl
  | cons x t ih =>
    intro d
    rw [List.cons_append, dct, dct]
    by_cases h : x ∈ d
    · rw [if_pos h, if_pos h, ih]
    · rw [if_neg h, if_neg h, ih]
theorem dct_mem (l : List Int) : ∀ (d : List Int) (y : Int), y ∈ dct d l ↔ y ∈ d ∨ y ∈ l := by
  induction l with
  | nil => intro d y; simp [dct]
  | cons x t ih =>
    intro d y
    rw [dct]
    by_cases h : x ∈ d
    · rw [if_pos h, ih, List.mem_cons]
      constructor
      · rintro (h1 | h1)
        · exact .inl h1
        · exact .inr (.inr h1)
      · rintro (h1 | rfl | h1)
        · exact .inl h1
        · exact .inl h
        · exact .inr h1
    · rw [if_neg h, ih, List.mem_cons, List.mem_append]
      constructor
      · rintro ((h1 | h1) | h1)
        · exact .inl h1
        · exact .inr (.inl (by simpa using h1))
        · exact .inr (.inr h1)
      · rintro (h1 | rfl | h1)
        · exact .inl (.inl h1)
        · exact .inl (.inr (by simp))
        · exact .inr h1
theorem dct_nodup (l : List Int) : ∀ d : List Int, d.Nodup → (dct d l).Nodup := by
  induction l with
  | nil => intro d h; exact h
  | cons x t ih =>
    intro d h
    rw [dct]
    by_cases hx : x ∈ d
    · rw [if_pos hx]; exact ih d h
    · rw [if_neg hx]
      refine ih _ (List.nodup_append.2 ⟨h, by simp, ?_⟩)
      intro a ha b hb e
      simp at hb
      subst hb e
      exact hx ha
theorem dct_pre (l : List Int) : ∀ d : List Int, ∃ e, dct d l = d ++ e := by
  induction l with
  | nil => intro d; exact ⟨[], by simp [dct]⟩
  | cons x t ih =>
    intro d
    rw [dct]
    by_cases h : x ∈ d
    · rw [if_pos h]; exact ih d
    · rw [if_neg h]
      obtain ⟨e, he⟩ := ih (d ++ [x])
      exact ⟨[x] ++ e, by rw [he, List.append_assoc]⟩
theorem dct_len (l : List Int) : ∀ d : List Int, (dct d l).length ≤ d.length + l.length := by
  induction l with
  | nil => intro d; simp [dct]
  | cons x t ih =>
    intro d
    rw [dct]
    by_cases h : x ∈ d
    · rw [if_pos h]; have := ih d; simp only [List.length_cons]; omega
    · rw [if_neg h]; have := ih (d ++ [x]); simp only [List.length_cons, List.length_append, List.length_nil] at *; omega
theorem dic_mem (l : List Int) (y : Int) : y ∈ dic l ↔ y ∈ l := by unfold dic; rw [dct_mem]; simp
theorem dic_nodup (l : List Int) : (dic l).Nodup := dct_nodup l [] List.nodup_nil
theorem dic_len (l : List Int) : (dic l).length ≤ l.length := by have := dct_len l []; simpa [dic] using this
theorem dic_u64 {l : List Int} (hu : U64 l) : U64 (dic l) := fun y hy => hu y ((dic_mem l y).1 hy)
theorem dic_snoc (l : List Int) (y : Int) : dic (l ++ [y]) = if y ∈ dic l then dic l else dic l ++ [y] := dct_snoc l y []
theorem dic_pos {l : List Int} (h : l ≠ []) : 0 < (dic l).length := by
  cases l with
  | nil => exact absurd rfl h
  | cons x t =>
    have : x ∈ dic (x :: t) := (dic_mem _ _).2 List.mem_cons_self
    exact List.length_pos_of_mem this

/-! places -/
def plc (d : List Int) (v : Int) : Nat := d.idxOf v
theorem plc_lt {d : List Int} {v : Int} (h : v ∈ d) : plc d v < d.length := List.idxOf_lt_length_of_mem h
theorem plc_get {d : List Int} {v : Int} (h : v ∈ d) : d.getD (plc d v) 0 = v := by
  have hl := plc_lt h
  rw [List.getD_eq_getElem?_getD, List.getElem?_eq_getElem hl]
  exact List.getElem_idxOf hl
theorem plc_pre {d e : List Int} {v : Int} (h : v ∈ d) : plc (d ++ e) v = plc d v := by unfold plc; rw [List.idxOf_append, if_pos h]
/-- how many bits a place needs -/
def wP (k : Nat) : Nat := if k = 0 then 0 else wid (k - 1)
theorem wP_lt {k p : Nat} (h : p < k) : p < 2 ^ wP k := by
  unfold wP
  rw [if_neg (by omega)]
  have := (wid_le_iff (k - 1) (wid (k - 1))).1 (Nat.le_refl _)
  omega
theorem wP_le {k : Nat} (h : k ≤ 65536) : wP k ≤ 16 := by
  unfold wP
  by_cases h0 : k = 0
  · rw [if_pos h0]; omega
  · rw [if_neg h0]; exact (wid_le_iff _ 16).2 (by omega)

/-! bits of places -/
def bitsP (w : Nat) (ps : List Nat) : List Bool := ps.flatMap fun p => bitsOf p w
theorem bitsP_cons (w p : Nat) (ps : List Nat) : bitsP w (p :: ps) = bitsOf p w ++ bitsP w ps := rfl
theorem bitsP_len (w : Nat) (ps : List Nat) : (bitsP w ps).length = ps.length * w := by
  induction ps with
  | nil => simp [bitsP]
  | cons p t ih => rw [bitsP_cons, List.length_append, bitsOf_length, ih, List.length_cons, Nat.succ_mul]; omega
theorem bitsP_snoc (w : Nat) (ps : List Nat) (p : Nat) : bitsP w (ps ++ [p]) = bitsP w ps ++ bitsOf p w := by simp [bitsP]
def rdP (w : Nat) : Nat → List Bool → List Nat
  | 0, _ => []
  | n + 1, k => bnum (k.take w) :: rdP w n (k.drop w)
theorem rdP_len (w : Nat) : ∀ (n : Nat) (k : List Bool), (rdP w n k).length = n
  | 0, _ => rfl
  | n + 1, k => by rw [rdP, List.length_cons, rdP_len w n]
theorem rdP_bits (w : Nat) (ps : List Nat) : ∀ r : List Bool, (∀ p ∈ ps, p < 2 ^ w) → rdP w ps.length (bitsP w ps ++ r) = ps := by
  induction ps with
  | nil => intro r _; rfl
  | cons p t ih =>
    intro r h
    have hl : (bitsOf p w).length = w := bitsOf_length _ _
    rw [List.length_cons, rdP, bitsP_cons, List.append_assoc, List.take_left' hl, List.drop_left' hl, num_bitsOf, Nat.mod_eq_of_lt (h p List.mem_cons_self), ih r (fun q hq => h q (List.mem_cons_of_mem _ hq))]
theorem rdP_snoc (w : Nat) : ∀ (n : Nat) (k : List Bool), rdP w (n + 1) k = rdP w n k ++ [bnum ((k.drop (n * w)).take w)]
  | 0, k => by simp [rdP]
  | n + 1, k => by
    rw [rdP, rdP_snoc w n (k.drop w), rdP, List.drop_drop, List.cons_append, Nat.succ_mul, Nat.add_comm w]

/-! patterns in eight bytes -/
def fx8 (d : List Int) : List Int := d.flatMap fun v => fixL v 8
theorem fx8_cons (v : Int) (d : List Int) : fx8 (v :: d) = fixL v 8 ++ fx8 d := rfl
theorem fx8_snoc (d : List Int) (v : Int) : fx8 (d ++ [v]) = fx8 d ++ fixL v 8 := by simp [fx8]
theorem fx8_len (d : List Int) : (fx8 d).length = 8 * d.length := by
  induction d with
  | nil => rfl
  | cons v t ih => rw [fx8_cons, List.length_append, fixL_len, ih, List.length_cons]; omega
def rd8 : Nat → List Int → List Int
  | 0, _ => []
  | n + 1, b => ((num (b.take 8) : Nat) : Int) :: rd8 n (b.drop 8)
theorem rd8_len : ∀ (n : Nat) (b : List Int), (rd8 n b).length = n
  | 0, _ => rfl
  | n + 1, b => by rw [rd8, List.length_cons, rd8_len n]
theorem rd8_fx (d : List Int) : ∀ r : List Int, U64 d → rd8 d.length (fx8 d ++ r) = d := by
  induction d with
  | nil => intro r _; rfl
  | cons v t ih =>
    intro r hu
    have hv := hu v List.mem_cons_self
    obtain ⟨n, rfl⟩ := Int.eq_ofNat_of_zero_le hv.1
    rw [List.length_cons, rd8, fx8_cons, List.append_assoc, List.take_left' (fixL_len _ 8), List.drop_left' (fixL_len _ 8), num_fix8 n (by omega), ih r (fun q hq => hu q (List.mem_cons_of_mem _ hq))]
theorem rd8_snoc : ∀ (n : Nat) (b : List Int), rd8 (n + 1) b = rd8 n b ++ [((num ((b.drop (8 * n)).take 8) : Nat) : Int)]
  | 0, b => by simp [rd8]
  | n + 1, b => by
    rw [rd8, rd8_snoc n (b.drop 8), rd8, List.drop_drop, List.cons_append, show 8 + 8 * n = 8 * (n + 1) by omega]
theorem rd8_u64 : ∀ (n : Nat) (b : List Int), (∀ y ∈ b, 0 ≤ y ∧ y ≤ 255) → U64 (rd8 n b)
  | 0, _, _ => fun x hx => by simp [rd8] at hx
  | n + 1, b, hr => fun x hx => by
    rw [rd8] at hx
    rcases List.mem_cons.1 hx with rfl | h
    · have h1 := num_lt (b.take 8) (fun y hy => hr y (List.mem_of_mem_take hy))
      have h2 : (256 : Nat) ^ (b.take 8).length ≤ 256 ^ 8 := Nat.pow_le_pow_right (by omega) (by rw [List.length_take]; omega)
      have h3 : (256 : Nat) ^ 8 = 18446744073709551616 := by decide
      omega
    · exact rd8_u64 n _ (fun y hy => hr y (List.mem_of_mem_drop hy)) x h

/-! there and back -/
def tail10 (d l : List Int) : List Bool := bitsP (wP d.length) (l.map (plc d))
def ENC10 (l : List Int) : List Int × Int := if 65536 < l.length then ([], 4) else (gs (dic l).length ++ (fx8 (dic l) ++ bytesI (tail10 (dic l) l)), 0)
theorem ENC10_of {l : List Int} (h : l.length ≤ 65536) : ENC10 l = (gs (dic l).length ++ (fx8 (dic l) ++ bytesI (tail10 (dic l) l)), 0) := if_neg (by omega)
/-- behind the varint: many patterns, then places -/
def DECB (many n : Nat) (rest b : List Int) : List Int × Int :=
  if rest.length < 8 * many then ([], 2) else
  if (allBits (rest.drop (8 * many))).length < n * wP many then ([], 2) else
  if ∃ p ∈ rdP (wP many) n (allBits (rest.drop (8 * many))), many ≤ p then ([], 3) else
  if (ENC10 ((rdP (wP many) n (allBits (rest.drop (8 * many)))).map fun p => (rd8 many rest).getD p 0)).1 = b then ((rdP (wP many) n (allBits (rest.drop (8 * many)))).map fun p => (rd8 many rest).getD p 0, 0) else ([], 3)
def DEC10 (b : List Int) (n : Int) : List Int × Int :=
  if n < 0 ∨ 65536 < n then ([], 1) else
  if (sVarint b).2.2 ≠ 0 then ([], (sVarint b).2.2) else
  if n < (sVarint b).1 then ([], 3) else
  DECB (sVarint b).1.toNat n.toNat (b.drop (sVarint b).2.1) b
theorem tail10_len (d l : List Int) : (tail10 d l).length = l.length * wP d.length := by unfold tail10; rw [bitsP_len, List.length_map]
theorem plc_all {l : List Int} : ∀ p ∈ l.map (plc (dic l)), p < (dic l).length := by
  intro p hp
  obtain ⟨x, hx, rfl⟩ := List.mem_map.1 hp
  exact plc_lt ((dic_mem l x).2 hx)
theorem back10 (l : List Int) : (l.map (plc (dic l))).map (fun p => (dic l).getD p 0) = l := by
  rw [List.map_map]
  exact (List.map_congr_left (g := id) (fun x hx => plc_get ((dic_mem l x).2 hx))).trans (List.map_id l)
end Go.Proofs.Ytgnaeajfajineaa

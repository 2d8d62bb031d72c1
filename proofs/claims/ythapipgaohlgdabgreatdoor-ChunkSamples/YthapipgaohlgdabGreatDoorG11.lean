/- Several texts in one: Dk, Dk2, Dk3, Vc, Kd, Ks. -/
import Derived.Test.YthapipgaohlgdabGreatDoorG2
import Derived.Test.YthapipgaohlgdabGreatDoorG7
import Derived.Test.YthapipgaohlgdabGreatDoorG8
import Derived.Test.YthapipgaohlgdabGreatDoorG6
import Derived.Test.YthapipgaohlgdabGreatDoorG10
import Derived.Laws.IdiomStrings
import Derived.Laws.BytesArg
import Derived.Deep.SlicePairs
import Derived.OpenShut

/- Patterns by their place in a list of those that there are, as plain mathematics. -/
namespace Go.Proofs.YthapipgaohlgdabGreatDoor
open Go.RowKit

/-! the dictionary -/
/-- d, and of l what is not there yet -/
def dct : List Int → List Int → List Int
  | d, [] => d
  | d, x :: t => if x ∈ d then dct d t else dct (d ++ [x]) t
def dic (l : List Int) : List Int := dct [] l
theorem dct_snoc (l : List Int) (y : Int) : ∀ d, dct d (l ++ [y]) = if y ∈ dct d l then dct d l else dct d l ++ [y] := by
  induction l with
  | nil => intro d; rfl
  | cons x t ih =>
    intro d
    rw [List.cons_append, dct, dct]
    by_cases h : x ∈ d
    · rw [if_pos h, if_pos h, ih]
    · rw [if_neg h, if_neg h, ih]
theorem dct_mem (l : List Int) : ∀ (d : List Int) (y : Int), y ∈ dct d l ↔ y ∈ d ∨ y ∈ l := by
  induction l with
  | nil => intro d y; simp [dct]
  | cons x t ih =>
    intro d y
    rw [dct]
    by_cases h : x ∈ d
    · rw [if_pos h, ih, List.mem_cons]
      constructor
      · rintro (h1 | h1)
        · exact .inl h1
        · exact .inr (.inr h1)
      · rintro (h1 | rfl | h1)
        · exact .inl h1
        · exact .inl h
        · exact .inr h1
    · rw [if_neg h, ih, List.mem_cons, List.mem_append]
      constructor
      · rintro ((h1 | h1) | h1)
        · exact .inl h1
        · exact .inr (.inl (by simpa using h1))
        · exact .inr (.inr h1)
      · rintro (h1 | rfl | h1)
        · exact .inl (.inl h1)
        · exact .inl (.inr (by simp))
        · exact .inr h1
theorem dct_nodup (l : List Int) : ∀ d : List Int, d.Nodup → (dct d l).Nodup := by
  induction l with
  | nil => intro d h; exact h
  | cons x t ih =>
    intro d h
    rw [dct]
    by_cases hx : x ∈ d
    · rw [if_pos hx]; exact ih d h
    · rw [if_neg hx]
      refine ih _ (List.nodup_append.2 ⟨h, by simp, ?_⟩)
      intro a ha b hb e
      simp at hb
      subst hb e
      exact hx ha
theorem dct_pre (l : List Int) : ∀ d : List Int, ∃ e, dct d l = d ++ e := by
  induction l with
  | nil => intro d; exact ⟨[], by simp [dct]⟩
  | cons x t ih =>
    intro d
    rw [dct]
    by_cases h : x ∈ d
    · rw [if_pos h]; exact ih d
    · rw [if_neg h]
      obtain ⟨e, he⟩ := ih (d ++ [x])
      exact ⟨[x] ++ e, by rw [he, List.append_assoc]⟩
theorem dct_len (l : List Int) : ∀ d : List Int, (dct d l).length ≤ d.length + l.length := by
  induction l with
  | nil => intro d; simp [dct]
  | cons x t ih =>
    intro d
    rw [dct]
    by_cases h : x ∈ d
    · rw [if_pos h]; have := ih d; simp only [List.length_cons]; omega
    · rw [if_neg h]; have := ih (d ++ [x]); simp only [List.length_cons, List.length_append, List.length_nil] at *; omega
theorem dic_mem (l : List Int) (y : Int) : y ∈ dic l ↔ y ∈ l := by unfold dic; rw [dct_mem]; simp
theorem dic_nodup (l : List Int) : (dic l).Nodup := dct_nodup l [] List.nodup_nil
theorem dic_len (l : List Int) : (dic l).length ≤ l.length := by have := dct_len l []; simpa [dic] using this
theorem dic_u64 {l : List Int} (hu : U64 l) : U64 (dic l) := fun y hy => hu y ((dic_mem l y).1 hy)
theorem dic_snoc (l : List Int) (y : Int) : dic (l ++ [y]) = if y ∈ dic l then dic l else dic l ++ [y] := dct_snoc l y []
theorem dic_pos {l : List Int} (h : l ≠ []) : 0 < (dic l).length := by
  cases l with
  | nil => exact absurd rfl h
  | cons x t =>
    have : x ∈ dic (x :: t) := (dic_mem _ _).2 List.mem_cons_self
    exact List.length_pos_of_mem this

/-! places -/
def plc (d : List Int) (v : Int) : Nat := d.idxOf v
theorem plc_lt {d : List Int} {v : Int} (h : v ∈ d) : plc d v < d.length := List.idxOf_lt_length_of_mem h
theorem plc_get {d : List Int} {v : Int} (h : v ∈ d) : d.getD (plc d v) 0 = v := by
  have hl := plc_lt h
  rw [List.getD_eq_getElem?_getD, List.getElem?_eq_getElem hl]
  exact List.getElem_idxOf hl
theorem plc_pre {d e : List Int} {v : Int} (h : v ∈ d) : plc (d ++ e) v = plc d v := by unfold plc; rw [List.idxOf_append, if_pos h]
/-- how many bits a place needs -/
def wP (k : Nat) : Nat := if k = 0 then 0 else wid (k - 1)
theorem wP_lt {k p : Nat} (h : p < k) : p < 2 ^ wP k := by
  unfold wP
  rw [if_neg (by omega)]
  have := (wid_le_iff (k - 1) (wid (k - 1))).1 (Nat.le_refl _)
  omega
theorem wP_le {k : Nat} (h : k ≤ 65536) : wP k ≤ 16 := by
  unfold wP
  by_cases h0 : k = 0
  · rw [if_pos h0]; omega
  · rw [if_neg h0]; exact (wid_le_iff _ 16).2 (by omega)

/-! bits of places -/
def bitsP (w : Nat) (ps : List Nat) : List Bool := ps.flatMap fun p => bitsOf p w
theorem bitsP_cons (w p : Nat) (ps : List Nat) : bitsP w (p :: ps) = bitsOf p w ++ bitsP w ps := rfl
theorem bitsP_len (w : Nat) (ps : List Nat) : (bitsP w ps).length = ps.length * w := by
  induction ps with
  | nil => simp [bitsP]
  | cons p t ih => rw [bitsP_cons, List.length_append, bitsOf_length, ih, List.length_cons, Nat.succ_mul]; omega
theorem bitsP_snoc (w : Nat) (ps : List Nat) (p : Nat) : bitsP w (ps ++ [p]) = bitsP w ps ++ bitsOf p w := by simp [bitsP]
def rdP (w : Nat) : Nat → List Bool → List Nat
  | 0, _ => []
  | n + 1, k => bnum (k.take w) :: rdP w n (k.drop w)
theorem rdP_len (w : Nat) : ∀ (n : Nat) (k : List Bool), (rdP w n k).length = n
  | 0, _ => rfl
  | n + 1, k => by rw [rdP, List.length_cons, rdP_len w n]
theorem rdP_bits (w : Nat) (ps : List Nat) : ∀ r : List Bool, (∀ p ∈ ps, p < 2 ^ w) → rdP w ps.length (bitsP w ps ++ r) = ps := by
  induction ps with
  | nil => intro r _; rfl
  | cons p t ih =>
    intro r h
    have hl : (bitsOf p w).length = w := bitsOf_length _ _
    rw [List.length_cons, rdP, bitsP_cons, List.append_assoc, List.take_left' hl, List.drop_left' hl, num_bitsOf, Nat.mod_eq_of_lt (h p List.mem_cons_self), ih r (fun q hq => h q (List.mem_cons_of_mem _ hq))]
theorem rdP_snoc (w : Nat) : ∀ (n : Nat) (k : List Bool), rdP w (n + 1) k = rdP w n k ++ [bnum ((k.drop (n * w)).take w)]
  | 0, k => by simp [rdP]
  | n + 1, k => by
    rw [rdP, rdP_snoc w n (k.drop w), rdP, List.drop_drop, List.cons_append, Nat.succ_mul, Nat.add_comm w]

/-! patterns in eight bytes -/
def fx8 (d : List Int) : List Int := d.flatMap fun v => fixL v 8
theorem fx8_cons (v : Int) (d : List Int) : fx8 (v :: d) = fixL v 8 ++ fx8 d := rfl
theorem fx8_snoc (d : List Int) (v : Int) : fx8 (d ++ [v]) = fx8 d ++ fixL v 8 := by simp [fx8]
theorem fx8_len (d : List Int) : (fx8 d).length = 8 * d.length := by
  induction d with
  | nil => rfl
  | cons v t ih => rw [fx8_cons, List.length_append, fixL_len, ih, List.length_cons]; omega
def rd8 : Nat → List Int → List Int
  | 0, _ => []
  | n + 1, b => ((num (b.take 8) : Nat) : Int) :: rd8 n (b.drop 8)
theorem rd8_len : ∀ (n : Nat) (b : List Int), (rd8 n b).length = n
  | 0, _ => rfl
  | n + 1, b => by rw [rd8, List.length_cons, rd8_len n]
theorem rd8_fx (d : List Int) : ∀ r : List Int, U64 d → rd8 d.length (fx8 d ++ r) = d := by
  induction d with
  | nil => intro r _; rfl
  | cons v t ih =>
    intro r hu
    have hv := hu v List.mem_cons_self
    obtain ⟨n, rfl⟩ := Int.eq_ofNat_of_zero_le hv.1
    rw [List.length_cons, rd8, fx8_cons, List.append_assoc, List.take_left' (fixL_len _ 8), List.drop_left' (fixL_len _ 8), num_fix8 n (by omega), ih r (fun q hq => hu q (List.mem_cons_of_mem _ hq))]
theorem rd8_snoc : ∀ (n : Nat) (b : List Int), rd8 (n + 1) b = rd8 n b ++ [((num ((b.drop (8 * n)).take 8) : Nat) : Int)]
  | 0, b => by simp [rd8]
  | n + 1, b => by
    rw [rd8, rd8_snoc n (b.drop 8), rd8, List.drop_drop, List.cons_append, show 8 + 8 * n = 8 * (n + 1) by omega]
theorem rd8_u64 : ∀ (n : Nat) (b : List Int), (∀ y ∈ b, 0 ≤ y ∧ y ≤ 255) → U64 (rd8 n b)
  | 0, _, _ => fun x hx => by simp [rd8] at hx
  | n + 1, b, hr => fun x hx => by
    rw [rd8] at hx
    rcases List.mem_cons.1 hx with rfl | h
    · have h1 := num_lt (b.take 8) (fun y hy => hr y (List.mem_of_mem_take hy))
      have h2 : (256 : Nat) ^ (b.take 8).length ≤ 256 ^ 8 := Nat.pow_le_pow_right (by omega) (by rw [List.length_take]; omega)
      have h3 : (256 : Nat) ^ 8 = 18446744073709551616 := by decide
      omega
    · exact rd8_u64 n _ (fun y hy => hr y (List.mem_of_mem_drop hy)) x h

/-! there and back -/
def tail10 (d l : List Int) : List Bool := bitsP (wP d.length) (l.map (plc d))
def ENC10 (l : List Int) : List Int × Int := if 65536 < l.length then ([], 4) else (gs (dic l).length ++ (fx8 (dic l) ++ bytesI (tail10 (dic l) l)), 0)
theorem ENC10_of {l : List Int} (h : l.length ≤ 65536) : ENC10 l = (gs (dic l).length ++ (fx8 (dic l) ++ bytesI (tail10 (dic l) l)), 0) := if_neg (by omega)
/-- behind the varint: many patterns, then places -/
def DECB (many n : Nat) (rest b : List Int) : List Int × Int :=
  if rest.length < 8 * many then ([], 2) else
  if (allBits (rest.drop (8 * many))).length < n * wP many then ([], 2) else
  if ∃ p ∈ rdP (wP many) n (allBits (rest.drop (8 * many))), many ≤ p then ([], 3) else
  if (ENC10 ((rdP (wP many) n (allBits (rest.drop (8 * many)))).map fun p => (rd8 many rest).getD p 0)).1 = b then ((rdP (wP many) n (allBits (rest.drop (8 * many)))).map fun p => (rd8 many rest).getD p 0, 0) else ([], 3)
def DEC10 (b : List Int) (n : Int) : List Int × Int :=
  if n < 0 ∨ 65536 < n then ([], 1) else
  if (sVarint b).2.2 ≠ 0 then ([], (sVarint b).2.2) else
  if n < (sVarint b).1 then ([], 3) else
  DECB (sVarint b).1.toNat n.toNat (b.drop (sVarint b).2.1) b
theorem tail10_len (d l : List Int) : (tail10 d l).length = l.length * wP d.length := by unfold tail10; rw [bitsP_len, List.length_map]
theorem plc_all {l : List Int} : ∀ p ∈ l.map (plc (dic l)), p < (dic l).length := by
  intro p hp
  obtain ⟨x, hx, rfl⟩ := List.mem_map.1 hp
  exact plc_lt ((dic_mem l x).2 hx)
theorem back10 (l : List Int) : (l.map (plc (dic l))).map (fun p => (dic l).getD p 0) = l := by
  rw [List.map_map]
  exact (List.map_congr_left (g := id) (fun x hx => plc_get ((dic_mem l x).2 hx))).trans (List.map_id l)
end Go.Proofs.YthapipgaohlgdabGreatDoor

/- Patterns by their place: there and back, cut off, a byte more; what patterns are says nothing but in the dictionary. -/
namespace Go.Proofs.YthapipgaohlgdabGreatDoor
open Go.RowKit

theorem dic_lt {l : List Int} (hl : l.length ≤ 65536) : (dic l).length < 18446744073709551616 := by have := dic_len l; omega
/-- what stands behind the varint, and more behind that -/
theorem DECB_back {l : List Int} (hu : U64 l) (r b : List Int) :
    DECB (dic l).length l.length (fx8 (dic l) ++ (bytesI (tail10 (dic l) l) ++ r)) b = if (ENC10 l).1 = b then (l, 0) else ([], 3) := by
  have hf := fx8_len (dic l)
  have e1 : (fx8 (dic l) ++ (bytesI (tail10 (dic l) l) ++ r)).drop (8 * (dic l).length) = bytesI (tail10 (dic l) l) ++ r := List.drop_left' hf
  have e2 : allBits (bytesI (tail10 (dic l) l) ++ r) = tail10 (dic l) l ++ (List.replicate (8 * nb (tail10 (dic l) l) - (tail10 (dic l) l).length) false ++ allBits r) := by
    rw [allBits_append, bits_back, List.append_assoc]
  have e3 : rdP (wP (dic l).length) l.length (tail10 (dic l) l ++ (List.replicate (8 * nb (tail10 (dic l) l) - (tail10 (dic l) l).length) false ++ allBits r)) = l.map (plc (dic l)) := by
    have := rdP_bits (wP (dic l).length) (l.map (plc (dic l))) (List.replicate (8 * nb (tail10 (dic l) l) - (tail10 (dic l) l).length) false ++ allBits r) (fun p hp => wP_lt (plc_all p hp))
    rw [List.length_map] at this
    exact this
  have e4 : rd8 (dic l).length (fx8 (dic l) ++ (bytesI (tail10 (dic l) l) ++ r)) = dic l := rd8_fx (dic l) _ (dic_u64 hu)
  unfold DECB
  rw [e1, e2, e3, e4, back10]
  rw [if_neg (by rw [List.length_append]; omega), if_neg (by rw [List.length_append, tail10_len]; omega), if_neg (fun ⟨p, hp, h⟩ => by have := plc_all p hp; omega)]
theorem DEC10_head {l : List Int} (hl : l.length ≤ 65536) (r : List Int) : DEC10 (gs (dic l).length ++ r) l.length = DECB (dic l).length l.length r (gs (dic l).length ++ r) := by
  unfold DEC10
  rw [sVarint_gs _ _ (dic_lt hl)]
  have := dic_len l
  simp only [ne_eq, not_true_eq_false, if_false, Int.toNat_natCast, List.drop_left]
  rw [if_neg (by omega), if_neg (by omega)]
theorem DEC10_ENC10 {l : List Int} (hu : U64 l) (hl : l.length ≤ 65536) : DEC10 (ENC10 l).1 l.length = (l, 0) := by
  have e := DECB_back hu [] (ENC10 l).1
  rw [List.append_nil, if_pos rfl] at e
  rw [ENC10_of hl] at e ⊢
  rw [DEC10_head hl]
  exact e
theorem DEC10_more {l : List Int} (hu : U64 l) (hl : l.length ≤ 65536) {r : List Int} (hr : r ≠ []) : DEC10 ((ENC10 l).1 ++ r) l.length = ([], 3) := by
  have e := DECB_back hu r ((ENC10 l).1 ++ r)
  rw [if_neg (fun h => hr (List.self_eq_append_right.1 h))] at e
  rw [ENC10_of hl] at e ⊢
  simp only [List.append_assoc] at e ⊢
  rw [DEC10_head hl]
  exact e
theorem DEC10_cut {l : List Int} (hl : l.length ≤ 65536) {k : Nat} (hk : k < (ENC10 l).1.length) : DEC10 ((ENC10 l).1.take k) l.length = ([], 2) := by
  rw [ENC10_of hl] at hk ⊢
  simp only at hk ⊢
  by_cases h1 : k < (gs (dic l).length).length
  · rw [List.take_append_of_le_length (by omega)]
    unfold DEC10
    rw [sVarint_short _ k (dic_lt hl) h1]
    rw [if_neg (by omega)]
    simp
  · rw [List.take_append, List.take_of_length_le (by omega), DEC10_head hl]
    obtain ⟨j, rfl⟩ : ∃ j, k = (gs (dic l).length).length + j := ⟨k - (gs (dic l).length).length, by omega⟩
    rw [Nat.add_sub_cancel_left]
    rw [List.length_append, List.length_append, fx8_len, bytesI_length] at hk
    unfold DECB
    by_cases h2 : j < 8 * (dic l).length
    · rw [if_pos (by rw [List.length_take, List.length_append, fx8_len]; omega)]
    · rw [if_neg (by rw [List.length_take, List.length_append, fx8_len, bytesI_length]; omega)]
      rw [if_pos ?_]
      rw [List.drop_take, List.drop_left' (fx8_len _), allBits_length, List.length_take, bytesI_length]
      have h3 := tail10_len (dic l) l
      rw [← h3]
      unfold nb at *
      omega
theorem if_err {p : Prop} [Decidable p] {x y : List Int × Int} (hx : x.2 ≠ 0 → x.1 = []) (hy : y.2 ≠ 0 → y.1 = []) : (if p then x else y).2 ≠ 0 → (if p then x else y).1 = [] := by
  by_cases h : p
  · rw [if_pos h]; exact hx
  · rw [if_neg h]; exact hy
theorem DEC10_err {b : List Int} {n : Int} : (DEC10 b n).2 ≠ 0 → (DEC10 b n).1 = [] := by
  unfold DEC10 DECB
  exact if_err (fun _ => rfl) (if_err (fun _ => rfl) (if_err (fun _ => rfl) (if_err (fun _ => rfl) (if_err (fun _ => rfl) (if_err (fun _ => rfl) (if_err (fun h => absurd rfl h) (fun _ => rfl)))))))
theorem DEC10_ok {b : List Int} {n : Int} (hr : ∀ y ∈ b, 0 ≤ y ∧ y ≤ 255) (h : (DEC10 b n).2 = 0) : 0 ≤ n ∧ n ≤ 65536 ∧ ((DEC10 b n).1.length : Int) = n ∧ U64 (DEC10 b n).1 ∧ ENC10 (DEC10 b n).1 = (b, 0) := by
  have key : ∀ (many m : Nat) (rest : List Int), (∀ y ∈ rest, 0 ≤ y ∧ y ≤ 255) → m ≤ 65536 → (DECB many m rest b).2 = 0 → (DECB many m rest b).1.length = m ∧ U64 (DECB many m rest b).1 ∧ ENC10 (DECB many m rest b).1 = (b, 0) := by
    intro many m rest hrr hm h
    unfold DECB at *
    by_cases c1 : rest.length < 8 * many
    · rw [if_pos c1] at h; cases h
    · rw [if_neg c1] at h ⊢
      by_cases c2 : (allBits (rest.drop (8 * many))).length < m * wP many
      · rw [if_pos c2] at h; cases h
      · rw [if_neg c2] at h ⊢
        by_cases c3 : ∃ p ∈ rdP (wP many) m (allBits (rest.drop (8 * many))), many ≤ p
        · rw [if_pos c3] at h; cases h
        · rw [if_neg c3] at h ⊢
          by_cases c4 : (ENC10 ((rdP (wP many) m (allBits (rest.drop (8 * many)))).map fun p => (rd8 many rest).getD p 0)).1 = b
          · rw [if_pos c4]
            have hlen : ((rdP (wP many) m (allBits (rest.drop (8 * many)))).map fun p => (rd8 many rest).getD p 0).length = m := by rw [List.length_map, rdP_len]
            refine ⟨hlen, ?_, ?_⟩
            · intro x hx
              obtain ⟨p, hp, rfl⟩ := List.mem_map.1 hx
              have hpm : p < many := by
                rcases Nat.lt_or_ge p many with e | e
                · exact e
                · exact absurd ⟨p, hp, e⟩ c3
              have hp8 : p < (rd8 many rest).length := by rw [rd8_len]; exact hpm
              refine rd8_u64 many rest hrr _ ?_
              rw [List.getD_eq_getElem?_getD, List.getElem?_eq_getElem hp8]
              exact List.getElem_mem hp8
            · have e := ENC10_of (l := (rdP (wP many) m (allBits (rest.drop (8 * many)))).map fun p => (rd8 many rest).getD p 0) (by rw [hlen]; exact hm)
              rw [e] at c4 ⊢
              simp only at c4
              simp only [c4]
          · rw [if_neg c4] at h; cases h
  unfold DEC10 at *
  by_cases hn : n < 0 ∨ 65536 < n
  · rw [if_pos hn] at h; cases h
  · rw [if_neg hn] at h ⊢
    by_cases hv : (sVarint b).2.2 ≠ 0
    · rw [if_pos hv] at h; exact absurd h hv
    · rw [if_neg hv] at h ⊢
      by_cases hm : n < (sVarint b).1
      · rw [if_pos hm] at h; cases h
      · rw [if_neg hm] at h ⊢
        obtain ⟨k1, k2, k3⟩ := key _ n.toNat _ (fun y hy => hr y (List.mem_of_mem_drop hy)) (by omega) h
        exact ⟨by omega, by omega, by rw [k1]; omega, k2, k3⟩
theorem ENC10_rng (l : List Int) : ∀ y ∈ (ENC10 l).1, 0 ≤ y ∧ y ≤ 255 := by
  unfold ENC10
  by_cases h : 65536 < l.length
  · rw [if_pos h]; intro y hy; simp at hy
  · rw [if_neg h]
    intro y hy
    rcases List.mem_append.1 hy with h1 | h1
    · exact gs_range _ y h1
    · rcases List.mem_append.1 h1 with h2 | h2
      · obtain ⟨v, _, hv⟩ := List.mem_flatMap.1 h2
        unfold fixL at hv
        obtain ⟨j, _, rfl⟩ := List.mem_map.1 hv
        exact fixB_range v _
      · exact bytesI_rng _ y h2
theorem ENC10_ex : ENC10 [9, 9, 7] = ([2, 0, 0, 0, 0, 0, 0, 0, 9, 0, 0, 0, 0, 0, 0, 0, 7, 32], 0) := by decide +kernel
theorem u64_ex10 : U64 [9, 9, 7] := by intro x hx; simp at hx; omega
theorem DEC10_ex : DEC10 [2, 0, 0, 0, 0, 0, 0, 0, 9, 0, 0, 0, 0, 0, 0, 0, 7, 32] 3 = ([9, 9, 7], 0) := by
  have := DEC10_ENC10 u64_ex10 (by decide)
  rw [ENC10_ex] at this
  exact this
end Go.Proofs.YthapipgaohlgdabGreatDoor

/- Patterns by their place: with the same held against all of them the places stay; how many firsts there are. -/
namespace Go.Proofs.YthapipgaohlgdabGreatDoor
open Go.RowKit

def xm (M : Nat) (x : Int) : Int := ((x.toNat ^^^ M : Nat) : Int)
theorem xm_inj {M : Nat} {x y : Int} (hx : 0 ≤ x) (hy : 0 ≤ y) (h : xm M x = xm M y) : x = y := by
  unfold xm at h
  have h1 : x.toNat ^^^ M = y.toNat ^^^ M := by omega
  have h2 : (x.toNat ^^^ M) ^^^ M = (y.toNat ^^^ M) ^^^ M := by rw [h1]
  rw [Nat.xor_assoc, Nat.xor_assoc, Nat.xor_self, Nat.xor_zero, Nat.xor_zero] at h2
  omega
theorem xm_mem {M : Nat} {d : List Int} {x : Int} (hd : U64 d) (hx : 0 ≤ x) : xm M x ∈ d.map (xm M) ↔ x ∈ d := by
  constructor
  · intro h
    obtain ⟨y, hy, e⟩ := List.mem_map.1 h
    rw [← xm_inj (hd y hy).1 hx e]
    exact hy
  · exact fun h => List.mem_map_of_mem h
theorem dct_xm {M : Nat} (l : List Int) : ∀ d : List Int, U64 d → U64 l → dct (d.map (xm M)) (l.map (xm M)) = (dct d l).map (xm M) := by
  induction l with
  | nil => intro d _ _; rfl
  | cons x t ih =>
    intro d hd hl
    have hx := hl x List.mem_cons_self
    have ht : U64 t := fun y hy => hl y (List.mem_cons_of_mem _ hy)
    rw [List.map_cons, dct, dct]
    by_cases h : x ∈ d
    · rw [if_pos h, if_pos ((xm_mem hd hx.1).2 h), ih d hd ht]
    · rw [if_neg h, if_neg (fun e => h ((xm_mem hd hx.1).1 e))]
      have e : d.map (xm M) ++ [xm M x] = (d ++ [x]).map (xm M) := by simp
      rw [e, ih (d ++ [x]) (fun y hy => by
        rcases List.mem_append.1 hy with h1 | h1
        · exact hd y h1
        · simp at h1; rw [h1]; exact hx) ht]
theorem dic_xm {M : Nat} {l : List Int} (hu : U64 l) : dic (l.map (xm M)) = (dic l).map (xm M) := dct_xm l [] (fun x hx => by simp at hx) hu
theorem plc_xm {M : Nat} {x : Int} (hx : 0 ≤ x) : ∀ (d : List Int), U64 d → plc (d.map (xm M)) (xm M x) = plc d x
  | [], _ => rfl
  | y :: t, hd => by
    have hy := hd y List.mem_cons_self
    have ih := plc_xm (M := M) hx t (fun z hz => hd z (List.mem_cons_of_mem _ hz))
    unfold plc at *
    rw [List.map_cons, List.idxOf_cons, List.idxOf_cons, ih]
    by_cases e : y = x
    · subst e; simp
    · have e2 : (xm M y == xm M x) = false := by
        rw [beq_eq_false_iff_ne]; exact fun h => e (xm_inj hy.1 hx h)
      have e3 : (y == x) = false := by rw [beq_eq_false_iff_ne]; exact e
      rw [e2, e3]
theorem tail10_xm {M : Nat} {l : List Int} (hu : U64 l) : tail10 (dic (l.map (xm M))) (l.map (xm M)) = tail10 (dic l) l := by
  rw [dic_xm hu]
  unfold tail10
  rw [List.length_map, List.map_map]
  congr 1
  apply List.map_congr_left
  intro x hx
  exact plc_xm (hu x hx).1 (dic l) (dic_u64 hu)
/-- what stays, and where: the head, and what stands behind the dictionary -/
theorem ENC10_xm {M : Nat} {l : List Int} (hu : U64 l) (hl : l.length ≤ 65536) : (ENC10 (l.map (xm M))).1.length = (ENC10 l).1.length ∧
    (ENC10 (l.map (xm M))).1.take (gs (dic l).length).length = (ENC10 l).1.take (gs (dic l).length).length ∧
    (ENC10 (l.map (xm M))).1.drop ((gs (dic l).length).length + 8 * (dic l).length) = (ENC10 l).1.drop ((gs (dic l).length).length + 8 * (dic l).length) := by
  have e := tail10_xm (M := M) hu
  rw [ENC10_of hl, ENC10_of (by rw [List.length_map]; exact hl), e, dic_xm hu, List.length_map]
  simp only
  refine ⟨?_, ?_, ?_⟩
  · rw [List.length_append, List.length_append, List.length_append, List.length_append, fx8_len, fx8_len, List.length_map]
  · rw [List.take_left, List.take_left]
  · rw [← List.drop_drop, ← List.drop_drop, List.drop_left, List.drop_left, List.drop_left' (by rw [fx8_len, List.length_map]), List.drop_left' (fx8_len _)]
/-- how many of the first k are there for the first time -/
def firsts (l : List Int) (k : Nat) : Nat := (dic (l.take k)).length
theorem firsts_step (l : List Int) (k : Nat) (h : k < l.length) : firsts l (k + 1) = firsts l k + if l.getD k 0 ∈ l.take k then 0 else 1 := by
  unfold firsts
  rw [List.take_add_one, List.getElem?_eq_getElem h, Option.toList_some, dic_snoc]
  have e : l.getD k 0 = l[k] := by rw [List.getD_eq_getElem?_getD, List.getElem?_eq_getElem h]; rfl
  rw [e]
  by_cases hm : l[k] ∈ l.take k
  · rw [if_pos ((dic_mem _ _).2 hm), if_pos hm]; rfl
  · rw [if_neg (fun e => hm ((dic_mem _ _).1 e)), if_neg hm, List.length_append]; rfl
theorem firsts_all (l : List Int) : firsts l l.length = (dic l).length := by unfold firsts; rw [List.take_length]
theorem gs_head {n : Nat} (h : n ≤ 16383) : (gs n).length = if 127 < n then 2 else 1 := by
  by_cases h1 : 127 < n
  · rw [if_pos h1, gs_big (by omega), List.length_cons, gs_small (by omega)]; rfl
  · rw [if_neg h1, gs_small (by omega)]; rfl
end Go.Proofs.YthapipgaohlgdabGreatDoor

/- A list of patterns in four ways, as lists; the shortest of them; what is read back. -/
namespace Go.Proofs.YthapipgaohlgdabGreatDoor
open Go.RowKit

def allSameB (l : List Int) : Bool := l.all fun x => x == l.getD 0 0
abbrev allSame (l : List Int) : Prop := allSameB l = true
theorem allSame_iff {l : List Int} : allSame l ↔ ∀ x ∈ l, x = l.getD 0 0 := by
  unfold allSame allSameB
  rw [List.all_eq_true]
  exact ⟨fun h x hx => by simpa using h x hx, fun h x hx => by simpa using h x hx⟩
/-- the patterns one way -/
def W11 (l : List Int) (tag : Nat) : List Int × Int :=
  if tag = 0 then (fx8 l, 0) else if tag = 1 then (if l = [] ∨ ¬ allSame l then ([], 1) else (fixL (l.getD 0 0) 8, 0)) else if tag = 2 then ENC10 l else ENC9 l
def WAY11 (l : List Int) (tag : Int) : List Int × Int := if tag < 0 ∨ 3 < tag then ([], 1) else if 65536 < l.length then ([], 4) else W11 l tag.toNat
/-- the least tag, up to t, of a shortest way, and its bytes -/
def pick11 (l : List Int) : Nat → Nat × List Int
  | 0 => (0, (W11 l 0).1)
  | t + 1 => if (W11 l (t + 1)).2 = 0 ∧ (W11 l (t + 1)).1.length < (pick11 l t).2.length then (t + 1, (W11 l (t + 1)).1) else pick11 l t
def ENC11 (l : List Int) : List Int × Int := if 65536 < l.length then ([], 4) else (((pick11 l 3).1 : Int) :: (pick11 l 3).2, 0)
/-- the patterns of a way -/
def R11 (ys : List Int) (n tag : Nat) : List Int × Int :=
  if tag = 2 then DEC10 ys n else if tag = 3 then DEC9 ys n else
  if tag = 1 then (if ys.length < 8 then ([], 2) else if 8 < ys.length then ([], 3) else (List.replicate n ((num (ys.take 8) : Nat) : Int), 0)) else
  if ys.length < 8 * n then ([], 2) else if 8 * n < ys.length then ([], 3) else (rd8 n ys, 0)
def DEC11 (b : List Int) (n : Int) : List Int × Int :=
  if n < 0 ∨ 65536 < n then ([], 1) else if b = [] then ([], 2) else if 3 < b.getD 0 0 then ([], 3) else
  if (R11 (b.drop 1) n.toNat (b.getD 0 0).toNat).2 ≠ 0 then ([], (R11 (b.drop 1) n.toNat (b.getD 0 0).toNat).2) else
  if (ENC11 (R11 (b.drop 1) n.toNat (b.getD 0 0).toNat).1).1 = b then ((R11 (b.drop 1) n.toNat (b.getD 0 0).toNat).1, 0) else ([], 3)

theorem W11_0 (l : List Int) : W11 l 0 = (fx8 l, 0) := rfl
theorem W11_1 (l : List Int) : W11 l 1 = if l = [] ∨ ¬ allSame l then ([], 1) else (fixL (l.getD 0 0) 8, 0) := rfl
theorem W11_2 (l : List Int) : W11 l 2 = ENC10 l := rfl
theorem W11_3 (l : List Int) : W11 l 3 = ENC9 l := rfl
theorem tag_cases {t : Nat} (h : t ≤ 3) : t = 0 ∨ t = 1 ∨ t = 2 ∨ t = 3 := by omega
theorem fx8_rng (l : List Int) : ∀ y ∈ fx8 l, 0 ≤ y ∧ y ≤ 255 := by
  intro y hy
  obtain ⟨v, _, hv⟩ := List.mem_flatMap.1 hy
  exact fixL_range v 8 y hv
theorem W11_err {l : List Int} {t : Nat} (ht : t ≤ 3) (hl : l.length ≤ 65536) (h : (W11 l t).2 ≠ 0) : W11 l t = ([], 1) := by
  rcases tag_cases ht with rfl | rfl | rfl | rfl
  · exact absurd rfl h
  · rw [W11_1] at *
    by_cases c : l = [] ∨ ¬ allSame l
    · rw [if_pos c]
    · rw [if_neg c] at h; exact absurd rfl h
  · rw [W11_2, ENC10_of hl] at h; exact absurd rfl h
  · rw [W11_3, ENC9_of hl] at h; exact absurd rfl h
theorem W11_rng {l : List Int} {t : Nat} (ht : t ≤ 3) : ∀ y ∈ (W11 l t).1, 0 ≤ y ∧ y ≤ 255 := by
  rcases tag_cases ht with rfl | rfl | rfl | rfl
  · exact fx8_rng l
  · rw [W11_1]
    by_cases c : l = [] ∨ ¬ allSame l
    · rw [if_pos c]; intro y hy; simp at hy
    · rw [if_neg c]; exact fixL_range _ 8
  · exact ENC10_rng l
  · exact ENC9_rng l
theorem same_rep {l : List Int} (h : allSame l) : l = List.replicate l.length (l.getD 0 0) := List.eq_replicate_iff.2 ⟨rfl, allSame_iff.1 h⟩
theorem num_fixI {v : Int} (h0 : 0 ≤ v) (h1 : v ≤ 18446744073709551615) : ((num (fixL v 8) : Nat) : Int) = v := by
  obtain ⟨n, rfl⟩ := Int.eq_ofNat_of_zero_le h0
  rw [num_fix8 n (by omega)]
theorem head_mem {l : List Int} (h : l ≠ []) : l.getD 0 0 ∈ l := by
  cases l with
  | nil => exact absurd rfl h
  | cons x t => exact List.mem_cons_self
/-- there and back, one way -/
theorem R11_W11 {l : List Int} {t : Nat} (ht : t ≤ 3) (hu : U64 l) (hl : l.length ≤ 65536) (h : (W11 l t).2 = 0) : R11 (W11 l t).1 l.length t = (l, 0) := by
  rcases tag_cases ht with rfl | rfl | rfl | rfl
  · rw [W11_0]
    unfold R11
    rw [if_neg (by omega), if_neg (by omega), if_neg (by omega), if_neg (by rw [fx8_len]; omega), if_neg (by rw [fx8_len]; omega)]
    have := rd8_fx l [] hu
    rw [List.append_nil] at this
    rw [this]
  · rw [W11_1] at *
    by_cases c : l = [] ∨ ¬ allSame l
    · rw [if_pos c] at h; cases h
    · rw [if_neg c]
      have hne : l ≠ [] := fun e => c (.inl e)
      have hs : allSame l := Classical.byContradiction fun e => c (.inr e)
      unfold R11
      rw [if_neg (by omega), if_neg (by omega), if_pos rfl, if_neg (by rw [fixL_len]; omega), if_neg (by rw [fixL_len]; omega)]
      rw [List.take_of_length_le (by rw [fixL_len]; omega), num_fixI (hu _ (head_mem hne)).1 (hu _ (head_mem hne)).2, ← same_rep hs]
  · exact DEC10_ENC10 hu hl
  · exact DEC9_ENC9 hu hl
theorem R11_cut {l : List Int} {t k : Nat} (ht : t ≤ 3) (hu : U64 l) (hl : l.length ≤ 65536) (h : (W11 l t).2 = 0) (hk : k < (W11 l t).1.length) : (R11 ((W11 l t).1.take k) l.length t).2 ≠ 0 := by
  rcases tag_cases ht with rfl | rfl | rfl | rfl
  · rw [W11_0] at *
    simp only [fx8_len] at hk
    unfold R11
    rw [if_neg (by omega), if_neg (by omega), if_neg (by omega), if_pos (by rw [List.length_take]; omega)]
    decide
  · rw [W11_1] at *
    by_cases c : l = [] ∨ ¬ allSame l
    · rw [if_pos c] at h; cases h
    · rw [if_neg c] at hk ⊢
      simp only [fixL_len] at hk
      unfold R11
      rw [if_neg (by omega), if_neg (by omega), if_pos rfl, if_pos (by rw [List.length_take]; omega)]
      decide
  · have e : R11 ((W11 l 2).1.take k) l.length 2 = ([], 2) := DEC10_cut hl hk
    rw [e]; decide
  · have e : R11 ((W11 l 3).1.take k) l.length 3 = ([], 2) := DEC9_cut hu hl hk
    rw [e]; decide
theorem R11_more {l r : List Int} {t : Nat} (ht : t ≤ 3) (hu : U64 l) (hl : l.length ≤ 65536) (h : (W11 l t).2 = 0) (hr : r ≠ []) : (R11 ((W11 l t).1 ++ r) l.length t).2 ≠ 0 := by
  have hp := List.length_pos_iff.2 hr
  rcases tag_cases ht with rfl | rfl | rfl | rfl
  · rw [W11_0] at *
    unfold R11
    rw [if_neg (by omega), if_neg (by omega), if_neg (by omega), if_neg (by rw [List.length_append, fx8_len]; omega), if_pos (by rw [List.length_append, fx8_len]; omega)]
    decide
  · rw [W11_1] at *
    by_cases c : l = [] ∨ ¬ allSame l
    · rw [if_pos c] at h; cases h
    · rw [if_neg c]
      unfold R11
      rw [if_neg (by omega), if_neg (by omega), if_pos rfl, if_neg (by rw [List.length_append, fixL_len]; omega), if_pos (by rw [List.length_append, fixL_len]; omega)]
      decide
  · have e : R11 ((W11 l 2).1 ++ r) l.length 2 = ([], 3) := DEC10_more hu hl hr
    rw [e]; decide
  · have e : R11 ((W11 l 3).1 ++ r) l.length 3 = ([], 3) := DEC9_more hu hl hr
    rw [e]; decide
theorem R11_ok {ys : List Int} {n t : Nat} (hr : ∀ y ∈ ys, 0 ≤ y ∧ y ≤ 255) (h : (R11 ys n t).2 = 0) : U64 (R11 ys n t).1 ∧ (R11 ys n t).1.length = n := by
  unfold R11 at *
  by_cases c2 : t = 2
  · rw [if_pos c2] at h ⊢
    obtain ⟨_, _, h3, h4, _⟩ := DEC10_ok hr h
    exact ⟨h4, by omega⟩
  · rw [if_neg c2] at h ⊢
    by_cases c3 : t = 3
    · rw [if_pos c3] at h ⊢
      obtain ⟨_, _, h3, h4, _⟩ := DEC9_ok h
      exact ⟨h4, by omega⟩
    · rw [if_neg c3] at h ⊢
      by_cases c1 : t = 1
      · rw [if_pos c1] at h ⊢
        by_cases a1 : ys.length < 8
        · rw [if_pos a1] at h; cases h
        · rw [if_neg a1] at h ⊢
          by_cases a2 : 8 < ys.length
          · rw [if_pos a2] at h; cases h
          · rw [if_neg a2]
            refine ⟨fun x hx => ?_, by rw [List.length_replicate]⟩
            rw [List.eq_of_mem_replicate hx]
            have h1 := num_lt (ys.take 8) (fun y hy => hr y (List.mem_of_mem_take hy))
            have h2 : (256 : Nat) ^ (ys.take 8).length ≤ 256 ^ 8 := Nat.pow_le_pow_right (by omega) (by rw [List.length_take]; omega)
            have h3 : (256 : Nat) ^ 8 = 18446744073709551616 := by decide
            omega
      · rw [if_neg c1] at h ⊢
        by_cases a1 : ys.length < 8 * n
        · rw [if_pos a1] at h; cases h
        · rw [if_neg a1] at h ⊢
          by_cases a2 : 8 * n < ys.length
          · rw [if_pos a2] at h; cases h
          · rw [if_neg a2]
            exact ⟨rd8_u64 n ys hr, rd8_len n ys⟩
theorem R11_err {ys : List Int} {n t : Nat} (h : (R11 ys n t).2 ≠ 0) : (R11 ys n t).1 = [] := by
  unfold R11 at *
  by_cases c2 : t = 2
  · rw [if_pos c2] at h ⊢; exact DEC10_err h
  · rw [if_neg c2] at h ⊢
    by_cases c3 : t = 3
    · rw [if_pos c3] at h ⊢; exact DEC9_err h
    · rw [if_neg c3] at h ⊢
      revert h
      by_cases c1 : t = 1
      · rw [if_pos c1]; exact if_err (fun _ => rfl) (if_err (fun _ => rfl) (fun h => absurd rfl h))
      · rw [if_neg c1]; exact if_err (fun _ => rfl) (if_err (fun _ => rfl) (fun h => absurd rfl h))
theorem pick11_spec (l : List Int) : ∀ t, (pick11 l t).1 ≤ t ∧ W11 l (pick11 l t).1 = ((pick11 l t).2, 0) ∧ ∀ s, s ≤ t → (W11 l s).2 = 0 → (pick11 l t).2.length ≤ (W11 l s).1.length
  | 0 => ⟨Nat.le_refl _, rfl, fun s hs _ => by obtain rfl : s = 0 := by omega
                                               exact Nat.le_refl _⟩
  | t + 1 => by
    obtain ⟨h1, h2, h3⟩ := pick11_spec l t
    rw [pick11]
    by_cases c : (W11 l (t + 1)).2 = 0 ∧ (W11 l (t + 1)).1.length < (pick11 l t).2.length
    · rw [if_pos c]
      refine ⟨Nat.le_refl _, Prod.ext rfl c.1, fun s hs he => ?_⟩
      rcases Nat.lt_or_ge s (t + 1) with e | e
      · have := h3 s (by omega) he; simp only; omega
      · obtain rfl : s = t + 1 := by omega
        exact Nat.le_refl _
    · rw [if_neg c]
      refine ⟨by omega, h2, fun s hs he => ?_⟩
      rcases Nat.lt_or_ge s (t + 1) with e | e
      · exact h3 s (by omega) he
      · obtain rfl : s = t + 1 := by omega
        rcases Nat.lt_or_ge (W11 l (t + 1)).1.length (pick11 l t).2.length with e2 | e2
        · exact absurd ⟨he, e2⟩ c
        · exact e2
theorem ENC11_of {l : List Int} (hl : l.length ≤ 65536) : ENC11 l = (((pick11 l 3).1 : Int) :: (pick11 l 3).2, 0) := if_neg (by omega)
theorem ENC11_len {l : List Int} (hl : l.length ≤ 65536) : (ENC11 l).1.length ≤ 1 + 8 * l.length ∧ 0 < (ENC11 l).1.length := by
  have h := (pick11_spec l 3).2.2 0 (by omega) rfl
  rw [W11_0] at h
  simp only [fx8_len] at h
  rw [ENC11_of hl]
  simp only [List.length_cons]
  omega
theorem ENC11_rng (l : List Int) : ∀ y ∈ (ENC11 l).1, 0 ≤ y ∧ y ≤ 255 := by
  unfold ENC11
  by_cases h : 65536 < l.length
  · rw [if_pos h]; intro y hy; simp at hy
  · rw [if_neg h]
    obtain ⟨h1, h2, _⟩ := pick11_spec l 3
    intro y hy
    rcases List.mem_cons.1 hy with rfl | hy
    · omega
    · have := W11_rng (l := l) h1
      rw [h2] at this
      exact this y hy
theorem WAY11_nat {l : List Int} (hl : l.length ≤ 65536) (t : Nat) (ht : t ≤ 3) : WAY11 l t = W11 l t := by
  unfold WAY11
  rw [if_neg (by omega), if_neg (by omega), Int.toNat_natCast]
theorem ENC11_min {l : List Int} (hl : l.length ≤ 65536) {tag : Int} (h : (WAY11 l tag).2 = 0) : (ENC11 l).1.length ≤ (WAY11 l tag).1.length + 1 := by
  by_cases c : tag < 0 ∨ 3 < tag
  · unfold WAY11 at h; rw [if_pos c] at h; cases h
  · obtain ⟨t, rfl⟩ := Int.eq_ofNat_of_zero_le (show 0 ≤ tag by omega)
    rw [WAY11_nat hl t (by omega)] at h ⊢
    have := (pick11_spec l 3).2.2 t (by omega) h
    rw [ENC11_of hl]
    simp only [List.length_cons]
    omega
theorem WAY11_len {l : List Int} {tag : Int} : (WAY11 l tag).1.length ≤ 2000000 := by
  unfold WAY11
  by_cases c : tag < 0 ∨ 3 < tag
  · rw [if_pos c]; simp
  · rw [if_neg c]
    by_cases hl : 65536 < l.length
    · rw [if_pos hl]; simp
    · rw [if_neg hl]
      rcases tag_cases (t := tag.toNat) (by omega) with e | e | e | e <;> rw [e]
      · rw [W11_0]; simp only [fx8_len]; omega
      · rw [W11_1]; split <;> simp [fixL_len]
      · rw [W11_2, ENC10_of (by omega)]
        have h1 := gs_le10 (dic_lt (l := l) (by omega))
        have h2 := dic_len l
        have h3 := wP_le (k := (dic l).length) (by omega)
        have h4 : (tail10 (dic l) l).length ≤ 65536 * 16 := by rw [tail10_len]; exact Nat.mul_le_mul (by omega) h3
        simp only [List.length_append, fx8_len, bytesI_length]; unfold nb; omega
      · rw [W11_3, ENC9_of (by omega)]
        have := (GB_len l).1
        simp only [bytesI_length]; unfold nb; omega
theorem DEC11_back {l : List Int} (hl : l.length ≤ 65536) (ys : List Int) (n : Nat) (hn : n = l.length) : DEC11 (((pick11 l 3).1 : Int) :: ys) n = if (R11 ys n (pick11 l 3).1).2 ≠ 0 then ([], (R11 ys n (pick11 l 3).1).2) else if (ENC11 (R11 ys n (pick11 l 3).1).1).1 = ((pick11 l 3).1 : Int) :: ys then ((R11 ys n (pick11 l 3).1).1, 0) else ([], 3) := by
  have h1 := (pick11_spec l 3).1
  unfold DEC11
  rw [if_neg (by omega), if_neg (List.cons_ne_nil _ _), List.getD_cons_zero, if_neg (by omega), List.drop_succ_cons, List.drop_zero, Int.toNat_natCast, Int.toNat_natCast]
theorem DEC11_ENC11 {l : List Int} (hu : U64 l) (hl : l.length ≤ 65536) : DEC11 (ENC11 l).1 l.length = (l, 0) := by
  obtain ⟨h1, h2, _⟩ := pick11_spec l 3
  have hR := R11_W11 h1 hu hl (by rw [h2])
  rw [h2] at hR
  rw [ENC11_of hl]
  simp only
  rw [DEC11_back hl _ _ rfl, hR]
  simp only [ne_eq, not_true_eq_false, if_false]
  rw [ENC11_of hl, if_pos rfl]
theorem DEC11_cut {l : List Int} {k : Nat} (hu : U64 l) (hl : l.length ≤ 65536) (hk : k < (ENC11 l).1.length) : (DEC11 ((ENC11 l).1.take k) l.length).2 ≠ 0 := by
  obtain ⟨h1, h2, _⟩ := pick11_spec l 3
  rw [ENC11_of hl] at hk ⊢
  simp only [List.length_cons] at hk ⊢
  cases k with
  | zero =>
    rw [List.take_zero]
    unfold DEC11
    rw [if_neg (by omega), if_pos rfl]
    decide
  | succ k =>
    have hR := R11_cut (k := k) h1 hu hl (by rw [h2]) (by rw [h2]; simp only; omega)
    rw [h2] at hR
    simp only at hR
    rw [List.take_succ_cons, DEC11_back hl _ _ rfl, if_pos hR]
    exact hR
theorem DEC11_more {l r : List Int} (hu : U64 l) (hl : l.length ≤ 65536) (hr : r ≠ []) : (DEC11 ((ENC11 l).1 ++ r) l.length).2 ≠ 0 := by
  obtain ⟨h1, h2, _⟩ := pick11_spec l 3
  have hR := R11_more (r := r) h1 hu hl (by rw [h2]) hr
  rw [h2] at hR
  simp only at hR
  rw [ENC11_of hl]
  simp only [List.cons_append]
  rw [DEC11_back hl _ _ rfl, if_pos hR]
  exact hR
theorem DEC11_err {b : List Int} {n : Int} : (DEC11 b n).2 ≠ 0 → (DEC11 b n).1 = [] := by
  unfold DEC11
  exact if_err (fun _ => rfl) (if_err (fun _ => rfl) (if_err (fun _ => rfl) (if_err (fun _ => rfl) (if_err (fun h => absurd rfl h) (fun _ => rfl)))))
theorem DEC11_ok {b : List Int} {n : Int} (hr : ∀ y ∈ b, 0 ≤ y ∧ y ≤ 255) (h : (DEC11 b n).2 = 0) : 0 ≤ n ∧ n ≤ 65536 ∧ ((DEC11 b n).1.length : Int) = n ∧ U64 (DEC11 b n).1 ∧ ENC11 (DEC11 b n).1 = (b, 0) := by
  unfold DEC11 at *
  by_cases c1 : n < 0 ∨ 65536 < n
  · rw [if_pos c1] at h; cases h
  · rw [if_neg c1] at h ⊢
    by_cases c2 : b = []
    · rw [if_pos c2] at h; cases h
    · rw [if_neg c2] at h ⊢
      by_cases c3 : 3 < b.getD 0 0
      · rw [if_pos c3] at h; cases h
      · rw [if_neg c3] at h ⊢
        by_cases c4 : (R11 (b.drop 1) n.toNat (b.getD 0 0).toNat).2 ≠ 0
        · rw [if_pos c4] at h; exact absurd h c4
        · rw [if_neg c4] at h ⊢
          by_cases c5 : (ENC11 (R11 (b.drop 1) n.toNat (b.getD 0 0).toNat).1).1 = b
          · rw [if_pos c5]
            obtain ⟨k1, k2⟩ := R11_ok (ys := b.drop 1) (n := n.toNat) (t := (b.getD 0 0).toNat) (fun y hy => hr y (List.mem_of_mem_drop hy)) (by simpa using c4)
            refine ⟨by omega, by omega, by rw [k2]; omega, k1, ?_⟩
            have e := ENC11_of (l := (R11 (b.drop 1) n.toNat (b.getD 0 0).toNat).1) (by rw [k2]; omega)
            rw [e] at c5 ⊢
            simp only at c5
            simp only [c5]
          · rw [if_neg c5] at h; cases h
theorem W11_ge {l : List Int} {t : Nat} (ht : t ≤ 3) (hne : l ≠ []) (hl : l.length ≤ 65536) (h : (W11 l t).2 = 0) : 8 ≤ (W11 l t).1.length := by
  have hp := List.length_pos_iff.2 hne
  rcases tag_cases ht with rfl | rfl | rfl | rfl
  · rw [W11_0]; simp only [fx8_len]; omega
  · rw [W11_1] at *
    by_cases c : l = [] ∨ ¬ allSame l
    · rw [if_pos c] at h; cases h
    · rw [if_neg c]; simp only [fixL_len]; omega
  · rw [W11_2, ENC10_of hl]
    have := dic_pos hne
    simp only [List.length_append, fx8_len]; omega
  · rw [W11_3, ENC9_of hl]
    have h64 : 64 ≤ (GB l).length := by
      cases l with
      | nil => exact absurd rfl hne
      | cons y t => unfold GB; rw [List.length_append, bitsOf_length]; omega
    simp only [bytesI_length]; unfold nb; omega
theorem ENC11_rep (v : Int) (k : Nat) (hl : k + 1 ≤ 65536) : (ENC11 (List.replicate (k + 1) v)).1.length = 9 := by
  have hl' : (List.replicate (k + 1) v).length ≤ 65536 := by rw [List.length_replicate]; exact hl
  have hne : List.replicate (k + 1) v ≠ [] := by rw [List.replicate_succ]; exact List.cons_ne_nil _ _
  obtain ⟨h1, h2, h3⟩ := pick11_spec (List.replicate (k + 1) v) 3
  have hs : allSame (List.replicate (k + 1) v) := allSame_iff.2 fun x hx => by rw [List.eq_of_mem_replicate hx, List.replicate_succ]; rfl
  have e1 : W11 (List.replicate (k + 1) v) 1 = (fixL ((List.replicate (k + 1) v).getD 0 0) 8, 0) := by
    rw [W11_1, if_neg (by intro c; rcases c with c | c
                          · exact hne c
                          · exact c hs)]
  have a1 := h3 1 (by omega) (by rw [e1])
  rw [e1] at a1
  simp only [fixL_len] at a1
  have a2 := W11_ge h1 hne hl' (by rw [h2])
  rw [h2] at a2
  simp only at a2
  rw [ENC11_of hl']
  simp only [List.length_cons]
  omega
theorem u64_ex11 : U64 [5, 5, 5] := by intro x hx; simp at hx; omega
theorem ENC11_ex : ENC11 [5, 5, 5] = ([1, 0, 0, 0, 0, 0, 0, 0, 5], 0) := by decide +kernel
theorem DEC11_ex : DEC11 [1, 0, 0, 0, 0, 0, 0, 0, 5] 3 = ([5, 5, 5], 0) := by
  have := DEC11_ENC11 u64_ex11 (by decide)
  rw [ENC11_ex] at this
  exact this
end Go.Proofs.YthapipgaohlgdabGreatDoor

/- A chunk as bytes, with the two codecs in their places; strings and lists of bytes; samples in memory. -/
namespace Go.Proofs.YthapipgaohlgdabGreatDoor
open Go.RowKit

def e8c (l : List Int) : List Int := (ENC8 l).1
def e11c (l : List Int) : List Int := (ENC11 l).1
theorem codec8 : Codec e8c DEC8 I64s where
  back := fun _ g h => DEC8_ENC8 g h
  ok := fun b n hr h => by
    obtain ⟨_, _, h3, h4, h5⟩ := DEC8_ok (b := b) (n := n) hr h
    exact ⟨h3, h4, by unfold e8c; rw [h5]⟩
  len := fun _ h => (ENC8_len h).1
theorem codec11 : Codec e11c DEC11 U64 where
  back := fun _ g h => DEC11_ENC11 g h
  ok := fun b n hr h => by
    obtain ⟨_, _, h3, h4, h5⟩ := DEC11_ok (b := b) (n := n) hr h
    exact ⟨h3, h4, by unfold e11c; rw [h5]⟩
  len := fun _ h => (ENC11_len h).1
/-- a chunk's bytes -/
def ENCC (tn : List Int) (s : List (Int × Int)) : List Int × Int := ENC12 e8c e11c tn s
/-- the chunk that bytes are -/
def DECC (b : List Int) : (List Int × List (Int × Int)) × Int := DEC12 DEC8 DEC11 b
/-- samples that may be -/
def Gs (s : List (Int × Int)) : Prop := I64s (s.map Prod.fst) ∧ U64 (s.map Prod.snd)
theorem DECC_ENCC {tn : List Int} {s : List (Int × Int)} (ht : tn.length ≤ 64) (hs : s.length ≤ 65536) (g : Gs s) : DECC (ENCC tn s).1 = ((tn, s), 0) := DEC12_ENC12 codec8 codec11 ht hs g.1 g.2
theorem DECC_more {tn : List Int} {s : List (Int × Int)} {r : List Int} (ht : tn.length ≤ 64) (hs : s.length ≤ 65536) (hr : r ≠ []) : DECC ((ENCC tn s).1 ++ r) = (chNone, 3) := DEC12_more codec8 codec11 ht hs hr
theorem DECC_cut {tn : List Int} {s : List (Int × Int)} {k : Nat} (ht : tn.length ≤ 64) (hs : s.length ≤ 65536) (hk : k < (ENCC tn s).1.length) : DECC ((ENCC tn s).1.take k) = (chNone, 2) := DEC12_cut codec8 codec11 ht hs hk
theorem DECC_ok {b : List Int} (hr : ∀ y ∈ b, 0 ≤ y ∧ y ≤ 255) (h : (DECC b).2 = 0) : ENCC (DECC b).1.1 (DECC b).1.2 = (b, 0) ∧ (DECC b).1.1.length ≤ 64 ∧ (DECC b).1.2.length ≤ 65536 ∧ Gs (DECC b).1.2 := by
  obtain ⟨h1, h2, h3, h4, h5⟩ := DEC12_ok codec8 codec11 hr h
  exact ⟨h1, h2, h3, h4, h5⟩
theorem DECC_err {b : List Int} (h : (DECC b).2 ≠ 0) : (DECC b).1 = chNone := DEC12_err h
theorem ENCC_long {tn : List Int} {s : List (Int × Int)} (h : 64 < tn.length ∨ 65536 < s.length) : ENCC tn s = ([], 4) := if_pos h
theorem ENCC_of {tn : List Int} {s : List (Int × Int)} (h : tn.length ≤ 64) (h' : s.length ≤ 65536) : ENCC tn s = (1 :: (blk tn ++ (gs s.length ++ (blk (e8c (s.map Prod.fst)) ++ blk (e11c (s.map Prod.snd))))), 0) := if_neg (by omega)
theorem blk_small {b : List Int} (h : b.length ≤ 127) : blk b = (b.length : Int) :: b := by
  unfold blk
  rw [gs_small (by omega)]
  rfl

/-! strings -/
def sb (s : ByteArray) : List Int := s.data.toList.map fun c => (c.toNat : Int)
theorem sb_len (s : ByteArray) : (sb s).length = s.size := by simp [sb]
theorem sb_range (s : ByteArray) : ∀ y ∈ sb s, 0 ≤ y ∧ y ≤ 255 := by
  intro y hy
  simp only [sb, List.mem_map] at hy
  obtain ⟨c, _, rfl⟩ := hy
  have := c.toNat_lt
  omega
theorem of_sb (s : ByteArray) : strOfNums (sb s) = s := by
  unfold strOfNums sb
  rw [List.map_map]
  have : s.data.toList.map ((fun n : Int => UInt8.ofNat n.toNat) ∘ fun c : UInt8 => (c.toNat : Int)) = s.data.toList := by
    refine (List.map_congr_left (g := id) (fun x _ => ?_)).trans (List.map_id _)
    simp
  rw [this]
theorem sb_of {l : List Int} (h : ∀ y ∈ l, 0 ≤ y ∧ y ≤ 255) : sb (strOfNums l) = l := by
  unfold strOfNums sb
  rw [List.map_map]
  refine (List.map_congr_left (g := id) (fun x hx => ?_)).trans (List.map_id _)
  have := h x hx
  simp only [Function.comp, id]
  rw [UInt8.toNat_ofNat']
  omega
theorem sb_inj {s t : ByteArray} (h : sb s = sb t) : s = t := by rw [← of_sb s, ← of_sb t, h]
end Go.Proofs.YthapipgaohlgdabGreatDoor

/- Samples in memory; a chunk that came in; '[]byte(s)' and 'string(b)'. -/
namespace Go.Proofs.YthapipgaohlgdabGreatDoor
open Go.RowKit Go.ChangeShapes Go.WideShapes

/-- the slice v reads as the samples s -/
def Sps (w : World) (v : Value) (s : List (Int × Int)) : Prop :=
  ∃ ao cap, v = .slice ao s.length cap ∧ s.length ≤ cap ∧ (s ≠ [] → ∃ b off, ao = some ⟨b, off, none⟩ ∧ ∀ j, j < s.length →
    w.cell? ⟨b, off + j * 2, none⟩ = some (.int .i64 (s.getD j (0, 0)).1) ∧ w.cell? ⟨b, off + j * 2 + 1, none⟩ = some (.int .u64 (s.getD j (0, 0)).2))
theorem Sps.len {w : World} {v : Value} {s : List (Int × Int)} (h : Sps w v s) : ∃ ao cap, v = .slice ao s.length cap := by
  obtain ⟨ao, cap, rfl, _⟩ := h
  exact ⟨ao, cap, rfl⟩
theorem Sps.nil (w : World) : Sps w (.slice none 0 0) [] := ⟨none, 0, rfl, Nat.le_refl _, fun h => absurd rfl h⟩
theorem Sps.at {w : World} {v : Value} {s : List (Int × Int)} (h : Sps w v s) (j : Nat) (hj : j < s.length) :
    ∃ b off cap, v = .slice (some ⟨b, off, none⟩) s.length cap ∧ w.cell? ⟨b, off + j * 2, none⟩ = some (.int .i64 (s.getD j (0, 0)).1) ∧ w.cell? ⟨b, off + j * 2 + 1, none⟩ = some (.int .u64 (s.getD j (0, 0)).2) := by
  obtain ⟨ao, cap, rfl, _, hr⟩ := h
  obtain ⟨b, off, rfl, hc⟩ := hr (by intro h0; subst h0; simp at hj)
  exact ⟨b, off, cap, rfl, hc j hj⟩
theorem Sps.keep {w w' : World} {v : Value} {s : List (Int × Int)} (h : Sps w v s) {S : Nat → Prop} (ho : Only S w w') (hs : ∀ b, v.ownBlock = some b → ¬ S b) : Sps w' v s := by
  obtain ⟨ao, cap, rfl, hl, hr⟩ := h
  refine ⟨ao, cap, rfl, hl, fun hne => ?_⟩
  obtain ⟨b, off, rfl, hc⟩ := hr hne
  refine ⟨b, off, rfl, fun j hj => ?_⟩
  have hb : ¬ S b := hs b rfl
  obtain ⟨h0, h1⟩ := hc j hj
  have hlt : b < w.heap.size := World.block_lt_of_cell? w _ h0
  have e := ho.block b hlt hb
  exact ⟨by rw [← h0]; unfold World.cell?; rw [e], by rw [← h1]; unfold World.cell?; rw [e]⟩
theorem Sps.past {w w' : World} {v : Value} {s : List (Int × Int)} (h : Sps w v s) (o : Only (fun _ => False) w w') : Sps w' v s := h.keep o (fun _ _ f => f)

set_option maxRecDepth 100000 in
theorem sps_open {H : Type} {enc : TypeId × Value → H} {W : World} {fuel : Nat} {u : Value} {x : DataW H × List MemPlace}
    (hf : DataW.trod enc Tryz.prog W 0 (fun _ => true) true fuel 22 [u] = some x) : ∃ s : List (Int × Int), Sps W u s ∧ Gs s ∧ s.length ≤ maxLen := by
  rcases Deep.open_slice_pairs Tryz.underlying22 Tryz.underlying28 (by kernel_rfl) rfl rfl (by kernel_rfl) (by kernel_rfl) hf with ⟨hcs, _⟩ | ⟨x, l, c, m, n, V0, V1, D0, D1, P0, P1, hcs, _, hl, hm, hmm, _, hi⟩
  · simp at hcs
    subst hcs
    exact ⟨[], Sps.nil _, ⟨by simp [I64s], by simp [U64]⟩, by simp⟩
  · simp at hcs
    subst hcs
    simp only [if_true] at hmm
    rw [hmm] at hi
    clear hmm
    have each : ∀ i, i < l → ∃ q : Int × Int, W.cell? (x.add (i * 2)) = some (.int .i64 q.1) ∧ W.cell? (x.add (i * 2 + 1)) = some (.int .u64 q.2) ∧ (Lit.int .i64 q.1).wf = true ∧ (Lit.int .u64 q.2).wf = true := by
      intro i hlt
      obtain ⟨c0, c1, t0, t1⟩ := hi i (by omega)
      obtain ⟨q0, e0, _, w0⟩ := DataW.trod_int Tryz.underlying3 t0
      obtain ⟨q1, e1, _, w1⟩ := DataW.trod_int Tryz.underlying26 t1
      simp at e0 e1
      exact ⟨(q0, q1), by rw [c0, e0], by rw [c1, e1], w0, w1⟩
    obtain ⟨q, hq⟩ := Deep.choose_lt each
    have hget : ∀ j, j < l → ((List.range l).map q).getD j (0, 0) = q j := fun j hj => by
      rw [List.getD_eq_getElem?_getD]; simp [hj]
    refine ⟨(List.range l).map q, ⟨some x, c, by simp, by simpa using hl, fun hne => ?_⟩, ⟨?_, ?_⟩, by simp; omega⟩
    · have hp : 0 < l := by
        cases l with
        | zero => simp at hne
        | succ n => omega
      obtain ⟨b, off, spot⟩ := x
      have hspot : spot = none := by simpa [Addr.add] using World.cell?_spot (hq 0 hp).1
      subst hspot
      refine ⟨b, off, rfl, fun j hj => ?_⟩
      have hj' : j < l := by simpa using hj
      rw [hget j hj']
      have h0 := (hq j hj').1
      have h1 := (hq j hj').2.1
      rw [Go.WideShapes.add_plain] at h0 h1
      exact ⟨h0, by rw [Nat.add_assoc]; exact h1⟩
    · intro y hy
      simp only [List.mem_map, List.mem_range] at hy
      obtain ⟨_, ⟨j, hj, rfl⟩, rfl⟩ := hy
      simpa [G64, Lit.wf, IntKind.min, IntKind.max, IntKind.signed, IntKind.bits] using (hq j hj).2.2.1
    · intro y hy
      simp only [List.mem_map, List.mem_range] at hy
      obtain ⟨_, ⟨j, hj, rfl⟩, rfl⟩ := hy
      simpa [Lit.wf, IntKind.min, IntKind.max, IntKind.signed, IntKind.bits] using (hq j hj).2.2.2

set_option maxRecDepth 100000 in
/-- A CHUNK THAT CAME IN. -/
theorem chunk_open {H : Type} {enc : TypeId × Value → H} {W : World} {r : Reach} {b0 : Nat} {v : Value} {d : DataW H} {p : List MemPlace} (hval : Value.okWide Tryz.prog W r b0 24 v)
    (h : DataW.Trod enc Tryz.prog W 0 (fun _ => true) true 24 v d p) :
    ∃ (t : ByteArray) (u : Value) (s : List (Int × Int)), v = .agg #[.string t, u] ∧ t.size ≤ maxLen ∧ Sps W u s ∧ Gs s ∧ s.length ≤ maxLen := by
  obtain ⟨cs, rfl, hsz⟩ := okWide_struct Tryz.underlying24 hval
  obtain ⟨fuel, hf⟩ := h
  have hc2 : Tryz.prog.cellsOf 24 = 2 := by kernel_rfl
  rw [hc2] at hsz
  obtain ⟨v0, v1, rfl⟩ : ∃ v0 v1, cs = #[v0, v1] := by
    obtain ⟨l⟩ := cs
    match l, hsz with
    | [a, b], _ => exact ⟨a, b, rfl⟩
  obtain ⟨y0, y1, n, _, _, g0, g1⟩ := trod_struct2 Tryz.underlying24 hf
  have k0 : Tryz.prog.cellsOf 9 = 1 := by kernel_rfl
  have k1 : Tryz.prog.cellsOf 22 = 1 := by kernel_rfl
  simp [Value.cells, k0, k1] at g0 g1
  obtain ⟨t, e0, _, w0⟩ := DataW.trod_string Tryz.underlying9 g0
  simp at e0
  subst e0
  obtain ⟨s, h1, h2, h3⟩ := sps_open g1
  exact ⟨t, v1, s, rfl, w0, h1, h2, h3⟩

/-! conversions -/
set_option maxRecDepth 100000 in
theorem bytes_of (w : World) (s : ByteArray) : ∃ c w', (convert 9 29 (.string s)).run Tryz.prog w = .ok (.slice (some ⟨w.heap.size, 0, none⟩) s.size c) w' ∧ Bs .u8 w' (.slice (some ⟨w.heap.size, 0, none⟩) s.size c) (sb s) ∧ Only (fun _ => False) w w' ∧ w'.heap.size = w.heap.size + 1 := by
  refine ⟨_, _, run_bytes_of_string (P := Tryz.prog) w 9 29 5 s Tryz.underlying9 Tryz.underlying29 Tryz.underlying5, ?_, ?_, ?_⟩
  · have hg := grownCap_ge w s.size 0 5
    refine ⟨some _, _, by rw [sb_len], by rw [sb_len]; omega, fun _ => ⟨w.heap.size, 0, rfl, fun j hj => ?_⟩⟩
    rw [sb_len] at hj
    rw [show w.heap.size = w.drew.heap.size from rfl, World.cell?_alloc_mark]
    simp [bytesRow, Array.getElem?_append, hj, sb, List.getD_eq_getElem?_getD]
  · exact ((Only.refl _ w).drew).alloc _
  · simp
set_option maxRecDepth 100000 in
theorem string_of (w : World) (v : Value) (xs : List Int) (h : Bs .u8 w v xs) : (convert 29 9 v).run Tryz.prog w = .ok (.string (strOfNums xs)) w := by
  obtain ⟨ao, cap, rfl, hl, hc⟩ := h
  cases ao with
  | none =>
    have hx : xs = [] := by
      by_cases hx : xs = []
      · exact hx
      · obtain ⟨b, off, e, _⟩ := hc hx; cases e
    subst hx
    rw [run_convert_bytes_nil w 29 5 Tryz.underlying29 Tryz.underlying5 _ _ _ Tryz.underlying9]
    rfl
  | some a =>
    by_cases hx : xs = []
    · subst hx
      obtain ⟨b, off, spot⟩ := a
      rw [run_convert_bytes_string w 29 9 5 _ _ _ Tryz.underlying29 Tryz.underlying5 Tryz.underlying9]
      have hl0 := run_loadCells_list (P := Tryz.prog) w ⟨b, off, spot⟩ [] (fun j u hj => by simp at hj)
      rw [List.length_nil] at *
      rw [run_bytesToString w _ 0 cap [] (by simpa using hl0)]
      rfl
    · obtain ⟨b, off, e, hcell⟩ := hc hx
      cases e
      exact run_convert_bytes_arg w 29 5 Tryz.underlying29 Tryz.underlying5 b off xs.length cap xs rfl hcell _ Tryz.underlying9
end Go.Proofs.YthapipgaohlgdabGreatDoor

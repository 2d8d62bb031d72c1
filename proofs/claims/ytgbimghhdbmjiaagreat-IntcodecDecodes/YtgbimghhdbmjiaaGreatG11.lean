/- Several texts in one: Im, Im2, Iw. -/
import Derived.Test.YtgbimghhdbmjiaaGreatG10
import Derived.Test.YtgbimghhdbmjiaaGreatG4
import Derived.Test.YtgbimghhdbmjiaaGreatG9
import Derived.Test.YtgbimghhdbmjiaaGreatG6
import Derived.Test.YtgbimghhdbmjiaaGreatG1

/- A list of ints in five ways, as lists; the shortest of them; what is read back. -/
namespace Go.Proofs.YtgbimghhdbmjiaaGreat
open Go.RowKit

/-- numbers of 64 bits with a sign -/
def I64s (l : List Int) : Prop := ∀ x ∈ l, G64 x
def Byt (b : List Int) : Prop := ∀ y ∈ b, 0 ≤ y ∧ y ≤ 255
def u64o (x : Int) : Int := x % 18446744073709551616
def zsn (l : List Int) : List Int := l.map zig
def zgn (l : List Int) : List Int := l.map zag
def fx (l : List Int) : List Int := l.flatMap fun x => fixL (u64o x) 8
def tms (tag : Nat) : Nat := if tag = 3 ∨ tag = 4 then 2 else 1
def WOTH (z : List Int) (tag : Nat) : List Int × Int := if tag = 2 then (PK z, 0) else if tag = 3 then ENC z else if tag = 4 then (runE z, 0) else (allG z, 0)
/-- the ints one way -/
def WAY (l : List Int) (tag : Nat) : List Int × Int :=
  if l = [] then ([], 0) else if tag = 0 then (fx l, 0) else
  if (WOTH ((zsn (D (tms tag) l)).drop 1) tag).2 ≠ 0 then ([], (WOTH ((zsn (D (tms tag) l)).drop 1) tag).2) else
  (gs ((zsn (D (tms tag) l)).getD 0 0).toNat ++ (WOTH ((zsn (D (tms tag) l)).drop 1) tag).1, 0)
def WAY8 (l : List Int) (tag : Int) : List Int × Int := if tag < 0 ∨ 4 < tag then ([], 1) else if 65536 < l.length then ([], 4) else WAY l tag.toNat
/-- the least tag, up to t, of a shortest way, and its bytes -/
def pick (l : List Int) : Nat → Nat × List Int
  | 0 => (0, (WAY l 0).1)
  | t + 1 => if (WAY l (t + 1)).2 = 0 ∧ (WAY l (t + 1)).1.length < (pick l t).2.length then (t + 1, (WAY l (t + 1)).1) else pick l t
def ENC8 (l : List Int) : List Int × Int := if 65536 < l.length then ([], 4) else (((pick l 4).1 : Int) :: (pick l 4).2, 0)

/-- so many of eight bytes each -/
def fxN (ys : List Int) (n : Nat) : List Int := (List.range n).map fun i => (num ((ys.drop (8 * i)).take 8) : Int)
def rFx (ys : List Int) (n : Nat) : List Int × Int := if ys.length < 8 * n then ([], 2) else (fxN ys n, 0)
/-- so many varints: those read, what is left, the error -/
def rVs : Nat → List Int → List Int → List Int × List Int × Int
  | 0, acc, ys => (acc, ys, 0)
  | n + 1, acc, ys => if (sVarint ys).2.2 ≠ 0 then ([], ys, (sVarint ys).2.2) else rVs n (acc ++ [(sVarint ys).1]) (ys.drop (sVarint ys).2.1)
def OTH (ys : List Int) (m tag : Nat) : List Int × Int :=
  if tag = 2 then ((UN ys m).2, (UN ys m).1) else if tag = 3 then DEC ys m else if tag = 4 then RUND ys m else ((rVs m [] ys).1, (rVs m [] ys).2.2)
def s64 (x : Int) : Int := wrap64 x
def READ (ys : List Int) (n tag : Nat) : List Int × Int :=
  if n = 0 then ([], 0) else if tag = 0 then ((rFx ys n).1.map s64, (rFx ys n).2) else
  if (sVarint ys).2.2 ≠ 0 then ([], (sVarint ys).2.2) else
  if (OTH (ys.drop (sVarint ys).2.1) (n - 1) tag).2 ≠ 0 then ([], (OTH (ys.drop (sVarint ys).2.1) (n - 1) tag).2) else
  (S (tms tag) (zag (sVarint ys).1 :: zgn (OTH (ys.drop (sVarint ys).2.1) (n - 1) tag).1), 0)
def DEC8 (b : List Int) (n : Int) : List Int × Int :=
  if n < 0 ∨ 65536 < n then ([], 1) else if b = [] then ([], 2) else if 4 < b.getD 0 0 then ([], 3) else
  if (READ (b.drop 1) n.toNat (b.getD 0 0).toNat).2 ≠ 0 then ([], (READ (b.drop 1) n.toNat (b.getD 0 0).toNat).2) else
  if (ENC8 (READ (b.drop 1) n.toNat (b.getD 0 0).toNat).1).1 = b then ((READ (b.drop 1) n.toNat (b.getD 0 0).toNat).1, 0) else ([], 3)

theorem zsn_length (l : List Int) : (zsn l).length = l.length := by simp [zsn]
theorem zgn_length (l : List Int) : (zgn l).length = l.length := by simp [zgn]
theorem zgn_zsn (l : List Int) : zgn (zsn l) = l := by
  unfold zgn zsn
  rw [List.map_map]
  exact (List.map_congr_left (g := id) (fun x _ => zag_zig x)).trans (List.map_id l)
theorem zsn_zgn (l : List Int) (h : U64 l) : zsn (zgn l) = l := by
  unfold zgn zsn
  rw [List.map_map]
  exact (List.map_congr_left (g := id) (fun x hx => zig_zag x (h x hx).1)).trans (List.map_id l)
theorem zsn_u64 {l : List Int} (h : I64s l) : U64 (zsn l) := by
  intro x hx
  simp only [zsn, List.mem_map] at hx
  obtain ⟨y, hy, rfl⟩ := hx
  exact zig_bounds y (h y hy).1 (h y hy).2
theorem zgn_i64 {l : List Int} (h : U64 l) : I64s (zgn l) := by
  intro x hx
  simp only [zgn, List.mem_map] at hx
  obtain ⟨y, hy, rfl⟩ := hx
  exact zag_bounds y (h y hy).1 (h y hy).2
theorem U64.drop {l : List Int} (h : U64 l) (k : Nat) : U64 (l.drop k) := fun x hx => h x (List.mem_of_mem_drop hx)
theorem U64.nil : U64 [] := fun x hx => by simp at hx
theorem byt_app {a b : List Int} (ha : Byt a) (hb : Byt b) : Byt (a ++ b) := fun y hy => (List.mem_append.1 hy).elim (ha y) (hb y)
theorem fx_length (l : List Int) : (fx l).length = 8 * l.length := by
  induction l with
  | nil => rfl
  | cons x t ih =>
    have : fx (x :: t) = fixL (u64o x) 8 ++ fx t := by simp [fx]
    rw [this, List.length_append, fixL_len, ih, List.length_cons]; omega
theorem fx_snoc (l : List Int) (x : Int) : fx (l ++ [x]) = fx l ++ fixL (u64o x) 8 := by simp [fx]
theorem fx_byt (l : List Int) : Byt (fx l) := by
  intro y hy
  simp only [fx, List.mem_flatMap] at hy
  obtain ⟨x, _, hy⟩ := hy
  exact fixL_range _ _ y hy
theorem fx_at (l : List Int) : ∀ (i : Nat), i < l.length → ((fx l).drop (8 * i)).take 8 = fixL (u64o (l.getD i 0)) 8 := by
  induction l with
  | nil => intro i hi; simp at hi
  | cons x t ih =>
    intro i hi
    have e : fx (x :: t) = fixL (u64o x) 8 ++ fx t := by simp [fx]
    have h8 : (fixL (u64o x) 8).length = 8 := fixL_len _ _
    cases i with
    | zero => rw [e, Nat.mul_zero, List.drop_zero, List.take_left' h8]; rfl
    | succ i =>
      rw [e, show 8 * (i + 1) = 8 + 8 * i by omega, ← List.drop_drop, List.drop_left' h8, ih i (by simpa using hi)]
      rfl
theorem s64_u64o {x : Int} (h : G64 x) : s64 (u64o x) = x := by
  unfold s64 u64o
  have := h.1; have := h.2
  unfold G64 at h
  rw [show wrap64 (x % 18446744073709551616) = x by unfold wrap64; omega]
theorem num_u64o {x : Int} (h : G64 x) : s64 (num (fixL (u64o x) 8) : Int) = x := by
  have h0 : 0 ≤ u64o x ∧ u64o x < 18446744073709551616 := by unfold u64o; omega
  obtain ⟨q, hq⟩ : ∃ q : Nat, u64o x = (q : Int) := ⟨(u64o x).toNat, by omega⟩
  have hl : q < 18446744073709551616 := by omega
  have e := s64_u64o h
  rw [hq] at e ⊢
  rw [num_fix8 q hl]
  exact e
theorem fxN_one {l : List Int} (i : Nat) (h2 : i < l.length) (hx : G64 (l.getD i 0)) : s64 (num (((fx l).drop (8 * i)).take 8) : Int) = l.getD i 0 := by
  rw [fx_at l i h2]
  exact num_u64o hx
theorem map_range_eq (l : List Int) (f : Nat → Int) (h : ∀ i, i < l.length → f i = l.getD i 0) : (List.range l.length).map f = l := by
  apply List.ext_getElem
  · rw [List.length_map, List.length_range]
  · intro i h1 h2
    rw [List.getElem_map, List.getElem_range, h i h2]
    simp [List.getD_eq_getElem?_getD, List.getElem?_eq_getElem h2]
theorem fxN_map (ys : List Int) (n : Nat) (f : Int → Int) : (fxN ys n).map f = (List.range n).map fun i => f (num ((ys.drop (8 * i)).take 8) : Int) := by
  unfold fxN
  rw [List.map_map]
  exact List.map_congr_left (fun _ _ => rfl)
theorem fxN_fx {l : List Int} (h : I64s l) : (fxN (fx l) l.length).map s64 = l := by
  rw [fxN_map]
  refine map_range_eq l _ (fun i hi => fxN_one i hi (h _ ?_))
  rw [List.getD_eq_getElem?_getD, List.getElem?_eq_getElem hi]
  exact List.getElem_mem hi
theorem fxN_length (ys : List Int) (n : Nat) : (fxN ys n).length = n := by simp [fxN]
theorem fxN_succ (ys : List Int) (n : Nat) : fxN ys (n + 1) = fxN ys n ++ [(num ((ys.drop (8 * n)).take 8) : Int)] := by simp [fxN, List.range_succ]
theorem s64_g (x : Int) : G64 (s64 x) := w64_g x

/-! varints, one behind the other -/
theorem rVs_gs (l : List Int) : ∀ (acc z : List Int), U64 l → rVs l.length acc (allG l ++ z) = (acc ++ l, z, 0) := by
  induction l with
  | nil => intro acc z _; simp [rVs, allG]
  | cons x t ih =>
    intro acc z hu
    have hx := hu x List.mem_cons_self
    have e : allG (x :: t) ++ z = gs x.toNat ++ (allG t ++ z) := by simp [allG]
    have hs := sVarint_gs x.toNat (allG t ++ z) (by omega)
    rw [List.length_cons, rVs, e, hs]
    simp only [ne_eq, not_true_eq_false, if_false]
    rw [List.drop_left, Int.toNat_of_nonneg hx.1, ih _ _ (fun y hy => hu y (List.mem_cons_of_mem _ hy))]
    simp
theorem rVs_only (n : Nat) : ∀ (acc ys : List Int), Byt ys → (∃ r c, rVs n acc ys = ([], r, c) ∧ (c = 2 ∨ c = 3)) ∨ (∃ t r, rVs n acc ys = (acc ++ t, r, 0) ∧ t.length = n ∧ U64 t ∧ ys = allG t ++ r) := by
  induction n with
  | zero => intro acc ys _; exact .inr ⟨[], ys, by simp [rVs], rfl, U64.nil, by simp [allG]⟩
  | succ n ih =>
    intro acc ys hr
    rcases sVarint_cases hr with ⟨c, h, hc⟩ | ⟨a, k, h, h1, h2, h3, h4⟩
    · left
      refine ⟨ys, c, ?_, hc⟩
      rw [rVs, h]
      simp only [ne_eq]
      rw [if_pos (by omega)]
    · have e : rVs (n + 1) acc ys = rVs n (acc ++ [(a : Int)]) (ys.drop k) := by
        rw [rVs, h]; simp
      rw [e]
      rcases ih (acc ++ [(a : Int)]) (ys.drop k) (fun y hy => hr y (List.mem_of_mem_drop hy)) with ⟨r, c, h5, h6⟩ | ⟨t, r, h5, h6, h7, h8⟩
      · exact .inl ⟨r, c, h5, h6⟩
      · refine .inr ⟨(a : Int) :: t, r, by rw [h5]; simp, by simp [h6], ?_, ?_⟩
        · intro x hx
          rcases List.mem_cons.1 hx with rfl | hx
          · omega
          · exact h7 x hx
        · exact h4.trans (by rw [h8]; simp [allG])
theorem rVs_pre (n : Nat) : ∀ (p acc ys : List Int), (rVs n acc ys).2.2 = 0 → rVs n (p ++ acc) ys = (p ++ (rVs n acc ys).1, (rVs n acc ys).2) := by
  induction n with
  | zero => intro p acc ys _; rfl
  | succ n ih =>
    intro p acc ys h
    rw [rVs] at h ⊢
    rw [rVs]
    by_cases hs : (sVarint ys).2.2 ≠ 0
    · rw [if_pos hs] at h; exact absurd h hs
    · rw [if_neg hs] at h ⊢
      rw [if_neg hs, List.append_assoc, ih _ _ _ h]
theorem rVs_err (n : Nat) : ∀ (acc acc' ys : List Int), (rVs n acc ys).2.2 = (rVs n acc' ys).2.2 := by
  induction n with
  | zero => intro acc acc' ys; rfl
  | succ n ih =>
    intro acc acc' ys
    rw [rVs, rVs]
    by_cases hs : (sVarint ys).2.2 ≠ 0
    · rw [if_pos hs, if_pos hs]
    · rw [if_neg hs, if_neg hs]; exact ih _ _ _

/-! what lies behind the first -/
theorem WOTH_nil_err {z : List Int} {tag : Nat} (hl : z.length ≤ 65536) (h : (WOTH z tag).2 ≠ 0) : WOTH z tag = ([], 1) := by
  unfold WOTH at *
  by_cases h2 : tag = 2
  · rw [if_pos h2] at h; exact absurd rfl h
  · rw [if_neg h2] at h ⊢
    by_cases h3 : tag = 3
    · rw [if_pos h3] at h ⊢; exact ENC_no hl h
    · rw [if_neg h3] at h ⊢
      by_cases h4 : tag = 4
      · rw [if_pos h4] at h; exact absurd rfl h
      · rw [if_neg h4] at h; exact absurd rfl h
theorem WOTH_byt {z : List Int} (hu : U64 z) {tag : Nat} : Byt (WOTH z tag).1 := by
  unfold WOTH
  by_cases h2 : tag = 2
  · rw [if_pos h2]; exact PK_rng hu
  · rw [if_neg h2]
    by_cases h3 : tag = 3
    · rw [if_pos h3]
      by_cases h : (ENC z).2 = 0
      · obtain ⟨e, hup, _⟩ := ENC_ok (fun x hx => (hu x hx).1) h
        rw [e]; exact enc_range _ z rfl hup
      · unfold ENC at h ⊢
        by_cases hl : 65536 < z.length
        · rw [if_pos hl]; intro y hy; simp at hy
        · rw [if_neg hl] at h ⊢
          by_cases hs : small 60 z = true
          · rw [if_pos hs] at h; exact absurd rfl h
          · rw [if_neg hs]; intro y hy; simp at hy
    · rw [if_neg h3]
      by_cases h4 : tag = 4
      · rw [if_pos h4]; exact runE_range z
      · rw [if_neg h4]; exact allG_range z
theorem OTH_back {z : List Int} (hu : U64 z) (hl : z.length ≤ 65536) {tag : Nat} (h : (WOTH z tag).2 = 0) : OTH (WOTH z tag).1 z.length tag = (z, 0) := by
  unfold WOTH at *
  unfold OTH
  by_cases h2 : tag = 2
  · simp only [if_pos h2]
    rw [un_pk hu hl]
  · simp only [if_neg h2] at h ⊢
    by_cases h3 : tag = 3
    · simp only [if_pos h3] at h ⊢
      obtain ⟨e, hup, _⟩ := ENC_ok (fun x hx => (hu x hx).1) h
      rw [e, DEC_nat _ _ hl]; exact dec_enc hup
    · simp only [if_neg h3] at h ⊢
      by_cases h4 : tag = 4
      · simp only [if_pos h4]
        rw [RUND_nat _ _ hl]
        have := runDec_enc hu hl []
        rw [List.append_nil] at this
        exact this
      · simp only [if_neg h4]
        have := rVs_gs z [] [] hu
        rw [List.append_nil, List.nil_append] at this
        rw [this]
/-- two lists of as many, the same way: one is not the other and more -/
theorem WOTH_more {z y r : List Int} (hz : U64 z) (hy : U64 y) (hl : z.length ≤ 65536) (hlen : y.length = z.length) {tag : Nat} (h : (WOTH z tag).2 = 0) (h' : (WOTH y tag).2 = 0) (e : (WOTH y tag).1 = (WOTH z tag).1 ++ r) : r = [] := by
  have hb := OTH_back hy (by omega) h'
  rw [hlen, e] at hb
  rcases List.eq_nil_or_concat r with hr | ⟨_, _, hr⟩
  · exact hr
  have hr' : r ≠ [] := by rw [hr]; simp
  exfalso
  unfold WOTH at h hb e h'
  unfold OTH at hb
  by_cases h2 : tag = 2
  · simp only [if_pos h2] at hb
    rw [un_more hz hl hr'] at hb
    simp at hb
  · simp only [if_neg h2] at h hb e h'
    by_cases h3 : tag = 3
    · simp only [if_pos h3] at h hb
      obtain ⟨e1, hup, _⟩ := ENC_ok (fun x hx => (hz x hx).1) h
      rw [e1, DEC_nat _ _ hl, dec_more hup hr'] at hb
      simp at hb
    · simp only [if_neg h3] at h hb e h'
      by_cases h4 : tag = 4
      · simp only [if_pos h4] at hb
        rw [RUND_nat _ _ hl, runDec_enc hz hl r, if_pos (List.length_pos_iff.2 hr')] at hb
        simp at hb
      · simp only [if_neg h4] at hb e
        rw [rVs_gs z [] r hz] at hb
        have hzy : z = y := by simpa using congrArg Prod.fst hb
        rw [hzy] at e
        exact hr' (List.self_eq_append_right.1 e)
theorem OTH_err {ys : List Int} {m tag : Nat} (hr : Byt ys) (h : (OTH ys m tag).2 ≠ 0) : (OTH ys m tag).1 = [] := by
  unfold OTH at *
  by_cases h2 : tag = 2
  · simp only [if_pos h2] at h ⊢; exact UN_err _ _ h
  · simp only [if_neg h2] at h ⊢
    by_cases h3 : tag = 3
    · simp only [if_pos h3] at h ⊢
      rcases DEC_facts (n := (m : Int)) hr with ⟨c, e, _⟩ | ⟨l, e, _⟩
      · rw [e]
      · rw [e] at h; exact absurd rfl h
    · simp only [if_neg h3] at h ⊢
      by_cases h4 : tag = 4
      · simp only [if_pos h4] at h ⊢
        rcases RUND_facts (n := (m : Int)) hr with ⟨c, e, _⟩ | ⟨l, e, _⟩
        · rw [e]
        · rw [e] at h; exact absurd rfl h
      · simp only [if_neg h4] at h ⊢
        rcases rVs_only m [] ys hr with ⟨r, c, e, _⟩ | ⟨t, r, e, _⟩
        · rw [e]
        · rw [e] at h; exact absurd rfl h
theorem OTH_only {ys : List Int} {m tag : Nat} (hr : Byt ys) (h : (OTH ys m tag).2 = 0) : U64 (OTH ys m tag).1 ∧ (OTH ys m tag).1.length = m := by
  unfold OTH at *
  by_cases h2 : tag = 2
  · simp only [if_pos h2] at h ⊢
    obtain ⟨_, hlen, _⟩ := UN_ok h
    exact ⟨UN_u64 _ _, by omega⟩
  · simp only [if_neg h2] at h ⊢
    by_cases h3 : tag = 3
    · simp only [if_pos h3] at h ⊢
      rcases DEC_facts (n := (m : Int)) hr with ⟨c, e, hc⟩ | ⟨l, e, hu, hl, _⟩
      · rw [e] at h; exact absurd h hc
      · rw [e]
        refine ⟨fun x hx => ?_, by simp only; omega⟩
        have := hu x hx
        have h60 : (2 : Int) ^ 60 = 1152921504606846976 := by decide
        omega
    · simp only [if_neg h3] at h ⊢
      by_cases h4 : tag = 4
      · simp only [if_pos h4] at h ⊢
        rcases RUND_facts (n := (m : Int)) hr with ⟨c, e, hc⟩ | ⟨l, e, hu, hl, _⟩
        · rw [e] at h; exact absurd h hc
        · rw [e]; exact ⟨hu, by simp only; omega⟩
      · simp only [if_neg h4] at h ⊢
        rcases rVs_only m [] ys hr with ⟨r, c, e, hc⟩ | ⟨t, r, e, hl, hu, _⟩
        · rw [e] at h; exact absurd h (by simp only; omega)
        · rw [e]; exact ⟨by simpa using hu, by simpa using hl⟩
end Go.Proofs.YtgbimghhdbmjiaaGreat

/- The shortest way and what is read of it: there and back, one way alone, how long it gets. -/
namespace Go.Proofs.YtgbimghhdbmjiaaGreat
open Go.RowKit

theorem D_i64 {l : List Int} (h : I64s l) (k : Nat) : I64s (D k l) := D_g k l h
theorem zD_u64 {l : List Int} (h : I64s l) (k : Nat) : U64 (zsn (D k l)) := zsn_u64 (D_i64 h k)
theorem zD_length (l : List Int) (k : Nat) : (zsn (D k l)).length = l.length := by rw [zsn_length, D_length]
theorem getD_u64 {l : List Int} (h : U64 l) (hp : 0 < l.length) : 0 ≤ l.getD 0 0 ∧ l.getD 0 0 ≤ 18446744073709551615 := by
  cases l with
  | nil => simp at hp
  | cons a t => exact h a List.mem_cons_self
theorem cons_drop {l : List Int} (hp : 0 < l.length) : l.getD 0 0 :: l.drop 1 = l := by
  cases l with
  | nil => simp at hp
  | cons a t => rfl
theorem tms_le (tag : Nat) : tms tag ≤ 3 := by unfold tms; split <;> omega

theorem WAY_nil (tag : Nat) : WAY [] tag = ([], 0) := by unfold WAY; simp
theorem WAY_zero {l : List Int} : WAY l 0 = (fx l, 0) := by
  unfold WAY
  by_cases h : l = []
  · rw [if_pos h, h]; rfl
  · rw [if_neg h]; rfl
theorem WAY_ok {l : List Int} {tag : Nat} (hne : l ≠ []) (ht : tag ≠ 0) (h : (WAY l tag).2 = 0) :
    (WOTH ((zsn (D (tms tag) l)).drop 1) tag).2 = 0 ∧ WAY l tag = (gs ((zsn (D (tms tag) l)).getD 0 0).toNat ++ (WOTH ((zsn (D (tms tag) l)).drop 1) tag).1, 0) := by
  unfold WAY at *
  rw [if_neg hne, if_neg ht] at h ⊢
  by_cases hw : (WOTH ((zsn (D (tms tag) l)).drop 1) tag).2 ≠ 0
  · rw [if_pos hw] at h; exact absurd h hw
  · rw [if_neg hw]; exact ⟨by simpa using hw, rfl⟩
theorem WAY_err {l : List Int} {tag : Nat} (hl : l.length ≤ 65536) (h : (WAY l tag).2 ≠ 0) : WAY l tag = ([], 1) := by
  unfold WAY at *
  by_cases hne : l = []
  · rw [if_pos hne] at h; exact absurd rfl h
  · rw [if_neg hne] at h ⊢
    by_cases ht : tag = 0
    · rw [if_pos ht] at h; exact absurd rfl h
    · rw [if_neg ht] at h ⊢
      by_cases hw : (WOTH ((zsn (D (tms tag) l)).drop 1) tag).2 ≠ 0
      · rw [if_pos hw]
        rw [WOTH_nil_err (by rw [List.length_drop, zD_length]; omega) hw]
      · rw [if_neg hw] at h; exact absurd rfl h
theorem WAY_byt {l : List Int} (hg : I64s l) (tag : Nat) : Byt (WAY l tag).1 := by
  unfold WAY
  by_cases hne : l = []
  · rw [if_pos hne]; intro y hy; simp at hy
  · rw [if_neg hne]
    by_cases ht : tag = 0
    · rw [if_pos ht]; exact fx_byt l
    · rw [if_neg ht]
      by_cases hw : (WOTH ((zsn (D (tms tag) l)).drop 1) tag).2 ≠ 0
      · rw [if_pos hw]; intro y hy; simp at hy
      · rw [if_neg hw]
        exact byt_app (gs_range _) (WOTH_byt ((zD_u64 hg _).drop 1))
theorem READ_WAY {l : List Int} {tag : Nat} (hg : I64s l) (hl : l.length ≤ 65536) (h : (WAY l tag).2 = 0) : READ (WAY l tag).1 l.length tag = (l, 0) := by
  by_cases hne : l = []
  · subst hne; rfl
  have hp : 0 < l.length := List.length_pos_iff.2 hne
  by_cases ht : tag = 0
  · subst ht
    rw [WAY_zero]
    unfold READ rFx
    rw [if_neg (by omega), if_pos rfl, if_neg (by simp only [fx_length]; omega), fxN_fx hg]
  obtain ⟨hw, e⟩ := WAY_ok hne ht h
  rw [e]
  have hz := zD_u64 hg (tms tag)
  have hzl := zD_length l (tms tag)
  have h0 := getD_u64 hz (by omega)
  have hs := sVarint_gs ((zsn (D (tms tag) l)).getD 0 0).toNat (WOTH ((zsn (D (tms tag) l)).drop 1) tag).1 (by omega)
  have hb := OTH_back (hz.drop 1) (by rw [List.length_drop]; omega) hw
  rw [List.length_drop, hzl] at hb
  unfold READ
  rw [if_neg (by omega), if_neg ht]
  simp only [hs, ne_eq, not_true_eq_false, if_false, List.drop_left, hb]
  rw [Int.toNat_of_nonneg h0.1]
  have e2 : zag ((zsn (D (tms tag) l)).getD 0 0) :: zgn ((zsn (D (tms tag) l)).drop 1) = zgn ((zsn (D (tms tag) l)).getD 0 0 :: (zsn (D (tms tag) l)).drop 1) := rfl
  rw [e2, cons_drop (by omega), zgn_zsn, S_D _ _ hg]
theorem WAY_more {l m r : List Int} {tag : Nat} (hg : I64s l) (hg' : I64s m) (hl : l.length ≤ 65536) (hlen : m.length = l.length) (h : (WAY l tag).2 = 0) (h' : (WAY m tag).2 = 0) (e : (WAY m tag).1 = (WAY l tag).1 ++ r) : r = [] := by
  by_cases hne : l = []
  · subst hne
    have : m = [] := List.eq_nil_of_length_eq_zero hlen
    subst this
    rw [WAY_nil] at e
    simpa using e.symm
  have hp : 0 < l.length := List.length_pos_iff.2 hne
  have hne' : m ≠ [] := List.length_pos_iff.1 (by omega)
  by_cases ht : tag = 0
  · subst ht
    rw [WAY_zero, WAY_zero] at e
    have := congrArg List.length e
    rw [List.length_append, fx_length, fx_length] at this
    exact List.eq_nil_of_length_eq_zero (by omega)
  obtain ⟨hw, e1⟩ := WAY_ok hne ht h
  obtain ⟨hw', e1'⟩ := WAY_ok hne' ht h'
  have hz := zD_u64 hg (tms tag)
  have hz' := zD_u64 hg' (tms tag)
  have hzl := zD_length l (tms tag)
  have hzl' := zD_length m (tms tag)
  have h0 := getD_u64 hz (by omega)
  have h0' := getD_u64 hz' (by omega)
  rw [e1, e1'] at e
  simp only [List.append_assoc] at e
  have s1 := sVarint_gs ((zsn (D (tms tag) m)).getD 0 0).toNat (WOTH ((zsn (D (tms tag) m)).drop 1) tag).1 (by omega)
  rw [e, sVarint_gs _ _ (by omega)] at s1
  have s2 := congrArg (fun p => p.1) s1
  simp only at s2
  have s3 : ((zsn (D (tms tag) l)).getD 0 0).toNat = ((zsn (D (tms tag) m)).getD 0 0).toNat := by omega
  rw [s3] at e
  have e3 := List.append_cancel_left e
  exact WOTH_more (hz.drop 1) (hz'.drop 1) (by rw [List.length_drop]; omega) (by rw [List.length_drop, List.length_drop]; omega) hw hw' e3
theorem READ_ok {ys : List Int} {n tag : Nat} (hr : Byt ys) (h : (READ ys n tag).2 = 0) : I64s (READ ys n tag).1 ∧ (READ ys n tag).1.length = n := by
  unfold READ at *
  by_cases hn : n = 0
  · rw [if_pos hn]; exact ⟨fun x hx => by simp at hx, by simp [hn]⟩
  · rw [if_neg hn] at h ⊢
    by_cases ht : tag = 0
    · rw [if_pos ht] at h ⊢
      unfold rFx at *
      by_cases hl : ys.length < 8 * n
      · rw [if_pos hl] at h; cases h
      · rw [if_neg hl]
        refine ⟨fun x hx => ?_, by simp [fxN]⟩
        simp only [List.mem_map] at hx
        obtain ⟨y, _, rfl⟩ := hx
        exact s64_g y
    · rw [if_neg ht] at h ⊢
      by_cases hv : (sVarint ys).2.2 ≠ 0
      · rw [if_pos hv] at h; exact absurd h hv
      · rw [if_neg hv] at h ⊢
        by_cases ho : (OTH (ys.drop (sVarint ys).2.1) (n - 1) tag).2 ≠ 0
        · rw [if_pos ho] at h; exact absurd h ho
        · rw [if_neg ho]
          have ho' : (OTH (ys.drop (sVarint ys).2.1) (n - 1) tag).2 = 0 := by simpa using ho
          obtain ⟨hu, hlen⟩ := OTH_only (fun y hy => hr y (List.mem_of_mem_drop hy)) ho'
          refine ⟨S_g _ _ (fun x hx => ?_), ?_⟩
          · rcases List.mem_cons.1 hx with rfl | hx
            · rcases sVarint_cases hr with ⟨c, h1, hc⟩ | ⟨a, k, h1, _, _, h3, _⟩
              · rw [h1] at hv; exact absurd (by simp only; omega) hv
              · rw [h1]; exact zag_bounds a (by omega) (by omega)
            · exact zgn_i64 hu x hx
          · simp only [S_length, List.length_cons, zgn_length, hlen]; omega
theorem READ_err {ys : List Int} {n tag : Nat} (h : (READ ys n tag).2 ≠ 0) : (READ ys n tag).1 = [] := by
  unfold READ at *
  by_cases hn : n = 0
  · rw [if_pos hn]
  · rw [if_neg hn] at h ⊢
    by_cases ht : tag = 0
    · rw [if_pos ht] at h ⊢
      unfold rFx at *
      by_cases hl : ys.length < 8 * n
      · rw [if_pos hl]; rfl
      · rw [if_neg hl] at h; exact absurd rfl h
    · rw [if_neg ht] at h ⊢
      by_cases hv : (sVarint ys).2.2 ≠ 0
      · rw [if_pos hv]
      · rw [if_neg hv] at h ⊢
        by_cases ho : (OTH (ys.drop (sVarint ys).2.1) (n - 1) tag).2 ≠ 0
        · rw [if_pos ho]
        · rw [if_neg ho] at h; exact absurd rfl h

/-! the shortest way -/
theorem pick_spec (l : List Int) : ∀ t, (pick l t).1 ≤ t ∧ WAY l (pick l t).1 = ((pick l t).2, 0) ∧ ∀ s, s ≤ t → (WAY l s).2 = 0 → (pick l t).2.length ≤ (WAY l s).1.length
  | 0 => by
    refine ⟨Nat.le_refl _, ?_, fun s hs _ => ?_⟩
    · show WAY l 0 = ((WAY l 0).1, 0)
      rw [WAY_zero]
    · have : s = 0 := by omega
      subst this; exact Nat.le_refl _
  | t + 1 => by
    obtain ⟨h1, h2, h3⟩ := pick_spec l t
    rw [pick]
    by_cases hc : (WAY l (t + 1)).2 = 0 ∧ (WAY l (t + 1)).1.length < (pick l t).2.length
    · rw [if_pos hc]
      refine ⟨Nat.le_refl _, by rw [← hc.1], fun s hs h0 => ?_⟩
      rcases Nat.lt_or_ge s (t + 1) with h | h
      · have := h3 s (by omega) h0; simp only; omega
      · have : s = t + 1 := by omega
        subst this; exact Nat.le_refl _
    · rw [if_neg hc]
      refine ⟨by omega, h2, fun s hs h0 => ?_⟩
      rcases Nat.lt_or_ge s (t + 1) with h | h
      · exact h3 s (by omega) h0
      · have : s = t + 1 := by omega
        subst this
        rcases Nat.lt_or_ge (WAY l (t + 1)).1.length (pick l t).2.length with h4 | h4
        · exact absurd ⟨h0, h4⟩ hc
        · exact h4
theorem ENC8_of {l : List Int} (hl : l.length ≤ 65536) : ENC8 l = (((pick l 4).1 : Int) :: (pick l 4).2, 0) := if_neg (by omega)
theorem ENC8_len {l : List Int} (hl : l.length ≤ 65536) : (ENC8 l).1.length ≤ 1 + 8 * l.length ∧ 0 < (ENC8 l).1.length := by
  rw [ENC8_of hl]
  have h := (pick_spec l 4).2.2 0 (by omega) (by rw [WAY_zero])
  rw [WAY_zero] at h
  simp only [fx_length] at h
  simp only [List.length_cons]
  omega
theorem ENC8_byt {l : List Int} (hg : I64s l) : Byt (ENC8 l).1 := by
  unfold ENC8
  by_cases hl : 65536 < l.length
  · rw [if_pos hl]; intro y hy; simp at hy
  · rw [if_neg hl]
    obtain ⟨h1, h2, _⟩ := pick_spec l 4
    intro y hy
    rcases List.mem_cons.1 hy with rfl | hy
    · omega
    · have := WAY_byt hg (pick l 4).1
      rw [h2] at this
      exact this y hy
theorem WAY8_nat {l : List Int} (hl : l.length ≤ 65536) (t : Nat) (ht : t ≤ 4) : WAY8 l t = WAY l t := by
  unfold WAY8
  rw [if_neg (by omega), if_neg (by omega)]
  rfl
theorem ENC8_min {l : List Int} (hl : l.length ≤ 65536) {tag : Int} (h : (WAY8 l tag).2 = 0) : (ENC8 l).1.length ≤ (WAY8 l tag).1.length + 1 := by
  unfold WAY8 at *
  by_cases ht : tag < 0 ∨ 4 < tag
  · rw [if_pos ht] at h; cases h
  · rw [if_neg ht, if_neg (by omega)] at h ⊢
    rw [ENC8_of hl]
    have := (pick_spec l 4).2.2 tag.toNat (by omega) h
    simp only [List.length_cons]
    omega
theorem ENC8_more {l m r : List Int} (hg : I64s l) (hg' : I64s m) (hl : l.length ≤ 65536) (hlen : m.length = l.length) (e : (ENC8 m).1 = (ENC8 l).1 ++ r) : r = [] := by
  rw [ENC8_of hl, ENC8_of (by omega)] at e
  simp only [List.cons_append, List.cons.injEq] at e
  obtain ⟨e1, e2⟩ := e
  have e1' : (pick m 4).1 = (pick l 4).1 := by omega
  have h := (pick_spec l 4).2.1
  have h' := (pick_spec m 4).2.1
  rw [e1'] at h'
  exact WAY_more (tag := (pick l 4).1) hg hg' hl hlen (by rw [h]) (by rw [h']) (by rw [h, h', e2])
theorem DEC8_ENC8 {l : List Int} (hg : I64s l) (hl : l.length ≤ 65536) : DEC8 (ENC8 l).1 l.length = (l, 0) := by
  have he := ENC8_of hl
  obtain ⟨h1, h2, _⟩ := pick_spec l 4
  have hR := READ_WAY hg hl (tag := (pick l 4).1) (by rw [h2])
  rw [h2] at hR
  unfold DEC8
  rw [if_neg (by omega)]
  rw [he]
  simp only [List.drop_succ_cons, List.drop_zero, List.getD_cons_zero, Int.toNat_natCast, hR]
  rw [if_neg (by simp), if_neg (by omega), if_neg (by simp), if_pos (by rw [he])]
theorem DEC8_ok {b : List Int} {n : Int} (hr : Byt b) (h : (DEC8 b n).2 = 0) : 0 ≤ n ∧ n ≤ 65536 ∧ ((DEC8 b n).1.length : Int) = n ∧ I64s (DEC8 b n).1 ∧ (ENC8 (DEC8 b n).1) = (b, 0) := by
  unfold DEC8 at *
  by_cases hn : n < 0 ∨ 65536 < n
  · rw [if_pos hn] at h; cases h
  · rw [if_neg hn] at h ⊢
    by_cases hb : b = []
    · rw [if_pos hb] at h; cases h
    · rw [if_neg hb] at h ⊢
      by_cases h4 : 4 < b.getD 0 0
      · rw [if_pos h4] at h; cases h
      · rw [if_neg h4] at h ⊢
        by_cases hR : (READ (b.drop 1) n.toNat (b.getD 0 0).toNat).2 ≠ 0
        · rw [if_pos hR] at h; exact absurd h hR
        · rw [if_neg hR] at h ⊢
          by_cases hE : (ENC8 (READ (b.drop 1) n.toNat (b.getD 0 0).toNat).1).1 = b
          · rw [if_pos hE]
            obtain ⟨hg, hlen⟩ := READ_ok (fun y hy => hr y (List.mem_of_mem_drop hy)) (show (READ (b.drop 1) n.toNat (b.getD 0 0).toNat).2 = 0 by simpa using hR)
            refine ⟨by omega, by omega, by simp only [hlen]; omega, hg, ?_⟩
            have := ENC8_of (l := (READ (b.drop 1) n.toNat (b.getD 0 0).toNat).1) (by rw [hlen]; omega)
            rw [this] at hE ⊢
            simp only at hE
            simp only [hE]
          · rw [if_neg hE] at h; cases h
theorem DEC8_err {b : List Int} {n : Int} (h : (DEC8 b n).2 ≠ 0) : (DEC8 b n).1 = [] := by
  unfold DEC8 at *
  by_cases hn : n < 0 ∨ 65536 < n
  · rw [if_pos hn]
  · rw [if_neg hn] at h ⊢
    by_cases hb : b = []
    · rw [if_pos hb]
    · rw [if_neg hb] at h ⊢
      by_cases h4 : 4 < b.getD 0 0
      · rw [if_pos h4]
      · rw [if_neg h4] at h ⊢
        by_cases hR : (READ (b.drop 1) n.toNat (b.getD 0 0).toNat).2 ≠ 0
        · rw [if_pos hR]
        · rw [if_neg hR] at h ⊢
          by_cases hE : (ENC8 (READ (b.drop 1) n.toNat (b.getD 0 0).toNat).1).1 = b
          · rw [if_pos hE] at h; exact absurd rfl h
          · rw [if_neg hE]
theorem DEC8_more {l r : List Int} (hg : I64s l) (hl : l.length ≤ 65536) (hr : Byt r) (hne : r ≠ []) : (DEC8 ((ENC8 l).1 ++ r) l.length).2 ≠ 0 := by
  intro h
  obtain ⟨_, _, h1, h2, h3⟩ := DEC8_ok (byt_app (ENC8_byt hg) hr) h
  exact hne (ENC8_more hg h2 hl (by omega) (by rw [h3]))
theorem DEC8_cut {l : List Int} {k : Nat} (hg : I64s l) (hl : l.length ≤ 65536) (hk : k < (ENC8 l).1.length) : (DEC8 ((ENC8 l).1.take k) l.length).2 ≠ 0 := by
  intro h
  obtain ⟨_, _, h1, h2, h3⟩ := DEC8_ok (fun y hy => ENC8_byt hg y (List.mem_of_mem_take hy)) h
  have h4 : (ENC8 l).1 = (ENC8 (DEC8 ((ENC8 l).1.take k) l.length).1).1 ++ (ENC8 l).1.drop k := by rw [h3]; exact (List.take_append_drop k _).symm
  have h5 := ENC8_more h2 hg (by omega) (by omega) h4
  have := congrArg List.length h5
  rw [List.length_drop] at this
  simp at this
  omega
/-- ints that lie equally far apart -/
theorem ENC8_even (s x : Int) (n : Nat) (hs : G64 s) (hx : G64 x) (hn : n ≤ 65536) : (ENC8 (ap s x n)).1.length ≤ 27 := by
  have hl := ap_length s x n
  have hg := ap_g s x n hx
  rw [ENC8_of (by omega)]
  simp only [List.length_cons]
  rcases n with _ | _ | n
  · have h := (pick_spec (ap s x 0) 4).2.2 0 (by omega) (by rw [WAY_zero])
    rw [WAY_zero] at h
    simp only [fx_length, ap_length] at h
    omega
  · have h := (pick_spec (ap s x 1) 4).2.2 0 (by omega) (by rw [WAY_zero])
    rw [WAY_zero] at h
    simp only [fx_length, ap_length] at h
    simp only [Nat.zero_add] at *
    omega
  · have hD : D 1 (ap s x (n + 2)) = x :: List.replicate (n + 1) s := by
      show bh (dif 0) 0 (D 0 (ap s x (n + 2))) = _
      have e : ap s x (n + 2) = x :: ap s (wrap64 (x + s)) (n + 1) := rfl
      show ([] : List Int) ++ dif 0 (ap s x (n + 2)) = _
      rw [List.nil_append, e, dif, dif_ap s x (n + 1) hs, Int.sub_zero, w64_id hx]
    have hz : zsn (D (tms 2) (ap s x (n + 2))) = zig x :: List.replicate (n + 1) (zig s) := by
      show zsn (D 1 (ap s x (n + 2))) = _
      rw [hD]; simp [zsn]
    have hx' := zig_bounds x hx.1 hx.2
    have hs' := zig_bounds s hs.1 hs.2
    have hW : WAY (ap s x (n + 2)) 2 = (gs (zig x).toNat ++ (gs (zig s).toNat ++ [0]), 0) := by
      unfold WAY
      rw [if_neg (by intro h; simp [ap] at h), if_neg (by omega), hz]
      have e1 : WOTH ((zig x :: List.replicate (n + 1) (zig s)).drop 1) 2 = (gs (zig s).toNat ++ [0], 0) := by
        unfold WOTH
        rw [if_pos rfl]
        rw [List.drop_succ_cons, List.drop_zero, pk_rep]
      rw [e1]
      rfl
    have h := (pick_spec (ap s x (n + 2)) 4).2.2 2 (by omega) (by rw [hW])
    rw [hW] at h
    have g1 := gs_le10 (v := (zig x).toNat) (by omega)
    have g2 := gs_le10 (v := (zig s).toNat) (by omega)
    simp only [List.length_append, List.length_cons, List.length_nil] at h
    show (pick (ap s x (n + 2)) 4).2.length + 1 ≤ 27
    omega

theorem ENC8_ex : ENC8 [10, 20, 30, 40] = ([2, 20, 20, 0], 0) := by decide +kernel
theorem i64_ex : I64s [10, 20, 30, 40] := by intro x hx; simp at hx; unfold G64; omega
theorem DEC8_ex : DEC8 [2, 20, 20, 0] 4 = ([10, 20, 30, 40], 0) := by
  have := DEC8_ENC8 i64_ex (by decide)
  rw [ENC8_ex] at this
  exact this
end Go.Proofs.YtgbimghhdbmjiaaGreat

/- Package intcodec: the parts of a way: tags, eight bytes each, Zigs, varints. -/
namespace Go.Proofs.YtgbimghhdbmjiaaGreat
open Go.RowKit

set_option maxHeartbeats 400000 in
set_option maxRecDepth 100000 in
theorem istag_yes (t : Int) (w : World) (h0 : 0 ≤ t) (h1 : t ≤ 4) : Calls Tryz.prog 12 #[.int .i64 t] w fun e w' => e = .returned (.bool true) ∧ w = w' := by
  have d0 : decide (0 ≤ t) = true := decide_eq_true h0
  have d1 : decide (t < 5) = true := decide_eq_true (by omega)
  clear h0 h1
  go_enter Tryz.func12, Tryz.ntmps12
  go_wp2
  go_ret
  exact ⟨rfl, rfl⟩
set_option maxHeartbeats 400000 in
set_option maxRecDepth 100000 in
theorem istag_no (t : Int) (w : World) (h : t < 0 ∨ 4 < t) : Calls Tryz.prog 12 #[.int .i64 t] w fun e w' => e = .returned (.bool false) ∧ w = w' := by
  by_cases h0 : t < 0
  · have d0 : decide (0 ≤ t) = false := decide_eq_false (by omega)
    clear h0 h
    go_enter Tryz.func12, Tryz.ntmps12
    go_wp2
    go_ret
    exact ⟨rfl, rfl⟩
  · have d0 : decide (0 ≤ t) = true := decide_eq_true (by omega)
    have d1 : decide (t < 5) = false := decide_eq_false (by omega)
    clear h0 h
    go_enter Tryz.func12, Tryz.ntmps12
    go_wp2
    go_ret
    exact ⟨rfl, rfl⟩

set_option maxHeartbeats 400000 in
set_option maxRecDepth 100000 in
theorem times_one (w : World) : Calls Tryz.prog 28 #[.int .i64 1] w fun e w' => e = .returned (.int .i64 1) ∧ w = w' := by
  go_enter Tryz.func28, Tryz.ntmps28
  go_wp2
  go_ret
  exact ⟨rfl, rfl⟩
set_option maxHeartbeats 400000 in
set_option maxRecDepth 100000 in
theorem times_two (w : World) : Calls Tryz.prog 28 #[.int .i64 2] w fun e w' => e = .returned (.int .i64 1) ∧ w = w' := by
  go_enter Tryz.func28, Tryz.ntmps28
  go_wp2
  go_ret
  exact ⟨rfl, rfl⟩
set_option maxHeartbeats 400000 in
set_option maxRecDepth 100000 in
theorem times_three (w : World) : Calls Tryz.prog 28 #[.int .i64 3] w fun e w' => e = .returned (.int .i64 2) ∧ w = w' := by
  go_enter Tryz.func28, Tryz.ntmps28
  go_wp2
  go_ret
  exact ⟨rfl, rfl⟩
set_option maxHeartbeats 400000 in
set_option maxRecDepth 100000 in
theorem times_four (w : World) : Calls Tryz.prog 28 #[.int .i64 4] w fun e w' => e = .returned (.int .i64 2) ∧ w = w' := by
  go_enter Tryz.func28, Tryz.ntmps28
  go_wp2
  go_ret
  exact ⟨rfl, rfl⟩
theorem times_any (t : Nat) (w : World) (h0 : 1 ≤ t) (h1 : t ≤ 4) : Calls Tryz.prog 28 #[.int .i64 t] w fun e w' => e = .returned (.int .i64 (tms t)) ∧ w = w' := by
  rcases t with _ | _ | _ | _ | _ | t
  · omega
  · exact times_one w
  · exact times_two w
  · exact times_three w
  · exact times_four w
  · omega

theorem fx_take (l : List Int) (k : Nat) (h : k < l.length) : fx (l.take (k + 1)) = fx (l.take k) ++ fixL (u64o (l.getD k 0)) 8 := by
  rw [take_snoc l k h, fx_snoc]

set_option maxHeartbeats 400000 in
set_option maxRecDepth 100000 in
/-- INTS in eight bytes each: new memory. -/
theorem fixed_any (v : Value) (l : List Int) (w : World) (h : Bs .i64 w v l) (hl : l.length ≤ 65536) :
    Calls Tryz.prog 35 #[v] w fun e w' => ∃ u, e = .returned u ∧ w'.ownsRow w.heap.size 5 1 u (fx l).length ((fx l).map (Value.int .u8)) ∧ Only (fun _ => False) w w' := by
  obtain ⟨i0, hi, hz0, hz1, hz2⟩ := info_parts Tryz.infoU8
  have HB := hideIt h
  obtain ⟨ao, cap, rfl⟩ := h.len
  obtain ⟨n, hn⟩ : ∃ n, n = l.length := ⟨_, rfl⟩
  rw [← hn] at hl HB
  rw [← hn]
  have HN := hideIt hn
  clear h hn
  go_enter Tryz.func35, Tryz.ntmps35
  go_wp2
  go_loopw [3, 8] (fun s i wr => ∃ k : Nat, k ≤ n ∧ i = .int .i64 k ∧ wr.ownsRow w.heap.size 5 1 s (fx (l.take k)).length ((fx (l.take k)).map (Value.int .u8)) ∧ Only (fun _ => False) w wr) (fun _ i _ => n - (intOf i).toNat)
  case atStart => exact ⟨0, Nat.zero_le _, rfl, World.ownsRow_nil _ _ _ _, Only.refl _ _⟩
  case round =>
    obtain ⟨k, hk, rfl, hown, hon⟩ := hrel
    have HOWN := hideIt hown
    have HON := hideIt hon
    by_cases hlt : k < n
    · have dlt : decide ((k : Int) < (n : Int)) = true := by simp; omega
      obtain ⟨b, off, cap', e1, hc0⟩ := (HB.out.past hon).at k (by rw [← HN.out]; exact hlt)
      have ea : ao = some ⟨b, off, none⟩ := by simp at e1; exact e1.1
      subst ea
      clear e1
      have HST := hideIt (fx_take l k (by rw [← HN.out]; exact hlt))
      have HFL : Hid ((fx (l.take k)).length ≤ 8 * n) := by
        simp only [Hid]; rw [fx_length, List.length_take]; omega
      obtain ⟨f1, hf1⟩ : ∃ f1, f1 = fx (l.take (k + 1)) := ⟨_, rfl⟩
      rw [← hf1] at HST
      have HF1 := hideIt hf1
      clear hf1
      generalize fx (l.take k) = f0 at *
      generalize l.getD k 0 = x at *
      clear hown hon HB
      go_wp2_with fail
      refine (fix_any _ 8 wr (by omega)).mono ?_
      rintro e w4 ⟨u, rfl, own4, o4⟩
      rw [IntKind.wrap_u64] at own4
      have ow := o4.own HOWN.out (fun _ _ f => f)
      have hb4 := Bs.of_own own4
      have NC4 := hideIt (NoCap.of_own own4)
      have HB4 := hideIt hb4
      have hs4 : w.heap.size ≤ w4.heap.size := Nat.le_trans HON.out.size o4.size
      have O4 := hideIt (HON.out.trans o4 (fun _ _ f => f))
      obtain ⟨a4, c4, e4⟩ := hb4.len
      subst e4
      clear o4 own4 HON HOWN hb4
      rw [fixL_len] at HB4 NC4
      go_wp2_with (at_builtin; refine wpList_append_bs _ rfl _ _ _ rfl w.heap.size 5 i0 (.int .u8 0) 1 Tryz.underlying22 hi hz0 hz1 hz2 rfl _ _ _ rfl ow .u8 _ (fixL (x % 18446744073709551616) 8) rfl HB4.out NC4.out ?c3 ?c4 hs4 ?_)
      case c3 => have := HFL.out; rw [fixL_len]; unfold maxLen; omega
      case c4 => have := HFL.out; rw [fixL_len]; omega
      intro v6 w6 own6 hgrow6 _ _
      have OWN6 : Hid (w6.ownsRow w.heap.size 5 1 v6 f1.length (f1.map (Value.int .u8))) := by
        simp only [Hid]; rw [HST.out, List.length_append, List.map_append]; exact own6
      have O6 := hideIt (O4.out.grown hgrow6 (fun k hk e => absurd (ow.lt k e).1 (by omega)))
      clear ow own6 hgrow6
      go_wp2
      go_roundw
      case rel => exact ⟨k + 1, by omega, by go_num, by rw [← HF1.out]; exact OWN6.out, O6.out⟩
      case measure => simp [intOf]; omega
    · obtain rfl : k = n := by omega
      have dlt : decide ((k : Int) < (k : Int)) = false := by simp
      rw [HN.out, List.take_length] at HOWN
      clear hown hon
      go_wp2
      go_ret
      exact ⟨_, rfl, HOWN.out, HON.out⟩

/-- the first k Zigs, and 0 for the others -/
def zpart (l : List Int) (n k : Nat) : List Int := zsn (l.take k) ++ List.replicate (n - k) 0
theorem zpart_len (l : List Int) (k : Nat) (hk : k ≤ l.length) : (zpart l l.length k).length = l.length := by
  simp only [zpart, List.length_append, zsn_length, List.length_take, List.length_replicate]; omega
theorem zpart_zero (l : List Int) (n : Nat) : (zpart l n 0).map (Value.int .u64) = (madeCells #[Value.int .u64 0] (n * 1)).toList := by
  apply List.ext_getElem?
  intro i
  by_cases h : i < n
  · simp [zpart, zsn, madeCells, h, Nat.mod_one]
  · simp [zpart, zsn, madeCells, h]
theorem zpart_all (l : List Int) : zpart l l.length l.length = zsn l := by simp [zpart]
theorem zpart_step (l : List Int) (k : Nat) (h : k < l.length) : (zpart l l.length k).set k (zig (l.getD k 0)) = zpart l l.length (k + 1) := by
  unfold zpart
  have hlen : (zsn (l.take k)).length = k := by rw [zsn_length, List.length_take]; omega
  rw [show l.length - k = (l.length - (k + 1)) + 1 by omega, List.replicate_succ, List.set_append_right _ _ (by omega), hlen, Nat.sub_self, List.set_cons_zero, take_snoc l k h]
  simp [zsn]

set_option maxHeartbeats 400000 in
set_option maxRecDepth 100000 in
/-- ZIGS: new memory. -/
theorem zigs_any (v : Value) (l : List Int) (w : World) (h : Bs .i64 w v l) (hg : I64s l) (hl : l.length ≤ 65536) :
    Calls Tryz.prog 38 #[v] w fun e w' => ∃ u, e = .returned u ∧ w'.ownsRow w.heap.size 42 1 u (zsn l).length ((zsn l).map (Value.int .u64)) ∧ Only (fun _ => False) w w' := by
  obtain ⟨i0, hi, hz0, hz1, hz2⟩ := info_parts Tryz.infoU64
  have HB := hideIt h
  have HG := hideIt hg
  obtain ⟨ao, cap, rfl⟩ := h.len
  obtain ⟨n, hn⟩ : ∃ n, n = l.length := ⟨_, rfl⟩
  rw [← hn] at hl HB
  rw [← hn]
  have HN := hideIt hn
  obtain ⟨wm, hmk, hown0, hgr⟩ := run_make_full (P := Tryz.prog) w w.heap.size 39 42 i0 (.int .u64 0) 1 Tryz.underlying39 hi hz0 hz1 .i64 .i64 n (by rw [hz2]; omega) (by unfold maxLen; omega) (Nat.le_refl _)
  have START : Hid (wm.ownsRow w.heap.size 42 1 (.slice (some ⟨w.heap.size, 0, none⟩) n n) n ((zpart l n 0).map (Value.int .u64)) ∧ Only (fun _ => False) w wm) := by
    rw [show (Value.int .u64 0).cells = #[Value.int .u64 0] from rfl] at hown0
    rw [zpart_zero]
    exact ⟨hown0, (Only.refl _ _).grown hgr (fun _ _ e => by cases e)⟩
  clear hown0 hgr
  obtain ⟨N, hN⟩ : ∃ N, N = w.heap.size := ⟨_, rfl⟩
  rw [← hN] at hmk START
  rw [← hN]
  have HNN := hideIt hN
  clear h hn hN hg
  go_enter Tryz.func38, Tryz.ntmps38
  go_wp2
  go_loopw [11] (fun i wr => ∃ k : Nat, k ≤ n ∧ i = .int .i64 k ∧ wr.ownsRow N 42 1 (.slice (some ⟨N, 0, none⟩) n n) n ((zpart l n k).map (Value.int .u64)) ∧ Only (fun _ => False) w wr) (fun i _ => n - (intOf i).toNat)
  case atStart => exact ⟨0, Nat.zero_le _, rfl, START.out.1, START.out.2⟩
  case round =>
    obtain ⟨k, hk, rfl, hown, hon⟩ := hrel
    clear START hmk
    have HOWN := hideIt hown
    have HON := hideIt hon
    by_cases hlt : k < n
    · have dlt : decide ((k : Int) < (n : Int)) = true := by simp; omega
      have hkl : k < l.length := by rw [← HN.out]; exact hlt
      obtain ⟨b, off, cap', e1, hc0⟩ := (HB.out.past hon).at k hkl
      have ea : ao = some ⟨b, off, none⟩ := by simp at e1; exact e1.1
      subst ea
      clear e1
      have hx := HG.out (l.getD k 0) (getD_mem0 l k hkl)
      have hcell : ∃ y, wr.cell? ⟨N, k, none⟩ = some (.int .u64 y) := by
        have hz := zpart_len l k (by omega)
        rw [← HN.out] at hz
        refine ⟨(zpart l n k).getD k 0, ?_⟩
        rw [hown.cellAt k (by omega), List.getElem?_map, List.getElem?_eq_getElem (by rw [hz]; omega), List.getD_eq_getElem?_getD, List.getElem?_eq_getElem (by rw [hz]; omega)]
        rfl
      obtain ⟨y, hy⟩ := hcell
      have hfr : wr.frozen? ⟨N, k, none⟩ = false := hown.frozenAt _
      have hstep : Hid (((zpart l n k).map (Value.int .u64)).set k (.int .u64 (zig (l.getD k 0))) = (zpart l n (k + 1)).map (Value.int .u64)) := by
        simp only [Hid]; rw [← List.map_set, HN.out, zpart_step l k hkl]
      generalize l.getD k 0 = x at *
      clear hown hon HB HG hkl
      go_wp2_with fail
      refine (zig_any x wr hx.1 hx.2).mono ?_
      rintro e w1 ⟨rfl, rfl⟩
      go_wp2
      go_roundw
      case rel =>
        refine ⟨k + 1, by omega, by go_num, ?_, ?_⟩
        · have h1 := (HOWN.out.stored k (.int .u64 (zig x))).1
          rw [hstep.out] at h1
          exact h1
        · refine HON.out.setCell (fun hb => ?_) _
          have := HNN.out
          simp only at hb
          omega
      case measure => simp [intOf]; omega
    · obtain rfl : k = n := by omega
      have dlt : decide ((k : Int) < (k : Int)) = false := by simp
      have F : Hid (wr.ownsRow N 42 1 (.slice (some ⟨N, 0, none⟩) k k) (zsn l).length ((zsn l).map (Value.int .u64))) := by
        have h1 := HOWN.out
        have hk' := HN.out
        simp only [Hid]
        rw [zsn_length, ← hk']
        rw [show zpart l k k = zsn l by rw [hk']; exact zpart_all l] at h1
        exact h1
      clear hown hon
      go_wp2
      go_ret
      exact ⟨_, rfl, F.out, HON.out⟩

set_option maxHeartbeats 400000 in
set_option maxRecDepth 100000 in
/-- VARINTS, one behind the other: new memory. -/
theorem varints_any (v : Value) (l : List Int) (w : World) (h : Bs .u64 w v l) (hu : U64 l) (hl : l.length ≤ 65536) :
    Calls Tryz.prog 74 #[v] w fun e w' => ∃ u, e = .returned u ∧ w'.ownsRow w.heap.size 5 1 u (allG l).length ((allG l).map (Value.int .u8)) ∧ Only (fun _ => False) w w' := by
  obtain ⟨i0, hi, hz0, hz1, hz2⟩ := info_parts Tryz.infoU8
  have HB := hideIt h
  have HU := hideIt hu
  obtain ⟨ao, cap, rfl⟩ := h.len
  obtain ⟨n, hn⟩ : ∃ n, n = l.length := ⟨_, rfl⟩
  rw [← hn] at hl HB
  rw [← hn]
  have HN := hideIt hn
  clear h hn hu
  go_enter Tryz.func74, Tryz.ntmps74
  go_wp2
  go_loopw [3, 8] (fun s i wr => ∃ k : Nat, k ≤ n ∧ i = .int .i64 k ∧ wr.ownsRow w.heap.size 5 1 s (allG (l.take k)).length ((allG (l.take k)).map (Value.int .u8)) ∧ Only (fun _ => False) w wr) (fun _ i _ => n - (intOf i).toNat)
  case atStart => exact ⟨0, Nat.zero_le _, rfl, World.ownsRow_nil _ _ _ _, Only.refl _ _⟩
  case round =>
    obtain ⟨k, hk, rfl, hown, hon⟩ := hrel
    have HOWN := hideIt hown
    have HON := hideIt hon
    by_cases hlt : k < n
    · have dlt : decide ((k : Int) < (n : Int)) = true := by simp; omega
      have hkl : k < l.length := by rw [← HN.out]; exact hlt
      obtain ⟨b, off, cap', e1, hc0⟩ := (HB.out.past hon).at k hkl
      have ea : ao = some ⟨b, off, none⟩ := by simp at e1; exact e1.1
      subst ea
      clear e1
      have hx := HU.out (l.getD k 0) (getD_mem0 l k hkl)
      have HST := hideIt (allG_take l k hkl)
      have HFL : Hid ((allG (l.take k)).length ≤ 10 * n) := by
        simp only [Hid]; rw [HN.out]; exact allG_le l k HU.out
      have HG10 := hideIt (gs_le10 (v := (l.getD k 0).toNat) (by omega))
      obtain ⟨f1, hf1⟩ : ∃ f1, f1 = allG (l.take (k + 1)) := ⟨_, rfl⟩
      rw [← hf1] at HST
      have HF1 := hideIt hf1
      clear hf1
      generalize allG (l.take k) = f0 at *
      generalize l.getD k 0 = x at *
      clear hown hon HB hkl
      go_wp2_with fail
      refine (append_any (.slice none 0 0) [] x wr (Bs.nil _ _) NoCap.nil (by simp) hx.1 hx.2).mono ?_
      rintro e w4 ⟨u, rfl, own4, o4⟩
      rw [List.nil_append] at own4
      have ow := o4.own HOWN.out (fun _ _ f => f)
      have hb4 := Bs.of_own own4
      have NC4 := hideIt (NoCap.of_own own4)
      have HB4 := hideIt hb4
      have hs4 : w.heap.size ≤ w4.heap.size := Nat.le_trans HON.out.size o4.size
      have O4 := hideIt (HON.out.trans o4 (fun _ _ f => f))
      obtain ⟨a4, c4, e4⟩ := hb4.len
      subst e4
      clear o4 own4 HON HOWN hb4
      generalize gs x.toNat = g at *
      go_wp2_with (at_builtin; refine wpList_append_bs _ rfl _ _ _ rfl w.heap.size 5 i0 (.int .u8 0) 1 Tryz.underlying22 hi hz0 hz1 hz2 rfl _ _ _ rfl ow .u8 _ g rfl HB4.out NC4.out ?c3 ?c4 hs4 ?_)
      case c3 => have := HFL.out; have := HG10.out; unfold maxLen; omega
      case c4 => have := HFL.out; have := HG10.out; omega
      intro v6 w6 own6 hgrow6 _ _
      have OWN6 : Hid (w6.ownsRow w.heap.size 5 1 v6 f1.length (f1.map (Value.int .u8))) := by
        simp only [Hid]; rw [HST.out, List.length_append, List.map_append]; exact own6
      have O6 := hideIt (O4.out.grown hgrow6 (fun k hk e => absurd (ow.lt k e).1 (by omega)))
      clear ow own6 hgrow6
      go_wp2
      go_roundw
      case rel => exact ⟨k + 1, by omega, by go_num, by rw [← HF1.out]; exact OWN6.out, O6.out⟩
      case measure => simp [intOf]; omega
    · obtain rfl : k = n := by omega
      have dlt : decide ((k : Int) < (k : Int)) = false := by simp
      rw [HN.out, List.take_length] at HOWN
      clear hown hon
      go_wp2
      go_ret
      exact ⟨_, rfl, HOWN.out, HON.out⟩
end Go.Proofs.YtgbimghhdbmjiaaGreat

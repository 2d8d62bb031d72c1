/- Numbers as digits of one byte, the lowest first; Poly1305 as plain numbers. -/
import Derived.Test.YtjiippbjflpkkaaSw
namespace Go.Proofs.Ytjiippbjflpkkaa

/-- digits as a number -/
def nv : List Int → Nat
  | [] => 0
  | d :: l => d.toNat + 256 * nv l
theorem nv_app (a b : List Int) : nv (a ++ b) = nv a + 256 ^ a.length * nv b := by
  induction a with
  | nil => simp [nv]
  | cons d a ih =>
    simp only [List.cons_append, nv, ih, List.length_cons, Nat.pow_succ]
    rw [Nat.mul_add, ← Nat.mul_assoc, Nat.mul_comm 256 (256 ^ a.length)]
    omega
theorem nv_one (d : Int) : nv [d] = d.toNat := by simp [nv]
theorem nv_lt (a : List Int) (h : U8 a) : nv a < 256 ^ a.length := by
  induction a with
  | nil => simp [nv]
  | cons d a ih =>
    have h1 := h d (by simp)
    have h2 := ih (fun y hy => h y (by simp [hy]))
    simp only [nv, List.length_cons, Nat.pow_succ]
    omega
theorem nv_snoc (a : List Int) (d : Int) : nv (a ++ [d]) = nv a + 256 ^ a.length * d.toNat := by rw [nv_app, nv_one]
theorem nv_split (a : List Int) (k : Nat) (hk : k ≤ a.length) : nv a = nv (a.take k) + 256 ^ k * nv (a.drop k) := by
  have h := nv_app (a.take k) (a.drop k)
  rw [List.take_append_drop, List.length_take, Nat.min_eq_left hk] at h
  exact h
theorem nv_drop (a : List Int) (i : Nat) (hi : i < a.length) : nv (a.drop i) = (a.getD i 0).toNat + 256 * nv (a.drop (i + 1)) := by
  rw [List.drop_eq_getElem_cons hi, List.getD_eq_getElem?_getD, List.getElem?_eq_getElem hi]
  rfl
theorem nv_past (a : List Int) (i : Nat) (hi : a.length ≤ i) : nv (a.drop i) = 0 := by rw [List.drop_of_length_le hi]; rfl
theorem nv_zeros (n : Nat) : nv (List.replicate n 0) = 0 := by
  induction n with
  | zero => rfl
  | succ n ih => simp [List.replicate_succ, nv, ih]
theorem U8.snoc {a : List Int} (h : U8 a) (d : Int) (hd : 0 ≤ d ∧ d ≤ 255) : U8 (a ++ [d]) := h.app (fun y hy => by simp at hy; subst hy; exact hd)
theorem U8.set {a : List Int} (h : U8 a) (i : Nat) (d : Int) (hd : 0 ≤ d ∧ d ≤ 255) : U8 (a.set i d) := fun y hy => by
  rcases List.mem_or_eq_of_mem_set hy with h1 | h1
  · exact h y h1
  · subst h1; exact hd
theorem nv_set (a : List Int) (i : Nat) (d : Int) (hi : i < a.length) (hd : 0 ≤ d) (h8 : U8 a) : (nv (a.set i d) : Int) = nv a + 256 ^ i * (d - a.getD i 0) := by
  induction a generalizing i with
  | nil => simp at hi
  | cons x a ih =>
    have hx := h8 x (by simp)
    cases i with
    | zero => simp [nv]; omega
    | succ i =>
      have hi2 : i < a.length := by simpa using hi
      have := ih i hi2 (fun y hy => h8 y (by simp [hy]))
      simp only [List.set_cons_succ, nv, List.getD_cons_succ]
      have e : ((x.toNat + 256 * nv (a.set i d) : Nat) : Int) = x.toNat + 256 * (nv (a.set i d) : Int) := by simp
      rw [e, this]
      have e2 : ((x.toNat + 256 * nv a : Nat) : Int) = x.toNat + 256 * (nv a : Int) := by simp
      rw [e2, Int.pow_succ, Int.mul_add]
      have e3 : (256 : Int) * (256 ^ i * (d - a.getD i 0)) = 256 ^ i * 256 * (d - a.getD i 0) := by rw [← Int.mul_assoc, Int.mul_comm 256 (256 ^ i)]
      omega
/-- n bytes of a number, the lowest first -/
def leB : Nat → Nat → List Int
  | 0, _ => []
  | n + 1, x => ((x % 256 : Nat) : Int) :: leB n (x / 256)
theorem leB_len (n x : Nat) : (leB n x).length = n := by
  induction n generalizing x with
  | zero => rfl
  | succ n ih => simp [leB, ih]
theorem leB_u8 (n x : Nat) : U8 (leB n x) := by
  induction n generalizing x with
  | zero => intro y hy; cases hy
  | succ n ih =>
    intro y hy
    simp only [leB, List.mem_cons] at hy
    rcases hy with rfl | hy
    · omega
    · exact ih _ y hy
theorem nv_leB (n x : Nat) : nv (leB n x) = x % 256 ^ n := by
  induction n generalizing x with
  | zero => simp [leB, nv, Nat.mod_one]
  | succ n ih =>
    simp only [leB, nv, ih, Int.toNat_natCast]
    rw [Nat.pow_succ, Nat.mul_comm (256 ^ n) 256, Nat.mod_mul]
theorem nv_inj {a b : List Int} (ha : U8 a) (hb : U8 b) (hl : a.length = b.length) (h : nv a = nv b) : a = b := by
  induction a generalizing b with
  | nil => cases b with
    | nil => rfl
    | cons y b => simp at hl
  | cons x a ih => cases b with
    | nil => simp at hl
    | cons y b =>
      have hx := ha x (by simp)
      have hy := hb y (by simp)
      simp only [nv] at h
      have h1 : x = y := by omega
      subst h1
      rw [ih (b := b) (fun z hz => ha z (List.mem_cons_of_mem _ hz)) (fun z hz => hb z (List.mem_cons_of_mem _ hz)) (by simpa using hl) (by omega)]
theorem leB_nv (a : List Int) (h : U8 a) : leB a.length (nv a) = a := nv_inj (leB_u8 _ _) h (leB_len _ _) (by rw [nv_leB, Nat.mod_eq_of_lt (nv_lt a h)])
/-- p -/
def PP : Nat := 1361129467683753853853498429727072845819
/-- r's digits -/
def clampD (key : List Int) : List Int := (List.range 16).map fun i => if i % 4 = 3 then key.getD i 0 % 16 else if i % 4 = 0 ∧ 0 < i then key.getD i 0 - key.getD i 0 % 4 else key.getD i 0
/-- piece k and a byte 1 behind it -/
def piece (xs : List Int) (k : Nat) : Nat := nv ((xs.drop (16 * k)).take 16) + 256 ^ (min 16 (xs.length - 16 * k))
/-- what k pieces come to -/
def pacc (r : Nat) (xs : List Int) : Nat → Nat
  | 0 => 0
  | k + 1 => (pacc r xs k + piece xs k) * r % PP
def TAG (key xs : List Int) : List Int := leB 16 (pacc (nv (clampD key)) xs ((xs.length + 15) / 16) + nv (key.drop 16))
theorem TAG_len (key xs : List Int) : (TAG key xs).length = 16 := leB_len _ _
theorem TAG_u8 (key xs : List Int) : U8 (TAG key xs) := leB_u8 _ _
theorem clampD_len (key : List Int) : (clampD key).length = 16 := by simp [clampD]
theorem clampD_u8 (key : List Int) (h : U8 key) : U8 (clampD key) := fun y hy => by
  obtain ⟨i, _, rfl⟩ := List.mem_map.1 hy
  have := h.at i
  split
  · omega
  · split <;> omega
theorem PP_pow : PP + 5 = 2 ^ 130 := by decide +kernel
theorem pacc_lt (r : Nat) (xs : List Int) (k : Nat) : pacc r xs k < PP := by
  cases k with
  | zero => exact (by decide : 0 < PP)
  | succ k => exact Nat.mod_lt _ (by decide)
/-- what is above 2^130 comes in below, five times -/
theorem fold_mod (low high : Nat) : (low + 5 * high) % PP = (low + 2 ^ 130 * high) % PP := by
  rw [← PP_pow, Nat.add_mul, show low + (PP * high + 5 * high) = low + 5 * high + PP * high by omega, Nat.add_mul_mod_self_left]
theorem split_mod (x : Nat) : (x % 2 ^ 130 + 5 * (x / 2 ^ 130)) % PP = x % PP := by
  rw [fold_mod, Nat.mod_add_div]
/-- below 2^130: p is taken away once at most -/
theorem last_mod (x : Nat) (h : x < 2 ^ 130) : x % PP = if x < PP then x else x - PP := by
  have h1 := PP_pow
  have h2 : 5 < PP := by decide
  by_cases hx : x < PP
  · rw [if_pos hx, Nat.mod_eq_of_lt hx]
  · rw [if_neg hx, Nat.mod_eq_sub_mod (by omega), Nat.mod_eq_of_lt (by omega)]
/-- where r is 0 -/
theorem pacc_zero (xs : List Int) (k : Nat) : pacc 0 xs k = 0 := by
  cases k with
  | zero => rfl
  | succ k => simp [pacc]
/-- bytes of a sum go by the sum alone -/
theorem leB_mod (n x : Nat) : leB n (x % 256 ^ n) = leB n x := nv_inj (leB_u8 _ _) (leB_u8 _ _) (by rw [leB_len, leB_len]) (by rw [nv_leB, nv_leB, Nat.mod_mod])
theorem TAG_nil (key : List Int) (h8 : U8 key) (hk : key.length = 32) : TAG key [] = key.drop 16 := by
  have hl : (key.drop 16).length = 16 := by rw [List.length_drop, hk]
  have h := leB_nv (key.drop 16) (h8.drop 16)
  rw [hl] at h
  unfold TAG
  simpa [pacc] using h
theorem TAG_rzero (key xs : List Int) (h8 : U8 key) (hk : key.length = 32) (hr : nv (clampD key) = 0) : TAG key xs = key.drop 16 := by
  have hl : (key.drop 16).length = 16 := by rw [List.length_drop, hk]
  have h := leB_nv (key.drop 16) (h8.drop 16)
  rw [hl] at h
  unfold TAG
  rw [hr, pacc_zero, Nat.zero_add]
  exact h
/-- with s 0, and s added to it -/
theorem TAG_plus (key key0 xs : List Int) (hr : nv (clampD key) = nv (clampD key0)) (h0 : nv (key0.drop 16) = 0) : leB 16 (nv (TAG key0 xs) + nv (key.drop 16)) = TAG key xs := by
  refine nv_inj (leB_u8 _ _) (leB_u8 _ _) (by rw [leB_len, TAG_len]) ?_
  unfold TAG
  rw [nv_leB, nv_leB, nv_leB, h0, Nat.add_zero, hr, Nat.mod_add_mod]
end Go.Proofs.Ytjiippbjflpkkaa

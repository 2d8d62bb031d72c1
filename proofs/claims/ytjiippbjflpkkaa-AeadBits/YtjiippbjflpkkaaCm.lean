/- ChaCha20 as plain numbers: words are naturals below 2^32, bytes are ints. -/
import Derived.Test.YtjiippbjflpkkaaSw
namespace Go.Proofs.Ytjiippbjflpkkaa

/-- four words turned -/
structure Q4 where
  a : Nat
  b : Nat
  c : Nat
  d : Nat
/-- a + b, and d turned by n to the left (m = 32 - n) -/
def half (q : Q4) (m1 m2 : Nat) : Q4 :=
  let a := (q.a + q.b) % 4294967296
  let d := rotw (q.d ^^^ a) m1
  let c := (q.c + d) % 4294967296
  let b := rotw (q.b ^^^ c) m2
  ⟨a, b, c, d⟩
def qrt (q : Q4) : Q4 := half (half q 16 20) 24 25
/-- Quarter of the words in these places -/
def turnW (s : List Nat) (i j k l : Nat) : List Nat :=
  let q := qrt ⟨s.getD i 0, s.getD j 0, s.getD k 0, s.getD l 0⟩
  (((s.set i q.a).set j q.b).set k q.c).set l q.d
/-- the eight fours of places -/
def fours : List (Nat × Nat × Nat × Nat) := [(0, 4, 8, 12), (1, 5, 9, 13), (2, 6, 10, 14), (3, 7, 11, 15), (0, 5, 10, 15), (1, 6, 11, 12), (2, 7, 8, 13), (3, 4, 9, 14)]
def turnP (s : List Nat) (p : Nat × Nat × Nat × Nat) : List Nat := turnW s p.1 p.2.1 p.2.2.1 p.2.2.2
def dblR (s : List Nat) : List Nat := fours.foldl turnP s
def dbls : Nat → List Nat → List Nat
  | 0, s => s
  | n + 1, s => dblR (dbls n s)
/-- the word that four bytes are, the lowest first -/
def ld4 (b : List Int) (t : Nat) : Nat := (b.getD (4 * t) 0).toNat + (b.getD (4 * t + 1) 0).toNat * 256 + (b.getD (4 * t + 2) 0).toNat * 65536 + (b.getD (4 * t + 3) 0).toNat * 16777216
def ldW (b : List Int) (n : Nat) : List Nat := (List.range n).map (ld4 b)
def le4 (x : Nat) : List Int := [((x % 256 : Nat) : Int), ((x / 256 % 256 : Nat) : Int), ((x / 65536 % 256 : Nat) : Int), ((x / 16777216 % 256 : Nat) : Int)]
def ccW : List Nat := [0x61707865, 0x3320646e, 0x79622d32, 0x6b206574]
/-- the sixteen words at first -/
def ccF (key : List Int) (ctr : Nat) (nonce : List Int) : List Nat := ccW ++ ldW key 8 ++ [ctr] ++ ldW nonce 3
/-- .. and what they come to -/
def ccS (s : List Nat) : List Nat := (List.range 16).map fun i => ((dbls 10 s).getD i 0 + s.getD i 0) % 4294967296
def BLK (key : List Int) (ctr : Nat) (nonce : List Int) : List Int := (ccS (ccF key ctr nonce)).flatMap le4
theorem le4_len (x : Nat) : (le4 x).length = 4 := rfl
theorem le4_u8 (x : Nat) : U8 (le4 x) := fun y hy => by
  simp only [le4, List.mem_cons, List.not_mem_nil, or_false] at hy
  rcases hy with rfl | rfl | rfl | rfl <;> omega
theorem flat_le4_len (s : List Nat) : (s.flatMap le4).length = 4 * s.length := by
  induction s with
  | nil => rfl
  | cons x s ih => rw [List.flatMap_cons, List.length_append, ih, le4_len, List.length_cons]; omega
theorem flat_le4_u8 (s : List Nat) : U8 (s.flatMap le4) := by
  induction s with
  | nil => intro y hy; cases hy
  | cons x s ih => rw [List.flatMap_cons]; exact (le4_u8 x).app ih
theorem ldW_len (b : List Int) (n : Nat) : (ldW b n).length = n := by simp [ldW]
theorem ccF_len (key : List Int) (ctr : Nat) (nonce : List Int) : (ccF key ctr nonce).length = 16 := by
  simp [ccF, ccW, ldW_len]
theorem ccS_len (s : List Nat) : (ccS s).length = 16 := by simp [ccS]
theorem BLK_len (key : List Int) (ctr : Nat) (nonce : List Int) : (BLK key ctr nonce).length = 64 := by
  unfold BLK; rw [flat_le4_len, ccS_len]
theorem BLK_u8 (key : List Int) (ctr : Nat) (nonce : List Int) : U8 (BLK key ctr nonce) := flat_le4_u8 _
theorem ld4_lt (b : List Int) (h : U8 b) (t : Nat) : ld4 b t < 4294967296 := by
  have h0 := h.at (4 * t)
  have h1 := h.at (4 * t + 1)
  have h2 := h.at (4 * t + 2)
  have h3 := h.at (4 * t + 3)
  unfold ld4; omega
theorem ldW_w32 (b : List Int) (h : U8 b) (n : Nat) : W32 (ldW b n) := fun x hx => by
  obtain ⟨t, _, rfl⟩ := List.mem_map.1 hx
  exact ld4_lt b h t
theorem ccF_w32 (key : List Int) (hk : U8 key) (ctr : Nat) (hc : ctr < 4294967296) (nonce : List Int) (hn : U8 nonce) : W32 (ccF key ctr nonce) := by
  have h0 : W32 ccW := fun x hx => by
    simp only [ccW, List.mem_cons, List.not_mem_nil, or_false] at hx
    rcases hx with rfl | rfl | rfl | rfl <;> decide
  exact ((h0.app (ldW_w32 key hk 8)).app (W32.one hc)).app (ldW_w32 nonce hn 3)
/-- a word of four that is one -/
def Q4.ok (q : Q4) : Prop := q.a < 4294967296 ∧ q.b < 4294967296 ∧ q.c < 4294967296 ∧ q.d < 4294967296
theorem rotw_lt32 (x n : Nat) (hx : x < 4294967296) : rotw x n < 4294967296 := by
  unfold rotw
  exact Nat.or_lt_two_pow (n := 32) (Nat.lt_of_le_of_lt (Nat.div_le_self _ _) hx) (Nat.mod_lt _ (by decide))
theorem half_ok (q : Q4) (m1 m2 : Nat) (h : q.ok) : (half q m1 m2).ok := by
  have ha : (q.a + q.b) % 4294967296 < 4294967296 := Nat.mod_lt _ (by decide)
  have hd := rotw_lt32 (q.d ^^^ ((q.a + q.b) % 4294967296)) m1 (Nat.xor_lt_two_pow (n := 32) h.2.2.2 ha)
  have hc : (q.c + rotw (q.d ^^^ ((q.a + q.b) % 4294967296)) m1) % 4294967296 < 4294967296 := Nat.mod_lt _ (by decide)
  exact ⟨ha, rotw_lt32 _ m2 (Nat.xor_lt_two_pow (n := 32) h.2.1 hc), hc, hd⟩
theorem qrt_ok (q : Q4) (h : q.ok) : (qrt q).ok := half_ok _ _ _ (half_ok _ _ _ h)
theorem W32.set {s : List Nat} (h : W32 s) (i x : Nat) (hx : x < 4294967296) : W32 (s.set i x) := fun y hy => by
  rcases List.mem_or_eq_of_mem_set hy with h1 | h1
  · exact h y h1
  · subst h1; exact hx
theorem turnW_w32 {s : List Nat} (h : W32 s) (i j k l : Nat) : W32 (turnW s i j k l) := by
  have q := qrt_ok ⟨s.getD i 0, s.getD j 0, s.getD k 0, s.getD l 0⟩ ⟨h.at i, h.at j, h.at k, h.at l⟩
  exact (((h.set i _ q.1).set j _ q.2.1).set k _ q.2.2.1).set l _ q.2.2.2
theorem turnW_len (s : List Nat) (i j k l : Nat) : (turnW s i j k l).length = s.length := by simp [turnW]
theorem turns_len (ps : List (Nat × Nat × Nat × Nat)) : ∀ s : List Nat, (ps.foldl turnP s).length = s.length := by
  induction ps with
  | nil => intro s; rfl
  | cons p ps ih => intro s; rw [List.foldl_cons, ih]; exact turnW_len _ _ _ _ _
theorem turns_w32 (ps : List (Nat × Nat × Nat × Nat)) : ∀ s : List Nat, W32 s → W32 (ps.foldl turnP s) := by
  induction ps with
  | nil => intro s h; exact h
  | cons p ps ih => intro s h; rw [List.foldl_cons]; exact ih _ (turnW_w32 h _ _ _ _)
theorem dbls_len (n : Nat) (s : List Nat) : (dbls n s).length = s.length := by
  induction n with
  | zero => rfl
  | succ n ih => rw [dbls, dblR, turns_len, ih]
theorem dbls_w32 (n : Nat) (s : List Nat) (h : W32 s) : W32 (dbls n s) := by
  induction n with
  | zero => exact h
  | succ n ih => exact turns_w32 _ _ ih
/-- bytes held against bytes -/
def xorL (a b : List Int) : List Int := List.zipWith (fun x y => ((x.toNat ^^^ y.toNat : Nat) : Int)) a b
/-- the byte of the stream in this place -/
def ksb (key : List Int) (ctr : Nat) (nonce : List Int) (i : Nat) : Int := (BLK key (ctr + i / 64) nonce).getD (i % 64) 0
def ksL (key : List Int) (ctr : Nat) (nonce : List Int) (n : Nat) : List Int := (List.range n).map (ksb key ctr nonce)
def STR (key : List Int) (ctr : Nat) (nonce b : List Int) : List Int := xorL b (ksL key ctr nonce b.length)
/-- enough blocks -/
abbrev fitsC (ctr n : Nat) : Prop := ctr + (n + 63) / 64 ≤ 4294967296
theorem ksL_len (key : List Int) (ctr : Nat) (nonce : List Int) (n : Nat) : (ksL key ctr nonce n).length = n := by simp [ksL]
theorem ksb_u8 (key : List Int) (ctr : Nat) (nonce : List Int) (i : Nat) : 0 ≤ ksb key ctr nonce i ∧ ksb key ctr nonce i ≤ 255 := (BLK_u8 _ _ _).at _
theorem ksL_u8 (key : List Int) (ctr : Nat) (nonce : List Int) (n : Nat) : U8 (ksL key ctr nonce n) := fun y hy => by
  obtain ⟨i, _, rfl⟩ := List.mem_map.1 hy
  exact ksb_u8 _ _ _ _
theorem xorL_len (a b : List Int) : (xorL a b).length = min a.length b.length := List.length_zipWith ..
theorem STR_len (key : List Int) (ctr : Nat) (nonce b : List Int) : (STR key ctr nonce b).length = b.length := by
  unfold STR; rw [xorL_len, ksL_len, Nat.min_self]
theorem STR_at (key : List Int) (ctr : Nat) (nonce b : List Int) (i : Nat) (hi : i < b.length) : (STR key ctr nonce b).getD i 0 = (((b.getD i 0).toNat ^^^ (ksb key ctr nonce i).toNat : Nat) : Int) := by
  unfold STR xorL
  rw [List.getD_eq_getElem?_getD, List.getElem?_eq_getElem (by rw [List.length_zipWith, ksL_len]; omega), List.getElem_zipWith, List.getD_eq_getElem?_getD, List.getElem?_eq_getElem hi]
  simp [ksL]
theorem byte_xor_lt (x y : Int) (hx : 0 ≤ x ∧ x ≤ 255) (hy : 0 ≤ y ∧ y ≤ 255) : x.toNat ^^^ y.toNat < 256 := Nat.xor_lt_two_pow (n := 8) (by omega) (by omega)
theorem STR_u8 (key : List Int) (ctr : Nat) (nonce b : List Int) (h : U8 b) : U8 (STR key ctr nonce b) := fun y hy => by
  obtain ⟨i, hi, rfl⟩ := List.getElem_of_mem hy
  have hi2 : i < b.length := by rw [STR_len] at hi; exact hi
  have e := STR_at key ctr nonce b i hi2
  rw [List.getD_eq_getElem?_getD, List.getElem?_eq_getElem hi] at e
  simp only [Option.getD_some] at e
  rw [e]
  have := byte_xor_lt _ _ (h.at i) (ksb_u8 key ctr nonce i)
  omega
/-- two lists that are as long and have the same byte in each place -/
theorem eq_of_at {a b : List Int} (hl : a.length = b.length) (h : ∀ i, i < a.length → a.getD i 0 = b.getD i 0) : a = b := by
  apply List.ext_getElem hl
  intro i h1 h2
  have := h i h1
  rwa [List.getD_eq_getElem?_getD, List.getD_eq_getElem?_getD, List.getElem?_eq_getElem h1, List.getElem?_eq_getElem h2] at this
/-- THERE AND BACK -/
theorem STR_STR (key : List Int) (ctr : Nat) (nonce b : List Int) (h : U8 b) : STR key ctr nonce (STR key ctr nonce b) = b := by
  refine eq_of_at (by rw [STR_len, STR_len]) (fun i hi => ?_)
  rw [STR_len, STR_len] at hi
  rw [STR_at _ _ _ _ i (by rw [STR_len]; exact hi), STR_at _ _ _ _ i hi, Int.toNat_natCast, Nat.xor_assoc, Nat.xor_self, Nat.xor_zero]
  have := h.at i
  omega
/-- the beginning of a text -/
theorem STR_take (key : List Int) (ctr : Nat) (nonce b : List Int) (k : Nat) : (STR key ctr nonce b).take k = STR key ctr nonce (b.take k) := by
  refine eq_of_at (by rw [List.length_take, STR_len, STR_len, List.length_take]) (fun i hi => ?_)
  rw [List.length_take, STR_len] at hi
  have e : ∀ l : List Int, (l.take k).getD i 0 = l.getD i 0 := fun l => by
    rw [List.getD_eq_getElem?_getD, List.getD_eq_getElem?_getD, List.getElem?_take_of_lt (by omega)]
  rw [e, STR_at _ _ _ _ i (by omega), STR_at _ _ _ _ i (by rw [List.length_take]; omega), e]
/-- what is behind 64 bytes goes by the next counter -/
theorem STR_drop (key : List Int) (ctr : Nat) (nonce b : List Int) : (STR key ctr nonce b).drop 64 = STR key (ctr + 1) nonce (b.drop 64) := by
  refine eq_of_at (by rw [List.length_drop, STR_len, STR_len, List.length_drop]) (fun i hi => ?_)
  rw [List.length_drop, STR_len] at hi
  have e : ∀ l : List Int, (l.drop 64).getD i 0 = l.getD (64 + i) 0 := fun l => by
    rw [List.getD_eq_getElem?_getD, List.getD_eq_getElem?_getD, List.getElem?_drop]
  rw [e, STR_at _ _ _ _ (64 + i) (by omega), STR_at _ _ _ _ i (by rw [List.length_drop]; omega), e]
  unfold ksb
  rw [show ctr + (64 + i) / 64 = ctr + 1 + i / 64 by omega, show (64 + i) % 64 = i % 64 by omega]
/-- what differs, bit by bit -/
theorem STR_xor (key : List Int) (ctr : Nat) (nonce b c : List Int) (i : Nat) (h1 : i < b.length) (h2 : i < c.length) :
    ((STR key ctr nonce b).getD i 0).toNat ^^^ ((STR key ctr nonce c).getD i 0).toNat = (b.getD i 0).toNat ^^^ (c.getD i 0).toNat := by
  rw [STR_at _ _ _ _ i h1, STR_at _ _ _ _ i h2, Int.toNat_natCast, Int.toNat_natCast, Nat.xor_assoc, Nat.xor_comm (ksb key ctr nonce i).toNat, Nat.xor_assoc, Nat.xor_self, Nat.xor_zero]
/-- bytes 0 come to the blocks -/
def blks (key : List Int) (ctr : Nat) (nonce : List Int) : Nat → List Int
  | 0 => []
  | n + 1 => blks key ctr nonce n ++ BLK key (ctr + n) nonce
theorem blks_len (key : List Int) (ctr : Nat) (nonce : List Int) (n : Nat) : (blks key ctr nonce n).length = 64 * n := by
  induction n with
  | zero => rfl
  | succ n ih => rw [blks, List.length_append, ih, BLK_len]; omega
theorem blks_at (key : List Int) (ctr : Nat) (nonce : List Int) (n i : Nat) (hi : i < 64 * n) : (blks key ctr nonce n).getD i 0 = ksb key ctr nonce i := by
  induction n with
  | zero => omega
  | succ n ih =>
    rw [blks, List.getD_eq_getElem?_getD]
    by_cases h : i < 64 * n
    · rw [List.getElem?_append_left (by rw [blks_len]; exact h), ← List.getD_eq_getElem?_getD, ih h]
    · rw [List.getElem?_append_right (by rw [blks_len]; omega), blks_len]
      unfold ksb
      rw [show i / 64 = n by omega, show i % 64 = i - 64 * n by omega, List.getD_eq_getElem?_getD]
theorem STR_zeros (key : List Int) (ctr : Nat) (nonce : List Int) (k n : Nat) (h : k ≤ 64 * n) : STR key ctr nonce (List.replicate k 0) = (blks key ctr nonce n).take k := by
  refine eq_of_at (by rw [STR_len, List.length_replicate, List.length_take, blks_len]; omega) (fun i hi => ?_)
  rw [STR_len, List.length_replicate] at hi
  rw [STR_at _ _ _ _ i (by rw [List.length_replicate]; exact hi)]
  have e1 : (List.replicate k (0 : Int)).getD i 0 = 0 := by
    rw [List.getD_eq_getElem?_getD, List.getElem?_replicate, if_pos hi]; rfl
  have e2 : ((blks key ctr nonce n).take k).getD i 0 = ksb key ctr nonce i := by
    rw [List.getD_eq_getElem?_getD, List.getElem?_take_of_lt hi, ← List.getD_eq_getElem?_getD, blks_at _ _ _ _ _ (by omega)]
  rw [e1, e2]
  have := ksb_u8 key ctr nonce i
  simp
  omega
theorem qrt_ex : (qrt ⟨0x11111111, 0x01020304, 0x9b8d6f43, 0x01234567⟩).a = 0xea2a92f4 ∧ (qrt ⟨0x11111111, 0x01020304, 0x9b8d6f43, 0x01234567⟩).b = 0xcb1cf8ce ∧ (qrt ⟨0x11111111, 0x01020304, 0x9b8d6f43, 0x01234567⟩).c = 0x4581472e ∧ (qrt ⟨0x11111111, 0x01020304, 0x9b8d6f43, 0x01234567⟩).d = 0x5881c4bb := by decide +kernel
end Go.Proofs.Ytjiippbjflpkkaa

/- SHA-256 as plain numbers: words are naturals below 2^32, bytes are ints. -/
import Derived.Laws.BitsAllLaws
namespace Go.Proofs.Ytnifflnhbpfmnaa

def w32 : Nat := 4294967296
/-- with what falls out coming in at the top -/
def rotw (x n : Nat) : Nat := (x / 2 ^ n) ||| (x * 2 ^ (32 - n) % 4294967296)
def shK : List Nat := [0x428a2f98, 0x71374491, 0xb5c0fbcf, 0xe9b5dba5, 0x3956c25b, 0x59f111f1, 0x923f82a4, 0xab1c5ed5,
  0xd807aa98, 0x12835b01, 0x243185be, 0x550c7dc3, 0x72be5d74, 0x80deb1fe, 0x9bdc06a7, 0xc19bf174,
  0xe49b69c1, 0xefbe4786, 0x0fc19dc6, 0x240ca1cc, 0x2de92c6f, 0x4a7484aa, 0x5cb0a9dc, 0x76f988da,
  0x983e5152, 0xa831c66d, 0xb00327c8, 0xbf597fc7, 0xc6e00bf3, 0xd5a79147, 0x06ca6351, 0x14292967,
  0x27b70a85, 0x2e1b2138, 0x4d2c6dfc, 0x53380d13, 0x650a7354, 0x766a0abb, 0x81c2c92e, 0x92722c85,
  0xa2bfe8a1, 0xa81a664b, 0xc24b8b70, 0xc76c51a3, 0xd192e819, 0xd6990624, 0xf40e3585, 0x106aa070,
  0x19a4c116, 0x1e376c08, 0x2748774c, 0x34b0bcb5, 0x391c0cb3, 0x4ed8aa4a, 0x5b9cca4f, 0x682e6ff3,
  0x748f82ee, 0x78a5636f, 0x84c87814, 0x8cc70208, 0x90befffa, 0xa4506ceb, 0xbef9a3f7, 0xc67178f2]
def shH : List Nat := [0x6a09e667, 0xbb67ae85, 0x3c6ef372, 0xa54ff53a, 0x510e527f, 0x9b05688c, 0x1f83d9ab, 0x5be0cd19]
def sg0 (y : Nat) : Nat := rotw y 7 ^^^ rotw y 18 ^^^ (y / 8)
def sg1 (x : Nat) : Nat := rotw x 17 ^^^ rotw x 19 ^^^ (x / 1024)
def Sg0 (a : Nat) : Nat := rotw a 2 ^^^ rotw a 13 ^^^ rotw a 22
def Sg1 (e : Nat) : Nat := rotw e 6 ^^^ rotw e 11 ^^^ rotw e 25
def chw (e f g : Nat) : Nat := (e &&& f) ^^^ ((4294967295 - e) &&& g)
def majw (a b c : Nat) : Nat := (a &&& b) ^^^ (a &&& c) ^^^ (b &&& c)
/-- the word that four bytes are, the highest first -/
def wd4 (b : List Int) (t : Nat) : Nat := (b.getD (4 * t) 0).toNat * 16777216 + (b.getD (4 * t + 1) 0).toNat * 65536 + (b.getD (4 * t + 2) 0).toNat * 256 + (b.getD (4 * t + 3) 0).toNat
/-- the next word -/
def nextw (w : List Nat) : Nat := (sg1 (w.getD (w.length - 2) 0) + w.getD (w.length - 7) 0 + sg0 (w.getD (w.length - 15) 0) + w.getD (w.length - 16) 0) % 4294967296
def wext : Nat → List Nat → List Nat
  | 0, w => w
  | n + 1, w => wext n (w ++ [nextw w])
/-- the 64 words of 64 bytes -/
def wds (b : List Int) : List Nat := wext 48 ((List.range 16).map (wd4 b))
/-- one of the 64 rounds -/
def rnd (s : List Nat) (k w : Nat) : List Nat :=
  [(s.getD 7 0 + Sg1 (s.getD 4 0) + chw (s.getD 4 0) (s.getD 5 0) (s.getD 6 0) + k + w + Sg0 (s.getD 0 0) + majw (s.getD 0 0) (s.getD 1 0) (s.getD 2 0)) % 4294967296,
   s.getD 0 0, s.getD 1 0, s.getD 2 0, (s.getD 3 0 + s.getD 7 0 + Sg1 (s.getD 4 0) + chw (s.getD 4 0) (s.getD 5 0) (s.getD 6 0) + k + w) % 4294967296, s.getD 4 0, s.getD 5 0, s.getD 6 0]
def rnds (s : List Nat) (w : List Nat) (t : Nat) : List Nat := (List.range t).foldl (fun s i => rnd s (shK.getD i 0) (w.getD i 0)) s
/-- a state goes through 64 bytes -/
def thru (s : List Nat) (b : List Int) : List Nat := (List.range 8).map fun i => (s.getD i 0 + (rnds s (wds b) 64).getD i 0) % 4294967296
def zpad (n : Nat) : Nat := (119 - n % 64) % 64
/-- eight bytes, the highest first -/
def be8 (v : Nat) : List Int := (List.range 8).map fun i => ((v / 256 ^ (7 - i) % 256 : Nat) : Int)
def be4 (v : Nat) : List Int := (List.range 4).map fun i => ((v / 256 ^ (3 - i) % 256 : Nat) : Int)
def padS (b : List Int) : List Int := b ++ 128 :: (List.replicate (zpad b.length) 0 ++ be8 (8 * b.length))
/-- so many pieces -/
def thrus (s : List Nat) (p : List Int) (k : Nat) : List Nat := (List.range k).foldl (fun s i => thru s ((p.drop (64 * i)).take 64)) s
def SHA (b : List Int) : List Int := (thrus shH (padS b) ((padS b).length / 64)).flatMap be4

theorem zpad_len (n : Nat) : (n + 1 + zpad n) % 64 = 56 := by unfold zpad; omega
theorem be8_len (v : Nat) : (be8 v).length = 8 := by simp [be8]
theorem padS_len (b : List Int) : (padS b).length = b.length + 1 + zpad b.length + 8 := by
  unfold padS; simp only [List.length_append, List.length_cons, List.length_replicate, be8_len]; omega
theorem padS_mod (b : List Int) : (padS b).length % 64 = 0 := by
  rw [padS_len]; have := zpad_len b.length; omega
theorem rnd_len (s : List Nat) (k w : Nat) : (rnd s k w).length = 8 := rfl
theorem thru_len (s : List Nat) (b : List Int) : (thru s b).length = 8 := by simp [thru]
theorem rnds_succ (s : List Nat) (w : List Nat) (t : Nat) : rnds s w (t + 1) = rnd (rnds s w t) (shK.getD t 0) (w.getD t 0) := by
  unfold rnds; rw [List.range_succ, List.foldl_append]; rfl
theorem thrus_succ (s : List Nat) (p : List Int) (k : Nat) : thrus s p (k + 1) = thru (thrus s p k) ((p.drop (64 * k)).take 64) := by
  unfold thrus; rw [List.range_succ, List.foldl_append]; rfl
theorem thrus_zero (s : List Nat) (p : List Int) : thrus s p 0 = s := rfl
theorem thru_lt (s : List Nat) (b : List Int) : ∀ x ∈ thru s b, x < 4294967296 := by
  intro x hx
  simp only [thru, List.mem_map] at hx
  obtain ⟨i, _, rfl⟩ := hx
  exact Nat.mod_lt _ (by decide)
theorem thrus_len (p : List Int) (k : Nat) : (thrus shH p k).length = 8 := by
  cases k with
  | zero => rfl
  | succ k => rw [thrus_succ]; exact thru_len _ _
theorem be4_len (v : Nat) : (be4 v).length = 4 := by simp [be4]
theorem flat4_len (l : List Nat) : (l.flatMap be4).length = 4 * l.length := by
  induction l with
  | nil => rfl
  | cons a t ih => rw [List.flatMap_cons, List.length_append, be4_len, ih, List.length_cons]; omega
theorem SHA_len (b : List Int) : (SHA b).length = 32 := by unfold SHA; rw [flat4_len, thrus_len]
theorem be4_range (v : Nat) : ∀ y ∈ be4 v, 0 ≤ y ∧ y ≤ 255 := by
  intro y hy
  simp only [be4, List.mem_map] at hy
  obtain ⟨i, _, rfl⟩ := hy
  have : v / 256 ^ (3 - i) % 256 < 256 := Nat.mod_lt _ (by decide)
  omega
theorem SHA_range (b : List Int) : ∀ y ∈ SHA b, 0 ≤ y ∧ y ≤ 255 := by
  intro y hy
  simp only [SHA, List.mem_flatMap] at hy
  obtain ⟨v, _, h⟩ := hy
  exact be4_range v y h
set_option maxRecDepth 100000 in
theorem SHA_abc : SHA [97, 98, 99] = [186, 120, 22, 191, 143, 1, 207, 234, 65, 65, 64, 222, 93, 174, 34, 35, 176, 3, 97, 163, 150, 23, 122, 156, 180, 16, 255, 97, 242, 0, 21, 173] := by decide +kernel
set_option maxRecDepth 100000 in
theorem SHA_none : SHA [] = [227, 176, 196, 66, 152, 252, 28, 20, 154, 251, 244, 200, 153, 111, 185, 36, 39, 174, 65, 228, 100, 155, 147, 76, 164, 149, 153, 27, 120, 82, 184, 85] := by decide +kernel
/-- what was gone through goes through the rest: pieces that are whole may be taken one by one -/
theorem thrus_app (s : List Nat) (p q : List Int) (j k : Nat) (h : p.length = 64 * j) : thrus s (p ++ q) (j + k) = thrus (thrus s p j) q k := by
  induction k with
  | zero =>
    have : ∀ i, i ≤ j → thrus s (p ++ q) i = thrus s p i := by
      intro i hi
      induction i with
      | zero => rw [thrus_zero, thrus_zero]
      | succ i ih =>
        rw [thrus_succ, thrus_succ, ih (by omega), List.drop_append_of_le_length (by omega), List.take_append_of_le_length (by rw [List.length_drop]; omega)]
    rw [Nat.add_zero, thrus_zero]
    exact this j (Nat.le_refl _)
  | succ k ih =>
    rw [← Nat.add_assoc, thrus_succ, thrus_succ, ih, List.drop_append, List.drop_of_length_le (by omega), List.nil_append, h, show 64 * (j + k) - 64 * j = 64 * k by omega]
end Go.Proofs.Ytnifflnhbpfmnaa

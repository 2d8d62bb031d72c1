/- HMAC-SHA256 and what is made of a key, as lists: plain facts. -/
import Derived.Test.YtbcfpiahhippaaaG2
namespace Go.Proofs.Ytbcfpiahhippaaa

/-- the key, or its sum -/
def keyS (key : List Int) : List Int := if 64 < key.length then SHA key else key
/-- a key of 64 bytes -/
def pad64 (key : List Int) : List Int := keyS key ++ List.replicate (64 - (keyS key).length) 0
/-- a byte held against each -/
def xorB (x : Nat) (l : List Int) : List Int := l.map fun y => ((y.toNat ^^^ x : Nat) : Int)
def MACL (key b : List Int) : List Int := SHA (xorB 92 (pad64 key) ++ SHA (xorB 54 (pad64 key) ++ b))
theorem MACL_len (key b : List Int) : (MACL key b).length = 32 := SHA_len _
theorem MACL_u8 (key b : List Int) : U8 (MACL key b) := SHA_range _
theorem keyS_len (key : List Int) : (keyS key).length ≤ 64 := by
  unfold keyS
  by_cases h : 64 < key.length
  · rw [if_pos h, SHA_len]; decide
  · rw [if_neg h]; omega
theorem keyS_u8 {key : List Int} (h : U8 key) : U8 (keyS key) := by
  unfold keyS
  by_cases hk : 64 < key.length
  · rw [if_pos hk]; exact SHA_range _
  · rw [if_neg hk]; exact h
theorem pad64_len (key : List Int) : (pad64 key).length = 64 := by
  have := keyS_len key
  unfold pad64
  rw [List.length_append, List.length_replicate]; omega
theorem zeros_u8 (n : Nat) : U8 (List.replicate n 0) := fun y hy => by
  rw [List.mem_replicate] at hy; obtain ⟨_, rfl⟩ := hy; decide
theorem pad64_u8 {key : List Int} (h : U8 key) : U8 (pad64 key) := (keyS_u8 h).app (zeros_u8 _)
theorem xorB_len (x : Nat) (l : List Int) : (xorB x l).length = l.length := List.length_map ..
theorem xorB_u8 (x : Nat) (hx : x < 256) {l : List Int} (h : U8 l) : U8 (xorB x l) := fun y hy => by
  obtain ⟨z, hz, rfl⟩ := List.mem_map.1 hy
  have h1 := h z hz
  have : z.toNat ^^^ x < 256 := Nat.xor_lt_two_pow (n := 8) (by omega) hx
  omega
/-- a key of more than 64 bytes stands for its sum -/
theorem MACL_long (key b : List Int) (h : 64 < key.length) : MACL (SHA key) b = MACL key b := by
  have : pad64 (SHA key) = pad64 key := by
    unfold pad64 keyS
    rw [if_neg (by rw [SHA_len]; decide), if_pos h]
  unfold MACL; rw [this]
/-- bytes 0 behind a key, to 64 -/
theorem MACL_zeros (key b : List Int) (k : Nat) (h : key.length + k ≤ 64) : MACL (key ++ List.replicate k 0) b = MACL key b := by
  have : pad64 (key ++ List.replicate k 0) = pad64 key := by
    unfold pad64 keyS
    rw [if_neg (by rw [List.length_append, List.length_replicate]; omega), if_neg (by omega), List.append_assoc, List.replicate_append_replicate, List.length_append, List.length_replicate]
    congr 2
    omega
  unfold MACL; rw [this]
/-- T(i) -/
def tpc (key info : List Int) : Nat → List Int
  | 0 => []
  | i + 1 => MACL key (tpc key info i ++ info ++ [(((i + 1) % 256 : Nat) : Int)])
/-- T(1) to T(i), one behind the other -/
def tcat (key info : List Int) : Nat → List Int
  | 0 => []
  | i + 1 => tcat key info i ++ tpc key info (i + 1)
theorem tpc_len (key info : List Int) (i : Nat) : (tpc key info (i + 1)).length = 32 := MACL_len _ _
theorem tcat_len (key info : List Int) (i : Nat) : (tcat key info i).length = 32 * i := by
  induction i with
  | zero => rfl
  | succ i ih => rw [tcat, List.length_append, ih, tpc_len]; omega
theorem tcat_prefix (key info : List Int) (i d : Nat) : (tcat key info (i + d)).take (32 * i) = tcat key info i := by
  induction d with
  | zero => exact List.take_of_length_le (Nat.le_of_eq (tcat_len _ _ _))
  | succ d ih =>
    rw [← Nat.add_assoc, tcat, List.take_append_of_le_length (by rw [tcat_len]; omega), ih]
/-- the first n bytes of what is made of a key -/
def EXPL (key info : List Int) (n : Nat) : List Int := (tcat key info ((n + 31) / 32)).take n
theorem EXPL_len (key info : List Int) (n : Nat) : (EXPL key info n).length = n := by
  unfold EXPL; rw [List.length_take, tcat_len]; omega
/-- more bytes begin with fewer -/
theorem EXPL_take (key info : List Int) (k j : Nat) (h : k ≤ j) : (EXPL key info j).take k = EXPL key info k := by
  unfold EXPL
  obtain ⟨d, hd⟩ : ∃ d, (j + 31) / 32 = (k + 31) / 32 + d := ⟨(j + 31) / 32 - (k + 31) / 32, by omega⟩
  rw [List.take_take, Nat.min_eq_left h, hd, ← tcat_prefix key info ((k + 31) / 32) d, List.take_take, Nat.min_eq_left (by omega)]
theorem EXPL_one (key info : List Int) : EXPL key info 32 = MACL key (info ++ [1]) := by
  unfold EXPL
  rw [show (32 + 31) / 32 = 1 from rfl]
  show (([] : List Int) ++ MACL key ([] ++ info ++ [(1 : Int)])).take 32 = _
  rw [List.nil_append, List.nil_append]
  exact List.take_of_length_le (Nat.le_of_eq (MACL_len _ _))
theorem tcat_u8 (key info : List Int) (i : Nat) : U8 (tcat key info i) := by
  induction i with
  | zero => intro y hy; cases hy
  | succ i ih => exact ih.app (MACL_u8 _ _)
theorem EXPL_u8 (key info : List Int) (n : Nat) : U8 (EXPL key info n) := (tcat_u8 _ _ _).take _
set_option maxRecDepth 100000 in
theorem MAC_ex : (MACL [74, 101, 102, 101] [119, 104, 97, 116, 32, 100, 111, 32, 121, 97, 32, 119, 97, 110, 116, 32, 102, 111, 114, 32, 110, 111, 116, 104, 105, 110, 103, 63]).take 4 = [91, 220, 193, 70] := by decide +kernel
end Go.Proofs.Ytbcfpiahhippaaa

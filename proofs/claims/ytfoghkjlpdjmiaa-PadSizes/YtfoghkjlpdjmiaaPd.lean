/- Bytes in buckets: plain facts, ahead of package pad. -/
import Derived.Test.YtfoghkjlpdjmiaaNf
import Derived.Test.YtfoghkjlpdjmiaaSw
namespace Go.Proofs.Ytfoghkjlpdjmiaa
open Go.RowKit

/-- the size of a bucket -/
def PSZ (k : Nat) : Nat := 64 * 4 ^ k
/-- the bucket of so many bytes, up to 4194300 -/
def PBK (n : Nat) : Nat := if n ≤ 60 then 0 else if n ≤ 252 then 1 else if n ≤ 1020 then 2 else if n ≤ 4092 then 3 else if n ≤ 16380 then 4 else if n ≤ 65532 then 5 else if n ≤ 262140 then 6 else if n ≤ 1048572 then 7 else 8
theorem PBK_le (n : Nat) : PBK n ≤ 8 := by unfold PBK; (repeat' split) <;> omega
/-- how long n bytes are in their bucket -/
def PLN (n : Nat) : Nat := PSZ (PBK n)
theorem PLN_eq (n : Nat) : PLN n = if n ≤ 60 then 64 else if n ≤ 252 then 256 else if n ≤ 1020 then 1024 else if n ≤ 4092 then 4096 else if n ≤ 16380 then 16384 else if n ≤ 65532 then 65536 else if n ≤ 262140 then 262144 else if n ≤ 1048572 then 1048576 else 4194304 := by
  unfold PLN PBK; repeat' split
  all_goals rfl
theorem PLN_ge (n : Nat) (h : n ≤ 4194300) : n + 4 ≤ PLN n := by rw [PLN_eq]; (repeat' split) <;> omega
theorem PLN_le (n : Nat) : PLN n ≤ 4194304 := by rw [PLN_eq]; (repeat' split) <;> omega
theorem PLN_64 (n : Nat) : PLN n % 64 = 0 := by rw [PLN_eq]; (repeat' split) <;> omega
theorem PLN_pos (n : Nat) : 64 ≤ PLN n := by rw [PLN_eq]; (repeat' split) <;> omega
theorem PBK_cases (n : Nat) : (n ≤ 60 ∧ PBK n = 0) ∨ (60 < n ∧ n ≤ 252 ∧ PBK n = 1) ∨ (252 < n ∧ n ≤ 1020 ∧ PBK n = 2) ∨ (1020 < n ∧ n ≤ 4092 ∧ PBK n = 3) ∨ (4092 < n ∧ n ≤ 16380 ∧ PBK n = 4) ∨ (16380 < n ∧ n ≤ 65532 ∧ PBK n = 5) ∨ (65532 < n ∧ n ≤ 262140 ∧ PBK n = 6) ∨ (262140 < n ∧ n ≤ 1048572 ∧ PBK n = 7) ∨ (1048572 < n ∧ PBK n = 8) := by
  unfold PBK; (repeat' split) <;> omega
/-- the bucket below does not hold them -/
theorem PBK_least (n : Nat) (h : PBK n ≠ 0) : PSZ (PBK n - 1) < n + 4 := by
  rcases PBK_cases n with ⟨_, e⟩ | ⟨g, _, e⟩ | ⟨g, _, e⟩ | ⟨g, _, e⟩ | ⟨g, _, e⟩ | ⟨g, _, e⟩ | ⟨g, _, e⟩ | ⟨g, _, e⟩ | ⟨g, e⟩
  · exact absurd e h
  all_goals
    rw [e]
    simp only [PSZ, Nat.reduceSub, Nat.reducePow, Nat.reduceMul]
    omega
theorem PBK_mono {n m : Nat} (h : n ≤ m) : PBK n ≤ PBK m := by
  have h1 := PBK_cases n
  have h2 := PBK_cases m
  omega
theorem PSZ_inj {j k : Nat} (h : PSZ j = PSZ k) : j = k := by
  unfold PSZ at h
  exact (Nat.pow_right_inj (a := 4) (by decide)).1 (Nat.eq_of_mul_eq_mul_left (by decide) h)
/-- bytes in their bucket -/
def PADL (b : List Int) : List Int := fixL (b.length : Int) 4 ++ b ++ List.replicate (PLN b.length - 4 - b.length) 0
theorem PADL_len (b : List Int) (h : b.length ≤ 4194300) : (PADL b).length = PLN b.length := by
  have := PLN_ge b.length h
  simp only [PADL, List.length_append, fixL_len, List.length_replicate]
  omega
theorem PADL_u8 {b : List Int} (h : U8 b) : U8 (PADL b) := by
  unfold PADL
  refine U8.app (U8.app (fixL_range _ _) h) ?_
  intro y hy
  have := List.eq_of_mem_replicate hy
  omega
/-- how many bytes a bucket says that it holds -/
def PNM (b : List Int) : Nat := num (b.take 4)
/-- the bytes that a bucket would hold -/
def PUN (b : List Int) : List Int := (b.drop 4).take (PNM b)
/-- does it hold any? -/
abbrev POK (b : List Int) : Prop := (PUN b).length ≤ 4194300 ∧ PADL (PUN b) = b
theorem PADL_num (d : List Int) (h : d.length ≤ 4194300) : PNM (PADL d) = d.length := by
  unfold PNM PADL
  rw [List.append_assoc, List.take_append_of_le_length (by rw [fixL_len]; exact Nat.le_refl _), List.take_of_length_le (by rw [fixL_len]; exact Nat.le_refl _), num_fix4 _ (by omega)]
theorem PADL_un (d : List Int) (h : d.length ≤ 4194300) : PUN (PADL d) = d := by
  unfold PUN
  rw [PADL_num d h]
  unfold PADL
  rw [List.append_assoc, List.drop_append_of_le_length (by rw [fixL_len]; exact Nat.le_refl _), List.drop_of_length_le (by rw [fixL_len]; exact Nat.le_refl _), List.nil_append, List.take_left]
theorem POK_pad (d : List Int) (h : d.length ≤ 4194300) : POK (PADL d) := by
  refine ⟨?_, ?_⟩
  · rw [PADL_un d h]; exact h
  · rw [PADL_un d h]
theorem PADL_inj {a b : List Int} (ha : a.length ≤ 4194300) (hb : b.length ≤ 4194300) (h : PADL a = PADL b) : a = b := by
  rw [← PADL_un a ha, ← PADL_un b hb, h]
theorem POK_len {b : List Int} (h : POK b) : b.length % 64 = 0 ∧ 64 ≤ b.length := by
  have := PADL_len _ h.1
  rw [h.2] at this
  rw [this]
  exact ⟨PLN_64 _, PLN_pos _⟩
/-- the answers -/
def PDt (b : List Int) : List Int := if b.length ≤ 4194300 then PADL b else []
def PDe (b : List Int) : Int := if b.length ≤ 4194300 then 0 else 4
def PUt (b : List Int) : List Int := if POK b then PUN b else []
def PUe (b : List Int) : Int := if POK b then 0 else 3
theorem PUN_u8 {b : List Int} (h : U8 b) : U8 (PUN b) := (h.drop _).take _
/-- a byte more, a byte less: none -/
theorem POK_more (d : List Int) (h : d.length ≤ 4194300) (x : Int) : ¬ POK (PADL d ++ [x]) := fun k => by
  have h1 := (POK_len k).1
  have h2 := PLN_64 d.length
  rw [List.length_append, PADL_len d h] at h1
  simp only [List.length_cons, List.length_nil] at h1
  omega
theorem POK_less (d : List Int) (h : d.length ≤ 4194300) : ¬ POK ((PADL d).take ((PADL d).length - 1)) := fun k => by
  have h1 := (POK_len k).1
  have h2 := PLN_64 d.length
  have h3 := PLN_pos d.length
  rw [List.length_take, PADL_len d h] at h1
  omega
/-- turned it is other bytes, or none -/
theorem PUN_other {d p : List Int} (hne : p ≠ PADL d) (hk : POK p) : PUN p ≠ d := fun e => hne (by rw [← hk.2, e])
end Go.Proofs.Ytfoghkjlpdjmiaa

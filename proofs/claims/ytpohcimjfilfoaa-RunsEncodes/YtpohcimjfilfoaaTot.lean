/- Package runs, whatever comes in; and the head of each statement: the document's example holds. -/
import Derived.Test.YtpohcimjfilfoaaRde
import Derived.Test.YtpohcimjfilfoaaSame
import Derived.Test.YtpohcimjfilfoaaSameU
namespace Go.Proofs.Ytpohcimjfilfoaa
open Go.RowKit

/-- what any numbers are encoded to, and the error -/
def RUNE (xs : List Int) : List Int × Int := if 65536 < xs.length then ([], 4) else (runE xs, 0)
/-- what any bytes are decoded to, and the error -/
def RUND (ys : List Int) (n : Int) : List Int × Int := if n < 0 ∨ 65536 < n then ([], 1) else runDec ys n.toNat

theorem run_encode_all (v : Value) (xs : List Int) (w : World) (h : Bs .u64 w v xs) (hu : U64 xs) :
    Calls Try.prog 10 #[v] w fun e w' => ∃ v', e = .returned (.tuple #[v', .int .i64 (RUNE xs).2]) ∧ w'.ownsRow w.heap.size 5 1 v' (RUNE xs).1.length ((RUNE xs).1.map (Value.int .u8)) ∧ Only (fun _ => False) w w' := by
  unfold RUNE
  by_cases hl : 65536 < xs.length
  · rw [if_pos hl]
    refine (run_encode_long v xs w h hl).mono ?_
    rintro e w' ⟨rfl, rfl⟩
    exact ⟨_, rfl, World.ownsRow_nil _ _ _ _, Only.refl _ _⟩
  · rw [if_neg hl]
    exact run_encode_bs v xs w h hu (by omega)
theorem run_decode_all (v : Value) (ys : List Int) (n : Int) (w : World) (h : Bs .u8 w v ys) (hr : ∀ y ∈ ys, 0 ≤ y ∧ y ≤ 255) (hl : ys.length ≤ 1000000000000) :
    Calls Try.prog 13 #[v, .int .i64 n] w fun e w' => ∃ u, e = .returned (.tuple #[u, .int .i64 (RUND ys n).2]) ∧ w'.ownsRow w.heap.size 35 1 u (RUND ys n).1.length ((RUND ys n).1.map (Value.int .u64)) ∧ Only (fun _ => False) w w' := by
  unfold RUND
  by_cases hn : n < 0 ∨ 65536 < n
  · rw [if_pos hn]
    refine (run_decode_arg v n w hn).mono ?_
    rintro e w' ⟨rfl, rfl⟩
    exact ⟨_, rfl, World.ownsRow_nil _ _ _ _, Only.refl _ _⟩
  · rw [if_neg hn]
    obtain ⟨m, rfl⟩ := Int.eq_ofNat_of_zero_le (show 0 ≤ n by omega)
    exact run_decode_bs v ys m w h hr hl (by omega)
theorem RUNE_of {xs : List Int} (hl : xs.length ≤ 65536) : RUNE xs = (runE xs, 0) := if_neg (by omega)
theorem RUNE_len {xs : List Int} (hu : U64 xs) : (RUNE xs).1.length ≤ 1400000 := by
  unfold RUNE
  by_cases hl : 65536 < xs.length
  · rw [if_pos hl]; decide
  · rw [if_neg hl]
    have := runE_len xs hu (by omega)
    simp only; omega
theorem RUND_nat (ys : List Int) (n : Nat) (h : n ≤ 65536) : RUND ys n = runDec ys n := by
  unfold RUND
  rw [if_neg (by omega)]
  rfl
theorem RUND_facts {ys : List Int} {n : Int} (hr : ∀ y ∈ ys, 0 ≤ y ∧ y ≤ 255) :
    (∃ c, RUND ys n = ([], c) ∧ c ≠ 0) ∨ (∃ l, RUND ys n = (l, 0) ∧ U64 l ∧ (l.length : Int) = n ∧ l.length ≤ 65536 ∧ runE l = ys) := by
  unfold RUND
  by_cases hn : n < 0 ∨ 65536 < n
  · rw [if_pos hn]; exact .inl ⟨1, rfl, by decide⟩
  · rw [if_neg hn]
    rcases runD_only (n.toNat + 1) [] ys n.toNat hr (by simp) (by simp) with ⟨c, h1, h2⟩ | ⟨t, h1, h2, h3, h4, _⟩
    · exact .inl ⟨c, h1, by omega⟩
    · rw [List.nil_append] at h1
      rw [List.length_nil, Nat.zero_add] at h2
      exact .inr ⟨t, h1, h4, by omega, by omega, h3.symm⟩
theorem runDec_enc {l : List Int} (hu : U64 l) (hl : l.length ≤ 65536) (z : List Int) : runDec (runE l ++ z) l.length = if 0 < z.length then ([], 3) else (l, 0) := by
  have := runD_enc l (l.length + 1) [] z l.length hu (by omega) (by simp) (by omega) (joins_nil l)
  rw [List.nil_append] at this
  exact this
theorem runDec_cut {l : List Int} (hu : U64 l) (hl : l.length ≤ 65536) (k : Nat) (hk : k < (runE l).length) : runDec ((runE l).take k) l.length = ([], 2) :=
  runD_cut l (l.length + 1) [] l.length k hu (by omega) (by simp) (by omega) (joins_nil l) hk
theorem runDec_less {l : List Int} (hu : U64 l) (hl : l.length ≤ 65536) (k : Nat) (hk : k < l.length) : runDec (runE l) k = ([], 3) :=
  runD_less l (k + 1) [] k hu (by omega) (by simp) (by simpa using hk) (by simp) (joins_nil l)

theorem runE_ex : runE [5, 5, 5, 9] = [5, 2, 9, 0] := by decide +kernel
theorem u64_ex : U64 [5, 5, 5, 9] := by intro x hx; simp at hx; omega
theorem RUNE_ex : RUNE [5, 5, 5, 9] = ([5, 2, 9, 0], 0) := by rw [RUNE_of (by decide), runE_ex]
theorem RUND_ex : RUND [5, 2, 9, 0] 4 = ([5, 5, 5, 9], 0) := by
  have := runDec_enc u64_ex (by decide) []
  rw [runE_ex] at this
  exact this

set_option maxHeartbeats 400000 in
set_option maxRecDepth 100000 in
theorem lsame7_q (va vb : Value) (xs : List Int) (w : World) (ha : Bs .u64 w va xs) (hb : Bs .u64 w vb xs) (hl : xs.length ≤ 140737488355328) :
    Calls Try.prog 15 #[va, vb] w fun e w' => e = .returned (.bool true) ∧ ∃ m, w' = w.drewN m := by
  have A := hideIt (usame_q va vb xs w ha hb hl)
  clear ha hb
  go_enter Try.func15, Try.ntmps15
  go_wp2_with fail
  refine A.out.mono ?_
  rintro e w1 ⟨rfl, m, hm⟩
  have H := hideIt hm
  clear hm A
  go_wp2
  go_ret
  exact ⟨rfl, m, H.out⟩
theorem lsame7 (va vb : Value) (xs : List Int) (w : World) (ha : Bs .u64 w va xs) (hb : Bs .u64 w vb xs) (hl : xs.length ≤ 140737488355328) :
    Calls Try.prog 15 #[va, vb] w fun e w' => e = .returned (.bool true) ∧ Only (fun _ => False) w w' := by
  refine (lsame7_q va vb xs w ha hb hl).mono ?_
  rintro e w' ⟨rfl, m, rfl⟩
  exact ⟨rfl, (Only.refl _ _).drewN m⟩

set_option maxHeartbeats 800000 in
set_option maxRecDepth 100000 in
theorem awake_any (w : World) :
    Calls Try.prog 9 #[] w fun e w' => e = .returned (.bool true) ∧ Only (fun _ => False) w w' := by
  have A := run_encode_all (.slice (some ⟨w.heap.size, 0, none⟩) 4 4) [5, 5, 5, 9] (w.alloc (.cells #[.int .u64 5, .int .u64 5, .int .u64 5, .int .u64 9] 35)) (Bs.litN .u64 w 35 [5, 5, 5, 9] _ _ rfl rfl) u64_ex
  rw [RUNE_ex] at A
  have A := hideIt A
  go_enter Try.func9, Try.ntmps9
  go_wp2_with fail
  refine A.out.mono ?_
  rintro e w1 ⟨v1, rfl, own1, o1⟩
  have O1 := hideIt (((Only.refl (fun _ => False) w).alloc (.cells #[.int .u64 5, .int .u64 5, .int .u64 5, .int .u64 9] 35)).same o1)
  have B1 := hideIt (Bs.of_own own1)
  have B := run_decode_all (.slice (some ⟨w1.heap.size, 0, none⟩) 4 4) [5, 2, 9, 0] 4 (w1.alloc (.cells #[.int .u8 5, .int .u8 2, .int .u8 9, .int .u8 0] 5)) (Bs.litN .u8 w1 5 [5, 2, 9, 0] _ _ rfl rfl) (by intro x hx; simp at hx; omega) (by decide)
  rw [RUND_ex] at B
  have B := hideIt B
  obtain ⟨f1, c1, e1⟩ := B1.out.len
  subst e1
  clear A own1 o1
  go_wp2_with fail
  refine B.out.mono ?_
  rintro e w2 ⟨v2, rfl, own2, o2⟩
  have O2 := hideIt ((O1.out.alloc (.cells #[.int .u8 5, .int .u8 2, .int .u8 9, .int .u8 0] 5)).same o2)
  have B2 := hideIt (Bs.of_own own2)
  have on12 : Only (fun _ => False) w1 w2 := ((Only.refl (fun _ => False) w1).alloc (.cells #[.int .u8 5, .int .u8 2, .int .u8 9, .int .u8 0] 5)).same o2
  have SM := hideIt (same_eq _ (.slice (some ⟨w2.heap.size, 0, none⟩) 4 4) [5, 2, 9, 0] (w2.alloc (.cells #[.int .u8 5, .int .u8 2, .int .u8 9, .int .u8 0] 5)) ((B1.out.past on12).later ((Below.refl _ _).alloc (Nat.le_refl _) _)) (Bs.litN .u8 w2 5 [5, 2, 9, 0] _ _ rfl rfl) (by decide))
  obtain ⟨f2, c2, e2⟩ := B2.out.len
  subst e2
  clear B own2 o2 on12
  go_wp2_with fail
  refine SM.out.mono ?_
  rintro e w3 ⟨rfl, o3⟩
  have O3 := hideIt ((O2.out.alloc (.cells #[.int .u8 5, .int .u8 2, .int .u8 9, .int .u8 0] 5)).same o3)
  have on23 : Only (fun _ => False) w2 w3 := ((Only.refl (fun _ => False) w2).alloc (.cells #[.int .u8 5, .int .u8 2, .int .u8 9, .int .u8 0] 5)).same o3
  have SU := hideIt (lsame7 _ (.slice (some ⟨w3.heap.size, 0, none⟩) 4 4) [5, 5, 5, 9] (w3.alloc (.cells #[.int .u64 5, .int .u64 5, .int .u64 5, .int .u64 9] 35)) ((B2.out.past on23).later ((Below.refl _ _).alloc (Nat.le_refl _) _)) (Bs.litN .u64 w3 35 [5, 5, 5, 9] _ _ rfl rfl) (by decide))
  clear SM o3 on23
  go_wp2_with fail
  refine SU.out.mono ?_
  rintro e w4 ⟨rfl, o4⟩
  have O4 := hideIt ((O3.out.alloc (.cells #[.int .u64 5, .int .u64 5, .int .u64 5, .int .u64 9] 35)).same o4)
  clear SU o4
  go_wp2
  go_ret
  exact ⟨rfl, O4.out⟩
end Go.Proofs.Ytpohcimjfilfoaa

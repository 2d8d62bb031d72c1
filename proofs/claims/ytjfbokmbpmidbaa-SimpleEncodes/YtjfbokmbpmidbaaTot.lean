/- Package simple and its reference, whatever comes in; and the head of each statement: the document's example holds. -/
import Derived.Test.YtjfbokmbpmidbaaRd6
import Derived.Test.YtjfbokmbpmidbaaSame2
import Derived.Test.YtjfbokmbpmidbaaSameU
namespace Go.Proofs.Ytjfbokmbpmidbaa
open Go.RowKit

theorem Only.same {a b c : World} (h : Only (fun _ => False) a b) (k : Only (fun _ => False) b c) : Only (fun _ => False) a c := h.trans k (fun _ _ f => f)
theorem Bs.past {k : IntKind} {w w' : World} {v : Value} {xs : List Int} (h : Bs k w v xs) (o : Only (fun _ => False) w w') : Bs k w' v xs := h.keep o (fun _ _ f => f)
/-- numbers of 64 bits -/
def U64 (xs : List Int) : Prop := ∀ x ∈ xs, 0 ≤ x ∧ x ≤ 18446744073709551615
/-- what any numbers are encoded to, and the error -/
def ENC (xs : List Int) : List Int × Int := if 65536 < xs.length then ([], 4) else if small 60 xs = true then (enc xs, 0) else ([], 1)
/-- what any bytes are decoded to, and the error -/
def DEC (ys : List Int) (n : Int) : List Int × Int := if n < 0 ∨ 65536 < n then ([], 1) else dec ys n.toNat
/-- a sort's room -/
def ROOM (s : Int) : Int × Int := if s < 0 ∨ 15 < s then (0, 0) else ((cn s.toNat : Int), (wi s.toNat : Int))

theorem encode_all (v : Value) (xs : List Int) (w : World) (h : Bs .u64 w v xs) (hu : U64 xs) :
    Calls Try.prog 10 #[v] w fun e w' => ∃ v', e = .returned (.tuple #[v', .int .i64 (ENC xs).2]) ∧ w'.ownsRow w.heap.size 5 1 v' (ENC xs).1.length ((ENC xs).1.map (Value.int .u8)) ∧ Only (fun _ => False) w w' := by
  unfold ENC
  by_cases hl : 65536 < xs.length
  · rw [if_pos hl]
    refine (encode_long v xs w h hl).mono ?_
    rintro e w' ⟨rfl, rfl⟩
    exact ⟨_, rfl, World.ownsRow_nil _ _ _ _, Only.refl _ _⟩
  · rw [if_neg hl]
    by_cases hs : small 60 xs = true
    · rw [if_pos hs]
      exact encode_bs v xs w h (small_up hs (fun x hx => (hu x hx).1)) (by omega)
    · rw [if_neg hs]
      refine (encode_arg v xs w h hu (by omega) (by simpa using hs)).mono ?_
      rintro e w' ⟨rfl, rfl⟩
      exact ⟨_, rfl, World.ownsRow_nil _ _ _ _, Only.refl _ _⟩
theorem decode_all (v : Value) (ys : List Int) (n : Int) (w : World) (h : Bs .u8 w v ys) (hr : ∀ y ∈ ys, 0 ≤ y ∧ y ≤ 255) (hl : ys.length ≤ 1000000000000) :
    Calls Try.prog 15 #[v, .int .i64 n] w fun e w' => ∃ u, e = .returned (.tuple #[u, .int .i64 (DEC ys n).2]) ∧ w'.ownsRow w.heap.size 36 1 u (DEC ys n).1.length ((DEC ys n).1.map (Value.int .u64)) ∧ Only (fun _ => False) w w' := by
  unfold DEC
  by_cases hn : n < 0 ∨ 65536 < n
  · rw [if_pos hn]
    refine (decode_arg v n w hn).mono ?_
    rintro e w' ⟨rfl, rfl⟩
    exact ⟨_, rfl, World.ownsRow_nil _ _ _ _, Only.refl _ _⟩
  · rw [if_neg hn]
    obtain ⟨m, rfl⟩ := Int.eq_ofNat_of_zero_le (show 0 ≤ n by omega)
    exact decode_bs v ys m w h hr hl (by omega)
theorem room_all (s : Int) (w : World) : Calls Try.prog 12 #[.int .i64 s] w fun e w' => e = .returned (.tuple #[.int .i64 (ROOM s).1, .int .i64 (ROOM s).2]) ∧ Only (fun _ => False) w w' := by
  unfold ROOM
  by_cases hs : s < 0 ∨ 15 < s
  · rw [if_pos hs]
    refine (room_no s w hs).mono ?_
    rintro e w' ⟨rfl, rfl⟩
    exact ⟨rfl, Only.refl _ _⟩
  · rw [if_neg hs]
    obtain ⟨m, rfl⟩ := Int.eq_ofNat_of_zero_le (show 0 ≤ s by omega)
    exact room_at m w (by omega)
theorem ENC_ok {xs : List Int} (h0 : ∀ x ∈ xs, 0 ≤ x) (h : (ENC xs).2 = 0) : ENC xs = (enc xs, 0) ∧ Up 60 xs ∧ xs.length ≤ 65536 := by
  unfold ENC at *
  by_cases hl : 65536 < xs.length
  · rw [if_pos hl] at h; cases h
  · rw [if_neg hl] at h ⊢
    by_cases hs : small 60 xs = true
    · rw [if_pos hs]; exact ⟨rfl, small_up hs h0, by omega⟩
    · rw [if_neg hs] at h; cases h
theorem ENC_of {xs : List Int} (hu : Up 60 xs) (hl : xs.length ≤ 65536) : ENC xs = (enc xs, 0) := by
  unfold ENC
  rw [if_neg (by omega), if_pos (up_small hu)]
theorem ENC_no {xs : List Int} (hl : xs.length ≤ 65536) (h : (ENC xs).2 ≠ 0) : ENC xs = ([], 1) := by
  unfold ENC at *
  rw [if_neg (by omega)] at h ⊢
  by_cases hs : small 60 xs = true
  · rw [if_pos hs] at h; exact absurd rfl h
  · rw [if_neg hs]
theorem ENC_len {xs : List Int} (h0 : ∀ x ∈ xs, 0 ≤ x) : (ENC xs).1.length ≤ 600000 := by
  by_cases h : (ENC xs).2 = 0
  · obtain ⟨e, hu, hl⟩ := ENC_ok h0 h
    rw [e]
    have := (enc_len xs.length xs rfl hu).2.1
    simp only; omega
  · unfold ENC at *
    by_cases hl : 65536 < xs.length
    · rw [if_pos hl]; decide
    · rw [if_neg hl] at h ⊢
      by_cases hs : small 60 xs = true
      · rw [if_pos hs] at h; exact absurd rfl h
      · rw [if_neg hs]; decide
theorem DEC_facts {ys : List Int} {n : Int} (hr : ∀ y ∈ ys, 0 ≤ y ∧ y ≤ 255) :
    (∃ c, DEC ys n = ([], c) ∧ c ≠ 0) ∨ (∃ l, DEC ys n = (l, 0) ∧ Up 60 l ∧ (l.length : Int) = n ∧ l.length ≤ 65536 ∧ enc l = ys) := by
  unfold DEC
  by_cases hn : n < 0 ∨ 65536 < n
  · rw [if_pos hn]; exact .inl ⟨1, rfl, by decide⟩
  · rw [if_neg hn]
    rcases dec_only (n := n.toNat) hr with ⟨c, h1, h2⟩ | ⟨l, h1, h2, h3, h4⟩
    · exact .inl ⟨c, h1, by omega⟩
    · exact .inr ⟨l, h1, h2, by omega, by omega, h4⟩
theorem DEC_nat (ys : List Int) (n : Nat) (h : n ≤ 65536) : DEC ys n = dec ys n := by
  unfold DEC
  rw [if_neg (by omega)]
  rfl

theorem enc_ex : enc [1, 2, 3] = [208, 0, 1, 0, 0, 32, 0, 3] := by decide +kernel
theorem up_ex : Up 60 [1, 2, 3] := by
  intro x hx; simp at hx; omega
theorem ENC_ex : ENC [1, 2, 3] = ([208, 0, 1, 0, 0, 32, 0, 3], 0) := by rw [ENC_of up_ex (by decide), enc_ex]
theorem DEC_ex : DEC [208, 0, 1, 0, 0, 32, 0, 3] 3 = ([1, 2, 3], 0) := by
  have := dec_enc up_ex
  rw [enc_ex] at this
  exact this

set_option maxHeartbeats 400000 in
set_option maxRecDepth 100000 in
theorem lsame6_q (va vb : Value) (xs : List Int) (w : World) (ha : Bs .u64 w va xs) (hb : Bs .u64 w vb xs) (hl : xs.length ≤ 140737488355328) :
    Calls Try.prog 17 #[va, vb] w fun e w' => e = .returned (.bool true) ∧ ∃ m, w' = w.drewN m := by
  have A := hideIt (usame_q va vb xs w ha hb hl)
  clear ha hb
  go_enter Try.func17, Try.ntmps17
  go_wp2_with fail
  refine A.out.mono ?_
  rintro e w1 ⟨rfl, m, hm⟩
  have H := hideIt hm
  clear hm A
  go_wp2
  go_ret
  exact ⟨rfl, m, H.out⟩
theorem lsame6 (va vb : Value) (xs : List Int) (w : World) (ha : Bs .u64 w va xs) (hb : Bs .u64 w vb xs) (hl : xs.length ≤ 140737488355328) :
    Calls Try.prog 17 #[va, vb] w fun e w' => e = .returned (.bool true) ∧ Only (fun _ => False) w w' := by
  refine (lsame6_q va vb xs w ha hb hl).mono ?_
  rintro e w' ⟨rfl, m, rfl⟩
  exact ⟨rfl, (Only.refl _ _).drewN m⟩

set_option maxHeartbeats 800000 in
set_option maxRecDepth 100000 in
theorem awake_any (w : World) :
    Calls Try.prog 9 #[] w fun e w' => e = .returned (.bool true) ∧ Only (fun _ => False) w w' := by
  have A := encode_all (.slice (some ⟨w.heap.size, 0, none⟩) 3 3) [1, 2, 3] (w.alloc (.cells #[.int .u64 1, .int .u64 2, .int .u64 3] 36)) (Bs.litN .u64 w 36 [1, 2, 3] _ _ rfl rfl) (by intro x hx; simp at hx; omega)
  rw [ENC_ex] at A
  have A := hideIt A
  go_enter Try.func9, Try.ntmps9
  go_wp2_with fail
  refine A.out.mono ?_
  rintro e w1 ⟨v1, rfl, own1, o1⟩
  have O1 := hideIt (((Only.refl (fun _ => False) w).alloc (.cells #[.int .u64 1, .int .u64 2, .int .u64 3] 36)).trans o1 (fun _ _ f => f))
  have B1 := hideIt (Bs.of_own own1)
  have B := decode_all (.slice (some ⟨w1.heap.size, 0, none⟩) 8 8) [208, 0, 1, 0, 0, 32, 0, 3] 3 (w1.alloc (.cells #[.int .u8 208, .int .u8 0, .int .u8 1, .int .u8 0, .int .u8 0, .int .u8 32, .int .u8 0, .int .u8 3] 5)) (Bs.litN .u8 w1 5 [208, 0, 1, 0, 0, 32, 0, 3] _ _ rfl rfl) (by intro x hx; simp at hx; omega) (by decide)
  rw [DEC_ex] at B
  have B := hideIt B
  obtain ⟨f1, c1, e1⟩ := B1.out.len
  subst e1
  clear A own1 o1
  go_wp2_with fail
  refine B.out.mono ?_
  rintro e w2 ⟨v2, rfl, own2, o2⟩
  have O2 := hideIt ((O1.out.alloc (.cells #[.int .u8 208, .int .u8 0, .int .u8 1, .int .u8 0, .int .u8 0, .int .u8 32, .int .u8 0, .int .u8 3] 5)).trans o2 (fun _ _ f => f))
  have B2 := hideIt (Bs.of_own own2)
  have on12 : Only (fun _ => False) w1 w2 := ((Only.refl (fun _ => False) w1).alloc (.cells #[.int .u8 208, .int .u8 0, .int .u8 1, .int .u8 0, .int .u8 0, .int .u8 32, .int .u8 0, .int .u8 3] 5)).trans o2 (fun _ _ f => f)
  have SM := hideIt (same_eq _ (.slice (some ⟨w2.heap.size, 0, none⟩) 8 8) [208, 0, 1, 0, 0, 32, 0, 3] (w2.alloc (.cells #[.int .u8 208, .int .u8 0, .int .u8 1, .int .u8 0, .int .u8 0, .int .u8 32, .int .u8 0, .int .u8 3] 5)) ((B1.out.keep on12 (fun _ _ f => f)).later ((Below.refl _ _).alloc (Nat.le_refl _) _)) (Bs.litN .u8 w2 5 [208, 0, 1, 0, 0, 32, 0, 3] _ _ rfl rfl) (by decide))
  obtain ⟨f2, c2, e2⟩ := B2.out.len
  subst e2
  clear B own2 o2 on12
  go_wp2_with fail
  refine SM.out.mono ?_
  rintro e w3 ⟨rfl, o3⟩
  have O3 := hideIt ((O2.out.alloc (.cells #[.int .u8 208, .int .u8 0, .int .u8 1, .int .u8 0, .int .u8 0, .int .u8 32, .int .u8 0, .int .u8 3] 5)).trans o3 (fun _ _ f => f))
  have on23 : Only (fun _ => False) w2 w3 := ((Only.refl (fun _ => False) w2).alloc (.cells #[.int .u8 208, .int .u8 0, .int .u8 1, .int .u8 0, .int .u8 0, .int .u8 32, .int .u8 0, .int .u8 3] 5)).trans o3 (fun _ _ f => f)
  have SU := hideIt (lsame6 _ (.slice (some ⟨w3.heap.size, 0, none⟩) 3 3) [1, 2, 3] (w3.alloc (.cells #[.int .u64 1, .int .u64 2, .int .u64 3] 36)) ((B2.out.keep on23 (fun _ _ f => f)).later ((Below.refl _ _).alloc (Nat.le_refl _) _)) (Bs.litN .u64 w3 36 [1, 2, 3] _ _ rfl rfl) (by decide))
  clear SM o3 on23
  go_wp2_with fail
  refine SU.out.mono ?_
  rintro e w4 ⟨rfl, o4⟩
  have O4 := hideIt ((O3.out.alloc (.cells #[.int .u64 1, .int .u64 2, .int .u64 3] 36)).trans o4 (fun _ _ f => f))
  clear SU o4
  go_wp2
  go_ret
  exact ⟨rfl, O4.out⟩
end Go.Proofs.Ytjfbokmbpmidbaa

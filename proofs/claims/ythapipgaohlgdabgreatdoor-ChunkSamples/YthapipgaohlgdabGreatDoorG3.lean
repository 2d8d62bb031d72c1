/- Several texts in one: Gm2, Gt, Laid9, VMath, Vr, Vr2, Vr3. -/
import Derived.Test.YthapipgaohlgdabGreatDoorG2
import Derived.Lib.TrailingZeros
import Derived.Laws.Bits64b
import Derived.WalkSpells
import Derived.Laws.Rows
import Derived.Deep.WholeRow
import Derived.Deep.RegionHeld3
import Derived.Test.YthapipgaohlgdabGreatDoorRows
import Derived.ProofKit
import Derived.LaidMore
import Derived.Lib.LaidTab
import Derived.Test.YthapipgaohlgdabGreatDoorG1
import Derived.Lib.AppendZerosOnto
import Derived.Lib.SliceRun

/- Patterns as bytes: there and back, cut off, one byte more; only what differs counts; a list cut off. -/
namespace Go.Proofs.YthapipgaohlgdabGreatDoor
open Go.RowKit

def ENC9 (l : List Int) : List Int × Int := if 65536 < l.length then ([], 4) else (bytesI (GB l), 0)
def DEC9 (b : List Int) (n : Int) : List Int × Int :=
  if n < 0 ∨ 65536 < n then ([], 1) else
  if (gRd (allBits b) n.toNat).2 ≠ 0 then ([], (gRd (allBits b) n.toNat).2) else
  if (ENC9 (gRd (allBits b) n.toNat).1).1 = b then ((gRd (allBits b) n.toNat).1, 0) else ([], 3)

theorem ENC9_of {l : List Int} (hl : l.length ≤ 65536) : ENC9 l = (bytesI (GB l), 0) := if_neg (by omega)
theorem ENC9_rng (l : List Int) : ∀ y ∈ (ENC9 l).1, 0 ≤ y ∧ y ≤ 255 := by
  unfold ENC9
  by_cases h : 65536 < l.length
  · rw [if_pos h]; intro y hy; simp at hy
  · rw [if_neg h]; exact bytesI_rng _
theorem gx_len (x : Nat) {wn : Option (Nat × Nat)} : (gx x wn).1.length ≤ 77 ∧ 1 ≤ (gx x wn).1.length := by
  have hn : ∀ x, (newW x).length ≤ 77 ∧ 1 ≤ (newW x).length := fun x => by
    unfold newW
    simp only [List.length_cons, List.length_append, bitsOf_length]
    omega
  unfold gx
  by_cases h0 : x = 0
  · rw [if_pos h0]; exact ⟨by simp, by simp⟩
  · rw [if_neg h0]
    cases wn with
    | none => exact hn x
    | some p =>
      obtain ⟨a, z⟩ := p
      simp only
      by_cases hf : fitsW x a z
      · rw [if_pos hf]
        simp only [List.length_cons, bitsOf_length]
        omega
      · rw [if_neg hf]; exact hn x
theorem gE_len (l : List Int) : ∀ (p : Nat) (wn : Option (Nat × Nat)), (gE p wn l).length ≤ 77 * l.length ∧ l.length ≤ (gE p wn l).length := by
  induction l with
  | nil => intro p wn; simp [gE]
  | cons y t ih =>
    intro p wn
    rw [gE, List.length_append, List.length_cons]
    have h1 := gx_len (p ^^^ y.toNat) (wn := wn)
    have h2 := ih y.toNat (gx (p ^^^ y.toNat) wn).2
    omega
theorem GB_len (l : List Int) : (GB l).length ≤ 77 * l.length ∧ l.length ≤ (GB l).length := by
  cases l with
  | nil => simp [GB]
  | cons y t =>
    have h := gE_len t y.toNat none
    unfold GB
    rw [List.length_append, bitsOf_length, List.length_cons]
    omega
theorem nb_lt {l : List Bool} {k : Nat} (h : k < nb l) : 8 * k < l.length := by unfold nb at h; omega
theorem allBits_take8 (ys : List Int) (k : Nat) (h : k ≤ ys.length) : allBits (ys.take k) = (allBits ys).take (8 * k) := by
  have e := allBits_append (ys.take k) (ys.drop k)
  rw [List.take_append_drop] at e
  have hl : (allBits (ys.take k)).length = 8 * k := by rw [allBits_length, List.length_take]; omega
  rw [e, List.take_left' hl]
theorem DEC9_ENC9 {l : List Int} (hu : U64 l) (hl : l.length ≤ 65536) : DEC9 (ENC9 l).1 l.length = (l, 0) := by
  have e : gRd (allBits (ENC9 l).1) l.length = (l, 0) := by
    rw [ENC9_of hl]
    simp only [bits_back]
    exact gRd_GB hu _
  unfold DEC9
  rw [if_neg (by omega), Int.toNat_natCast, e]
  simp
theorem DEC9_more {l : List Int} (hu : U64 l) (hl : l.length ≤ 65536) {r : List Int} (hr : r ≠ []) : DEC9 ((ENC9 l).1 ++ r) l.length = ([], 3) := by
  have e : gRd (allBits ((ENC9 l).1 ++ r)) l.length = (l, 0) := by
    rw [allBits_append, ENC9_of hl]
    simp only [bits_back, List.append_assoc]
    exact gRd_GB hu _
  unfold DEC9
  rw [if_neg (by omega), Int.toNat_natCast, e]
  simp only [ne_eq, not_true_eq_false, if_false]
  rw [if_neg (fun h => hr (List.self_eq_append_right.1 h))]
theorem DEC9_cut {l : List Int} (hu : U64 l) (hl : l.length ≤ 65536) {k : Nat} (hk : k < (ENC9 l).1.length) : DEC9 ((ENC9 l).1.take k) l.length = ([], 2) := by
  have e : gRd (allBits ((ENC9 l).1.take k)) l.length = ([], 2) := by
    rw [allBits_take8 _ _ (by omega)]
    rw [ENC9_of hl] at hk ⊢
    simp only [bytesI_length] at hk
    have h8 := nb_lt hk
    simp only [bits_back]
    rw [List.take_append_of_le_length (by omega)]
    exact gRd_cut hu _ h8
  unfold DEC9
  rw [if_neg (by omega), Int.toNat_natCast, e]
  simp
theorem DEC9_ok {b : List Int} {n : Int} (h : (DEC9 b n).2 = 0) : 0 ≤ n ∧ n ≤ 65536 ∧ ((DEC9 b n).1.length : Int) = n ∧ U64 (DEC9 b n).1 ∧ ENC9 (DEC9 b n).1 = (b, 0) := by
  unfold DEC9 at *
  by_cases hn : n < 0 ∨ 65536 < n
  · rw [if_pos hn] at h; cases h
  · rw [if_neg hn] at h ⊢
    by_cases hR : (gRd (allBits b) n.toNat).2 ≠ 0
    · rw [if_pos hR] at h; exact absurd h hR
    · rw [if_neg hR] at h ⊢
      by_cases hE : (ENC9 (gRd (allBits b) n.toNat).1).1 = b
      · rw [if_pos hE]
        obtain ⟨h1, h2⟩ := gRd_ok (l := allBits b) (n := n.toNat) (by simpa using hR)
        refine ⟨by omega, by omega, by simp only [h2]; omega, h1, ?_⟩
        have h3 := ENC9_of (l := (gRd (allBits b) n.toNat).1) (by rw [h2]; omega)
        rw [h3] at hE ⊢
        simp only at hE
        simp only [hE]
      · rw [if_neg hE] at h; cases h
theorem DEC9_err {b : List Int} {n : Int} (h : (DEC9 b n).2 ≠ 0) : (DEC9 b n).1 = [] := by
  unfold DEC9 at *
  by_cases hn : n < 0 ∨ 65536 < n
  · rw [if_pos hn]
  · rw [if_neg hn] at h ⊢
    by_cases hR : (gRd (allBits b) n.toNat).2 ≠ 0
    · rw [if_pos hR]
    · rw [if_neg hR] at h ⊢
      by_cases hE : (ENC9 (gRd (allBits b) n.toNat).1).1 = b
      · rw [if_pos hE] at h; exact absurd rfl h
      · rw [if_neg hE]

/-! only what differs counts -/
def msk (m : Nat) (l : List Int) : List Int := l.map fun y => ((y.toNat ^^^ m : Nat) : Int)
theorem xor_mask (p y m : Nat) : (p ^^^ m) ^^^ (y ^^^ m) = p ^^^ y := by
  rw [Nat.xor_assoc, ← Nat.xor_assoc m y m, Nat.xor_comm m y, Nat.xor_assoc y m m, Nat.xor_self, Nat.xor_zero]
theorem gE_mask (m : Nat) (l : List Int) : ∀ (p : Nat) (wn : Option (Nat × Nat)), gE (p ^^^ m) wn (msk m l) = gE p wn l := by
  induction l with
  | nil => intro p wn; rfl
  | cons y t ih =>
    intro p wn
    show (gx ((p ^^^ m) ^^^ (((y.toNat ^^^ m : Nat) : Int)).toNat) wn).1 ++ gE (((y.toNat ^^^ m : Nat) : Int)).toNat (gx ((p ^^^ m) ^^^ (((y.toNat ^^^ m : Nat) : Int)).toNat) wn).2 (msk m t) = _
    rw [Int.toNat_natCast, xor_mask, ih]
    rfl
theorem GB_mask (m : Nat) (l : List Int) (hl : l ≠ []) : (GB (msk m l)).drop 64 = (GB l).drop 64 ∧ (GB (msk m l)).length = (GB l).length := by
  cases l with
  | nil => exact absurd rfl hl
  | cons y t =>
    have e : GB (msk m (y :: t)) = bitsOf (y.toNat ^^^ m) 64 ++ gE (y.toNat ^^^ m) none (msk m t) := by
      show bitsOf (((y.toNat ^^^ m : Nat) : Int)).toNat 64 ++ gE (((y.toNat ^^^ m : Nat) : Int)).toNat none (msk m t) = _
      rw [Int.toNat_natCast]
    rw [e, gE_mask]
    unfold GB
    rw [List.drop_left' (bitsOf_length _ _), List.drop_left' (bitsOf_length _ _)]
    simp [bitsOf_length]
theorem bytesI_drop (l : List Bool) (k : Nat) (h : 8 * k ≤ l.length) : bytesI (l.drop (8 * k)) = (bytesI l).drop k := by
  apply List.ext_getElem?
  intro i
  have hn : nb (l.drop (8 * k)) = nb l - k := by unfold nb; rw [List.length_drop]; omega
  have hb : byteAt (l.drop (8 * k)) i = byteAt l (k + i) := by
    have hg : ∀ q, (l.drop (8 * k)).getD q false = l.getD (8 * k + q) false := fun q => by
      rw [List.getD_eq_getElem?_getD, List.getD_eq_getElem?_getD, List.getElem?_drop]
    unfold byteAt
    simp only [hg]
    rw [show 8 * (k + i) = 8 * k + 8 * i by omega]
    simp only [Nat.add_assoc]
  rw [List.getElem?_drop]
  unfold bytesI
  by_cases hi : i < nb l - k
  · rw [List.getElem?_map, List.getElem?_map, List.getElem?_range (by omega), List.getElem?_range (by omega)]
    simp only [Option.map_some, hb]
  · rw [List.getElem?_eq_none (by simp; omega), List.getElem?_eq_none (by simp; omega)]

/-! a list cut off; equal ones -/
theorem gE_app (l t : List Int) : ∀ (p : Nat) (wn : Option (Nat × Nat)), ∃ q wn', gE p wn (l ++ t) = gE p wn l ++ gE q wn' t := by
  induction l with
  | nil => intro p wn; exact ⟨p, wn, rfl⟩
  | cons y r ih =>
    intro p wn
    obtain ⟨q, wn', e⟩ := ih y.toNat (gx (p ^^^ y.toNat) wn).2
    refine ⟨q, wn', ?_⟩
    rw [List.cons_append, gE, gE, e, List.append_assoc]
theorem GB_take (l : List Int) (k : Nat) : ∃ r, GB l = GB (l.take k) ++ r := by
  cases l with
  | nil => exact ⟨[], by simp [GB]⟩
  | cons y t =>
    cases k with
    | zero => exact ⟨_, rfl⟩
    | succ k =>
      obtain ⟨q, wn', e⟩ := gE_app (t.take k) (t.drop k) y.toNat none
      rw [List.take_append_drop] at e
      refine ⟨gE q wn' (t.drop k), ?_⟩
      rw [List.take_succ_cons]
      show bitsOf y.toNat 64 ++ gE y.toNat none t = (bitsOf y.toNat 64 ++ gE y.toNat none (t.take k)) ++ gE q wn' (t.drop k)
      rw [e, List.append_assoc]
theorem nb_mono {a b : List Bool} (h : a.length ≤ b.length) : nb a ≤ nb b := by unfold nb; omega
theorem gE_same (v : Int) (wn : Option (Nat × Nat)) : ∀ k, gE v.toNat wn (List.replicate k v) = List.replicate k false
  | 0 => rfl
  | k + 1 => by
    rw [List.replicate_succ, gE, Nat.xor_self]
    have e : gx 0 wn = ([false], wn) := by unfold gx; rw [if_pos rfl]
    rw [e, gE_same v wn k]
    rfl
theorem GB_same (v : Int) (k : Nat) : GB (List.replicate (k + 1) v) = bitsOf v.toNat 64 ++ List.replicate k false := by
  rw [List.replicate_succ]
  show bitsOf v.toNat 64 ++ gE v.toNat none (List.replicate k v) = _
  rw [gE_same]

theorem GB_ex : GB [5, 5] = bitsOf 5 64 ++ [false] := GB_same 5 1
theorem ENC9_ex : ENC9 [5, 5] = ([0, 0, 0, 0, 0, 0, 0, 5, 0], 0) := by decide +kernel
theorem u64_ex9 : U64 [5, 5] := by intro x hx; simp at hx; omega
theorem DEC9_ex : DEC9 [0, 0, 0, 0, 0, 0, 0, 5, 0] 2 = ([5, 5], 0) := by
  have := DEC9_ENC9 u64_ex9 (by decide)
  rw [ENC9_ex] at this
  exact this
end Go.Proofs.YthapipgaohlgdabGreatDoor

/- math/bits.TrailingZeros64 over its table, and package gorilla's window. -/
namespace Go.Proofs.YthapipgaohlgdabGreatDoor
open Go.RowKit

/-- the table of the lowest bits' places lies in its variable -/
def Tab (w : World) : Prop := ∀ j, j < 64 → w.cell? ⟨0, j, none⟩ = some (.int .u8 ((Lib.deBruijn64tab.getD j 0 : Nat) : Int))
theorem Tab.pos {w : World} (h : Tab w) : 0 < w.heap.size := by
  rcases Nat.eq_zero_or_pos w.heap.size with e | e
  · have := h 0 (by omega)
    have e2 : w.heap[0]? = none := Array.getElem?_eq_none (by omega)
    simp [World.cell?, e2] at this
  · exact e
theorem Tab.keep {w w' : World} (h : Tab w) {S : Nat → Prop} (o : Only S w w') (hs : ¬ S 0) : Tab w' := by
  intro j hj
  have e := o.block 0 h.pos hs
  have := h j hj
  simpa [World.cell?, e] using this
theorem Tab.past {w w' : World} (h : Tab w) (o : Only (fun _ => False) w w') : Tab w' := h.keep o (fun f => f)
theorem Tab.below {w w' : World} {N : Nat} (h : Tab w) (o : Below N w w') (hN : 0 < N) : Tab w' := by
  intro j hj
  have e := o.block 0 hN
  have := h j hj
  simpa [World.cell?, e] using this

theorem ctz_tz : ∀ (f x : Nat), Lib.ctzFrom f x = tzF f x
  | 0, _ => rfl
  | f + 1, x => by
    rw [Lib.ctzFrom, tzF]
    by_cases h : x % 2 = 1
    · rw [if_pos h, if_neg (by omega)]
    · rw [if_neg h, if_pos (by omega), ctz_tz f (x / 2)]; omega
theorem low_bit {x : Nat} (h0 : 0 < x) (hx : x < 18446744073709551616) : x &&& (18446744073709551616 - x) = 2 ^ tz x ∧ tz x < 64 := by
  have h := Lib.lowest_bit 64 x (by omega) (by rw [p64]; exact hx)
  have e : Lib.ctz 64 x = tz x := by unfold Lib.ctz tz; rw [if_neg (by omega), ctz_tz]
  rw [e, p64] at h
  exact h
theorem tz_key {n a : Nat} (hn : n < 18446744073709551616) (h0 : 0 < n) (hlow : n &&& (18446744073709551616 - n) = a) :
    IntKind.u64.wrap (bits BinOp.and IntKind.u64 (n : Int) (IntKind.u64.wrap (-(n : Int))) * 285870213051353865) / 288230376151711744 = ((a * 285870213051353865 % 18446744073709551616 / 288230376151711744 : Nat) : Int) := by
  have e1 : IntKind.u64.wrap (-(n : Int)) = ((18446744073709551616 - n : Nat) : Int) := by rw [IntKind.wrap_u64]; omega
  rw [e1, bits_and_u64_nat n _ hn (by omega), hlow, IntKind.wrap_u64]
  omega
set_option maxHeartbeats 1000000 in
theorem tz_core (n k i : Nat) (w : World) (hne : ((n : Int) == 0) = false)
    (key : IntKind.u64.wrap (bits BinOp.and IntKind.u64 (n : Int) (IntKind.u64.wrap (-(n : Int))) * 285870213051353865) / 288230376151711744 = (i : Int))
    (hi : i < 64) (hk : k < 64) (hc : w.cell? ⟨0, i, none⟩ = some (.int .u8 k)) :
    Calls Tryz.prog 127 #[.int .u64 n] w fun e w' => e = .returned (.int .i64 k) ∧ w = w' := by
  go_enter Tryz.func127, Tryz.ntmps127
  go_wp2_with (simp only [key])
  go_ret
  exact ⟨rfl, rfl⟩
theorem tz_any (x : Int) (w : World) (h0 : 0 < x) (hx : x ≤ 18446744073709551615) (hT : Tab w) :
    Calls Tryz.prog 127 #[.int .u64 x] w fun e w' => e = .returned (.int .i64 (tz x.toNat : Int)) ∧ w = w' := by
  obtain ⟨n, rfl⟩ := Int.eq_ofNat_of_zero_le (show 0 ≤ x by omega)
  rw [Int.toNat_natCast]
  obtain ⟨h1, hk⟩ := low_bit (x := n) (by omega) (by omega)
  generalize tz n = k at *
  obtain ⟨hi, ht⟩ := Lib.deBruijn64_at k hk
  have hc := hT _ hi
  rw [ht] at hc
  have key := tz_key (by omega) (by omega) h1
  exact tz_core n k _ w (by rw [beq_eq_false_iff_ne]; omega) key hi hk hc

/-! the window -/
theorem Tryz.sizeWin : (Tryz.prog.info? 124).map (·.size) = some 2 := by kernel_rfl
set_option maxHeartbeats 1000000 in
theorem isNone_yes (w : World) :
    Calls Tryz.prog 111 #[.agg #[.int .i64 0, .int .i64 0]] w fun e w' => e = .returned (.bool true) ∧ Only (fun _ => False) w w' := by
  go_enter Tryz.func111, Tryz.ntmps111
  go_wp2
  go_ret
  exact ⟨rfl, (Only.refl _ _).alloc _⟩
set_option maxHeartbeats 1000000 in
theorem isNone_no (a d : Nat) (w : World) (hd : ¬ d = 0) :
    Calls Tryz.prog 111 #[.agg #[.int .i64 a, .int .i64 d]] w fun e w' => e = .returned (.bool false) ∧ Only (fun _ => False) w w' := by
  go_enter Tryz.func111, Tryz.ntmps111
  go_wp2
  all_goals go_ret
  all_goals exact ⟨rfl, (Only.refl _ _).alloc _⟩
set_option maxHeartbeats 1000000 in
theorem trail_any (a d : Nat) (w : World) (ha : a ≤ 64) (hd : d ≤ 64) :
    Calls Tryz.prog 114 #[.agg #[.int .i64 a, .int .i64 d]] w fun e w' => e = .returned (.int .i64 (64 - (a : Int) - d)) ∧ Only (fun _ => False) w w' := by
  go_enter Tryz.func114, Tryz.ntmps114
  go_wp2
  go_ret
  exact ⟨rfl, (Only.refl _ _).alloc _⟩
set_option maxHeartbeats 1000000 in
theorem windowOf_any (x : Int) (w : World) (h0 : 0 < x) (hx : x ≤ 18446744073709551615) (hT : Tab w) :
    Calls Tryz.prog 113 #[.int .u64 x] w fun e w' => e = .returned (.agg #[.int .i64 (ldz x.toNat : Int), .int .i64 ((64 - ldz x.toNat - tz x.toNat : Nat) : Int)]) ∧ Only (fun _ => False) w w' := by
  obtain ⟨hn1, hn2, hn3⟩ := win_new (x := x.toNat) (by omega) (by omega)
  have hw := wid_le64 x.toNat (by omega)
  have T1 := hideIt (hT.past ((Only.refl (fun _ => False) w).alloc (.cells #[.int .i64 0, .int .i64 0] 124)))
  have W1 := hideIt (width_any x (w.alloc (.cells #[.int .i64 0, .int .i64 0] 124)) (by omega) hx)
  have Z1 := hideIt (tz_any x (w.alloc (.cells #[.int .i64 0, .int .i64 0] 124)) h0 hx T1.out)
  have hld : Hid (ldz x.toNat = min (64 - wid x.toNat) 31) := rfl
  generalize wid x.toNat = q at *
  generalize tz x.toNat = z at *
  generalize ldz x.toNat = a at *
  go_enter Tryz.func113, Tryz.ntmps113
  go_wp2_with fail
  refine W1.out.mono ?_
  rintro e w1 ⟨rfl, rfl⟩
  go_wp2_with fail
  all_goals
    refine Z1.out.mono ?_
    rintro e w1 ⟨rfl, rfl⟩
    go_wp2
    refine bodyPost_ret (results_cell_row rfl _ _ w.heap.size 124 _ (0, 0) _ rfl (heap_alloc_last w _) Tryz.underlying124 rfl Tryz.sizeWin) rfl ⟨?_, (Only.refl _ _).alloc _⟩
    have hl := hld.out
  · obtain rfl : a = 31 := by omega
    have e1 : ((64 - 31 - z : Nat) : Int) = 33 - (z : Int) := by omega
    rw [e1]; rfl
  · have e0 : (64 : Int) - (q : Int) = (a : Int) := by omega
    have e1 : ((64 - a - z : Nat) : Int) = 64 - (a : Int) - (z : Int) := by omega
    rw [e0, e1]
end Go.Proofs.YthapipgaohlgdabGreatDoor

/- The table that the program's own text lays: from the row's condition to the walks' fact, and a world that meets it. -/
namespace Go.Proofs.YthapipgaohlgdabGreatDoor
open Go.RowKit

abbrev laid1 : List (String × DataW Unit) := [("math/bits.deBruijn64tab", Rows.laid_math_bits_deBruijn64tab)]
theorem gTab : Tryz.prog.globalNamed "math/bits.deBruijn64tab" = some 0 := by kernel_rfl
theorem gTabType : (Tryz.prog.globals[0]?).map (·.type) = some 157 := by kernel_rfl
theorem cellsB : Tryz.prog.cellsOf 5 = 1 := by kernel_rfl
theorem cellsTab : Tryz.prog.cellsOf 157 = 64 := by kernel_rfl
theorem laid_tab : (Rows.laid_math_bits_deBruijn64tab : DataW Unit) = Lib.tabData .u8 (Lib.deBruijn64tab.map fun n : Nat => (n : Int)) := by kernel_rfl
theorem tab_of_laid {W : World} (h : laidMetH Tryz.prog laid1 W) : Tab W := by
  rw [MakeChecks.laidMetH_plain _ _ _ (by kernel_rfl)] at h
  unfold laid1 at h
  rw [laid_tab] at h
  have hT := Lib.tabIs_of_head gTab gTabType Tryz.underlying157 Tryz.underlying5 cellsB cellsTab h
  intro j hj
  have hl : (Lib.deBruijn64tab.map fun n : Nat => (n : Int)).length = 64 := by rw [List.length_map]; decide
  have hc := hT.cell gTab j (by omega)
  rw [hc]
  have e : (Lib.deBruijn64tab.map fun n : Nat => (n : Int)).getD j 0 = ((Lib.deBruijn64tab.getD j 0 : Nat) : Int) := by
    rw [List.getD_eq_getElem?_getD, List.getD_eq_getElem?_getD, List.getElem?_map]
    cases Lib.deBruijn64tab[j]? <;> rfl
  rw [e]
/-- The door's own heap meets the condition. -/
theorem door_met (os : Os) (args : Array Value) : laidMetH Tryz.prog laid1 ((World.doorLaid Tryz.prog 400 os).forCall (fun _ _ => 0) ⟨#[], args, []⟩).memory :=
  laidMetH_of_parts3 (fuel := 8) (laidMet_of_run' 8 (by kernel_rfl) (by kernel_rfl)) (by kernel_rfl) (by kernel_rfl)
end Go.Proofs.YthapipgaohlgdabGreatDoor

/- Numbers in groups of seven bits, and what is read of bytes: plain facts, no program is named here. -/
namespace Go.Proofs.YthapipgaohlgdabGreatDoor

/-- v in groups of seven bits, the lowest first, at most f + 1 of them -/
def gsF : Nat → Nat → List Int
  | 0, v => [(v : Int)]
  | f + 1, v => if v < 128 then [(v : Int)] else ((v % 128 + 128 : Nat) : Int) :: gsF f (v / 128)
/-- v in groups of seven bits, the lowest first -/
def gs (v : Nat) : List Int := gsF v v
theorem gsF_more (f : Nat) : ∀ (g v : Nat), v ≤ f → v ≤ g → gsF f v = gsF g v := by
  induction f with
  | zero =>
    intro g v h _
    obtain rfl : v = 0 := by omega
    cases g with
    | zero => rfl
    | succ g => simp [gsF]
  | succ f ih =>
    intro g v h h2
    cases g with
    | zero =>
      obtain rfl : v = 0 := by omega
      simp [gsF]
    | succ g =>
      simp only [gsF]
      by_cases hv : v < 128
      · rw [if_pos hv, if_pos hv]
      · rw [if_neg hv, if_neg hv, ih g (v / 128) (by omega) (by omega)]
theorem gs_small {v : Nat} (h : v < 128) : gs v = [(v : Int)] := by
  unfold gs
  cases v with
  | zero => rfl
  | succ v => rw [gsF, if_pos h]
theorem gs_big {v : Nat} (h : 128 ≤ v) : gs v = ((v % 128 + 128 : Nat) : Int) :: gs (v / 128) := by
  unfold gs
  obtain ⟨u, rfl⟩ : ∃ u, v = u + 1 := ⟨v - 1, by omega⟩
  rw [gsF, if_neg (by omega), gsF_more u ((u + 1) / 128) ((u + 1) / 128) (by omega) (Nat.le_refl _)]
theorem gs_pos (v : Nat) : 0 < (gs v).length := by
  rcases Nat.lt_or_ge v 128 with h | h
  · rw [gs_small h]; simp
  · rw [gs_big h]; simp
theorem gs_ne (v : Nat) : gs v ≠ [] := by
  intro h
  have := gs_pos v
  rw [h] at this
  simp at this
theorem gs_len (v : Nat) : (gs v).length = (max (wid v) 1 + 6) / 7 := by
  induction v using Nat.strongRecOn with
  | _ v ih =>
    rcases Nat.lt_or_ge v 128 with h | h
    · rw [gs_small h]
      have : wid v ≤ 7 := (wid_le_iff v 7).2 (by simpa using h)
      simp
      omega
    · rw [gs_big h, List.length_cons, ih (v / 128) (by omega)]
      have h1 := wid_div v 7 (by simpa using h)
      rw [show (2 : Nat) ^ 7 = 128 from rfl] at h1
      have h2 : 0 < wid (v / 128) := by
        rcases Nat.eq_zero_or_pos (wid (v / 128)) with h0 | h0
        · have := (wid_le_iff (v / 128) 0).1 (by omega)
          simp at this
          omega
        · exact h0
      omega
theorem wid_mono {a b : Nat} (h : a ≤ b) : wid a ≤ wid b := (wid_le_iff a (wid b)).2 (Nat.lt_of_le_of_lt h ((wid_le_iff b (wid b)).1 (Nat.le_refl _)))
theorem gs_mono {a b : Nat} (h : a ≤ b) : (gs a).length ≤ (gs b).length := by
  have := wid_mono h
  rw [gs_len, gs_len]
  omega
theorem gs_le10 {v : Nat} (h : v < 18446744073709551616) : (gs v).length ≤ 10 := by
  have := wid_le64 v h
  rw [gs_len]
  omega
theorem gs_range (v : Nat) : ∀ x ∈ gs v, 0 ≤ x ∧ x ≤ 255 := by
  induction v using Nat.strongRecOn with
  | _ v ih =>
    rcases Nat.lt_or_ge v 128 with h | h
    · rw [gs_small h]
      intro x hx
      simp at hx
      omega
    · rw [gs_big h]
      intro x hx
      rcases List.mem_cons.1 hx with hx | hx
      · omega
      · exact ih (v / 128) (by omega) x hx

/-- what is read: the number, how many bytes, and the error -/
def rd (i : Nat) (acc : Int) : List Int → Int × Int × Int
  | [] => (0, 0, 2)
  | c :: t => if i = 9 ∧ 1 < c then (0, 0, 3) else if 128 ≤ c then rd (i + 1) (acc + c % 128 * 128 ^ i) t else if c = 0 ∧ 0 < i then (0, 0, 3) else (acc + c * 128 ^ i, (i : Int) + 1, 0)

theorem rd_nil (i : Nat) (acc : Int) : rd i acc [] = (0, 0, 2) := rfl
theorem rd_cons (i : Nat) (acc c : Int) (t : List Int) : rd i acc (c :: t) = if i = 9 ∧ 1 < c then (0, 0, 3) else if 128 ≤ c then rd (i + 1) (acc + c % 128 * 128 ^ i) t else if c = 0 ∧ 0 < i then (0, 0, 3) else (acc + c * 128 ^ i, (i : Int) + 1, 0) := rfl

theorem rd_take (xs : List Int) : ∀ (i n : Nat) (acc : Int), i ≤ 9 → 10 ≤ i + n → rd i acc (xs.take n) = rd i acc xs := by
  induction xs with
  | nil => intro i n acc _ _; simp
  | cons c t ih =>
    intro i n acc hi hn
    obtain ⟨m, rfl⟩ : ∃ m, n = m + 1 := ⟨n - 1, by omega⟩
    rw [List.take_succ_cons, rd_cons, rd_cons]
    by_cases h1 : i = 9 ∧ 1 < c
    · rw [if_pos h1, if_pos h1]
    · rw [if_neg h1, if_neg h1]
      by_cases h2 : 128 ≤ c
      · rw [if_pos h2, if_pos h2, ih (i + 1) m _ (by omega) (by omega)]
      · rw [if_neg h2, if_neg h2]

theorem pow_lt_of {i v : Nat} (hi : i ≤ 9) (hv : v < 2 ^ (64 - 7 * i)) (h : 128 ≤ v) : i ≤ 8 ∧ v / 128 < 2 ^ (64 - 7 * (i + 1)) := by
  have hi8 : i ≤ 8 := by
    rcases Nat.lt_or_ge i 9 with h9 | h9
    · omega
    · have : i = 9 := by omega
      subst this
      simp at hv
      omega
  refine ⟨hi8, ?_⟩
  have e : 2 ^ (64 - 7 * i) = 2 ^ (64 - 7 * (i + 1)) * 128 := by
    rw [show 64 - 7 * i = 64 - 7 * (i + 1) + 7 by omega, Nat.pow_add]
  omega

/-- READ OF WHAT WAS WRITTEN, whatever stands behind. -/
theorem rd_gs (t : List Int) (v : Nat) : ∀ (i : Nat) (acc : Int), i ≤ 9 → v < 2 ^ (64 - 7 * i) → (0 < i → 0 < v) → rd i acc (gs v ++ t) = (acc + v * 128 ^ i, (i : Int) + (gs v).length, 0) := by
  induction v using Nat.strongRecOn with
  | _ v ih =>
    intro i acc hi hv h0
    rcases Nat.lt_or_ge v 128 with h | h
    · rw [gs_small h, List.singleton_append, rd_cons, if_neg, if_neg (by omega), if_neg]
      · rfl
      · intro hc; have := h0 hc.2; omega
      · rintro ⟨rfl, hc⟩
        simp at hv
        omega
    · obtain ⟨hi8, hlt⟩ := pow_lt_of hi hv h
      rw [gs_big h, List.cons_append, rd_cons, if_neg (by omega), if_pos (by omega), ih (v / 128) (by omega) (i + 1) _ (by omega) hlt (by omega)]
      refine Prod.ext ?_ (Prod.ext ?_ rfl)
      · simp only
        rw [Int.pow_succ]
        have e : (((v % 128 + 128 : Nat) : Int)) % 128 = ((v % 128 : Nat) : Int) := by omega
        have e2 : (v : Int) = ((v % 128 : Nat) : Int) + 128 * ((v / 128 : Nat) : Int) := by omega
        rw [e]
        generalize (128 : Int) ^ i = p
        generalize ((v % 128 : Nat) : Int) = a at e2 ⊢
        generalize ((v / 128 : Nat) : Int) = b at e2 ⊢
        rw [e2, Int.add_mul, Int.mul_comm p 128, ← Int.mul_assoc, Int.mul_comm b 128, Int.add_assoc]
      · simp only [List.length_cons]
        omega

theorem rd_short (v : Nat) : ∀ (i k : Nat) (acc : Int), i ≤ 9 → v < 2 ^ (64 - 7 * i) → k < (gs v).length → rd i acc ((gs v).take k) = (0, 0, 2) := by
  induction v using Nat.strongRecOn with
  | _ v ih =>
    intro i k acc hi hv hk
    rcases Nat.lt_or_ge v 128 with h | h
    · rw [gs_small h] at hk ⊢
      simp at hk
      subst hk
      rfl
    · obtain ⟨hi8, hlt⟩ := pow_lt_of hi hv h
      rw [gs_big h] at hk ⊢
      cases k with
      | zero => rfl
      | succ k =>
        rw [List.take_succ_cons, rd_cons, if_neg (by omega), if_pos (by omega), ih (v / 128) (by omega) (i + 1) k _ (by omega) hlt (by simpa using hk)]

/-- WHAT IS READ WAS WRITTEN. -/
theorem rd_ok (xs : List Int) : ∀ (i : Nat) (acc r n : Int), i ≤ 9 → (∀ x ∈ xs, 0 ≤ x ∧ x ≤ 255) → rd i acc xs = (r, n, 0) →
    ∃ v k : Nat, r = acc + v * 128 ^ i ∧ n = (i : Int) + k ∧ 1 ≤ k ∧ k ≤ xs.length ∧ gs v = xs.take k ∧ (0 < i → 0 < v) ∧ v < 2 ^ (64 - 7 * i) := by
  induction xs with
  | nil => intro i acc r n _ _ h; simp [rd_nil] at h
  | cons c t ih =>
    intro i acc r n hi hx h
    have hc := hx c (by simp)
    rw [rd_cons] at h
    by_cases h1 : i = 9 ∧ 1 < c
    · rw [if_pos h1] at h; simp at h
    · rw [if_neg h1] at h
      by_cases h2 : 128 ≤ c
      · rw [if_pos h2] at h
        have hi8 : i + 1 ≤ 9 := by omega
        obtain ⟨v, k, hr, hn, hk1, hk2, hg, hv0, hv⟩ := ih (i + 1) _ r n hi8 (fun x hx' => hx x (by simp [hx'])) h
        have hvp := hv0 (by omega)
        refine ⟨c.toNat % 128 + 128 * v, k + 1, ?_, by omega, by omega, by simp; omega, ?_, fun _ => by omega, ?_⟩
        · rw [hr, Int.pow_succ]
          have e : ((c.toNat % 128 + 128 * v : Nat) : Int) = c % 128 + 128 * (v : Int) := by omega
          rw [e]
          generalize (128 : Int) ^ i = p
          rw [Int.add_mul, Int.mul_comm p 128, ← Int.mul_assoc, Int.mul_comm (v : Int) 128, Int.add_assoc]
        · rw [gs_big (by omega), List.take_succ_cons, ← hg]
          congr 1
          · omega
          · congr 1; omega
        · have e : 2 ^ (64 - 7 * i) = 2 ^ (64 - 7 * (i + 1)) * 128 := by
            rw [show 64 - 7 * i = 64 - 7 * (i + 1) + 7 by omega, Nat.pow_add]
          omega
      · rw [if_neg h2] at h
        by_cases h3 : c = 0 ∧ 0 < i
        · rw [if_pos h3] at h; simp at h
        · rw [if_neg h3] at h
          simp only [Prod.mk.injEq] at h
          refine ⟨c.toNat, 1, ?_, by omega, by omega, by simp, ?_, fun _ => by omega, ?_⟩
          · rw [← h.1, Int.toNat_of_nonneg hc.1]
          · rw [gs_small (by omega)]
            simp [Int.toNat_of_nonneg hc.1]
          · by_cases h9 : i = 9
            · subst h9; simp; omega
            · have : 2 ^ 7 ≤ 2 ^ (64 - 7 * i) := Nat.pow_le_pow_right (by omega) (by omega)
              have : (2 : Nat) ^ 7 = 128 := rfl
              omega

theorem rd_err (xs : List Int) : ∀ (i : Nat) (acc : Int), (rd i acc xs).2.2 = 0 ∨ ((rd i acc xs).1 = 0 ∧ (rd i acc xs).2.1 = 0 ∧ ((rd i acc xs).2.2 = 2 ∨ (rd i acc xs).2.2 = 3)) := by
  induction xs with
  | nil => intro i acc; right; simp [rd_nil]
  | cons c t ih =>
    intro i acc
    rw [rd_cons]
    by_cases h1 : i = 9 ∧ 1 < c
    · rw [if_pos h1]; right; simp
    · rw [if_neg h1]
      by_cases h2 : 128 ≤ c
      · rw [if_pos h2]; exact ih _ _
      · rw [if_neg h2]
        by_cases h3 : c = 0 ∧ 0 < i
        · rw [if_pos h3]; right; simp
        · rw [if_neg h3]; left; rfl

/-- how the numbers stand one behind the other -/
def allG (l : List Int) : List Int := l.flatMap fun x => gs x.toNat
theorem allG_take (l : List Int) (k : Nat) (h : k < l.length) : allG (l.take (k + 1)) = allG (l.take k) ++ gs (l.getD k 0).toNat := by
  rw [List.take_succ_eq_append_getElem h, List.getD_eq_getElem?_getD, List.getElem?_eq_getElem h]
  unfold allG
  rw [List.flatMap_append, List.flatMap_singleton]; rfl
theorem allG_drop (l : List Int) (k : Nat) (h : k < l.length) : allG (l.drop k) = gs (l.getD k 0).toNat ++ allG (l.drop (k + 1)) := by
  rw [List.drop_eq_getElem_cons h, List.getD_eq_getElem?_getD, List.getElem?_eq_getElem h]
  rfl
theorem allG_len (l : List Int) (h : ∀ x ∈ l, 0 ≤ x ∧ x ≤ 18446744073709551615) : (allG l).length ≤ 10 * l.length := by
  induction l with
  | nil => simp [allG]
  | cons a t ih =>
    have ha := h a (by simp)
    have h1 := gs_le10 (v := a.toNat) (by omega)
    have h2 := ih (fun x hx => h x (by simp [hx]))
    simp only [allG, List.flatMap_cons, List.length_append, List.length_cons] at h2 ⊢
    omega

/-! signs -/
def zig (n : Int) : Int := if 0 ≤ n then 2 * n else -2 * n - 1
def zag (v : Int) : Int := if v % 2 = 0 then v / 2 else -(v / 2) - 1
theorem zag_zig (n : Int) : zag (zig n) = n := by
  unfold zag zig
  split <;> split <;> omega
theorem zig_zag (v : Int) (h : 0 ≤ v) : zig (zag v) = v := by
  unfold zag zig
  split <;> split <;> omega
theorem zig_bounds (n : Int) (h0 : -9223372036854775808 ≤ n) (h1 : n ≤ 9223372036854775807) : 0 ≤ zig n ∧ zig n ≤ 18446744073709551615 := by
  unfold zig; split <;> omega
theorem zag_bounds (v : Int) (h0 : 0 ≤ v) (h1 : v ≤ 18446744073709551615) : -9223372036854775808 ≤ zag v ∧ zag v ≤ 9223372036854775807 := by
  unfold zag; split <;> omega

theorem allG_range (l : List Int) : ∀ x ∈ allG l, 0 ≤ x ∧ x ≤ 255 := by
  intro x hx
  simp only [allG, List.mem_flatMap] at hx
  obtain ⟨y, _, hy⟩ := hx
  exact gs_range _ x hy
theorem allG_le (l : List Int) (k : Nat) (h : ∀ x ∈ l, 0 ≤ x ∧ x ≤ 18446744073709551615) : (allG (l.take k)).length ≤ 10 * l.length := by
  have h1 := allG_len (l.take k) (fun x hx => h x (List.mem_of_mem_take hx))
  have h2 : (l.take k).length ≤ l.length := by rw [List.length_take]; omega
  omega

end Go.Proofs.YthapipgaohlgdabGreatDoor

/- Contracts of package varint: Size, Zig, Zag, groups. -/
namespace Go.Proofs.YthapipgaohlgdabGreatDoor
open Go.RowKit

theorem Tryz.infoU8 : (Tryz.prog.info? 5).map (fun i => (i.zero, i.size, i.bytes)) = some (some (.int .u8 0), 1, 1) := by kernel_rfl

set_option maxHeartbeats 400000 in
set_option maxRecDepth 100000 in
theorem zig_any (n : Int) (w : World) (h0 : -9223372036854775808 ≤ n) (h1 : n ≤ 9223372036854775807) :
    Calls Tryz.prog 44 #[.int .i64 n] w fun e w' => e = .returned (.int .u64 (zig n)) ∧ w = w' := by
  go_enter Tryz.func44, Tryz.ntmps44
  go_wp2
  all_goals go_ret
  all_goals refine ⟨ret_int ?_, rfl⟩
  all_goals (unfold zig; split <;> omega)
set_option maxHeartbeats 400000 in
set_option maxRecDepth 100000 in
theorem zag_any (v : Int) (w : World) (h0 : 0 ≤ v) (h1 : v ≤ 18446744073709551615) :
    Calls Tryz.prog 99 #[.int .u64 v] w fun e w' => e = .returned (.int .i64 (zag v)) ∧ w = w' := by
  go_enter Tryz.func99, Tryz.ntmps99
  go_wp2
  all_goals go_ret
  all_goals refine ⟨ret_int ?_, rfl⟩
  all_goals (rename_i h; simp at h; unfold zag; split <;> omega)

theorem and7 (x : Nat) (h : x < 18446744073709551616) : bits .and .u64 (x : Int) 127 = ((x % 128 : Nat) : Int) := by
  rw [show (127 : Int) = ((127 : Nat) : Int) from rfl, u64_and_nat _ _ h (by omega), nat_mask7]

set_option maxHeartbeats 400000 in
set_option maxRecDepth 100000 in
/-- THE GROUPS of a number: new memory. -/
theorem groups_any (v : Int) (w : World) (h0 : 0 ≤ v) (h1 : v ≤ 18446744073709551615) :
    Calls Tryz.prog 23 #[.int .u64 v] w fun e w' => ∃ v', e = .returned v' ∧ w'.ownsRow w.heap.size 5 1 v' (gs v.toNat).length ((gs v.toNat).map (Value.int .u8)) ∧ Only (fun _ => False) w w' := by
  obtain ⟨i0, hi, hz0, hz1, hz2⟩ := info_parts Tryz.infoU8
  have hmk : ∀ w, (Instr.makeSlice 29 (.int .i64 0) (.int .i64 10)).run Tryz.prog w = .ok (.slice (some ⟨w.heap.size, 0, none⟩) 0 10) (w.alloc (.cells #[.int .u8 0, .int .u8 0, .int .u8 0, .int .u8 0, .int .u8 0, .int .u8 0, .int .u8 0, .int .u8 0, .int .u8 0, .int .u8 0] 5)) := fun _ => by kernel_rfl
  have START : Hid ((w.alloc (.cells #[.int .u8 0, .int .u8 0, .int .u8 0, .int .u8 0, .int .u8 0, .int .u8 0, .int .u8 0, .int .u8 0, .int .u8 0, .int .u8 0] 5)).ownsRow w.heap.size 5 1 (.slice (some ⟨w.heap.size, 0, none⟩) 0 10) 0 []) :=
    World.ownsRow_made w _ 10 (Nat.le_refl _) (by unfold maxLen; omega) rfl
  have H10 := hideIt (gs_le10 (v := v.toNat) (by omega))
  go_enter Tryz.func23, Tryz.ntmps23
  go_wp2
  go_loopw [0, 3] (fun a o wr => ∃ (x k : Nat) (p : List Int), a = .int .u64 x ∧ x < 18446744073709551616 ∧ p ++ gs x = gs v.toNat ∧ k = p.length ∧ wr.ownsRow w.heap.size 5 1 o k (p.map (Value.int .u8)) ∧ Below w.heap.size w wr) (fun a _ _ => (intOf a).toNat)
  case atStart => exact ⟨v.toNat, 0, [], by rw [Int.toNat_of_nonneg h0], by omega, rfl, rfl, START.out, (Below.refl _ _).alloc (Nat.le_refl _) _⟩
  case round =>
    obtain ⟨x, k, p, rfl, hx, hp, hk, hown, hbel⟩ := hrel
    have hk9 : k ≤ 9 := by
      have h := congrArg List.length hp
      have := H10.out
      have := gs_pos x
      rw [List.length_append] at h
      omega
    have HP := hideIt hp
    have HK := hideIt hk
    have hsz := hbel.size
    clear hp hk START
    by_cases hlt : 127 < x
    · have hlt' : decide (127 < (x : Int)) = true := by simp; omega
      have B7 := and7 x hx
      obtain ⟨r, hr⟩ : ∃ r : Nat, r = x % 128 := ⟨_, rfl⟩
      have hr1 : r < 128 := by omega
      rw [← hr] at B7
      have HR := hideIt hr
      clear hr
      go_wp2_with (at_builtin; refine wpList_append_lies _ rfl _ _ _ rfl w.heap.size 5 i0 (.int .u8 0) 1 1 Tryz.underlying29 hi hz0 hz1 hz2 rfl (by omega) _ k (p.map (Value.int .u8)) rfl (hown.alloc _) ⟨wr.heap.size, 0, none⟩ 1 1 [.int .u8 ((r : Int) + 128)] rfl rfl ?c1 ?c2 (by omega) ?c3 ?c4 ?c5 (wr.heap.size + 1) (by simp) ?_)
      case c1 => exact cell_one_new _ _ _
      case c2 => intro u hu; simp at hu; subst hu; rfl
      case c3 => unfold maxLen; omega
      case c4 => omega
      case c5 => simp; omega
      intro g cap1 w1 hown1 hgrow hat hg1
      have hb1 : Below w.heap.size w w1 := (hbel.alloc hbel.size _).grown hgrow (by simp; omega) (fun q hq => (hown.lt q hq).1)
      have hown2 : w1.ownsRow w.heap.size 5 1 (.slice (some ⟨g, 0, none⟩) (k + 1) cap1) (k + 1) ((p ++ [(r : Int) + 128]).map (Value.int .u8)) := by
        rw [List.map_append]; exact hown1
      clear hown hown1 hgrow hat hbel
      go_wp2
      go_roundw
      case rel =>
        refine ⟨x / 128, k + 1, p ++ [(r : Int) + 128], by go_num, by omega, ?_, by rw [List.length_append, ← HK.out]; rfl, hown2, hb1⟩
        rw [← HP.out, gs_big (v := x) (by omega), ← HR.out]
        simp
      case measure => simp [intOf]; omega
    · have hlt' : decide (127 < (x : Int)) = false := by simp; omega
      go_wp2_with (at_builtin; refine wpList_append_lies _ rfl _ _ _ rfl w.heap.size 5 i0 (.int .u8 0) 1 1 Tryz.underlying29 hi hz0 hz1 hz2 rfl (by omega) _ k (p.map (Value.int .u8)) rfl (hown.alloc _) ⟨wr.heap.size, 0, none⟩ 1 1 [.int .u8 (x : Int)] rfl rfl ?c1 ?c2 (by omega) ?c3 ?c4 ?c5 (wr.heap.size + 1) (by simp) ?_)
      case c1 => exact cell_one_new _ _ _
      case c2 => intro u hu; simp at hu; subst hu; rfl
      case c3 => unfold maxLen; omega
      case c4 => omega
      case c5 => simp; omega
      intro g cap1 w1 hown1 hgrow hat hg1
      have hb1 : Below w.heap.size w w1 := (hbel.alloc hbel.size _).grown hgrow (by simp; omega) (fun q hq => (hown.lt q hq).1)
      have hown2 : Hid (w1.ownsRow w.heap.size 5 1 (.slice (some ⟨g, 0, none⟩) (k + 1) cap1) (gs v.toNat).length ((gs v.toNat).map (Value.int .u8))) := by
        rw [← HP.out, gs_small (v := x) (by omega), List.length_append, ← HK.out, List.map_append]; exact hown1
      have hb2 := hideIt hb1
      clear hown hown1 hgrow hat hbel hb1
      go_wp2
      go_ret
      exact ⟨_, rfl, hown2.out, only_of_below hb2.out⟩
end Go.Proofs.YthapipgaohlgdabGreatDoor

/- Contracts of slices.Grow of nothing, slices.Concat of two slices of bytes, and of package varint's Append. -/
namespace Go.Proofs.YthapipgaohlgdabGreatDoor
open Go.RowKit

set_option maxHeartbeats 800000 in
set_option maxRecDepth 100000 in
theorem grow_nil (n : Nat) (w : World) (h0 : 0 < n) (h1 : n ≤ 140737488355328) :
    Calls Tryz.prog 21 #[.slice none 0 0, .int .i64 n] w fun e w' => ∃ G, e = .returned (.slice (some ⟨w.heap.size, 0, none⟩) 0 G) ∧ w'.ownsRow w.heap.size 5 1 (.slice (some ⟨w.heap.size, 0, none⟩) 0 G) 0 [] ∧ Only (fun _ => False) w w' := by
  obtain ⟨i0, hi, hz0, hz1, hz2⟩ := info_parts Tryz.infoU8
  have hrz : ∀ ty, (Builtin.append_ #[29, 3] ty #[.slice none 0 0, .int .i64 (n : Int)]).run Tryz.prog w =
      .ok (.slice (some ⟨w.heap.size, 0, none⟩) n (grownCap w n 0 5)) (w.drew.alloc (.cells (Builtin.zeroCells (Value.int .u8 0).cells n ++ Builtin.zeroCells (Value.int .u8 0).cells (grownCap w n 0 5 - n)) 5)) := fun ty =>
    Lib.run_append_nil_zeros w 29 3 ty 5 i0 (.int .u8 0) .i64 .i64 Tryz.underlying29 Tryz.underlying3 hi hz0 n h0 (by omega) (by omega) (by rw [hz2]; omega)
  have hGn : n ≤ grownCap w n 0 5 := grownCap_ge w _ _ _
  have hGm : grownCap w n 0 5 ≤ maxLen := grownCap_le_maxLen w n 0 5 (by unfold maxLen; omega)
  obtain ⟨G, hG⟩ : ∃ G, G = grownCap w n 0 5 := ⟨_, rfl⟩
  rw [← hG] at hrz hGn hGm
  have hG63 : G ≤ 9223372036854775807 := by unfold maxLen at hGm; omega
  have HM := hideIt hGm
  have d0 : decide ((n : Int) < 0) = false := by simp
  have d1 : decide (0 < (n : Int)) = true := by simp; omega
  obtain ⟨cs, hcs⟩ : ∃ cs, cs = Builtin.zeroCells (Value.int .u8 0).cells n ++ Builtin.zeroCells (Value.int .u8 0).cells (G - n) := ⟨_, rfl⟩
  have hsz : Hid (cs.size = G * 1) := by
    have hs : ∀ q, (Builtin.zeroCells (Value.int .u8 0).cells q).size = q := fun q => by simp [Builtin.zeroCells, Value.cells]
    simp only [Hid]
    rw [hcs, Array.size_append, hs, hs]; omega
  rw [← hcs] at hrz
  clear hG hGm hcs
  go_enter Tryz.func21, Tryz.ntmps21
  go_wp2_with (at_builtin; refine Lib.wpList_append_run _ rfl _ _ _ _ rfl _ _ rfl rfl _ _ (hrz _) ?_)
  go_ret
  exact ⟨G, rfl, World.ownsRow_made (w := w.drew) (base := w.heap.size) (e := 5) (size := 1) cs G (Nat.le_refl _) HM.out hsz.out, (Only.refl _ _).drew.alloc _⟩

set_option maxHeartbeats 1600000 in
set_option maxRecDepth 100000 in
/-- TWO SLICES OF BYTES, one behind the other: new memory. -/
theorem concat_two (B : Nat) (va vb : Value) (xs ys : List Int) (w : World) (c0 : w.cell? ⟨B, 0, none⟩ = some va) (c1 : w.cell? ⟨B, 1, none⟩ = some vb)
    (ha : Bs .u8 w va xs) (hb : Bs .u8 w vb ys) (na : NoCap va) (nb : NoCap vb) (hp : 0 < xs.length + ys.length) (hl : xs.length + ys.length ≤ 140737488355328) :
    Calls Tryz.prog 12 #[.slice (some ⟨B, 0, none⟩) 2 2] w fun e w' => ∃ v', e = .returned v' ∧ w'.ownsRow w.heap.size 5 1 v' (xs ++ ys).length ((xs ++ ys).map (Value.int .u8)) ∧ Only (fun _ => False) w w' := by
  obtain ⟨i0, hi, hz0, hz1, hz2⟩ := info_parts Tryz.infoU8
  have HA := hideIt ha
  have HB := hideIt hb
  have NA := hideIt na
  have NB := hideIt nb
  obtain ⟨aa, ca, rfl⟩ := ha.len
  obtain ⟨ab, cb, rfl⟩ := hb.len
  obtain ⟨n, hn⟩ : ∃ n, n = xs.length := ⟨_, rfl⟩
  obtain ⟨m, hm⟩ : ∃ m, m = ys.length := ⟨_, rfl⟩
  rw [← hn] at c0 hp hl HA NA
  rw [← hm] at c1 hp hl HB NB
  have HN := hideIt hn
  have HM := hideIt hm
  have hBw : B < w.heap.size := World.block_lt_of_cell? w _ c0
  clear ha hb na nb hn hm
  go_enter Tryz.func12, Tryz.ntmps12
  go_wp2
  go_loop [3, 11] (fun s i => (i = .int .i64 0 ∧ s = .int .i64 0) ∨ (i = .int .i64 1 ∧ s = .int .i64 n) ∨ (i = .int .i64 2 ∧ s = .int .i64 ((n : Int) + m))) (fun _ i => 2 - (intOf i).toNat)
  case atStart => exact .inl ⟨rfl, rfl⟩
  case round =>
    rcases hrel with ⟨rfl, rfl⟩ | ⟨rfl, rfl⟩ | ⟨rfl, rfl⟩
    · have d0 : decide ((n : Int) < 0) = false := by simp
      go_wp2
      go_round
      case rel => exact .inr (.inl ⟨rfl, rfl⟩)
      case measure => simp [intOf]
    · have d0 : decide ((n : Int) + m < 0) = false := by simp; omega
      go_wp2
      go_round
      case rel => exact .inr (.inr ⟨rfl, rfl⟩)
      case measure => simp [intOf]
    · have GN := hideIt (grow_nil (n + m) w (by omega) (by omega))
      go_wp2_with fail
      rw [show ((n : Int) + (m : Int)) = ((n + m : Nat) : Int) by omega]
      refine GN.out.mono ?_
      rintro e w2 ⟨G, rfl, hown, hon⟩
      have hbel : Below w.heap.size w w2 := hon.low (Nat.le_refl _)
      go_wp2
      go_loopw [6, 27] (fun o i wr => Below w.heap.size w wr ∧ ((i = .int .i64 0 ∧ wr.ownsRow w.heap.size 5 1 o 0 []) ∨ (i = .int .i64 1 ∧ wr.ownsRow w.heap.size 5 1 o n (xs.map (Value.int .u8))) ∨ (i = .int .i64 2 ∧ wr.ownsRow w.heap.size 5 1 o (n + m) ((xs ++ ys).map (Value.int .u8))))) (fun _ i _ => 2 - (intOf i).toNat)
      case atStart => exact ⟨hbel, .inl ⟨rfl, hown⟩⟩
      case round =>
        obtain ⟨hbw, hr⟩ := hrel
        clear hbel hown hon GN
        have d0 := (hbw.cell (p := ⟨B, 0, none⟩) hBw).trans c0
        have d1 := (hbw.cell (p := ⟨B, 1, none⟩) hBw).trans c1
        have hsz := hbw.size
        rcases hr with ⟨rfl, hown⟩ | ⟨rfl, hown⟩ | ⟨rfl, hown⟩
        · have HBA := hideIt (HA.out.later hbw)
          go_wp2_with (at_builtin; refine wpList_append_bs _ rfl _ _ _ rfl w.heap.size 5 i0 (.int .u8 0) 1 Tryz.underlying29 hi hz0 hz1 hz2 rfl _ 0 [] rfl hown .u8 _ xs rfl HBA.out NA.out ?c3 ?c4 hsz ?_)
          case c3 => rw [← HN.out]; unfold maxLen; omega
          case c4 => rw [← HN.out]; omega
          intro v' w3 hown1 hgrow _ _
          rw [← HN.out] at hown1
          have hb3 : Below w.heap.size w w3 := hbw.grown hgrow hsz (fun q hq => (hown.lt q hq).1)
          clear hown hgrow
          go_wp2
          go_roundw
          case rel => exact ⟨hb3, .inr (.inl ⟨rfl, by simpa using hown1⟩)⟩
          case measure => simp [intOf]
        · have HBB := hideIt (HB.out.later hbw)
          go_wp2_with (at_builtin; refine wpList_append_bs _ rfl _ _ _ rfl w.heap.size 5 i0 (.int .u8 0) 1 Tryz.underlying29 hi hz0 hz1 hz2 rfl _ n (xs.map (Value.int .u8)) rfl hown .u8 _ ys rfl HBB.out NB.out ?c3 ?c4 hsz ?_)
          case c3 => rw [← HM.out]; unfold maxLen; omega
          case c4 => rw [← HM.out]; omega
          intro v' w3 hown1 hgrow _ _
          rw [← HM.out, ← List.map_append] at hown1
          have hb3 : Below w.heap.size w w3 := hbw.grown hgrow hsz (fun q hq => (hown.lt q hq).1)
          clear hown hgrow
          go_wp2
          go_roundw
          case rel => exact ⟨hb3, .inr (.inr ⟨rfl, hown1⟩)⟩
          case measure => simp [intOf]
        · go_wp2
          go_ret
          refine ⟨_, rfl, ?_, only_of_below hbw⟩
          rw [List.length_append, ← HN.out, ← HM.out]; exact hown

set_option maxHeartbeats 400000 in
set_option maxRecDepth 100000 in
theorem appended_two (va vb : Value) (xs ys : List Int) (w : World)
    (ha : Bs .u8 w va xs) (hb : Bs .u8 w vb ys) (na : NoCap va) (nb : NoCap vb) (hp : 0 < xs.length + ys.length) (hl : xs.length + ys.length ≤ 140737488355328) :
    Calls Tryz.prog 22 #[va, vb] w fun e w' => ∃ v', e = .returned v' ∧ w'.ownsRow w.heap.size 5 1 v' (xs ++ ys).length ((xs ++ ys).map (Value.int .u8)) ∧ Only (fun _ => False) w w' := by
  have hbl : Below w.heap.size w (w.alloc (.cells #[va, vb] 29)) := (Below.refl _ _).alloc (Nat.le_refl _) _
  have CC := hideIt (concat_two w.heap.size va vb xs ys (w.alloc (.cells #[va, vb] 29)) (by go_cell) (by go_cell) (ha.later hbl) (hb.later hbl) na nb hp hl)
  obtain ⟨aa, ca, rfl⟩ := ha.len
  obtain ⟨ab, cb, rfl⟩ := hb.len
  clear ha hb
  go_enter Tryz.func22, Tryz.ntmps22
  go_wp2_with fail
  refine CC.out.mono ?_
  rintro e w2 ⟨v', rfl, hown, hon⟩
  have F : Hid (w2.ownsRow w.heap.size 5 1 v' (xs ++ ys).length ((xs ++ ys).map (Value.int .u8)) ∧ Only (fun _ => False) w w2) := by
    refine ⟨?_, ((Only.refl _ _).alloc _).trans hon (fun _ _ f => f)⟩
    refine ⟨hown.1, ?_⟩
    rcases hown.2 with h | ⟨g, cap, cur, e, h, r⟩
    · exact .inl h
    · exact .inr ⟨g, cap, cur, e, by simp at h; omega, r⟩
  clear hown hon
  go_wp2
  go_ret
  exact ⟨_, rfl, F.out⟩

set_option maxHeartbeats 400000 in
set_option maxRecDepth 100000 in
/-- APPEND: b, and behind it the groups of v; new memory. -/
theorem append_any (va : Value) (xs : List Int) (v : Int) (w : World) (ha : Bs .u8 w va xs) (na : NoCap va) (hl : xs.length ≤ 1000000000) (h0 : 0 ≤ v) (h1 : v ≤ 18446744073709551615) :
    Calls Tryz.prog 14 #[va, .int .u64 v] w fun e w' => ∃ v', e = .returned v' ∧ w'.ownsRow w.heap.size 5 1 v' (xs ++ gs v.toNat).length ((xs ++ gs v.toNat).map (Value.int .u8)) ∧ Only (fun _ => False) w w' := by
  have H10 := hideIt (gs_le10 (v := v.toNat) (by omega))
  have HP := hideIt (gs_pos v.toNat)
  have HA := hideIt ha
  obtain ⟨aa, ca, rfl⟩ := ha.len
  clear ha
  go_enter Tryz.func14, Tryz.ntmps14
  go_wp2_with fail
  refine (groups_any v _ h0 h1).mono ?_
  rintro e w1 ⟨v1, rfl, hown1, hon1⟩
  have AP := hideIt (appended_two _ v1 xs (gs v.toNat) w1 (HA.out.later (hon1.low (Nat.le_refl _))) (Bs.of_own hown1) na (NoCap.of_own hown1) (by have := HP.out; omega) (by have := H10.out; omega))
  have ON1 := hideIt hon1
  clear hown1 hon1
  go_wp2_with fail
  refine AP.out.mono ?_
  rintro e w2 ⟨v', rfl, hown, hon⟩
  have F : Hid (w2.ownsRow w.heap.size 5 1 v' (xs ++ gs v.toNat).length ((xs ++ gs v.toNat).map (Value.int .u8)) ∧ Only (fun _ => False) w w2) := by
    refine ⟨?_, ON1.out.trans hon (fun _ _ f => f)⟩
    refine ⟨hown.1, ?_⟩
    rcases hown.2 with h | ⟨g, cap, cur, e, h, r⟩
    · exact .inl h
    · exact .inr ⟨g, cap, cur, e, by have := ON1.out.size; omega, r⟩
  clear hown hon
  go_wp2
  go_ret
  exact ⟨_, rfl, F.out⟩
end Go.Proofs.YthapipgaohlgdabGreatDoor

/- Contract of package varint's Read: what is read of any bytes, or why nothing is. -/
namespace Go.Proofs.YthapipgaohlgdabGreatDoor
open Go.RowKit

theorem rd_at (xs : List Int) (k : Nat) (acc : Int) (h : k < xs.length) : rd k acc (xs.drop k) = if k = 9 ∧ 1 < xs.getD k 0 then (0, 0, 3) else if 128 ≤ xs.getD k 0 then rd (k + 1) (acc + xs.getD k 0 % 128 * 128 ^ k) (xs.drop (k + 1)) else if xs.getD k 0 = 0 ∧ 0 < k then (0, 0, 3) else (acc + xs.getD k 0 * 128 ^ k, (k : Int) + 1, 0) := by
  rw [List.drop_eq_getElem_cons h, rd_cons, List.getD_eq_getElem?_getD, List.getElem?_eq_getElem h]
  rfl

theorem v_or_step (k acc : Nat) (c : Int) (hk : k ≤ 9) (hacc : acc < 128 ^ k) (c0 : 0 ≤ c) (c1 : c ≤ 255) (h9 : k = 9 → c ≤ 1) :
    bits .or .u64 (acc : Int) (IntKind.u64.wrap (IntKind.u64.wrap (bits .and .u8 c 127) * 2 ^ (7 * k))) = ((acc + (c % 128).toNat * 128 ^ k : Nat) : Int) ∧ acc + (c % 128).toNat * 128 ^ k < 128 ^ (k + 1) := by
  obtain ⟨m, rfl⟩ := Int.eq_ofNat_of_zero_le c0
  have e : ((m : Int) % 128).toNat = m % 128 := by omega
  rw [e, show (127 : Int) = ((127 : Nat) : Int) from rfl, u8_and_nat _ _ (by omega) (by omega), nat_mask7]
  have w1 : IntKind.u64.wrap ((m % 128 : Nat) : Int) = ((m % 128 : Nat) : Int) := by rw [IntKind.wrap_u64]; omega
  have p1 : (2 : Nat) ^ (7 * k) = 128 ^ k := by rw [Nat.pow_mul]
  have w2 : ((m % 128 : Nat) : Int) * 2 ^ (7 * k) = ((m % 128 * 128 ^ k : Nat) : Int) := by
    rw [← p1]; simp
  have hlt : m % 128 * 128 ^ k < 18446744073709551616 := by
    rcases Nat.lt_or_ge k 9 with h | h
    · have h1 : m % 128 * 128 ^ k ≤ 127 * 128 ^ k := Nat.mul_le_mul_right _ (by omega)
      have h2 : 128 ^ k ≤ 128 ^ 8 := Nat.pow_le_pow_right (by omega) (by omega)
      have h3 : (128 : Nat) ^ 8 = 72057594037927936 := by decide
      omega
    · have hk : k = 9 := by omega
      subst hk
      have := h9 rfl
      have h3 : (128 : Nat) ^ 9 = 9223372036854775808 := by decide
      have h1 : m % 128 * 128 ^ 9 ≤ 1 * 128 ^ 9 := Nat.mul_le_mul_right _ (by omega)
      omega
  have hacc2 : acc < 18446744073709551616 := by
    have h2 : 128 ^ k ≤ 128 ^ 9 := Nat.pow_le_pow_right (by omega) (by omega)
    have h3 : (128 : Nat) ^ 9 = 9223372036854775808 := by decide
    omega
  have w3 : IntKind.u64.wrap ((m % 128 * 128 ^ k : Nat) : Int) = ((m % 128 * 128 ^ k : Nat) : Int) := by rw [IntKind.wrap_u64]; omega
  rw [w1, w2, w3, u64_or_nat _ _ hacc2 hlt, Nat.or_comm, nat_join (7 * k) _ _ (by rw [p1]; exact Nat.mul_mod_left _ _) (by rw [p1]; exact hacc), Nat.add_comm]
  refine ⟨rfl, ?_⟩
  rw [Nat.pow_succ]
  have h1 : m % 128 * 128 ^ k ≤ 127 * 128 ^ k := Nat.mul_le_mul_right _ (by omega)
  omega
theorem val_step (k acc : Nat) (c : Int) (c0 : 0 ≤ c) (h : c < 128) : ((acc + (c % 128).toNat * 128 ^ k : Nat) : Int) = acc + c * 128 ^ k := by
  obtain ⟨m, rfl⟩ := Int.eq_ofNat_of_zero_le c0
  have e : ((m : Int) % 128).toNat = m := by omega
  rw [e]; simp
theorem val_more (k acc : Nat) (c : Int) : ((acc + (c % 128).toNat * 128 ^ k : Nat) : Int) = acc + c % 128 * 128 ^ k := by
  have e : ((c % 128).toNat : Int) = c % 128 := by omega
  simp [e]

/-- what the tuple holds -/
def rdVal (r : Int × Int × Int) : Value := .tuple #[.int .u64 r.1, .int .i64 r.2.1, .int .i64 r.2.2]
theorem ret_rd {a b c : Int} {r : Int × Int × Int} (h1 : a = r.1) (h2 : b = r.2.1) (h3 : c = r.2.2) : Ending.returned (.tuple #[.int .u64 a, .int .i64 b, .int .i64 c]) = .returned (rdVal r) := by
  rw [h1, h2, h3]; rfl

set_option maxHeartbeats 800000 in
set_option maxRecDepth 100000 in
theorem read_bs (va : Value) (xs : List Int) (w : World) (ha : Bs .u8 w va xs) (hr : ∀ x ∈ xs, 0 ≤ x ∧ x ≤ 255) :
    Calls Tryz.prog 48 #[va] w fun e w' => e = .returned (rdVal (rd 0 0 xs)) ∧ w = w' := by
  have HA := hideIt ha
  have HR := hideIt hr
  obtain ⟨aa, ca, rfl⟩ := ha.len
  obtain ⟨n, hn⟩ : ∃ n, n = xs.length := ⟨_, rfl⟩
  rw [← hn] at HA
  rw [← hn]
  have HN := hideIt hn
  obtain ⟨R, hR⟩ : ∃ R, R = rd 0 0 xs := ⟨_, rfl⟩
  rw [← hR]
  have HRD := hideIt hR
  clear ha hr hn hR
  go_enter Tryz.func48, Tryz.ntmps48
  go_wp2
  go_loop [5, 10] (fun a i => ∃ (k : Nat) (acc : Nat), k ≤ n ∧ k ≤ 9 ∧ i = .int .i64 k ∧ a = .int .u64 acc ∧ acc < 128 ^ k ∧ rd k acc (xs.drop k) = R) (fun _ i => n - (intOf i).toNat)
  case atStart => exact ⟨0, 0, by omega, by omega, rfl, rfl, by simp, by simpa using HRD.out.symm⟩
  case round =>
    obtain ⟨k, acc, hk, hk9, rfl, rfl, hacc, hrd⟩ := hrel
    by_cases hlt : k < n
    · obtain ⟨b, off, cap', e1, hc⟩ := HA.out.at k (by rw [← HN.out]; exact hlt)
      have ea : aa = some ⟨b, off, none⟩ := by simp at e1; exact e1.1
      subst ea
      clear e1
      have hcr := HR.out (xs.getD k 0) (by rw [List.getD_eq_getElem?_getD, List.getElem?_eq_getElem (by rw [← HN.out]; exact hlt)]; simp)
      rw [rd_at xs k _ (by rw [← HN.out]; exact hlt)] at hrd
      generalize xs.getD k 0 = c at hc hcr hrd
      have HD := hideIt hrd
      have HACC := hideIt hacc
      clear hrd hacc
      have i0 : (0 : Int) ≤ (k : Int) := by omega
      have i1 : (k : Int) < (n : Int) := by omega
      by_cases hF : k = 9 ∧ 1 < c
      · obtain ⟨rfl, h1c⟩ := hF
        have hRR : R = (0, 0, 3) := by have := HD.out; rw [if_pos ⟨rfl, h1c⟩] at this; exact this.symm
        subst hRR
        go_wp2
        go_ret3
        exact ⟨rfl, rfl⟩
      · have OS := hideIt (v_or_step k acc c hk9 HACC.out hcr.1 hcr.2 (by omega))
        by_cases h128 : 128 ≤ c
        · have d9 : ((k : Int) == 9) = false := by simp; omega
          go_wp2
          go_round
          case rel =>
            refine ⟨k + 1, acc + (c % 128).toNat * 128 ^ k, by omega, by omega, by go_num, by rw [OS.out.1], OS.out.2, ?_⟩
            have := HD.out
            rw [if_neg hF, if_pos h128] at this
            rw [val_more k acc c]; exact this
          case measure => simp [intOf]; omega
        · by_cases h0 : c = 0 ∧ 0 < k
          · obtain ⟨rfl, hk0⟩ := h0
            have hRR : R = (0, 0, 3) := by have := HD.out; rw [if_neg hF, if_neg h128, if_pos ⟨rfl, hk0⟩] at this; exact this.symm
            subst hRR
            by_cases h9 : k = 9
            · subst h9
              go_wp2
              go_ret3
              exact ⟨rfl, rfl⟩
            · have d9 : ((k : Int) == 9) = false := by simp; omega
              have dk : decide (0 < (k : Int)) = true := by simp; omega
              go_wp2
              go_ret3
              exact ⟨rfl, rfl⟩
          · have hRR : R = (acc + c * 128 ^ k, (k : Int) + 1, 0) := by have := HD.out; rw [if_neg hF, if_neg h128, if_neg h0] at this; exact this.symm
            subst hRR
            have VS := hideIt (val_step k acc c hcr.1 (by omega))
            by_cases h9 : k = 9
            · subst h9
              have hc0 : (c == 0) = false := by simp; omega
              have O9 := hideIt (OS.out.1.trans VS.out)
              rw [show (2 : Int) ^ (7 * 9) = 9223372036854775808 by decide] at O9
              go_wp2
              go_ret3
              exact ⟨ret_rd O9.out rfl rfl, rfl⟩
            · have d9 : ((k : Int) == 9) = false := by simp; omega
              have O9 := hideIt (OS.out.1.trans VS.out)
              by_cases hc0 : c = 0
              · have dk : decide (0 < (k : Int)) = false := by simp; omega
                subst hc0
                go_wp2
                go_ret3
                exact ⟨ret_rd (O9.out.trans (by simp)) rfl rfl, rfl⟩
              · have dc : (c == 0) = false := by simp; omega
                go_wp2
                go_ret3
                exact ⟨ret_rd O9.out rfl rfl, rfl⟩
    · have hkn : k = n := by omega
      subst hkn
      have hRR : R = (0, 0, 2) := by rw [← hrd, List.drop_of_length_le (by rw [← HN.out]; omega)]; rfl
      subst hRR
      clear hrd hacc
      go_wp2
      go_ret3
      exact ⟨rfl, rfl⟩
theorem read_as (va : Value) (xs : List Int) (w : World) {a b c : Int} (h : rd 0 0 xs = (a, b, c)) (ha : Bs .u8 w va xs) (hr : ∀ x ∈ xs, 0 ≤ x ∧ x ≤ 255) :
    Calls Tryz.prog 48 #[va] w fun e w' => e = .returned (.tuple #[.int .u64 a, .int .i64 b, .int .i64 c]) ∧ w = w' := by
  have := read_bs va xs w ha hr
  rw [h] at this
  exact this
end Go.Proofs.YthapipgaohlgdabGreatDoor

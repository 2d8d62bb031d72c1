/- math/bits.TrailingZeros64 over its table, and package gorilla's window. -/
import Derived.Test.YthpcibofcgjcdaaDoorGm2
import Derived.Lib.TrailingZeros
import Derived.Laws.Bits64b
import Derived.WalkSpells
import Derived.Laws.Rows
import Derived.Deep.WholeRow
import Derived.Deep.RegionHeld3
namespace Go.Proofs.YthpcibofcgjcdaaDoor
open Go.RowKit

/-- the table of the lowest bits' places lies in its variable -/
def Tab (w : World) : Prop := ∀ j, j < 64 → w.cell? ⟨0, j, none⟩ = some (.int .u8 ((Lib.deBruijn64tab.getD j 0 : Nat) : Int))
theorem Tab.pos {w : World} (h : Tab w) : 0 < w.heap.size := by
  rcases Nat.eq_zero_or_pos w.heap.size with e | e
  · have := h 0 (by omega)
    have e2 : w.heap[0]? = none := Array.getElem?_eq_none (by omega)
    simp [World.cell?, e2] at this
  · exact e
theorem Tab.keep {w w' : World} (h : Tab w) {S : Nat → Prop} (o : Only S w w') (hs : ¬ S 0) : Tab w' := by
  intro j hj
  have e := o.block 0 h.pos hs
  have := h j hj
  simpa [World.cell?, e] using this
theorem Tab.past {w w' : World} (h : Tab w) (o : Only (fun _ => False) w w') : Tab w' := h.keep o (fun f => f)
theorem Tab.below {w w' : World} {N : Nat} (h : Tab w) (o : Below N w w') (hN : 0 < N) : Tab w' := by
  intro j hj
  have e := o.block 0 hN
  have := h j hj
  simpa [World.cell?, e] using this

theorem ctz_tz : ∀ (f x : Nat), Lib.ctzFrom f x = tzF f x
  | 0, _ => rfl
  | f + 1, x => by
    rw [Lib.ctzFrom, tzF]
    by_cases h : x % 2 = 1
    · rw [if_pos h, if_neg (by omega)]
    · rw [if_neg h, if_pos (by omega), ctz_tz f (x / 2)]; omega
theorem low_bit {x : Nat} (h0 : 0 < x) (hx : x < 18446744073709551616) : x &&& (18446744073709551616 - x) = 2 ^ tz x ∧ tz x < 64 := by
  have h := Lib.lowest_bit 64 x (by omega) (by rw [p64]; exact hx)
  have e : Lib.ctz 64 x = tz x := by unfold Lib.ctz tz; rw [if_neg (by omega), ctz_tz]
  rw [e, p64] at h
  exact h
theorem tz_key {n a : Nat} (hn : n < 18446744073709551616) (h0 : 0 < n) (hlow : n &&& (18446744073709551616 - n) = a) :
    IntKind.u64.wrap (bits BinOp.and IntKind.u64 (n : Int) (IntKind.u64.wrap (-(n : Int))) * 285870213051353865) / 288230376151711744 = ((a * 285870213051353865 % 18446744073709551616 / 288230376151711744 : Nat) : Int) := by
  have e1 : IntKind.u64.wrap (-(n : Int)) = ((18446744073709551616 - n : Nat) : Int) := by rw [IntKind.wrap_u64]; omega
  rw [e1, bits_and_u64_nat n _ hn (by omega), hlow, IntKind.wrap_u64]
  omega
set_option maxHeartbeats 1000000 in
theorem tz_core (n k i : Nat) (w : World) (hne : ((n : Int) == 0) = false)
    (key : IntKind.u64.wrap (bits BinOp.and IntKind.u64 (n : Int) (IntKind.u64.wrap (-(n : Int))) * 285870213051353865) / 288230376151711744 = (i : Int))
    (hi : i < 64) (hk : k < 64) (hc : w.cell? ⟨0, i, none⟩ = some (.int .u8 k)) :
    Calls Tryd.prog 43 #[.int .u64 n] w fun e w' => e = .returned (.int .i64 k) ∧ w = w' := by
  go_enter Tryd.func43, Tryd.ntmps43
  go_wp2_with (simp only [key])
  go_ret
  exact ⟨rfl, rfl⟩
theorem tz_any (x : Int) (w : World) (h0 : 0 < x) (hx : x ≤ 18446744073709551615) (hT : Tab w) :
    Calls Tryd.prog 43 #[.int .u64 x] w fun e w' => e = .returned (.int .i64 (tz x.toNat : Int)) ∧ w = w' := by
  obtain ⟨n, rfl⟩ := Int.eq_ofNat_of_zero_le (show 0 ≤ x by omega)
  rw [Int.toNat_natCast]
  obtain ⟨h1, hk⟩ := low_bit (x := n) (by omega) (by omega)
  generalize tz n = k at *
  obtain ⟨hi, ht⟩ := Lib.deBruijn64_at k hk
  have hc := hT _ hi
  rw [ht] at hc
  have key := tz_key (by omega) (by omega) h1
  exact tz_core n k _ w (by rw [beq_eq_false_iff_ne]; omega) key hi hk hc

/-! the window -/
theorem Tryd.sizeWin : (Tryd.prog.info? 42).map (·.size) = some 2 := by kernel_rfl
set_option maxHeartbeats 1000000 in
theorem isNone_yes (w : World) :
    Calls Tryd.prog 33 #[.agg #[.int .i64 0, .int .i64 0]] w fun e w' => e = .returned (.bool true) ∧ Only (fun _ => False) w w' := by
  go_enter Tryd.func33, Tryd.ntmps33
  go_wp2
  go_ret
  exact ⟨rfl, (Only.refl _ _).alloc _⟩
set_option maxHeartbeats 1000000 in
theorem isNone_no (a d : Nat) (w : World) (hd : ¬ d = 0) :
    Calls Tryd.prog 33 #[.agg #[.int .i64 a, .int .i64 d]] w fun e w' => e = .returned (.bool false) ∧ Only (fun _ => False) w w' := by
  go_enter Tryd.func33, Tryd.ntmps33
  go_wp2
  all_goals go_ret
  all_goals exact ⟨rfl, (Only.refl _ _).alloc _⟩
set_option maxHeartbeats 1000000 in
theorem trail_any (a d : Nat) (w : World) (ha : a ≤ 64) (hd : d ≤ 64) :
    Calls Tryd.prog 36 #[.agg #[.int .i64 a, .int .i64 d]] w fun e w' => e = .returned (.int .i64 (64 - (a : Int) - d)) ∧ Only (fun _ => False) w w' := by
  go_enter Tryd.func36, Tryd.ntmps36
  go_wp2
  go_ret
  exact ⟨rfl, (Only.refl _ _).alloc _⟩
set_option maxHeartbeats 1000000 in
theorem windowOf_any (x : Int) (w : World) (h0 : 0 < x) (hx : x ≤ 18446744073709551615) (hT : Tab w) :
    Calls Tryd.prog 35 #[.int .u64 x] w fun e w' => e = .returned (.agg #[.int .i64 (ldz x.toNat : Int), .int .i64 ((64 - ldz x.toNat - tz x.toNat : Nat) : Int)]) ∧ Only (fun _ => False) w w' := by
  obtain ⟨hn1, hn2, hn3⟩ := win_new (x := x.toNat) (by omega) (by omega)
  have hw := wid_le64 x.toNat (by omega)
  have T1 := hideIt (hT.past ((Only.refl (fun _ => False) w).alloc (.cells #[.int .i64 0, .int .i64 0] 42)))
  have W1 := hideIt (width_any x (w.alloc (.cells #[.int .i64 0, .int .i64 0] 42)) (by omega) hx)
  have Z1 := hideIt (tz_any x (w.alloc (.cells #[.int .i64 0, .int .i64 0] 42)) h0 hx T1.out)
  have hld : Hid (ldz x.toNat = min (64 - wid x.toNat) 31) := rfl
  generalize wid x.toNat = q at *
  generalize tz x.toNat = z at *
  generalize ldz x.toNat = a at *
  go_enter Tryd.func35, Tryd.ntmps35
  go_wp2_with fail
  refine W1.out.mono ?_
  rintro e w1 ⟨rfl, rfl⟩
  go_wp2_with fail
  all_goals
    refine Z1.out.mono ?_
    rintro e w1 ⟨rfl, rfl⟩
    go_wp2
    refine bodyPost_ret (results_cell_row rfl _ _ w.heap.size 42 _ (0, 0) _ rfl (heap_alloc_last w _) Tryd.underlying42 rfl Tryd.sizeWin) rfl ⟨?_, (Only.refl _ _).alloc _⟩
    have hl := hld.out
  · obtain rfl : a = 31 := by omega
    have e1 : ((64 - 31 - z : Nat) : Int) = 33 - (z : Int) := by omega
    rw [e1]; rfl
  · have e0 : (64 : Int) - (q : Int) = (a : Int) := by omega
    have e1 : ((64 - a - z : Nat) : Int) = 64 - (a : Int) - (z : Int) := by omega
    rw [e0, e1]
end Go.Proofs.YthpcibofcgjcdaaDoor

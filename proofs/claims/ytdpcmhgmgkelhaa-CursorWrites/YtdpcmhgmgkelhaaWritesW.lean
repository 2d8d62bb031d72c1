/- The walk of CursorWrites: what Fix and Block write is what the reference writes. -/
import Derived.Test.YtdpcmhgmgkelhaaCSt
import Derived.Test.YtdpcmhgmgkelhaaCRef2
namespace Go.Proofs.Ytdpcmhgmgkelhaa
open Go.RowKit

/-- Fix of any number of bytes, nothing among them -/
def fixN (v n : Int) : List Int := if n < 0 ∨ 8 < n then [] else fixL v n.toNat
theorem fixN_len (v n : Int) : (fixN v n).length ≤ 8 := by
  unfold fixN
  split
  · simp
  · rw [fixL_len]; omega
theorem fix_bs (v n : Int) (w : World) : Calls Try.prog 24 #[.int .u64 v, .int .i64 n] w fun e w' => ∃ u, e = .returned u ∧ Bs .u8 w' u (fixN v n) ∧ Only (fun _ => False) w w' := by
  by_cases h : n < 0 ∨ 8 < n
  · refine (fix_none v n w h).mono ?_
    rintro e w' ⟨rfl, rfl⟩
    exact ⟨_, rfl, by rw [fixN, if_pos h]; exact Bs.nil _ _, Only.refl _ _⟩
  · obtain ⟨k, rfl⟩ := Int.eq_ofNat_of_zero_le (by omega : 0 ≤ n)
    refine (fix_any v k w (by omega)).mono ?_
    rintro e w' ⟨u, rfl, hown, ho⟩
    exact ⟨_, rfl, by rw [fixN, if_neg h]; exact Bs.of_own hown, ho⟩
theorem rfix_bs (v n : Int) (w : World) : Calls Try.prog 25 #[.int .u64 v, .int .i64 n] w fun e w' => ∃ u, e = .returned u ∧ Bs .u8 w' u (fixN v n) ∧ Only (fun _ => False) w w' := by
  by_cases h : n < 0 ∨ 8 < n
  · refine (rfix_none v n w h).mono ?_
    rintro e w' ⟨rfl, rfl⟩
    exact ⟨_, rfl, by rw [fixN, if_pos h]; exact Bs.nil _ _, Only.refl _ _⟩
  · obtain ⟨k, rfl⟩ := Int.eq_ofNat_of_zero_le (by omega : 0 ≤ n)
    refine (rfix_any v k w (by omega)).mono ?_
    rintro e w' ⟨u, rfl, hown, ho⟩
    exact ⟨_, rfl, by rw [fixN, if_neg h]; exact Bs.of_own hown, ho⟩

set_option maxHeartbeats 400000 in
set_option maxRecDepth 100000 in
/-- CursorWrites ANSWERS TRUE. -/
theorem writes_walk (v n : Int) (vb : Value) (ys : List Int) (w : World) (hb : Bs .u8 w vb ys) (nb : NoCap vb) : Calls Try.prog 4 #[.int .u64 v, .int .i64 n, vb] w fun e w' => e = .returned (.bool true) ∧ Below w.heap.size w w' := by
  have A := hideIt (awake_any w)
  have HB := hideIt hb
  have NB := hideIt nb
  obtain ⟨ab, cb, rfl⟩ := hb.len
  clear hb nb
  by_cases hl : 500 < (ys.length : Int)
  · go_enter Try.func4, Try.ntmps4
    go_wp2_with fail
    refine A.out.mono ?_
    rintro e w1 ⟨rfl, ho⟩
    have O := hideIt (ho.low (Nat.le_refl _))
    clear ho
    go_wp2
    go_ret
    exact ⟨rfl, O.out⟩
  · have dl : decide (500 < (ys.length : Int)) = false := decide_eq_false hl
    go_enter Try.func4, Try.ntmps4
    go_wp2_with fail
    refine A.out.mono ?_
    rintro e w1 ⟨rfl, ho1⟩
    have O1 := hideIt ho1
    clear ho1 A
    go_wp2_with fail
    refine (fix_bs v n w1).mono ?_
    rintro e w2 ⟨u1, rfl, hu1, ho2⟩
    have O2 := hideIt (O1.out.trans ho2 (fun _ _ f => f))
    have U1 := hideIt hu1
    clear hu1 ho2 O1
    go_wp2_with fail
    refine (rfix_bs v n w2).mono ?_
    rintro e w3 ⟨u2, rfl, hu2, ho3⟩
    have S := hideIt (lsame_eq u1 u2 _ w3 (U1.out.keep ho3 (fun _ _ f => f)) hu2 (by have := fixN_len v n; omega))
    have O3 := hideIt (O2.out.trans ho3 (fun _ _ f => f))
    clear hu2 ho3 O2 U1
    go_wp2_with fail
    refine S.out.mono ?_
    rintro e w4 ⟨rfl, ho4⟩
    have O4 := hideIt (O3.out.trans ho4 (fun _ _ f => f))
    have B := hideIt (blk_any _ ys w4 (HB.out.keep O4.out (fun _ _ f => f)) NB.out (by omega))
    clear ho4 O3 S
    go_wp2_with fail
    refine B.out.mono ?_
    rintro e w5 ⟨u3, rfl, hown3, ho5⟩
    have O5 := hideIt (O4.out.trans ho5 (fun _ _ f => f))
    have C := hideIt (rblocked_any _ ys w5 (HB.out.keep O5.out (fun _ _ f => f)) NB.out (by omega))
    have U3 := hideIt (Bs.of_own hown3)
    clear hown3 ho5 O4 B
    go_wp2_with fail
    refine C.out.mono ?_
    rintro e w6 ⟨u4, rfl, hown4, ho6⟩
    have S := hideIt (lsame_eq u3 u4 _ w6 (U3.out.keep ho6 (fun _ _ f => f)) (Bs.of_own hown4) (by have := blk_len ys (by omega); omega))
    have O6 := hideIt (O5.out.trans ho6 (fun _ _ f => f))
    clear hown4 ho6 O5 U3 C
    go_wp2_with fail
    refine S.out.mono ?_
    rintro e w7 ⟨rfl, ho7⟩
    have O7 := hideIt ((O6.out.trans ho7 (fun _ _ f => f)).low (Nat.le_refl _))
    clear ho7 O6 S
    go_wp2
    go_ret
    exact ⟨rfl, O7.out⟩
end Go.Proofs.Ytdpcmhgmgkelhaa

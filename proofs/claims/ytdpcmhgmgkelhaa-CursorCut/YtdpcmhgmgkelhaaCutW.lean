/- The walk of CursorCut: a block that is cut off is too short, above the limit too long, and nothing is read. -/
import Derived.Test.YtdpcmhgmgkelhaaCSt
namespace Go.Proofs.Ytdpcmhgmgkelhaa
open Go.RowKit

theorem sVarint_gs (v : Nat) (t : List Int) (hv : v < 18446744073709551616) : sVarint (gs v ++ t) = ((v : Int), (gs v).length, 0) := by
  unfold sVarint
  rw [rd_gs t v 0 0 (by omega) (by simpa using hv) (by omega)]
  simp
/-- a block is read whole, whatever is behind it -/
theorem blk_back (b t : List Int) (n : Int) (hb : b.length ≤ 1000000) (hn : (b.length : Int) ≤ n) : sBlock n (blk b ++ t) = (b, (blk b).length, 0) := by
  unfold sBlock blk
  rw [List.append_assoc, sVarint_gs _ _ (by omega), if_neg (by omega), if_neg (by simp), if_neg (by simp; omega), if_neg (by simp [List.length_append]; omega)]
  simp
theorem blk_long (b : List Int) (n : Int) (hb : b.length ≤ 1000000) (hn : n < (b.length : Int)) (h0 : 0 ≤ n) : sBlock n (blk b) = ([], 0, 4) := by
  unfold sBlock blk
  rw [sVarint_gs _ _ (by omega), if_neg (by omega), if_neg (by simp), if_pos (by simp; omega)]
theorem blk_cut (b : List Int) (k : Nat) (hb : b.length ≤ 1000000) (hk : k < (blk b).length) : sBlock 1048576 ((blk b).take k) = ([], 0, 2) := by
  have hl : (blk b).length = (gs b.length).length + b.length := by rw [blk, List.length_append]
  by_cases h : k < (gs b.length).length
  · have e : (blk b).take k = (gs b.length).take k := by rw [blk, List.take_append_of_le_length (by omega)]
    have hv : sVarint ((gs b.length).take k) = (0, 0, 2) := by
      unfold sVarint
      rw [rd_short b.length 0 k 0 (by omega) (by simp; omega) h]; rfl
    rw [e, sBlock, if_neg (by omega), hv, if_pos (by simp)]
  · have e : (blk b).take k = gs b.length ++ b.take (k - (gs b.length).length) := by
      rw [blk, List.take_append, List.take_of_length_le (by omega)]
    rw [e, sBlock, if_neg (by omega), sVarint_gs _ _ (by omega), if_neg (by simp), if_neg (by simp; omega), if_pos (by simp only [List.length_append, List.length_take]; omega)]

set_option maxHeartbeats 1000000 in
set_option maxRecDepth 100000 in
/-- CursorCut ANSWERS TRUE. -/
theorem cut_walk (vb : Value) (ys : List Int) (cut less : Int) (w : World) (hb : Bs .u8 w vb ys) (nb : NoCap vb) (hr : ∀ y ∈ ys, 0 ≤ y ∧ y ≤ 255) : Calls Try.prog 6 #[vb, .int .i64 cut, .int .i64 less] w fun e w' => e = .returned (.bool true) ∧ Below w.heap.size w w' := by
  have A := hideIt (awake_any w)
  have HB := hideIt hb
  have NB := hideIt nb
  have HR := hideIt hr
  obtain ⟨ab, cb, rfl⟩ := hb.len
  clear hb nb hr
  by_cases hl : 300 < (ys.length : Int)
  · go_enter Try.func6, Try.ntmps6
    go_wp2_with fail
    refine A.out.mono ?_
    rintro e w1 ⟨rfl, ho⟩
    have O := hideIt (ho.low (Nat.le_refl _))
    clear ho
    go_wp2
    go_ret
    exact ⟨rfl, O.out⟩
  have dl : decide (300 < (ys.length : Int)) = false := decide_eq_false hl
  have B1 : bits .and .i64 cut 511 = cut % 512 := i64_low cut 9 (by omega)
  have B2 : bits .and .i64 less 511 = less % 512 := i64_low less 9 (by omega)
  obtain ⟨k, hk⟩ : ∃ k : Nat, cut % 512 = (k : Int) := ⟨(cut % 512).toNat, by omega⟩
  obtain ⟨m, hm⟩ : ∃ m : Int, less % 512 = m := ⟨_, rfl⟩
  have hk1 : k ≤ 511 := by omega
  have hm0 : 0 ≤ m := by omega
  have hm1 : m ≤ 511 := by omega
  rw [hk] at B1
  rw [hm] at B2
  obtain ⟨L, hL⟩ : ∃ L, L = (blk ys).length := ⟨_, rfl⟩
  have HL := hideIt hL
  have hL1 : L ≤ 310 := by have := blk_len ys (by omega); omega
  have HBR := hideIt (blk_range ys HR.out)
  clear hk hm hL
  go_enter Try.func6, Try.ntmps6
  go_wp2_with fail
  refine A.out.mono ?_
  rintro e w1 ⟨rfl, ho1⟩
  have BA := hideIt (blk_any _ ys w1 (HB.out.keep ho1 (fun _ _ f => f)) NB.out (by omega))
  have O1 := hideIt ho1
  clear ho1 A
  go_wp2_with fail
  refine BA.out.mono ?_
  rintro e w2 ⟨u, rfl, hown, ho2⟩
  have hub := Bs.of_own hown
  have hlt2 := fun k hk => (hown.lt k hk).2
  obtain ⟨ao, cap, rfl⟩ := hub.len
  rw [← HL.out] at hub
  rw [← HL.out]
  have hcap : L ≤ cap := by
    obtain ⟨_, _, e, hc, _⟩ := hub
    simp at e
    omega
  have HLT := hideIt hlt2
  clear hlt2
  have OX := hideIt (And.intro ((O1.out.trans ho2 (fun _ _ f => f)).low (Nat.le_refl _)) hub)
  clear hub hown ho2 O1 BA
  by_cases hkL : (k : Int) < (L : Int)
  · have dk : decide ((k : Int) < (L : Int)) = true := decide_eq_true hkL
    have i0 : (0 : Int) ≤ (k : Int) := by omega
    have i1 : (k : Int) ≤ (L : Int) := by omega
    have i2 : (k : Int) ≤ (cap : Int) := by omega
    have B := hideIt (new_st (w0 := w) OX.out.1 (.slice ao k cap) ((blk ys).take k) (OX.out.2.head (by omega)) (fun y hy => HBR.out y (List.mem_of_mem_take hy)) (by rw [List.length_take]; omega))
    go_wp2_with fail
    refine B.out.mono ?_
    rintro e w3 ⟨R, rfl, hs3, ho3, _⟩
    have C := hideIt (block_st hs3 1048576 (by omega) (blk_cut ys k (by omega) (by have := HL.out; omega)))
    have U3 : Hid (Bs .u8 w3 (.slice ao L cap) (blk ys) ∧ ∀ k, (Value.slice ao L cap).ownBlock = some k → k ≠ R) := ⟨OX.out.2.keep ho3 (fun _ _ f => f), fun k hk e => by have := HLT.out k (by rw [own_any ao _ cap L cap]; exact hk); omega⟩
    clear hs3 B OX ho3
    go_wp2_with fail
    refine C.out.mono ?_
    rintro e w4 ⟨u4, rfl, _, _, _, hs4, ho4⟩
    have D := left_st hs4
    rw [show (((blk ys).take k).drop 0).length = k by rw [List.drop_zero, List.length_take]; have := HL.out; omega] at D
    have D' := hideIt D
    have OX := hideIt (And.intro hs4.below (U3.out.1.past ho4 U3.out.2))
    have dkk : ((k : Int) != (k : Int)) = false := by simp
    clear hs4 ho4 U3 C D
    go_wp2_with fail
    refine D'.out.mono ?_
    rintro e w5 ⟨rfl, rfl⟩

    have dm1 : (m < (ys.length : Int)) ∨ ¬ (m < (ys.length : Int)) := by omega
    rcases dm1 with hm | hm
    · have dm : decide (m < (ys.length : Int)) = true := decide_eq_true hm
      have B := hideIt (new_st (w0 := w) OX.out.1 (.slice ao L cap) (blk ys) OX.out.2 HBR.out (by have := HL.out; omega))
      go_wp2_with fail
      refine B.out.mono ?_
      rintro e wa ⟨Ra, rfl, hsa, _, _⟩
      have C := hideIt (block_st hsa m (by omega) (blk_long ys m (by omega) hm (by omega)))
      clear hsa B OX
      go_wp2_with fail
      refine C.out.mono ?_
      rintro e wb ⟨ub, rfl, _, _, _, hsb, _⟩
      have D := left_st hsb
      rw [show ((blk ys).drop 0).length = L from HL.out.symm] at D
      have D' := hideIt D
      have OB := hideIt hsb.below
      clear hsb C D
      have dL : ((L : Int) != (L : Int)) = false := by simp
      go_wp2_with fail
      refine D'.out.mono ?_
      rintro e wc ⟨rfl, rfl⟩
      go_wp2
      go_ret
      exact ⟨rfl, OB.out⟩
    · have dm : decide (m < (ys.length : Int)) = false := decide_eq_false hm
      have OB := hideIt OX.out.1
      clear OX
      go_wp2
      go_ret
      exact ⟨rfl, OB.out⟩

  · have dk : decide ((k : Int) < (L : Int)) = false := decide_eq_false hkL

    have dm1 : (m < (ys.length : Int)) ∨ ¬ (m < (ys.length : Int)) := by omega
    rcases dm1 with hm | hm
    · have dm : decide (m < (ys.length : Int)) = true := decide_eq_true hm
      have B := hideIt (new_st (w0 := w) OX.out.1 (.slice ao L cap) (blk ys) OX.out.2 HBR.out (by have := HL.out; omega))
      go_wp2_with fail
      refine B.out.mono ?_
      rintro e wa ⟨Ra, rfl, hsa, _, _⟩
      have C := hideIt (block_st hsa m (by omega) (blk_long ys m (by omega) hm (by omega)))
      clear hsa B OX
      go_wp2_with fail
      refine C.out.mono ?_
      rintro e wb ⟨ub, rfl, _, _, _, hsb, _⟩
      have D := left_st hsb
      rw [show ((blk ys).drop 0).length = L from HL.out.symm] at D
      have D' := hideIt D
      have OB := hideIt hsb.below
      clear hsb C D
      have dL : ((L : Int) != (L : Int)) = false := by simp
      go_wp2_with fail
      refine D'.out.mono ?_
      rintro e wc ⟨rfl, rfl⟩
      go_wp2
      go_ret
      exact ⟨rfl, OB.out⟩
    · have dm : decide (m < (ys.length : Int)) = false := decide_eq_false hm
      have OB := hideIt OX.out.1
      clear OX
      go_wp2
      go_ret
      exact ⟨rfl, OB.out⟩

end Go.Proofs.Ytdpcmhgmgkelhaa

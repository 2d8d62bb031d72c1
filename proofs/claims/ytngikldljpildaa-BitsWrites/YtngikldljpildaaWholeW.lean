/- The walk of BitsWhole: it answers true, and nothing that was there is turned. -/
import Derived.Test.YtngikldljpildaaMath3
namespace Go.Proofs.Ytngikldljpildaa
open Go.RowKit

theorem Bs.later {k : IntKind} {w w' : World} {v : Value} {xs : List Int} (h : Bs k w v xs) (hb : Below w.heap.size w w') : Bs k w' v xs := by
  obtain ⟨ao, cap, rfl, hc, hr⟩ := h
  refine ⟨ao, cap, rfl, hc, fun hx => ?_⟩
  obtain ⟨b, off, rfl, hcell⟩ := hr hx
  exact ⟨b, off, rfl, fun j hj => (hb.cell (p := ⟨b, off + j, none⟩) (World.block_lt_of_cell? w _ (hcell j hj))).trans (hcell j hj)⟩
theorem Bs.at {k : IntKind} {w : World} {v : Value} {xs : List Int} (h : Bs k w v xs) (j : Nat) (hj : j < xs.length) : ∃ b off cap, v = .slice (some ⟨b, off, none⟩) xs.length cap ∧ w.cell? ⟨b, off + j, none⟩ = some (.int k (xs.getD j 0)) := by
  obtain ⟨ao, cap, rfl, hc, hr⟩ := h
  obtain ⟨b, off, rfl, hcell⟩ := hr (by intro h0; subst h0; simp at hj)
  exact ⟨b, off, cap, rfl, hcell j hj⟩
theorem wid_8 (y : Int) (h0 : 0 ≤ y) (h1 : y ≤ 255) : (wid y.toNat : Int) ≤ 8 := by
  have := wid_256 y.toNat (by omega); omega
theorem num_56 (l : List Bool) (h : l.length ≤ 56) : (num l : Int) ≤ 72057594037927935 := by
  have h1 := num_lt l
  have h2 : 2 ^ l.length ≤ 2 ^ 56 := Nat.pow_le_pow_right (by omega) h
  omega
theorem num_step (ys : List Int) (k : Nat) (h : k < ys.length) (hr : ∀ y ∈ ys, 0 ≤ y ∧ y ≤ 255) : (num ((allBits ys).take (8 * (k + 1))) : Int) = num ((allBits ys).take (8 * k)) * 256 + ys.getD k 0 := by
  have hb := num_byte ys k h hr
  rw [bits_byte ys k h] at hb
  rw [allBits_take ys k h, num_append, bitsOf_length]
  omega

set_option maxHeartbeats 1600000 in
set_option maxRecDepth 100000 in
theorem whole_walk (v0 : Value) (ys : List Int) (w : World) (h0 : Bs .u8 w v0 ys) (hys : ∀ x ∈ ys, 0 ≤ x ∧ x ≤ 255) :
    Calls Try.prog 6 #[v0] w fun e w' => e = .returned (.bool true) ∧ Below w.heap.size w w' := by
  have H0 := hideIt h0
  have HY := hideIt hys
  clear hys
  obtain ⟨ao, cap, hv0, _⟩ := h0
  by_cases h300 : (ys.length : Int) ≤ 300
  case neg =>
    subst hv0
    go_enter Try.func6, Try.ntmps6
    go_wp2_with fail
    refine (awake_any _).mono ?_
    rintro e w0 ⟨rfl, ho0⟩
    go_wp2
    go_ret
    exact ⟨rfl, ho0.low (Nat.le_refl _)⟩
  obtain ⟨m, hm⟩ : ∃ m, m = ys.length := ⟨_, rfl⟩
  have HM := hideIt hm
  rw [← hm] at h300 hv0
  subst hv0
  have hle : decide (300 < (m : Int)) = false := by simp; omega
  clear hm
  go_enter Try.func6, Try.ntmps6
  go_wp2_with fail
  refine (awake_any _).mono ?_
  rintro e w0 ⟨rfl, ho0⟩
  have b0 : Below w.heap.size w w0 := ho0.low (Nat.le_refl _)
  go_wp2_with fail
  refine (newReader_bs _ ys _ (H0.out.later b0) HY.out (by have := HM.out; omega)).mono ?_
  rintro e w1 ⟨R, vr, rfl, hrd, ho1, hR0, hR1, hvr⟩
  have b1 := b0.trans (ho1.low b0.size)
  have hrd1 := hrd.keep ((Only.refl (fun _ => False) w1).alloc (.cells #[.slice none 0 0, .int .i64 0] 27)) (fun f => f) (fun _ _ f => f)
  have START := hideIt (And.intro hrd1 (And.intro (WrAt.new (T := 27) (E := 5) w1) (b1.alloc b1.size (.cells #[.slice none 0 0, .int .i64 0] 27))))
  have HVR := hideIt hvr
  clear hrd hrd1 b1 ho1 hvr ho0
  go_wp2
  go_loopw [6] (fun i wr => ∃ (k : Nat) (vw : Value), k ≤ m ∧ i = .int .i64 k ∧ RdAt 60 wr R vr ys (8 * k) ∧ WrAt 27 5 wr (w1.heap.size + 1) w1.heap.size vw ((allBits ys).take (8 * k)) ∧ Below w.heap.size w wr)
    (fun i _ => m - (intOf i).toNat)
  case atStart => exact ⟨0, .slice none 0 0, Nat.zero_le _, rfl, START.out.1, START.out.2.1, START.out.2.2⟩
  case round =>
    obtain ⟨k, vw, hk, rfl, hrd, hwr, hbel⟩ := hrel
    by_cases hlt : k < m
    · have hlt' : k < ys.length := by have := HM.out; omega
      obtain ⟨b, off, cap', e1, hcw⟩ := H0.out.at k hlt'
      obtain ⟨y, hy⟩ : ∃ y, y = ys.getD k 0 := ⟨_, rfl⟩
      have hyb : 0 ≤ y ∧ y ≤ 255 := by
        rw [hy]; refine HY.out _ ?_
        rw [List.getD_eq_getElem?_getD, List.getElem?_eq_getElem hlt']; simp
      have hbw : b < w.heap.size := World.block_lt_of_cell? w _ hcw
      rw [← hy] at hcw
      have ea : ao = some ⟨b, off, none⟩ := by simp at e1; exact e1.1
      subst ea
      clear e1
      have NB := hideIt (num_byte ys k hlt' HY.out)
      have AT := hideIt (allBits_take ys k hlt')
      have HYE := hideIt hy
      have hll : ((allBits ys).take (8 * k)).length ≤ 1000000000 := by rw [List.length_take]; omega
      clear hy
      go_wp2_with fail
      refine (get_rd hrd 8 (by omega) (by omega) (by have := HM.out; omega)).mono ?_
      rintro e w2 ⟨rfl, hrd2, ho2⟩
      rw [show (8 : Int).toNat = 8 from rfl, NB.out, ← HYE.out]
      have b2 := hbel.trans (ho2.below hbel.size (fun k e => by subst e; have := b0.size; omega))
      have hwr2 := hwr.keep ho2 (fun e => by omega) (fun k hk e => by have := (hwr.own.lt k hk).1; omega)
      have hc2 : w2.cell? ⟨b, off + k, none⟩ = some (.int .u8 y) := (b2.cell (p := ⟨b, off + k, none⟩) hbw).trans hcw
      have i0 : (0 : Int) ≤ (k : Int) := by omega
      have i1 : (k : Int) < (m : Int) := by omega
      have hyy : (y != y) = false := by simp
      clear hrd ho2 hbel hwr
      go_wp2_with fail
      refine (put_wr hwr2 y 8 (by omega) (by omega) (by omega) (by omega) (wid_8 y hyb.1 hyb.2) hll).mono ?_
      rintro e w3 ⟨rfl, vw3, hwr3, ho3, hs3⟩
      have b3 := b2.trans (ho3.below b2.size (hwr2.foot_ge (by have := b0.size; omega)))
      have hrd3 := hrd2.keep ho3 (fun hf => by have := hwr2.foot_ge (Nat.le_refl w1.heap.size) R hf; omega) (fun k hk hf => by have := hwr2.foot_ge (Nat.le_refl w1.heap.size) k hf; have := (HVR.out k hk).2; omega)
      rw [show (8 : Int).toNat = 8 from rfl] at hwr3 hrd3
      rw [HYE.out, ← AT.out] at hwr3
      clear hwr2 ho3 hs3 b2 hrd2
      go_wp2
      go_roundw
      case rel => exact ⟨k + 1, vw3, by omega, by go_num, by rw [show 8 * (k + 1) = 8 * k + 8 by omega]; exact hrd3, hwr3, b3⟩
      case measure => simp [intOf]; omega
    · have hkm : k = m := by omega
      subst hkm
      have hwr' : WrAt 27 5 wr (w1.heap.size + 1) w1.heap.size vw (allBits ys) := by
        have e := hwr; rw [List.take_of_length_le (by rw [allBits_length]; have := HM.out; omega)] at e; exact e
      go_wp2_with fail
      refine (get_short hrd 1 (by omega) (by omega) (by have := HM.out; omega)).mono ?_
      rintro e w2 ⟨rfl, ho2⟩
      have b2 := hbel.trans (ho2.low hbel.size)
      have hrd2 := hrd.keep ho2 (fun f => f) (fun _ _ f => f)
      have hwr2 := hwr'.keep ho2 (fun f => f) (fun _ _ f => f)
      clear hrd hwr hwr' hbel ho2
      by_cases h8 : (8 : Int) < (k : Int)
      case pos =>
        go_wp2_with fail
        refine (newReader_bs _ ys _ (H0.out.later b2) HY.out (by have := HM.out; omega)).mono ?_
        rintro e w3 ⟨R3, vr3, rfl, hrd3, ho3, hR30, hR31, hvr3⟩
        have b3 := b2.trans (ho3.low b2.size)
        have hrd2' := hrd2.keep ho3 (fun f => f) (fun _ _ f => f)
        have hwr3 := hwr2.keep ho3 (fun f => f) (fun _ _ f => f)
        have hRs : R3 ≠ R := by have := hwr2.le; omega
        have hRv : ∀ j, vr.ownBlock = some j → j ≠ R3 := fun j hj => by have := (HVR.out j hj).2; have := hwr2.le; omega
        have hRw : R3 ≠ w1.heap.size := by have := hwr2.le; omega
        have hRo : ∀ j, vw.ownBlock = some j → j ≠ R3 := fun j hj => by have := (hwr2.own.lt j hj).2; omega
        have hR3w : w.heap.size ≤ R3 := by have := b2.size; omega
        clear hrd2 hwr2 b2 ho3
        go_wp2_with fail
        refine (get_rd hrd3 64 (by omega) (by omega) (by have := HM.out; omega)).mono ?_
        rintro e w4 ⟨rfl, hrd4, ho4⟩
        have b4 := b3.trans (ho4.below b3.size (fun j e => by subst e; exact hR3w))
        have hrd5 := hrd2'.keep ho4 (fun e => hRs e.symm) (fun j hj e => hRv j hj e)
        have hwr5 := hwr3.keep ho4 (fun e => hRw e.symm) (fun j hj e => hRo j hj e)
        rw [show (64 : Int).toNat = 8 * 8 by omega, List.drop_zero]
        have RD := hideIt hrd5
        have WR := hideIt hwr5
        have B4 := hideIt b4
        clear hrd2' hwr3 b3 hrd3 ho4 hrd4 hrd5 hwr5 b4 hvr3
        go_wp2
        go_loop [14, 15] (fun a i => ∃ j : Nat, j ≤ 8 ∧ i = .int .i64 j ∧ a = .int .u64 (num ((allBits ys).take (8 * j)))) (fun _ i => 8 - (intOf i).toNat)
        case atStart => exact ⟨0, Nat.zero_le _, rfl, rfl⟩
        case round =>
          obtain ⟨j, hj, rfl, rfl⟩ := hrel
          by_cases hjk : j < 8
          · have hjl : j < ys.length := by have := HM.out; omega
            obtain ⟨b, off, cap', e1, hcw⟩ := H0.out.at j hjl
            have hbw : b < w.heap.size := World.block_lt_of_cell? w _ hcw
            have hc4 := (B4.out.cell (p := ⟨b, off + j, none⟩) hbw).trans hcw
            have NS := hideIt (num_step ys j hjl HY.out)
            have hyb : 0 ≤ ys.getD j 0 ∧ ys.getD j 0 ≤ 255 := by
              refine HY.out _ ?_
              rw [List.getD_eq_getElem?_getD, List.getElem?_eq_getElem hjl]; simp
            have hn56 := num_56 ((allBits ys).take (8 * j)) (by rw [List.length_take]; omega)
            have ea : ao = some ⟨b, off, none⟩ := by simp at e1; exact e1.1
            subst ea
            clear e1 hcw
            generalize ys.getD j 0 = y at hc4 NS hyb
            have i0 : (0 : Int) ≤ (j : Int) := by omega
            have i1 : (j : Int) < (k : Int) := by omega
            go_wp2
            go_round
            case rel => exact ⟨j + 1, by omega, by go_num, by rw [NS.out]⟩
            case measure => simp [intOf]; omega
          · have hjk' : j = 8 := by omega
            subst hjk'
            go_wp2_with fail
            refine (left_rd RD.out).mono ?_
            rintro e w5 ⟨rfl, ho5⟩
            rw [show 8 * (ys.length : Int) - ((8 * k : Nat) : Int) = 0 by have := HM.out; omega]
            have b5 := B4.out.trans (ho5.low B4.out.size)
            have hwr5 := WR.out.keep ho5 (fun f => f) (fun _ _ f => f)
            go_wp2_with fail
            refine (bytes_wr hwr5 (by rw [allBits_length]; have := HM.out; omega)).mono ?_
            rintro e w6 ⟨v6, rfl, hown6, ho6⟩
            rw [bytes_all ys HY.out] at hown6
            have b6 := b5.trans (ho6.low b5.size)
            have s6 := hideIt (Bs.of_own hown6)
            have s0 := hideIt (H0.out.later b6)
            have B6 := hideIt b6
            clear ho5 b5 hwr5 hown6 ho6 b6 RD WR
            go_wp2_with fail
            refine (same_eq _ _ ys _ s6.out s0.out (by have := HM.out; omega)).mono ?_
            rintro e w7 ⟨rfl, ho7⟩
            go_wp2
            go_ret
            exact ⟨rfl, B6.out.trans (ho7.low B6.out.size)⟩
      case neg =>
        go_wp2_with fail
        refine (newReader_bs _ ys _ (H0.out.later b2) HY.out (by have := HM.out; omega)).mono ?_
        rintro e w3 ⟨R3, vr3, rfl, hrd3, ho3, hR30, hR31, hvr3⟩
        have b3 := b2.trans (ho3.low b2.size)
        have hrd2' := hrd2.keep ho3 (fun f => f) (fun _ _ f => f)
        have hwr3 := hwr2.keep ho3 (fun f => f) (fun _ _ f => f)
        have hRs : R3 ≠ R := by have := hwr2.le; omega
        have hRv : ∀ j, vr.ownBlock = some j → j ≠ R3 := fun j hj => by have := (HVR.out j hj).2; have := hwr2.le; omega
        have hRw : R3 ≠ w1.heap.size := by have := hwr2.le; omega
        have hRo : ∀ j, vw.ownBlock = some j → j ≠ R3 := fun j hj => by have := (hwr2.own.lt j hj).2; omega
        have hR3w : w.heap.size ≤ R3 := by have := b2.size; omega
        clear hrd2 hwr2 b2 ho3
        go_wp2_with fail
        refine (get_rd hrd3 (8 * (k : Int)) (by omega) (by omega) (by have := HM.out; omega)).mono ?_
        rintro e w4 ⟨rfl, hrd4, ho4⟩
        have b4 := b3.trans (ho4.below b3.size (fun j e => by subst e; exact hR3w))
        have hrd5 := hrd2'.keep ho4 (fun e => hRs e.symm) (fun j hj e => hRv j hj e)
        have hwr5 := hwr3.keep ho4 (fun e => hRw e.symm) (fun j hj e => hRo j hj e)
        rw [show (8 * (k : Int)).toNat = 8 * k by omega, List.drop_zero]
        have RD := hideIt hrd5
        have WR := hideIt hwr5
        have B4 := hideIt b4
        clear hrd2' hwr3 b3 hrd3 ho4 hrd4 hrd5 hwr5 b4 hvr3
        go_wp2
        go_loop [14, 15] (fun a i => ∃ j : Nat, j ≤ k ∧ i = .int .i64 j ∧ a = .int .u64 (num ((allBits ys).take (8 * j)))) (fun _ i => k - (intOf i).toNat)
        case atStart => exact ⟨0, Nat.zero_le _, rfl, rfl⟩
        case round =>
          obtain ⟨j, hj, rfl, rfl⟩ := hrel
          by_cases hjk : j < k
          · have hjl : j < ys.length := by have := HM.out; omega
            obtain ⟨b, off, cap', e1, hcw⟩ := H0.out.at j hjl
            have hbw : b < w.heap.size := World.block_lt_of_cell? w _ hcw
            have hc4 := (B4.out.cell (p := ⟨b, off + j, none⟩) hbw).trans hcw
            have NS := hideIt (num_step ys j hjl HY.out)
            have hyb : 0 ≤ ys.getD j 0 ∧ ys.getD j 0 ≤ 255 := by
              refine HY.out _ ?_
              rw [List.getD_eq_getElem?_getD, List.getElem?_eq_getElem hjl]; simp
            have hn56 := num_56 ((allBits ys).take (8 * j)) (by rw [List.length_take]; omega)
            have ea : ao = some ⟨b, off, none⟩ := by simp at e1; exact e1.1
            subst ea
            clear e1 hcw
            generalize ys.getD j 0 = y at hc4 NS hyb
            have i0 : (0 : Int) ≤ (j : Int) := by omega
            have i1 : (j : Int) < (k : Int) := by omega
            go_wp2
            go_round
            case rel => exact ⟨j + 1, by omega, by go_num, by rw [NS.out]⟩
            case measure => simp [intOf]; omega
          · have hjk' : j = k := by omega
            subst hjk'
            go_wp2_with fail
            refine (left_rd RD.out).mono ?_
            rintro e w5 ⟨rfl, ho5⟩
            rw [show 8 * (ys.length : Int) - ((8 * j : Nat) : Int) = 0 by have := HM.out; omega]
            have b5 := B4.out.trans (ho5.low B4.out.size)
            have hwr5 := WR.out.keep ho5 (fun f => f) (fun _ _ f => f)
            go_wp2_with fail
            refine (bytes_wr hwr5 (by rw [allBits_length]; have := HM.out; omega)).mono ?_
            rintro e w6 ⟨v6, rfl, hown6, ho6⟩
            rw [bytes_all ys HY.out] at hown6
            have b6 := b5.trans (ho6.low b5.size)
            have s6 := hideIt (Bs.of_own hown6)
            have s0 := hideIt (H0.out.later b6)
            have B6 := hideIt b6
            clear ho5 b5 hwr5 hown6 ho6 b6 RD WR
            go_wp2_with fail
            refine (same_eq _ _ ys _ s6.out s0.out (by have := HM.out; omega)).mono ?_
            rintro e w7 ⟨rfl, ho7⟩
            go_wp2
            go_ret
            exact ⟨rfl, B6.out.trans (ho7.low B6.out.size)⟩
end Go.Proofs.Ytngikldljpildaa

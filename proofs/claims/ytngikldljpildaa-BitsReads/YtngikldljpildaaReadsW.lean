/- The walk of BitsReads: it answers true, and nothing that was there is turned. -/
import Derived.Test.YtngikldljpildaaRef
namespace Go.Proofs.Ytngikldljpildaa
open Go.RowKit

theorem Bs.len {k : IntKind} {w : World} {v : Value} {xs : List Int} (h : Bs k w v xs) : ∃ ao cap, v = .slice ao xs.length cap := by
  obtain ⟨ao, cap, rfl, _⟩ := h
  exact ⟨ao, cap, rfl⟩
theorem left_len (ys : List Int) (p : Nat) : (bitsI ((allBits ys).drop p)).length = 8 * ys.length - p := by
  rw [bitsI_length, List.length_drop, allBits_length]

set_option maxHeartbeats 1600000 in
set_option maxRecDepth 100000 in
theorem reads_walk (v0 v1 : Value) (ys zs : List Int) (w : World) (h0 : Bs .u8 w v0 ys) (h1 : Bs .i64 w v1 zs) (hys : ∀ x ∈ ys, 0 ≤ x ∧ x ≤ 255) :
    Calls Try.prog 4 #[v0, v1] w fun e w' => e = .returned (.bool true) ∧ Below w.heap.size w w' := by
  have H0 := hideIt h0
  have H1 := hideIt h1
  have HY := hideIt hys
  clear hys
  obtain ⟨ao, cap, hv0⟩ := h0.len
  obtain ⟨ao1, cap1, hv1⟩ := h1.len
  clear h0 h1
  by_cases h300 : (ys.length : Int) ≤ 300
  case neg =>
    subst hv0 hv1
    have d0 : decide (300 < (ys.length : Int)) = true := by simp; omega
    go_enter Try.func4, Try.ntmps4
    go_wp2_with fail
    refine (awake_any _).mono ?_
    rintro e w0 ⟨rfl, ho0⟩
    go_wp2
    go_ret
    exact ⟨rfl, ho0.low (Nat.le_refl _)⟩
  by_cases h301 : (zs.length : Int) ≤ 300
  case neg =>
    subst hv0 hv1
    have d0 : decide (300 < (ys.length : Int)) = false := by simp; omega
    have d1 : decide (300 < (zs.length : Int)) = true := by simp; omega
    go_enter Try.func4, Try.ntmps4
    go_wp2_with fail
    refine (awake_any _).mono ?_
    rintro e w0 ⟨rfl, ho0⟩
    go_wp2
    go_ret
    exact ⟨rfl, ho0.low (Nat.le_refl _)⟩
  obtain ⟨n, hn⟩ : ∃ n, n = ys.length := ⟨_, rfl⟩
  obtain ⟨m, hm⟩ : ∃ m, m = zs.length := ⟨_, rfl⟩
  have HN := hideIt hn
  have HM := hideIt hm
  rw [← hn] at h300 hv0
  rw [← hm] at h301 hv1
  subst hv0 hv1
  have d0 : decide (300 < (n : Int)) = false := by simp; omega
  have d1 : decide (300 < (m : Int)) = false := by simp; omega
  clear hn hm
  go_enter Try.func4, Try.ntmps4
  go_wp2_with fail
  refine (awake_any _).mono ?_
  rintro e w0 ⟨rfl, ho0⟩
  have b0 : Below w.heap.size w w0 := ho0.low (Nat.le_refl _)
  go_wp2_with fail
  refine (newReader_bs _ ys _ (H0.out.later b0) HY.out (by have := HN.out; omega)).mono ?_
  rintro e w1 ⟨R, vr, rfl, hrd, ho1, hR0, hR1, hvr⟩
  have b1 := b0.trans (ho1.low b0.size)
  go_wp2_with fail
  refine (of_bs _ ys _ (H0.out.later b1) HY.out (by have := HN.out; omega)).mono ?_
  rintro e w2 ⟨vl, rfl, hown2, ho2⟩
  have b2 := b1.trans (ho2.low b1.size)
  have hrd2 := hrd.keep ho2 (fun f => f) (fun _ _ f => f)
  have hlR : ∀ q, vl.ownBlock = some q → R ≠ q := fun q hq => by have := (hown2.lt q hq).1; omega
  have hb2 : Bs .i64 w2 vl (bitsI ((allBits ys).drop 0)) := by
    rw [List.drop_zero]; exact Bs.of_own (by rw [bitsI_length]; exact hown2)
  have hRw : w.heap.size ≤ R := by have := b0.size; omega
  have START := hideIt (And.intro hrd2 (And.intro hb2 (And.intro hlR b2)))
  clear hrd hown2 ho2 hrd2 hb2 hlR b2 b1 ho1 hvr
  go_wp2
  go_loopw [7, 8] (fun o i wr => ∃ (k p : Nat), k ≤ m ∧ i = .int .i64 k ∧ RdAt 60 wr R vr ys p ∧ Bs .i64 wr o (bitsI ((allBits ys).drop p)) ∧ (∀ q, o.ownBlock = some q → R ≠ q) ∧ Below w.heap.size w wr)
    (fun _ i _ => m - (intOf i).toNat)
  case atStart => exact ⟨0, 0, Nat.zero_le _, rfl, START.out.1, START.out.2.1, START.out.2.2.1, START.out.2.2.2⟩
  case round =>
    obtain ⟨k, p, hk, rfl, hrd, hbs, hoR, hbel⟩ := hrel
    clear START
    obtain ⟨aol, capl, hvl⟩ := hbs.len
    rw [left_len] at hvl
    subst hvl
    have hple := hrd.le
    by_cases hlt : k < m
    · obtain ⟨b, off, cap', e1, hc⟩ := H1.out.at k (by rw [← HM.out]; exact hlt)
      have hbw : b < w.heap.size := World.block_lt_of_cell? w _ hc
      have ea : ao1 = some ⟨b, off, none⟩ := by simp at e1; exact e1.1
      subst ea
      clear e1
      generalize zs.getD k 0 = y at hc
      have hcr := (hbel.cell (p := ⟨b, off + k, none⟩) hbw).trans hc
      have HC := hideIt hc
      clear hc
      have i0 : (0 : Int) ≤ (k : Int) := by omega
      have i1 : (k : Int) < (m : Int) := by omega
      have RD := hideIt hrd
      have BS := hideIt hbs
      have OR := hideIt hoR
      have BL := hideIt hbel
      clear hrd hbs hoR hbel
      by_cases hwd : y < 0 ∨ 64 < y
      case pos =>
        have HW := hideIt hwd
        clear hwd
        go_wp2_with fail
        refine (get_width R y _ HW.out).mono ?_
        rintro e w3 ⟨rfl, rfl⟩
        go_wp2_with fail
        refine (rget_width _ y _ HW.out).mono ?_
        rintro e w3 ⟨rfl, rfl⟩
        have RD4 := RD
        have BS4 := BS
        have OR4 := OR
        have BL4 := BL
        clear RD BS OR BL
        have hp4 := RD4.out.le
        obtain ⟨q4, hq4⟩ : ∃ q4 : Nat, q4 = 8 * ys.length - p := ⟨_, rfl⟩
        have EQ4 : Hid (8 * (ys.length : Int) - (p : Int) = (q4 : Int)) := by simp only [Hid]; omega
        have hll : ((allBits ys).drop p).length ≤ 1000000000 := by rw [List.length_drop, allBits_length]; have := HN.out; omega
        rw [← hq4] at BS4 OR4 ⊢
        clear hq4
        have hself : ∀ z : Int, (z != z) = false := fun z => by simp
        go_wp2_with fail
        refine (left_rd RD4.out).mono ?_
        rintro e w6 ⟨rfl, ho6⟩
        rw [EQ4.out]
        have RD6 := hideIt (RD4.out.keep ho6 (fun f => f) (fun _ _ f => f))
        have BS6 := hideIt (BS4.out.keep ho6 (fun _ _ f => f))
        have BL6 := hideIt (BL4.out.trans (ho6.low BL4.out.size))
        clear RD4 BS4 BL4 ho6
        go_wp2_with fail
        refine (end_rd RD6.out).mono ?_
        rintro e w7 ⟨rfl, ho7⟩
        have RD7 := hideIt (RD6.out.keep ho7 (fun f => f) (fun _ _ f => f))
        have BS7 := hideIt (BS6.out.keep ho7 (fun _ _ f => f))
        have BL7 := hideIt (BL6.out.trans (ho7.low BL6.out.size))
        clear RD6 BS6 BL6 ho7
        go_wp2_with fail
        refine (rend_bs _ _ _ BS7.out hll).mono ?_
        rintro e w8 ⟨rfl, rfl⟩
        generalize endV ((allBits ys).drop p) = ee
        go_wp2
        go_roundw
        case rel => exact ⟨k + 1, p, by omega, by go_num, RD7.out, BS7.out, OR4.out, BL7.out⟩
        case measure => simp [intOf]; omega
      case neg =>
        by_cases hsh : 8 * (ys.length : Int) - (p : Int) < y
        case pos =>
          go_wp2_with fail
          refine (get_short RD.out y (by omega) (by omega) hsh).mono ?_
          rintro e w4 ⟨rfl, ho4⟩
          have RD4 := hideIt (RD.out.keep ho4 (fun f => f) (fun _ _ f => f))
          have BS4 := hideIt (BS.out.keep ho4 (fun _ _ f => f))
          have BL4 := hideIt (BL.out.trans (ho4.low BL.out.size))
          have OR4 := OR
          have hcr4 := (BL4.out.cell (p := ⟨b, off + k, none⟩) hbw).trans HC.out
          clear RD BS OR BL ho4 hcr
          go_wp2_with fail
          refine (rget_short _ _ _ y _ (by omega) (by omega) (by omega)).mono ?_
          rintro e w5 ⟨rfl, rfl⟩
          have hp4 := RD4.out.le
          obtain ⟨q4, hq4⟩ : ∃ q4 : Nat, q4 = 8 * ys.length - p := ⟨_, rfl⟩
          have EQ4 : Hid (8 * (ys.length : Int) - (p : Int) = (q4 : Int)) := by simp only [Hid]; omega
          have hll : ((allBits ys).drop p).length ≤ 1000000000 := by rw [List.length_drop, allBits_length]; have := HN.out; omega
          rw [← hq4] at BS4 OR4 ⊢
          clear hq4
          have hself : ∀ z : Int, (z != z) = false := fun z => by simp
          go_wp2_with fail
          refine (left_rd RD4.out).mono ?_
          rintro e w6 ⟨rfl, ho6⟩
          rw [EQ4.out]
          have RD6 := hideIt (RD4.out.keep ho6 (fun f => f) (fun _ _ f => f))
          have BS6 := hideIt (BS4.out.keep ho6 (fun _ _ f => f))
          have BL6 := hideIt (BL4.out.trans (ho6.low BL4.out.size))
          clear RD4 BS4 BL4 ho6
          go_wp2_with fail
          refine (end_rd RD6.out).mono ?_
          rintro e w7 ⟨rfl, ho7⟩
          have RD7 := hideIt (RD6.out.keep ho7 (fun f => f) (fun _ _ f => f))
          have BS7 := hideIt (BS6.out.keep ho7 (fun _ _ f => f))
          have BL7 := hideIt (BL6.out.trans (ho7.low BL6.out.size))
          clear RD6 BS6 BL6 ho7
          go_wp2_with fail
          refine (rend_bs _ _ _ BS7.out hll).mono ?_
          rintro e w8 ⟨rfl, rfl⟩
          generalize endV ((allBits ys).drop p) = ee
          go_wp2
          go_roundw
          case rel => exact ⟨k + 1, p, by omega, by go_num, RD7.out, BS7.out, OR4.out, BL7.out⟩
          case measure => simp [intOf]; omega
        case neg =>
          have hsy : (p : Int) + y ≤ 8 * (ys.length : Int) := by omega
          go_wp2_with fail
          refine (get_rd RD.out y (by omega) (by omega) hsy).mono ?_
          rintro e w3 ⟨rfl, hrd3, ho3⟩
          have RD3 := hideIt hrd3
          have BS3 := hideIt (BS.out.keep ho3 (fun q hq e => OR.out q hq e.symm))
          have BL3 := hideIt (BL.out.trans (ho3.below BL.out.size (fun q e => by subst e; exact hRw)))
          have hcr4 := (BL3.out.cell (p := ⟨b, off + k, none⟩) hbw).trans HC.out
          clear RD BS BL ho3 hrd3 hcr
          go_wp2_with fail
          refine (rget_bs _ ((allBits ys).drop p) y _ BS3.out (by rw [List.length_drop, allBits_length]; have := HN.out; omega) (by omega) (by omega) (by rw [List.length_drop, allBits_length]; omega)).mono ?_
          rintro e w4 ⟨v4, rfl, hbs4, ho4, how4⟩
          rw [List.drop_drop] at hbs4
          obtain ⟨ao4, cap4, hv4⟩ := hbs4.len
          obtain ⟨p4, hp4⟩ : ∃ p4, p4 = p + y.toNat := ⟨_, rfl⟩
          have RD4 := hideIt (RD3.out.keep ho4 (fun f => f) (fun _ _ f => f))
          have BL4 := hideIt (BL3.out.trans (ho4.low BL3.out.size))
          have OR4 : Hid (∀ q, v4.ownBlock = some q → R ≠ q) := fun q hq => OR.out q (by rw [← how4]; exact hq)
          rw [← hp4] at RD4 hbs4 hv4
          rw [left_len] at hv4
          subst hv4
          have BS4 := hideIt hbs4
          generalize num (((allBits ys).drop p).take y.toNat) = nn
          clear RD3 BS3 BL3 OR ho4 how4 hbs4 hp4
          have hp4 := RD4.out.le
          obtain ⟨q4, hq4⟩ : ∃ q4 : Nat, q4 = 8 * ys.length - p4 := ⟨_, rfl⟩
          have EQ4 : Hid (8 * (ys.length : Int) - (p4 : Int) = (q4 : Int)) := by simp only [Hid]; omega
          have hll : ((allBits ys).drop p4).length ≤ 1000000000 := by rw [List.length_drop, allBits_length]; have := HN.out; omega
          rw [← hq4] at BS4 OR4 ⊢
          clear hq4
          have hself : ∀ z : Int, (z != z) = false := fun z => by simp
          go_wp2_with fail
          refine (left_rd RD4.out).mono ?_
          rintro e w6 ⟨rfl, ho6⟩
          rw [EQ4.out]
          have RD6 := hideIt (RD4.out.keep ho6 (fun f => f) (fun _ _ f => f))
          have BS6 := hideIt (BS4.out.keep ho6 (fun _ _ f => f))
          have BL6 := hideIt (BL4.out.trans (ho6.low BL4.out.size))
          clear RD4 BS4 BL4 ho6
          go_wp2_with fail
          refine (end_rd RD6.out).mono ?_
          rintro e w7 ⟨rfl, ho7⟩
          have RD7 := hideIt (RD6.out.keep ho7 (fun f => f) (fun _ _ f => f))
          have BS7 := hideIt (BS6.out.keep ho7 (fun _ _ f => f))
          have BL7 := hideIt (BL6.out.trans (ho7.low BL6.out.size))
          clear RD6 BS6 BL6 ho7
          go_wp2_with fail
          refine (rend_bs _ _ _ BS7.out hll).mono ?_
          rintro e w8 ⟨rfl, rfl⟩
          generalize endV ((allBits ys).drop p4) = ee
          go_wp2
          go_roundw
          case rel => exact ⟨k + 1, p4, by omega, by go_num, RD7.out, BS7.out, OR4.out, BL7.out⟩
          case measure => simp [intOf]; omega
    · go_wp2_with fail
      refine (end_rd hrd).mono ?_
      rintro e w3 ⟨rfl, ho3⟩
      have bs3 := hbs.keep ho3 (fun _ _ f => f)
      have b3 := hbel.trans (ho3.low hbel.size)
      have hll : ((allBits ys).drop p).length ≤ 1000000000 := by rw [List.length_drop, allBits_length]; have := HN.out; omega
      go_wp2_with fail
      refine (rend_bs _ _ _ bs3 hll).mono ?_
      rintro e w4 ⟨rfl, rfl⟩
      generalize endV ((allBits ys).drop p) = ee
      have hself : (ee == ee) = true := by simp
      clear hrd hbs ho3 bs3
      go_wp2
      go_ret
      exact ⟨rfl, b3⟩
end Go.Proofs.Ytngikldljpildaa

/- The statement PolyOne: the walk. -/
import Derived.Test.YtanobjnjgbhnjaaZo
import Derived.Deep.Cut
namespace Go.Proofs.Ytanobjnjgbhnjaa
open Go.RowKit

theorem want_next (xs : List Int) (n : Nat) (h : n < xs.length) (h16 : n < 16) : (xs.take n ++ List.replicate (16 - n) 0).set n (xs.getD n 0) = xs.take (n + 1) ++ List.replicate (16 - (n + 1)) 0 := by
  have hl : (xs.take n).length = n := by rw [List.length_take]; omega
  rw [List.set_append_right _ _ (by omega), hl, Nat.sub_self, show 16 - n = (16 - (n + 1)) + 1 by omega, List.replicate_succ, List.set_cons_zero, take_nextI xs n h, List.append_assoc]
  rfl
theorem want_last (xs : List Int) (h : xs.length ≤ 15) : (xs ++ List.replicate (16 - xs.length) 0).set xs.length 1 = (xs ++ [1]) ++ List.replicate (15 - xs.length) 0 := by
  rw [List.set_append_right _ _ (Nat.le_refl _), Nat.sub_self, show 16 - xs.length = (15 - xs.length) + 1 by omega, List.replicate_succ, List.set_cons_zero, List.append_assoc]
  rfl
theorem want_len (xs : List Int) (n : Nat) (h : n ≤ xs.length) (h16 : n ≤ 16) : (xs.take n ++ List.replicate (16 - n) (0 : Int)).length = 16 := by
  rw [List.length_append, List.length_take, List.length_replicate]; omega
set_option maxHeartbeats 1600000 in
set_option maxRecDepth 100000 in
theorem one_walk (vb : Value) (xs : List Int) (x8 : U8 xs) (w : World) (bb : Bs .u8 w vb xs) (nb : NoCap vb) :
    Calls Try.prog 6 #[vb] w fun e w' => e = .returned (.bool true) ∧ Below w.heap.size w w' := by
  have A := hideIt (awake_any w)
  obtain ⟨bo, bc, rfl⟩ := bb.len
  obtain ⟨m, hm⟩ : ∃ m, m = xs.length := ⟨_, rfl⟩
  rw [← hm] at bb nb ⊢
  by_cases h0 : m = 0
  · subst h0
    clear bb nb x8 hm
    go_enter Try.func6, Try.ntmps6
    go_wp2_with fail
    refine A.out.mono ?_
    rintro e w1 ⟨rfl, o1⟩
    have O1 := hideIt o1
    clear o1 A
    go_wp2
    go_ret
    exact ⟨rfl, O1.out.low (Nat.le_refl _)⟩
  · by_cases h15 : 15 < m
    · have d1 : ((m : Int) == 0) = false := by rw [beq_eq_false_iff_ne]; omega
      have d2 : (15 : Int) < (m : Int) := by omega
      clear bb nb x8 hm
      go_enter Try.func6, Try.ntmps6
      go_wp2_with fail
      refine A.out.mono ?_
      rintro e w1 ⟨rfl, o1⟩
      have O1 := hideIt o1
      clear o1 A
      go_wp2
      go_ret
      exact ⟨rfl, O1.out.low (Nat.le_refl _)⟩
    · obtain ⟨j0, hj, y0, y1, y2⟩ := info_parts Try.infoU8
      have hmk := mk32
      have hmk16 := mk16
      obtain ⟨Y, hY⟩ : ∃ Y, Y = Y32 := ⟨_, rfl⟩
      obtain ⟨Z, hZ⟩ : ∃ Z, Z = Y16 := ⟨_, rfl⟩
      have hY0 : Y[0]? = some (.int .u8 0) := by rw [hY]; rfl
      rw [← hY] at hmk
      rw [← hZ] at hmk16
      have HY := hideIt (And.intro hY hZ)
      have HB := hideIt (And.intro bb (And.intro nb (And.intro x8 (And.intro hm (show 0 < m ∧ m ≤ 15 by omega)))))
      have hT1 := one_tag xs x8 (by omega) (by omega)
      have hT2 := one_tag2 xs x8 (by omega) (by omega)
      have hWL := want_last xs (by omega)
      rw [← hm] at hT1 hT2 hWL
      obtain ⟨T, hT⟩ : ∃ T, T = (xs ++ [1]) ++ List.replicate (15 - m) 0 := ⟨_, rfl⟩
      rw [← hT] at hT1 hT2 hWL
      have hTl : T.length = 16 := by rw [← hT1, TAG_len]
      have HT := hideIt (And.intro hT1 (And.intro hT2 (And.intro hWL hTl)))
      have d1 : ((m : Int) == 0) = false := by rw [beq_eq_false_iff_ne]; omega
      have d2 : ¬ (15 : Int) < (m : Int) := by omega
      have d3 : m ≤ 15 := by omega
      clear hY hZ bb nb x8 hm hT1 hT2 hWL hT hTl
      go_enter Try.func6, Try.ntmps6
      go_wp2_with fail
      refine A.out.mono ?_
      rintro e w0 ⟨rfl, o0⟩
      have KM := hideIt (key_made w0 Y HY.out.1)
      have O0 := hideIt o0
      have P1 := hideIt (mac_any (.slice (some ⟨w0.heap.size, 0, none⟩) 32 32) (.slice bo m bc) K1 xs K1_u8 HB.out.2.2.1 (by have := HB.out.2.2.2; omega) _ KM.out.1 ((HB.out.1.past o0).past KM.out.2))
      rw [show ME K1 = 0 from rfl, show MT K1 xs = TAG K1 xs from rfl, HT.out.1] at P1
      have hf0 : (w0.alloc (.cells Y.toArray 5)).frozen? ⟨w0.heap.size, 0, none⟩ = false := (Blk.new w0 5 Y).froz 0
      have hc0 : (w0.alloc (.cells Y.toArray 5)).cell? ⟨w0.heap.size, 0, none⟩ = some (.int .u8 0) := by rw [(Blk.new w0 5 Y).cell, hY0]
      clear o0 A
      go_wp2_with fail
      refine P1.out.mono ?_
      rintro e w1 ⟨v1, rfl, b1, nc1, o1⟩
      have B1 := hideIt b1
      have K1' := hideIt (KM.out.1.past o1)
      have O1 := hideIt (O0.out.same (KM.out.2.same o1))
      obtain ⟨G, hG⟩ : ∃ G, G = w0.heap.size := ⟨_, rfl⟩
      rw [← hG] at K1' ⊢
      clear b1 nc1 o1 P1 hf0 hc0 hmk hY0 KM O0 hG
      go_wp2
      have L0 : Hid (Blk (w1.alloc (.cells Z.toArray 5)) w1.heap.size 5 (bl (xs.take 0 ++ List.replicate (16 - 0) 0)) ∧ Only (fun _ => False) w1 (w1.alloc (.cells Z.toArray 5))) := by
        refine ⟨?_, (Only.refl _ _).alloc _⟩
        have h := Blk.new w1 5 Z
        rw [HY.out.2] at h ⊢
        exact h
      obtain ⟨H, hH⟩ : ∃ H, H = w1.heap.size := ⟨_, rfl⟩
      rw [← hH] at L0 ⊢
      obtain ⟨W2, hW2⟩ : ∃ W2, W2 = w1.alloc (.cells Z.toArray 5) := ⟨_, rfl⟩
      rw [← hW2] at L0 ⊢
      have HH := hideIt hH
      clear hW2 hH
      go_loopw [8] (fun i wr => ∃ n : Nat, n ≤ m ∧ i = .int .i64 n ∧ Blk wr H 5 (bl (xs.take n ++ List.replicate (16 - n) 0)) ∧ Only (fun _ => False) w1 wr) (fun i _ => m - (intOf i).toNat)
      case atStart => exact ⟨0, by omega, rfl, L0.out⟩
      case round =>
        obtain ⟨n, hn, rfl, k1, k2⟩ := hrel
        clear L0
        by_cases hlt : n < m
        · obtain ⟨b, off, cap', e, hc⟩ := (HB.out.1.past (O1.out.same k2)).at n (by have := HB.out.2.2.2.1; omega)
          simp at e
          obtain ⟨rfl, -, rfl⟩ := e
          have hnx := want_next xs n (by have := HB.out.2.2.2.1; omega) (by omega)
          have hwl := want_len xs n (by have := HB.out.2.2.2.1; omega) (by omega)
          have hcw : wr.cell? ⟨H, n, none⟩ = some (.int .u8 ((xs.take n ++ List.replicate (16 - n) 0).getD n 0)) := by
            rw [k1.cell, bl_at _ _ (by rw [hwl]; omega)]
          have hfw := k1.froz n
          obtain ⟨y, hy⟩ : ∃ y, y = xs.getD n 0 := ⟨_, rfl⟩
          obtain ⟨z, hz⟩ : ∃ z, z = (xs.take n ++ List.replicate (16 - n) 0).getD n 0 := ⟨_, rfl⟩
          rw [← hy] at hc hnx
          rw [← hz] at hcw
          have N1 : Hid (Blk (wr.setCell ⟨H, n, none⟩ (.int .u8 y)) H 5 (bl (xs.take (n + 1) ++ List.replicate (16 - (n + 1)) 0)) ∧ Only (fun _ => False) w1 (wr.setCell ⟨H, n, none⟩ (.int .u8 y))) := by
            refine ⟨?_, k2.setCell (p := ⟨H, n, none⟩) (fun hlt => absurd hlt (by have := HH.out; simp; omega)) _⟩
            have h := k1.set n (.int .u8 y)
            rw [bl_set, hnx] at h
            exact h
          have i1 : (n : Int) < (m : Int) := by omega
          have i2 : (n : Int) < 16 := by omega
          clear k1 k2 hnx hwl hy hz
          go_wp2
          go_roundw
          case rel => exact ⟨n + 1, by omega, by go_num, N1.out⟩
          case measure => simp [intOf]; omega
        · obtain rfl : n = m := by omega
          have k3 : Blk wr H 5 (bl (xs ++ List.replicate (16 - n) 0)) := by
            have h := k1
            rw [List.take_of_length_le (by have := HB.out.2.2.2.1; omega)] at h
            exact h
          have hwl : (xs ++ List.replicate (16 - n) (0 : Int)).length = 16 := by
            rw [List.length_append, List.length_replicate, ← HB.out.2.2.2.1]; omega
          have hcw : wr.cell? ⟨H, n, none⟩ = some (.int .u8 ((xs ++ List.replicate (16 - n) 0).getD n 0)) := by
            rw [k3.cell, bl_at _ _ (by rw [hwl]; omega)]
          have hfw := k3.froz n
          obtain ⟨z, hz⟩ : ∃ z, z = (xs ++ List.replicate (16 - n) 0).getD n 0 := ⟨_, rfl⟩
          rw [← hz] at hcw
          obtain ⟨W3, hW3⟩ : ∃ W3, W3 = wr.setCell ⟨H, n, none⟩ (.int .u8 1) := ⟨_, rfl⟩
          have K3 : Hid (Bs .u8 W3 (.slice (some ⟨H, 0, none⟩) 16 16) T ∧ Only (fun _ => False) w1 W3) := by
            rw [hW3]
            refine ⟨?_, k2.setCell (p := ⟨H, n, none⟩) (fun hlt => absurd hlt (by have := HH.out; simp; omega)) _⟩
            have h := k3.set n (.int .u8 1)
            rw [bl_set, HT.out.2.2.1] at h
            exact Bs.of_bl h 16 HT.out.2.2.2
          have i1 : ¬ (n : Int) < (n : Int) := by omega
          have i2 : (n : Int) < 16 := by omega
          have HW3 := hideIt hW3
          clear k1 k2 k3 hwl hz hW3
          have BX := hideIt (fun (W : World) (o : Only (fun _ => False) W3 W) => HB.out.1.past (O1.out.same (K3.out.2.same o)))
          have M16 := hideIt (made16 W3)
          rw [← HY.out.2] at M16
          go_upto_region 13 with fail
          rw [← HW3.out]
          clear HW3 hcw hfw
          go_wp2_with (first | (at_builtin; refine wpList_append_bs _ rfl _ _ 22 rfl W3.heap.size 5 j0 (.int .u8 0) 1 Try.underlying22 hj y0 y1 y2 rfl (.slice (some ⟨W3.heap.size, 0, none⟩) 16 16) 16 (bl (List.replicate 16 0)) rfl M16.out .u8 (.slice bo n bc) xs rfl (BX.out _ ((Only.refl _ _).alloc _)) HB.out.2.1 (by rw [← HB.out.2.2.2.1]; unfold maxLen; omega) (by rw [← HB.out.2.2.2.1]; omega) (by rw [size_alloc]; omega) ?_; intro v2 w2 own2 gr2 hnilx hobx; clear hnilx hobx))
          have own2' := own_two (a := List.replicate 16 0) (b := xs) (n := 16) (m := n) (by simp) HB.out.2.2.2.1.symm (by have h := own2; rw [← HB.out.2.2.2.1] at h; exact h)
          have O3 : Only (fun _ => False) W3 w2 := grown_only gr2
          have P2 := hideIt (mac_any (.slice (some ⟨G, 0, none⟩) 32 32) v2 K1 (List.replicate 16 0 ++ xs) K1_u8 ((zeros_u8 16).app HB.out.2.2.1) (by rw [List.length_append, ← HB.out.2.2.2.1]; simp; omega) w2 (K1'.out.past (K3.out.2.same O3)) own2'.2)
          rw [show ME K1 = 0 from rfl, show MT K1 (List.replicate 16 0 ++ xs) = TAG K1 (List.replicate 16 0 ++ xs) from rfl, HT.out.2.1] at P2
          have O4 := hideIt (O1.out.same (K3.out.2.same O3))
          have B4 := hideIt (And.intro (B1.out.past (K3.out.2.same O3)) (K3.out.1.past O3))
          clear O3 own2 gr2 own2' B1 M16 BX
          refine P2.out.mono ?_
          rintro e w5 ⟨v5, rfl, b5, nc5, o5⟩
          have O5 := hideIt (O4.out.same o5)
          have S1 := hideIt (lsame_eq v1 (.slice (some ⟨H, 0, none⟩) 16 16) T w5 (B4.out.1.past o5) (B4.out.2.past o5) (by rw [HT.out.2.2.2]; decide))
          have B5 := hideIt (And.intro b5 (B4.out.2.past o5))
          clear b5 nc5 o5 P2 B4
          go_wp2_with fail
          refine S1.out.mono ?_
          rintro e w6 ⟨rfl, o6⟩
          have O6 := hideIt (O5.out.same o6)
          have S2 := hideIt (lsame_eq v5 (.slice (some ⟨H, 0, none⟩) 16 16) T w6 (B5.out.1.past o6) (B5.out.2.past o6) (by rw [HT.out.2.2.2]; decide))
          clear o6 S1
          go_wp2_with fail
          refine S2.out.mono ?_
          rintro e w7 ⟨rfl, o7⟩
          have O7 := hideIt (O6.out.same o7)
          clear o7 S2
          go_wp2
          go_ret
          exact ⟨rfl, O7.out.low (Nat.le_refl _)⟩
end Go.Proofs.Ytanobjnjgbhnjaa

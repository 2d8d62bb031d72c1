/- The walk of VarintMany: it answers true, and nothing that was there is turned. -/
import Derived.Test.YthnlcigjfdmejaaVAwake
namespace Go.Proofs.Ythnlcigjfdmejaa
open Go.RowKit

theorem allG_range (l : List Int) : ∀ x ∈ allG l, 0 ≤ x ∧ x ≤ 255 := by
  intro x hx
  simp only [allG, List.mem_flatMap] at hx
  obtain ⟨y, _, hy⟩ := hx
  exact gs_range _ x hy
theorem allG_le (l : List Int) (k : Nat) (h : ∀ x ∈ l, 0 ≤ x ∧ x ≤ 18446744073709551615) : (allG (l.take k)).length ≤ 10 * l.length := by
  have h1 := allG_len (l.take k) (fun x hx => h x (List.mem_of_mem_take hx))
  have h2 : (l.take k).length ≤ l.length := by rw [List.length_take]; omega
  omega

set_option maxHeartbeats 1600000 in
set_option maxRecDepth 100000 in
theorem many_walk (v0 : Value) (l : List Int) (w : World) (hb : Bs .u64 w v0 l) (hl : ∀ x ∈ l, 0 ≤ x ∧ x ≤ 18446744073709551615) :
    Calls Try.prog 8 #[v0] w fun e w' => e = .returned (.bool true) ∧ Below w.heap.size w w' := by
  have HB := hideIt hb
  have HL := hideIt hl
  obtain ⟨ao, cap, hv0⟩ := hb.len
  obtain ⟨m, hm⟩ : ∃ m, m = l.length := ⟨_, rfl⟩
  rw [← hm] at hv0
  have HM := hideIt hm
  clear hb hm hl
  by_cases h100 : 100 < m
  · have d3 : decide (100 < (m : Int)) = true := by simp; omega
    subst hv0
    go_enter Try.func8, Try.ntmps8
    go_wp2_with fail
    refine (awake_any _).mono ?_
    rintro e w0 ⟨rfl, ho0⟩
    go_wp2
    go_ret
    exact ⟨rfl, ho0.low (Nat.le_refl _)⟩
  · have d3 : decide (100 < (m : Int)) = false := by simp; omega
    subst hv0
    go_enter Try.func8, Try.ntmps8
    go_wp2_with fail
    refine (awake_any _).mono ?_
    rintro e w0 ⟨rfl, ho0⟩
    have B0 := hideIt (ho0.low (Nat.le_refl _))
    clear ho0
    go_wp2
    go_loopw [4, 5, 6] (fun o c i wr => ∃ (k s : Nat), k ≤ m ∧ i = .int .i64 k ∧ c = .int .i64 s ∧ s = (allG (l.take k)).length ∧ Bs .u8 wr o (allG (l.take k)) ∧ NoCap o ∧ Below w.heap.size w wr) (fun _ _ i _ => m - (intOf i).toNat)
    case atStart => exact ⟨0, 0, Nat.zero_le _, rfl, rfl, rfl, Bs.nil _ _, NoCap.nil, B0.out⟩
    case round =>
      obtain ⟨k, s, hk, rfl, rfl, hs, hbs, hnc, hbel⟩ := hrel
      have hs1000 : s ≤ 1000 := by
        have := allG_le l k HL.out
        have := HM.out
        omega
      obtain ⟨aol, capl, hvl⟩ := hbs.len
      rw [← hs] at hvl
      subst hvl
      have HS := hideIt hs
      have BS := hideIt hbs
      have NC := hideIt hnc
      have BL := hideIt hbel
      clear hs hbs hnc
      by_cases hlt : k < m
      · obtain ⟨b, off, cap', e1, hc⟩ := HB.out.at k (by rw [← HM.out]; exact hlt)
        have hbw : b < w.heap.size := World.block_lt_of_cell? w _ hc
        have ea : ao = some ⟨b, off, none⟩ := by simp at e1; exact e1.1
        subst ea
        clear e1
        have hy := HL.out (l.getD k 0) (by rw [List.getD_eq_getElem?_getD, List.getElem?_eq_getElem (by rw [← HM.out]; exact hlt)]; simp)
        have TK := hideIt (allG_take l k (by rw [← HM.out]; exact hlt))
        generalize l.getD k 0 = y at hc hy TK
        have hcr := (hbel.cell (p := ⟨b, off + k, none⟩) hbw).trans hc
        have HC := hideIt hc
        have i0 : (0 : Int) ≤ (k : Int) := by omega
        have i1 : (k : Int) < (m : Int) := by omega
        clear hc hbel
        have AP := hideIt (append_any _ (allG (l.take k)) y wr BS.out NC.out (by have := HS.out; omega) hy.1 hy.2)
        rw [← TK.out] at AP
        have h10 := gs_le10 (v := y.toNat) (by omega)
        have SZ := hideIt (fun w => size_any y w hy.1 hy.2)
        obtain ⟨t, ht⟩ : ∃ t, t = (gs y.toNat).length := ⟨_, rfl⟩
        rw [← ht] at SZ h10
        have HT := hideIt ht
        clear ht
        go_wp2_with fail
        refine AP.out.mono ?_
        rintro e w1 ⟨v1, rfl, hown1, hon1⟩
        have BS1 := hideIt (Bs.of_own hown1)
        have NC1 := hideIt (NoCap.of_own hown1)
        have BL1 := hideIt (BL.out.trans (hon1.low BL.out.size))
        have hcr1 := (BL1.out.cell (p := ⟨b, off + k, none⟩) hbw).trans HC.out
        clear hown1 hon1
        go_wp2_with fail
        refine (SZ.out _).mono ?_
        rintro e w2 ⟨rfl, rfl⟩
        go_wp2
        go_roundw
        case rel =>
          refine ⟨k + 1, s + t, by omega, by go_num, by go_num, ?_, BS1.out, NC1.out, BL1.out⟩
          rw [TK.out, List.length_append, ← HT.out, ← HS.out]
        case measure => simp [intOf]; omega
      · have hkm : k = m := by omega
        subst hkm
        have hall : Hid (l.take k = l) := List.take_of_length_le (by rw [← HM.out]; omega)
        rw [hall.out] at HS BS
        have ds : ((s : Int) != (s : Int)) = false := by simp
        clear hbel
        go_wp2
        go_loopw [4, 7] (fun o i wr => ∃ (j q : Nat), j ≤ k ∧ i = .int .i64 j ∧ q = (allG (l.drop j)).length ∧ Bs .u8 wr o (allG (l.drop j)) ∧ Below w.heap.size w wr) (fun _ i _ => k - (intOf i).toNat)
        case atStart => exact ⟨0, s, Nat.zero_le _, rfl, HS.out, BS.out, BL.out⟩
        case round =>
          obtain ⟨j, q, hj, rfl, hq, hbs2, hbel2⟩ := hrel
          clear BS BL
          have hq1000 : q ≤ 1000 := by
            have h1 := allG_len (l.drop j) (fun x hx => HL.out x (List.mem_of_mem_drop hx))
            have h2 : (l.drop j).length ≤ l.length := by rw [List.length_drop]; omega
            have := HM.out
            omega
          obtain ⟨ao2, cap2, hv2⟩ := hbs2.len
          have hcap2 : q ≤ cap2 := by
            obtain ⟨ao', cap', e, hc, _⟩ := hbs2
            rw [hv2] at e
            simp at e
            omega
          rw [← hq] at hv2
          subst hv2
          have HQ := hideIt hq
          have BS2 := hideIt hbs2
          have BL2 := hideIt hbel2
          clear hq hbs2
          by_cases hjt : j < k
          · obtain ⟨b, off, cap', e1, hc⟩ := HB.out.at j (by rw [← HM.out]; exact hjt)
            have hbw : b < w.heap.size := World.block_lt_of_cell? w _ hc
            have ea : ao = some ⟨b, off, none⟩ := by simp at e1; exact e1.1
            subst ea
            clear e1
            have hy := HL.out (l.getD j 0) (by rw [List.getD_eq_getElem?_getD, List.getElem?_eq_getElem (by rw [← HM.out]; exact hjt)]; simp)
            have DR := hideIt (allG_drop l j (by rw [← HM.out]; exact hjt))
            generalize l.getD j 0 = y at hc hy DR
            have hcr := (hbel2.cell (p := ⟨b, off + j, none⟩) hbw).trans hc
            have i0 : (0 : Int) ≤ (j : Int) := by omega
            have i1 : (j : Int) < (k : Int) := by omega
            clear hc hbel2
            have hp := gs_pos y.toNat
            obtain ⟨t, ht⟩ : ∃ t, t = (gs y.toNat).length := ⟨_, rfl⟩
            have RD : Hid (rd 0 0 (allG (l.drop j)) = (y, (t : Int), 0)) := by
              have h := rd_gs (allG (l.drop (j + 1))) y.toNat 0 0 (by omega) (by omega) (by omega)
              simp only [Hid]
              rw [DR.out, h, ← ht]
              simp [Int.toNat_of_nonneg hy.1]
            have hqt : q = t + (allG (l.drop (j + 1))).length := by
              have := HQ.out
              rw [DR.out, List.length_append, ← ht] at this
              exact this
            rw [← ht] at hp
            have HT := hideIt ht
            have HQT := hideIt hqt
            have htq : (t : Int) ≤ (q : Int) := by omega
            have dy : (y != y) = false := by simp
            have dt1 : decide ((t : Int) < 1) = false := by simp; omega
            have dt2 : decide ((q : Int) < (t : Int)) = false := by simp; omega
            have DROP : Hid ((allG (l.drop j)).drop t = allG (l.drop (j + 1))) := by
              simp only [Hid]
              rw [DR.out, ht, List.drop_left]
            have RA := hideIt (read_as _ (allG (l.drop j)) wr RD.out BS2.out (allG_range _))
            clear ht hqt
            have tq0 : (0 : Int) ≤ (t : Int) := by omega
            go_wp2_with fail
            refine RA.out.mono ?_
            rintro e w2 ⟨rfl, rfl⟩
            go_wp2
            go_roundw
            case rel =>
              refine ⟨j + 1, q - t, by omega, by go_num, by have := HQT.out; omega, ?_, BL2.out⟩
              rw [← DROP.out]
              by_cases hct : cap2 = t
              · rw [if_pos hct, hct, Nat.sub_self]
                have H9 := BS2.out
                rw [hct] at H9
                exact H9.cut0 (by omega)
              · rw [if_neg hct]
                exact BS2.out.cut (by omega)
            case measure => simp [intOf]; omega
          · have hjk : j = k := by omega
            subst hjk
            have hq0 : q = 0 := by
              rw [HQ.out, List.drop_of_length_le (by rw [← HM.out]; omega)]; rfl
            subst hq0
            clear hbel2
            go_wp2
            go_ret
            exact ⟨rfl, BL2.out⟩
end Go.Proofs.Ythnlcigjfdmejaa

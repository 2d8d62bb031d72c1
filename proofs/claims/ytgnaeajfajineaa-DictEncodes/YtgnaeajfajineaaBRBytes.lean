/- Contract of the reference for bits: Bytes. -/
import Derived.Test.YtgnaeajfajineaaBMath4
import Derived.BigRegion
namespace Go.Proofs.Ytgnaeajfajineaa
open Go.RowKit


theorem pb8_next (l : List Bool) (k : Nat) (hk : k < l.length) : pb8 (l.take (k + 1)) = ((if k % 8 = 0 then pb8 (l.take k) ++ [0] else pb8 (l.take k))).set (k / 8) ((lastB (l.take k) : Int) * 2 + ((l.getD k false).toNat : Int)) := by
  have hl : (l.take k).length = k := by rw [List.length_take]; omega
  have h := pb8_set (l.take k) (l.getD k false)
  rw [hl] at h
  rw [List.take_succ_eq_append_getElem hk, h, List.getD_eq_getElem?_getD, List.getElem?_eq_getElem hk]; rfl
theorem nb_next (l : List Bool) (k : Nat) (hk : k < l.length) : nb (l.take (k + 1)) = if k % 8 = 0 then nb (l.take k) + 1 else nb (l.take k) := by
  unfold nb
  rw [List.length_take, List.length_take]
  split <;> omega
theorem nb_take (l : List Bool) (k : Nat) (hk : k ≤ l.length) : nb (l.take k) = (k + 7) / 8 := by
  unfold nb; rw [List.length_take]; congr 2; omega

theorem pb8_zero (l : List Bool) (t : Nat) (h : (l.length + t) % 8 ≠ 0) : pb8 (l ++ List.replicate (t + 1) false) = (pb8 (l ++ List.replicate t false)).set ((l.length + t) / 8) ((lastB (l ++ List.replicate t false) : Int) * 2) := by
  have hl : (l ++ List.replicate t false).length = l.length + t := by simp
  have h1 := pb8_set (l ++ List.replicate t false) false
  rw [hl, if_neg h] at h1
  rw [List.replicate_succ', ← List.append_assoc, ← h1]
  simp
theorem set_vals (xs : List Int) (j : Nat) (a : Int) : (xs.set j a).map (Value.int .u8) = (xs.map (Value.int .u8)).set j (.int .u8 a) := by simp [List.map_set]

set_option maxHeartbeats 1600000 in
set_option maxRecDepth 100000 in
theorem brbytes_bs (v : Value) (l : List Bool) (w : World) (h : Bs .i64 w v (bitsI l)) (hl : l.length ≤ 1000000) :
    Calls Try.prog 26 #[v] w fun e w' => ∃ v', e = .returned v' ∧ w'.ownsRow w.heap.size 5 1 v' (bytesI l).length ((bytesI l).map (Value.int .u8)) ∧ Only (fun _ => False) w w' := by
  obtain ⟨i0, hi, hz0, hz1, hz2⟩ := info_parts Try.info5
  have H0 := hideIt h
  obtain ⟨ao, cap, hv⟩ := (show ∃ ao cap, v = .slice ao l.length cap by obtain ⟨ao, cap, rfl, _⟩ := h; exact ⟨ao, cap, by rw [bitsI_length]⟩)
  obtain ⟨m, hm⟩ : ∃ m, m = l.length := ⟨_, rfl⟩
  have HM := hideIt hm
  rw [← hm] at hv hl
  subst hv
  clear hm h
  go_enter Try.func26, Try.ntmps26
  go_wp2
  go_loopw [3, 4] (fun o i wr => ∃ k : Nat, k ≤ m ∧ i = .int .i64 k ∧ wr.ownsRow w.heap.size 5 1 o ((k + 7) / 8) ((pb8 (l.take k)).map (Value.int .u8)) ∧ Below w.heap.size w wr) (fun _ i _ => m - (intOf i).toNat)
  case atStart => exact ⟨0, Nat.zero_le _, rfl, by simpa [pb8, nb] using World.ownsRow_nil w w.heap.size 5 1, Below.refl _ _⟩
  case round =>
    obtain ⟨k, hk, rfl, hown, hbel⟩ := hrel
    by_cases hlt : k < m
    · have hlt' : k < l.length := by have := HM.out; omega
      obtain ⟨b, off, cap', e1, hc⟩ := H0.out.at k (by rw [bitsI_length]; exact hlt')
      have hbw : b < w.heap.size := World.block_lt_of_cell? w _ hc
      have ea : ao = some ⟨b, off, none⟩ := by simp at e1; exact e1.1
      subst ea
      clear e1
      rw [bitsI_getD] at hc
      have PN := hideIt (pb8_next l k hlt')
      obtain ⟨t, ht⟩ : ∃ t : Nat, t = (l.getD k false).toNat := ⟨_, rfl⟩
      have ht1 : (t : Int) ≤ 1 := by have := bool_le (l.getD k false); omega
      rw [← ht] at hc PN
      obtain ⟨q, hq⟩ : ∃ q : Nat, q = lastB (l.take k) := ⟨_, rfl⟩
      have hq1 : (q : Int) ≤ 127 := by have := lastB_lt (l.take k); omega
      rw [← hq] at PN
      have HQ := hideIt hq
      have HC := hideIt hc
      have hsz := hbel.size
      have hlk : (l.take k).length = k := by rw [List.length_take]; omega
      have HLK := hideIt hlk
      clear ht hq hc hlk
      by_cases h8 : k % 8 = 0
      · have hr : ((k : Int) % 8 == 0) = true := by rw [beq_iff_eq]; omega
        have hq0 : Hid (q = 0) := by simp only [Hid]; rw [HQ.out]; exact lastB_new _ (by rw [HLK.out]; exact h8)
        go_wp2_with (at_builtin; refine wpList_append_lies _ rfl _ _ _ rfl w.heap.size 5 i0 (.int .u8 0) 1 1 Try.underlying24 hi hz0 hz1 hz2 rfl (by omega) _ ((k + 7) / 8) ((pb8 (l.take k)).map (Value.int .u8)) rfl (hown.alloc _) ⟨wr.heap.size, 0, none⟩ 1 1 [.int .u8 0] rfl rfl ?c1 ?c2 (by omega) ?c3 ?c4 ?c5 (wr.heap.size + 1) (by simp) ?_)
        case c1 => exact cell_one_new _ _ _
        case c2 => intro u hu; simp at hu; subst hu; rfl
        case c3 => unfold maxLen; omega
        case c4 => omega
        case c5 => simp; omega
        intro g cap1 w1 hown1 hgrow hat hg1
        have hb1 : Below w.heap.size w w1 := (hbel.alloc hbel.size _).grown hgrow (by simp; omega) (fun q hq => (hown.lt q hq).1)
        have hcx := (hb1.cell (p := ⟨b, off + k, none⟩) hbw).trans HC.out
        have hg0 : w.heap.size ≤ g := (hown1.lt g rfl).1
        have hne : b ≠ g := by omega
        have hrow : w1.cell? ⟨g, k / 8, none⟩ = some (.int .u8 0) := by
          rw [hown1.cellAt (k / 8) (by omega)]
          have : (List.map (Value.int IntKind.u8) (pb8 (l.take k))).length = k / 8 := by rw [List.length_map, pb8_length, nb_take l k (by omega)]; omega
          rw [List.getElem?_append_right (by omega)]; simp [this]
        have hfr : w1.frozen? ⟨g, k / 8, none⟩ = false := hown1.frozenAt _
        have hi0 : (0 : Int) ≤ (k : Int) / 8 := by omega
        have hi1 : (k : Int) / 8 < (((k + 7) / 8 + 1 : Nat) : Int) := by omega
        have i0' : (0 : Int) ≤ (k : Int) := by omega
        have i1' : (k : Int) < (m : Int) := by omega
        have FIN := hideIt (And.intro hown1 hb1)
        clear hown hown1 hgrow hat hbel hb1
        go_wp2
        go_region
        all_goals go_wp2
        all_goals go_roundw
        case rel =>
          refine ⟨k + 1, by omega, by go_num, ?_, (FIN.out.2.setCell (p := ⟨g, k / 8, none⟩) hg0 _).drew⟩
          have o2 := (FIN.out.1.stored (k / 8) (.int .u8 (t : Int))).1.drew
          rw [show (k + 1 + 7) / 8 = (k + 7) / 8 + 1 by omega, PN.out, if_pos h8, hq0.out, set_vals]
          simpa using o2
        case measure => simp [intOf]; omega
      · have hr : ((k : Int) % 8 == 0) = false := by rw [beq_eq_false_iff_ne]; omega
        obtain ⟨g, cap1, ho, hg0, hg1⟩ := hown.form (by omega)
        subst ho
        have hcx := (hbel.cell (p := ⟨b, off + k, none⟩) hbw).trans HC.out
        have hne : b ≠ g := by omega
        have hrow : wr.cell? ⟨g, k / 8, none⟩ = some (.int .u8 q) := by
          rw [hown.cellAt (k / 8) (by omega), List.getElem?_map]
          have := pb8_at (l.take k) (by rw [HLK.out]; exact h8)
          rw [HLK.out] at this
          rw [this, ← HQ.out]; rfl
        have hfr : wr.frozen? ⟨g, k / 8, none⟩ = false := hown.frozenAt _
        have hi0 : (0 : Int) ≤ (k : Int) / 8 := by omega
        have hi1 : (k : Int) / 8 < (((k + 7) / 8 : Nat) : Int) := by omega
        have i0' : (0 : Int) ≤ (k : Int) := by omega
        have i1' : (k : Int) < (m : Int) := by omega
        have FIN := hideIt (And.intro hown hbel)
        clear hown hbel
        go_wp2
        go_region
        all_goals go_wp2
        all_goals go_roundw
        case rel =>
          refine ⟨k + 1, by omega, by go_num, ?_, (FIN.out.2.setCell (p := ⟨g, k / 8, none⟩) hg0 _).drew⟩
          have o2 := (FIN.out.1.stored (k / 8) (.int .u8 ((q : Int) * 2 + t))).1.drew
          rw [show (k + 1 + 7) / 8 = (k + 7) / 8 by omega, PN.out, if_neg h8, set_vals]
          exact o2
        case measure => simp [intOf]; omega
    · have hkm : k = m := by omega
      subst hkm
      have START := hideIt (And.intro hown hbel)
      clear hown hbel hk hlt
      go_wp2
      go_loopw [5] (fun i wx => ∃ t : Nat, i = .int .i64 ((k : Int) + t) ∧ (k + t + 7) / 8 = (k + 7) / 8 ∧ wx.ownsRow w.heap.size 5 1 u3 ((k + 7) / 8) ((pb8 (l ++ List.replicate t false)).map (Value.int .u8)) ∧ Below w.heap.size w wx) (fun i _ => 8 * ((k + 7) / 8) - (intOf i).toNat)
      case atStart =>
        refine ⟨0, by go_num, rfl, ?_, START.out.2⟩
        have e := START.out.1
        rw [List.take_of_length_le (by have := HM.out; omega)] at e
        rw [List.replicate_zero, List.append_nil]; exact e
      case round =>
        obtain ⟨t, rfl, hnb, hown, hbel⟩ := hrel
        clear START
        have HNB := hideIt hnb
        have htb : t ≤ 7 := by omega
        clear hnb
        by_cases h8 : (k + t) % 8 = 0
        · have hr : (((k : Int) + t) % 8 != 0) = false := by rw [bne_eq_false_iff_eq]; omega
          go_wp2
          go_ret
          have hlt : (l ++ List.replicate t false).length % 8 = 0 := by rw [List.length_append, List.length_replicate, ← HM.out]; exact h8
          have hn2 : nb (l ++ List.replicate t false) = nb l := by
            unfold nb; rw [List.length_append, List.length_replicate, ← HM.out]; exact HNB.out
          refine ⟨_, rfl, ?_, only_of_below hbel⟩
          rw [pb8_full _ hlt, bytesI_pad l t hn2] at hown
          rw [bytesI_length]
          have e : nb l = (k + 7) / 8 := by unfold nb; rw [← HM.out]
          rw [e]; exact hown
        · have hr : (((k : Int) + t) % 8 != 0) = true := by rw [bne_iff_ne]; omega
          obtain ⟨g, cap1, ho, hg0, hg1⟩ := hown.form (by have := HNB.out; omega)
          subst ho
          have hidx : (k + t) / 8 + 1 = (k + 7) / 8 := by have := HNB.out; omega
          have HID := hideIt hidx
          obtain ⟨n, hn⟩ : ∃ n, n = (k + 7) / 8 := ⟨_, rfl⟩
          have HN := hideIt hn
          have hn1 : 1 ≤ n := by omega
          have hn2 : (n : Int) ≤ 1000000 := by omega
          rw [← hn] at hown ⊢
          have ZE := hideIt (pb8_zero l t (by rw [← HM.out]; exact h8))
          obtain ⟨q, hq⟩ : ∃ q : Nat, q = lastB (l ++ List.replicate t false) := ⟨_, rfl⟩
          have hq1 : (q : Int) ≤ 127 := by have := lastB_lt (l ++ List.replicate t false); omega
          have hll : (l ++ List.replicate t false).length = k + t := by rw [List.length_append, List.length_replicate, ← HM.out]
          have hrow : wr.cell? ⟨g, n - 1, none⟩ = some (.int .u8 q) := by
            rw [hown.cellAt (n - 1) (by omega), List.getElem?_map]
            have := pb8_at (l ++ List.replicate t false) (by rw [hll]; exact h8)
            rw [hll] at this
            rw [show n - 1 = (k + t) / 8 by omega, this, ← hq]; rfl
          have hfr : wr.frozen? ⟨g, n - 1, none⟩ = false := hown.frozenAt _
          rw [← hq] at ZE
          have FIN := hideIt (And.intro hown hbel)
          clear hown hbel hq hll hidx hn
          go_wp2
          go_roundw
          case rel =>
            have hid := HID.out
            have hnn := HN.out
            refine ⟨t + 1, by go_num, by omega, ?_, FIN.out.2.setCell (p := ⟨g, n - 1, none⟩) hg0 _⟩
            have o2 := (FIN.out.1.stored (n - 1) (.int .u8 ((q : Int) * 2))).1
            have ei : (l.length + t) / 8 = n - 1 := by have := HM.out; omega
            rw [ZE.out, ei, set_vals]
            exact o2
          case measure =>
            have hid := HID.out
            have hnn := HN.out
            simp [intOf]; omega
end Go.Proofs.Ytgnaeajfajineaa

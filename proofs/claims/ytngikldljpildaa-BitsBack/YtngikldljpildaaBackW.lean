/- The walk of BitsBack: it answers true, and nothing that was there is turned. -/
import Derived.Test.YtngikldljpildaaItems
import Derived.Deep.RegionWith
import Derived.Deep.DrawnRows
namespace Go.Proofs.Ytngikldljpildaa
open Go.RowKit

set_option maxHeartbeats 800000 in
set_option maxRecDepth 100000 in
theorem back_walk (v0 : Value) (its : List (Int × Int)) (w : World) (h0 : Its w v0 its) (hys : ∀ x ∈ its, 0 ≤ x.1 ∧ x.1 ≤ 18446744073709551615) :
    Calls Try.prog 5 #[v0] w fun e w' => e = .returned (.bool true) ∧ Below w.heap.size w w' := by
  have H0 := hideIt h0
  have HY := hideIt hys
  clear hys
  obtain ⟨ao, cap, hv0, _⟩ := h0
  by_cases h300 : (its.length : Int) ≤ 300
  case neg =>
    subst hv0
    go_enter Try.func5, Try.ntmps5
    go_wp2_with fail
    refine (awake_any _).mono ?_
    rintro e w0 ⟨rfl, ho0⟩
    go_wp2
    go_ret
    exact ⟨rfl, ho0.low (Nat.le_refl _)⟩
  obtain ⟨m, hm⟩ : ∃ m, m = its.length := ⟨_, rfl⟩
  have HM := hideIt hm
  rw [← hm] at h300 hv0
  subst hv0
  have hle : decide (300 < (m : Int)) = false := by simp; omega
  clear hm
  go_enter Try.func5, Try.ntmps5
  go_wp2_with fail
  refine (awake_any _).mono ?_
  rintro e w0 ⟨rfl, ho0⟩
  have b0 : Below w.heap.size w w0 := ho0.low (Nat.le_refl _)
  go_wp2
  go_loopw [5] (fun i wr => ∃ (k : Nat) (vw : Value), k ≤ m ∧ i = .int .i64 k ∧ WrAt 27 5 wr (w0.heap.size + 1) w0.heap.size vw (allP (its.take k)) ∧ Below w.heap.size w wr)
    (fun i _ => m - (intOf i).toNat)
  case atStart => exact ⟨0, .slice none 0 0, Nat.zero_le _, rfl, by simpa [allP] using WrAt.new (T := 27) (E := 5) w0, b0.alloc b0.size _⟩
  case round =>
    obtain ⟨k, vw, hk, rfl, hwr, hbel⟩ := hrel
    by_cases hlt : k < m
    · have hlt' : k < its.length := by have := HM.out; omega
      obtain ⟨b, off, cap', e1, hbw, hc0, hc1⟩ := H0.out.at k hlt'
      have ea : ao = some ⟨b, off, none⟩ := by simp at e1; exact e1.1
      subst ea
      clear e1
      have hd0 := (hbel.cell (p := ⟨b, off + k * 2, none⟩) hbw).trans hc0
      have hd1 := (hbel.cell (p := ⟨b, off + k * 2 + 1, none⟩) hbw).trans hc1
      obtain ⟨x, hx⟩ : ∃ x, x = (its.getD k (0, 0)).1 := ⟨_, rfl⟩
      obtain ⟨y, hy⟩ : ∃ y, y = (its.getD k (0, 0)).2 := ⟨_, rfl⟩
      rw [← hx] at hd0
      rw [← hy] at hd1
      have i0 : (0 : Int) ≤ (k : Int) := by omega
      have i1 : (k : Int) < (m : Int) := by omega
      have HXE := hideIt hx
      have HYE := hideIt hy
      clear hc0 hc1 hx hy
      go_wp2
      have hwrd := hwr.keep ((Only.refl (fun _ => False) wr).drew) (fun f => f) (fun _ _ f => f)
      have hxb : 0 ≤ x ∧ x ≤ 18446744073709551615 := by
        rw [HXE.out]; refine HY.out _ ?_
        rw [List.getD_eq_getElem?_getD, List.getElem?_eq_getElem hlt']; simp
      have hll : (allP (its.take k)).length ≤ 1000000000 := by
        have := allP_length (its.take k)
        rw [List.length_take] at this; omega
      go_region_with (go_at_call 11; refine (put_any hwrd x y hxb.1 hxb.2 hll).mono ?_; rintro e w2 ⟨z, rfl, hz, v2, hwr2, ho2, hs2⟩)
      all_goals
        have hb2 := hbel.drew.trans (Only.below (a := wr.drew) ho2 hbel.size (hwrd.foot_ge b0.size))
        rw [HXE.out, HYE.out, ← allP_take its k hlt'] at hwr2
        clear hwr hbel hwrd ho2 hs2 hz hd0 hd1
        go_wp2
        go_roundw
        case rel => exact ⟨k + 1, v2, by omega, by go_num, hwr2, hb2⟩
        case measure => simp [intOf]; omega
    · have hkm : k = m := by omega
      subst hkm
      have hwr' : WrAt 27 5 wr (w0.heap.size + 1) w0.heap.size vw (allP its) := by
        have e := hwr; rw [List.take_of_length_le (by have := HM.out; omega)] at e; exact e
      have HLP := hideIt (allP_length its)
      go_wp2_with fail
      refine (bytes_wr hwr' (by have := HLP.out; have := HM.out; omega)).mono ?_
      rintro e w2 ⟨v2, rfl, hown2, ho2⟩
      have b2 := hbel.trans (ho2.low hbel.size)
      have hwr2 := hwr'.keep ho2 (fun f => f) (fun _ _ f => f)
      go_wp2_with fail
      refine (newReader_bs _ (bytesI (allP its)) _ (Bs.of_own hown2) (bytesI_rng _) (by rw [bytesI_length]; unfold nb; have := HLP.out; have := HM.out; omega)).mono ?_
      rintro e w3 ⟨R, vr, rfl, hrd, ho3, hR0, hR1, hvr⟩
      have b3 := b2.trans (ho3.low b2.size)
      have hwr3 := hwr2.keep ho3 (fun f => f) (fun _ _ f => f)
      have hRB : R ≠ w0.heap.size := by have := hwr2.le; omega
      have hRv : ∀ j, vw.ownBlock = some j → j ≠ R := fun j hj => by have := (hwr2.own.lt j hj).2; omega
      have hRw : w.heap.size ≤ R := by have := b2.size; omega
      have START := hideIt (And.intro hrd (And.intro hwr3 b3))
      clear hwr hwr' hwr2 hbel ho2 hown2 b2 ho3 hrd b3 hwr3 hvr hR0 hR1 hk hlt
      go_wp2
      go_loopw [7, 8] (fun nn i wx => ∃ (j : Nat), j ≤ k ∧ i = .int .i64 j ∧ nn = .int .i64 ((allP (its.take j)).length : Int) ∧ RdAt 60 wx R vr (bytesI (allP its)) (allP (its.take j)).length ∧ WrAt 27 5 wx (w0.heap.size + 1) w0.heap.size vw (allP its) ∧ Below w.heap.size w wx)
        (fun _ i _ => k - (intOf i).toNat)
      case atStart => exact ⟨0, Nat.zero_le _, rfl, rfl, START.out.1, START.out.2.1, START.out.2.2⟩
      case round =>
        obtain ⟨j, hj, rfl, rfl, hrd, hwx, hbx⟩ := hrel
        by_cases hjk : j < k
        · have hj' : j < its.length := by have := HM.out; omega
          obtain ⟨b, off, cap', e1, hbw, hc0, hc1⟩ := H0.out.at j hj'
          have ea : ao = some ⟨b, off, none⟩ := by simp at e1; exact e1.1
          subst ea
          clear e1
          have hd0 := (hbx.cell (p := ⟨b, off + j * 2, none⟩) hbw).trans hc0
          have hd1 := (hbx.cell (p := ⟨b, off + j * 2 + 1, none⟩) hbw).trans hc1
          obtain ⟨x, hx⟩ : ∃ x, x = (its.getD j (0, 0)).1 := ⟨_, rfl⟩
          obtain ⟨y, hy⟩ : ∃ y, y = (its.getD j (0, 0)).2 := ⟨_, rfl⟩
          have hxb : 0 ≤ x ∧ x ≤ 18446744073709551615 := by
            rw [hx]; refine HY.out _ ?_
            rw [List.getD_eq_getElem?_getD, List.getElem?_eq_getElem hj']; simp
          have hxy : its.getD j (0, 0) = (x, y) := by rw [hx, hy]
          have AT := hideIt (allP_take its j hj')
          rw [hxy] at AT
          rw [← hx] at hd0 hc0
          rw [← hy] at hd1 hc1
          have i0 : (0 : Int) ≤ (j : Int) := by omega
          have i1 : (j : Int) < (k : Int) := by omega
          have C0 := hideIt hc0
          have C1 := hideIt hc1
          have ATL : Hid ((allP (its.take j)).length ≤ 64 * j) := by
            have := allP_length (its.take j)
            rw [List.length_take] at this
            simp only [Hid]; omega
          clear hc0 hc1 hx hy hxy
          by_cases hf : 0 ≤ y ∧ y ≤ 64 ∧ (wid x.toNat : Int) ≤ y
          case neg =>
            have HP : Hid (pb (x, y) = []) := by simp only [Hid, pb]; rw [if_neg hf]
            have HA : Hid (allP (its.take (j + 1)) = allP (its.take j)) := by simp only [Hid]; rw [AT.out, HP.out, List.append_nil]
            have HF := hideIt hf
            clear hf
            by_cases h1 : y < 0
            · have d1 : decide (y < 0) = true := by simpa using h1
              go_wp2
              go_quiet ((go_at_call 12; exact Calls.quiet_of_same (width_q _ _ hxb.1 hxb.2)))
              have o9 : Only (fun _ => False) wr (wr.drewN nq) := (Only.refl _ _).drewN _
              have r9 := hrd.keep o9 (fun f => f) (fun _ _ f => f)
              have w9 := hwx.keep o9 (fun f => f) (fun _ _ f => f)
              have b9 := hbx.trans (o9.low hbx.size)
              clear hrd hwx hbx o9
              go_wp2
              go_roundw
              case rel => exact ⟨j + 1, by omega, by go_num, by rw [HA.out], by rw [HA.out]; exact r9, w9, b9⟩
              case measure => simp [intOf]; omega
            · have d1 : decide (y < 0) = false := by simpa using h1
              by_cases h2 : 64 < y
              · have d2 : decide (64 < y) = true := by simpa using h2
                go_wp2
                go_quiet ((go_at_call 12; exact Calls.quiet_of_same (width_q _ _ hxb.1 hxb.2)))
                have o9 : Only (fun _ => False) wr (wr.drewN nq) := (Only.refl _ _).drewN _
                have r9 := hrd.keep o9 (fun f => f) (fun _ _ f => f)
                have w9 := hwx.keep o9 (fun f => f) (fun _ _ f => f)
                have b9 := hbx.trans (o9.low hbx.size)
                clear hrd hwx hbx o9
                go_wp2
                go_roundw
                case rel => exact ⟨j + 1, by omega, by go_num, by rw [HA.out], by rw [HA.out]; exact r9, w9, b9⟩
                case measure => simp [intOf]; omega
              · have d2 : decide (64 < y) = false := by simpa using h2
                have d3 : decide (y < (wid x.toNat : Int)) = true := by
                  have := HF.out
                  simp; omega
                go_wp2
                go_quiet ((go_at_call 12; exact Calls.quiet_of_same (width_q _ _ hxb.1 hxb.2)))
                have o9 : Only (fun _ => False) wr (wr.drewN nq) := (Only.refl _ _).drewN _
                have r9 := hrd.keep o9 (fun f => f) (fun _ _ f => f)
                have w9 := hwx.keep o9 (fun f => f) (fun _ _ f => f)
                have b9 := hbx.trans (o9.low hbx.size)
                clear hrd hwx hbx o9
                go_wp2
                go_roundw
                case rel => exact ⟨j + 1, by omega, by go_num, by rw [HA.out], by rw [HA.out]; exact r9, w9, b9⟩
                case measure => simp [intOf]; omega
          case pos =>
            have d1 : decide (y < 0) = false := by simp; omega
            have d2 : decide (64 < y) = false := by simp; omega
            have d3 : decide (y < (wid x.toNat : Int)) = false := by simp; omega
            have HP : Hid (pb (x, y) = bitsOf x.toNat y.toNat) := by simp only [Hid, pb]; rw [if_pos hf]
            have HBN := hideIt (back_num its j x y AT.out HP.out hxb.1 hf.2.2)
            go_wp2
            go_quiet ((go_at_call 12; exact Calls.quiet_of_same (width_q _ _ hxb.1 hxb.2)))
            have o9 : Only (fun _ => False) wr (wr.drewN nq) := (Only.refl _ _).drewN _
            have r9 := hrd.keep o9 (fun f => f) (fun _ _ f => f)
            have w9 := hwx.keep o9 (fun f => f) (fun _ _ f => f)
            have b9 := hbx.trans (o9.low hbx.size)
            clear hrd hwx hbx o9
            go_wp2_with fail
            refine (get_rd r9 y (by omega) (by omega) HBN.out.2).mono ?_
            rintro e w4 ⟨rfl, hrd4, ho4⟩
            rw [HBN.out.1]
            have b4 := b9.trans (ho4.below b9.size (fun q e => by subst e; exact hRw))
            have w4' := w9.keep ho4 (fun e => hRB e.symm) (fun q hq e => hRv q hq e)
            have e0 := (b4.cell (p := ⟨b, off + j * 2, none⟩) hbw).trans C0.out
            have e1 := (b4.cell (p := ⟨b, off + j * 2 + 1, none⟩) hbw).trans C1.out
            have hself : (x != x) = false := by simp
            have hal := ATL.out
            clear r9 w9 b9 ho4 hd0 hd1
            go_wp2
            go_roundw
            case rel =>
              refine ⟨j + 1, by omega, by go_num, ?_, ?_, w4', b4⟩
              · rw [AT.out, HP.out, List.length_append, bitsOf_length]
                congr 1; omega
              · rw [AT.out, HP.out, List.length_append, bitsOf_length]; exact hrd4
            case measure => simp [intOf]; omega
        · have hjk' : j = k := by omega
          subst hjk'
          have HE := back_end (allP its)
          have hrd' : RdAt 60 wr R vr (bytesI (allP its)) (allP its).length := by
            have e := hrd; rw [List.take_of_length_le (by have := HM.out; omega)] at e; exact e
          have ELEN : (allP (its.take j)).length = (allP its).length := by rw [List.take_of_length_le (by have := HM.out; omega)]
          rw [ELEN]
          have HEE := hideIt HE
          have RD := hideIt hrd'
          have WX := hideIt hwx
          have BX := hideIt hbx
          clear HE hrd hrd' hwx hbx ELEN
          go_wp2_with fail
          refine (len_wr WX.out).mono ?_
          rintro e wz ⟨rfl, rfl⟩
          go_wp2_with fail
          refine (end_rd RD.out).mono ?_
          rw [HEE.out]
          rintro e w5 ⟨rfl, ho5⟩
          go_wp2
          go_ret
          exact ⟨rfl, BX.out.trans (ho5.low BX.out.size)⟩
end Go.Proofs.Ytngikldljpildaa

/- The reference for simple: Encode, of numbers that fit. -/
import Derived.Test.YtgbimghhdbmjiaaGreatREnc
import Derived.Test.YtgbimghhdbmjiaaGreatG8
namespace Go.Proofs.YtgbimghhdbmjiaaGreat
open Go.RowKit

theorem u64_of_up {xs : List Int} (h : Up 60 xs) : ∀ x ∈ xs, 0 ≤ x ∧ x ≤ 18446744073709551615 := fun x hx => ⟨(h x hx).1, by have := (h x hx).2; omega⟩

set_option maxHeartbeats 1600000 in
set_option maxRecDepth 100000 in
theorem rencode_bs (v : Value) (xs : List Int) (w : World) (h : Bs .u64 w v xs) (hu : Up 60 xs) (hl : xs.length ≤ 65536) :
    Calls Tryz.prog 63 #[v] w fun e w' => ∃ v', e = .returned (.tuple #[v', .int .i64 0]) ∧ w'.ownsRow w.heap.size 5 1 v' (enc xs).length ((enc xs).map (Value.int .u8)) ∧ Only (fun _ => False) w w' := by
  obtain ⟨i0, hi, hz0, hz1, hz2⟩ := info_parts Tryz.infoU8
  have HEL := hideIt (enc_len xs.length xs rfl hu).2.1
  obtain ⟨ao, cap, rfl⟩ := h.len
  have HB := hideIt h
  have HU := hideIt hu
  have d : decide (65536 < (xs.length : Int)) = false := by simp; omega
  obtain ⟨m, hm⟩ : ∃ m, m = xs.length := ⟨_, rfl⟩
  rw [← hm] at HB hl d HEL ⊢
  have HM := hideIt hm
  clear h hu hm
  go_enter Tryz.func63, Tryz.ntmps63
  go_wp2
  go_loop [4] (fun i => ∃ k : Nat, k ≤ m ∧ i = .int .i64 k) (fun i => m - (intOf i).toNat)
  case atStart => exact ⟨0, Nat.zero_le _, rfl⟩
  case round =>
    obtain ⟨k, hk, rfl⟩ := hrel
    by_cases hlt : k < m
    · have hkx : k < xs.length := by rw [← HM.out]; omega
      obtain ⟨b, off, cap', e1, c0⟩ := (HB.out).at k hkx
      simp only [Value.slice.injEq] at e1
      obtain ⟨rfl, e2, rfl⟩ := e1
      clear e2
      obtain ⟨x0, x1⟩ := u64_of_up HU.out _ (getD_mem xs k hkx)
      have x60 := (HU.out _ (getD_mem xs k hkx)).2
      have WA := hideIt (rwidth_any (xs.getD k 0) w x0 x1)
      have dw := wid_gt (q := 60) x0
      have h64 := wid_le64 (xs.getD k 0).toNat (by omega)
      rw [decide_eq_true x60] at dw
      obtain ⟨x, hx⟩ : ∃ x, x = xs.getD k 0 := ⟨_, rfl⟩
      rw [← hx] at c0 x0 x1 WA dw h64
      have i0 : (0 : Int) ≤ (k : Int) := by omega
      have i1 : (k : Int) < (m : Int) := by omega
      clear hx hkx x60
      generalize wid x.toNat = y at WA dw h64
      have dy : decide (60 < (y : Int)) = false := dw
      clear dw
      go_wp2_with fail
      refine WA.out.mono ?_
      rintro e w2 ⟨rfl, rfl⟩
      go_wp2
      go_round
      case rel => exact ⟨k + 1, by omega, by go_num⟩
      case measure => simp [intOf]; omega
    · have hkm : k = m := by omega
      subst hkm
      have dk : decide ((k : Int) < (k : Int)) = false := by simp
      go_wp2
      go_loopw [0, 5] (fun l o wr => ∃ (zs done : List Int) (ao : Option Addr) (cap : Nat), done ++ enc zs = enc xs ∧ Up 60 zs ∧ l = .slice ao zs.length cap ∧ zs.length ≤ k ∧ Bs .u64 w (.slice ao zs.length cap) zs ∧ wr.ownsRow w.heap.size 5 1 o done.length (done.map (Value.int .u8)) ∧ Only (fun _ => False) w wr) (fun l _ _ => lenS l)
      case atStart => exact ⟨xs, [], ao, cap, rfl, HU.out, by rw [HM.out], by rw [← HM.out]; omega, by rw [← HM.out]; exact HB.out, World.ownsRow_nil _ _ _ _, Only.refl _ _⟩
      case round =>
        obtain ⟨zs, done, ao, cap, hdone, hup, rfl, hzm, hbs, hown, hon⟩ := hrel
        clear HB HU hlt dk
        by_cases hz : zs = []
        · subst hz
          have d0 : decide (0 < (([] : List Int).length : Int)) = false := by simp
          rw [enc_nil, List.append_nil] at hdone
          rw [hdone] at hown
          obtain ⟨a6, c6, e6⟩ := (Bs.of_own hown).len
          subst e6
          have H := hideIt (And.intro hown hon)
          clear hown hon hdone hbs
          simp only [List.length_nil]
          go_wp2
          go_ret2
          exact ⟨_, rfl, H.out⟩
        · have hpos : 0 < zs.length := List.length_pos_iff.2 hz
          obtain ⟨f1, f2, f3⟩ := least_fits hz hup
          obtain ⟨g1, g2, g3, g4, _⟩ := sort_at _ f1
          have F15 := hideIt (fit15 hz hup)
          have FITS : Hid (∀ (s : Nat) (w2 : World), s < 16 → Only (fun _ => False) w w2 → Calls Tryz.prog 88 #[.slice ao zs.length cap, .int .i64 s] w2 fun e w' => e = .returned (.bool (fitB zs s)) ∧ Only (fun _ => False) w2 w') :=
            fun s w2 hs o2 => rfits_bs _ zs s w2 (hbs.keep o2 (fun _ _ f => f)) (u64_of_up hup) hs (by omega)
          have htl : (zs.take (cn (least zs))).length = cn (least zs) := by rw [List.length_take]; omega
          have WS : Hid (∀ j, j < cn (least zs) → 0 ≤ zs.getD j 0 * 2 ^ (60 - (j + 1) * wi (least zs)) ∧ zs.getD j 0 * 2 ^ (60 - (j + 1) * wi (least zs)) ≤ 18446744073709551615 ∧ bits .or .u64 (wpN (least zs) (wi (least zs)) (zs.take (cn (least zs))) j : Int) (zs.getD j 0 * 2 ^ (60 - (j + 1) * wi (least zs))) = (wpN (least zs) (wi (least zs)) (zs.take (cn (least zs))) (j + 1) : Int)) := by
            intro j hj
            have := wpN_step f1 f3 (by rw [htl]; exact g4) j (by omega)
            rw [take_getD _ _ _ hj] at this
            exact this
          have W0 : Hid (wpN (least zs) (wi (least zs)) (zs.take (cn (least zs))) 0 = least zs * 1152921504606846976) := wpN_zero _ _ _
          have WE : Hid (wpN (least zs) (wi (least zs)) (zs.take (cn (least zs))) (cn (least zs)) = wd0 zs) := by
            have := wpN_all (least zs) (wi (least zs)) (zs.take (cn (least zs)))
            rw [htl] at this
            exact this
          have RM : Hid (∀ w2, Calls Tryz.prog 62 #[.int .i64 (least zs)] w2 fun e w' => e = .returned (.tuple #[.int .i64 (cn (least zs)), .int .i64 (wi (least zs))]) ∧ Only (fun _ => False) w2 w') := fun w2 => rroom_at (least zs) w2 f1
          have ES : Hid (done ++ fixL (wd0 zs) 8 ++ enc (zs.drop (cn (least zs))) = enc xs) := by simp only [Hid]; rw [← hdone, enc_step hz hup, List.append_assoc]
          have HUD : Hid (Up 60 (zs.drop (cn (least zs)))) := hup.drop _
          have HDL : Hid (done.length ≤ 8 * k) := by
            have h1 := congrArg List.length hdone
            rw [List.length_append] at h1
            have := HEL.out
            simp only [Hid]; omega
          have HZ0 : Hid (∀ x ∈ zs, 0 ≤ x ∧ x ≤ 18446744073709551615) := u64_of_up hup
          have hcap := hbs.cap_le
          have HBS := hideIt hbs
          have HOWN := hideIt hown
          have HON := hideIt hon
          obtain ⟨n, hn⟩ : ∃ n, n = zs.length := ⟨_, rfl⟩
          have HNL := hideIt hn
          rw [← hn] at FITS hcap HBS hpos hzm f2 ⊢
          have LE : Hid (∀ s, s ≤ 15 → leastF (15 - s) s zs = least zs → fitB zs s = true → s = least zs) := fun s _ h1 h2 => by rw [← h1, leastF_hit h2]
          have LN : Hid (∀ s, s ≤ 15 → leastF (15 - s) s zs = least zs → fitB zs s = false → s < 15 ∧ leastF (15 - (s + 1)) (s + 1) zs = least zs) := fun s hs h1 h2 => by
            have h15 : s < 15 := by
              rcases Nat.lt_or_ge s 15 with h | h
              · exact h
              · rw [show s = 15 by omega, F15.out] at h2; cases h2
            exact ⟨h15, by rw [← leastF_miss h2 h15]; exact h1⟩
          have LZ : Hid (leastF (15 - 0) 0 zs = least zs) := rfl
          obtain ⟨c, hc⟩ : ∃ c, c = cn (least zs) := ⟨_, rfl⟩
          obtain ⟨q, hq⟩ : ∃ q, q = wi (least zs) := ⟨_, rfl⟩
          obtain ⟨t, ht⟩ : ∃ t, t = least zs := ⟨_, rfl⟩
          obtain ⟨x, hx⟩ : ∃ x, x = wd0 zs := ⟨_, rfl⟩
          rw [← hc, ← hq, ← ht] at WS W0 RM
          rw [← hc, ← hq, ← ht, ← hx] at WE
          rw [← hc, ← hx] at ES
          rw [← hc] at HUD f2 g1 g2 g4
          rw [← hq] at g3 g4
          rw [← ht] at LE LN LZ f1
          have d0 : decide (0 < (n : Int)) = true := by simp; omega
          have j0 : (0 : Int) ≤ (c : Int) := by omega
          have j1 : (c : Int) ≤ (n : Int) := by omega
          have j2 : (c : Int) ≤ (cap : Int) := by omega
          clear hbs hown hon hdone hup hn hz f3 htl hc hq ht hx F15
          have TS : Hid (∃ ts : List Int, ts = zs.take c) := ⟨_, rfl⟩
          go_wp2
          go_loopw [6] (fun i wr => ∃ s : Nat, s ≤ 15 ∧ i = .int .i64 s ∧ leastF (15 - s) s zs = t ∧ wr.ownsRow w.heap.size 5 1 u5 done.length (done.map (Value.int .u8)) ∧ Only (fun _ => False) w wr) (fun i _ => 15 - (intOf i).toNat)
          case atStart => exact ⟨0, by omega, rfl, LZ.out, HOWN.out, HON.out⟩
          case round =>
            obtain ⟨s, hs, rfl, hls, hown, hon⟩ := hrel
            have HLS := hideIt hls
            have FT := hideIt (FITS.out s wr (by omega) hon)
            have HOWN2 := hideIt hown
            have HON2 := hideIt hon
            clear HOWN HON hown hon hls
            cases hf : fitB zs s
            · have LN1 := hideIt (LN.out s hs HLS.out hf)
              rw [hf] at FT
              clear hf
              go_wp2_with fail
              refine FT.out.mono ?_
              rintro e w2 ⟨rfl, o2⟩
              have O2 := hideIt (HON2.out.trans o2 (fun _ _ f => f))
              have OW2 := hideIt (o2.own HOWN2.out (fun _ _ f => f))
              clear o2 FT HOWN2 HON2
              go_wp2
              go_roundw
              case rel => exact ⟨s + 1, by have := LN1.out.1; omega, by go_num, LN1.out.2, OW2.out, O2.out⟩
              case measure => have := LN1.out.1; simp [intOf]; omega
            · have hst := LE.out s hs HLS.out hf
              subst hst
              rw [hf] at FT
              clear hf
              go_wp2_with fail
              refine FT.out.mono ?_
              rintro e w2 ⟨rfl, o2⟩
              have O2 := hideIt (HON2.out.trans o2 (fun _ _ f => f))
              have OW2 := hideIt (o2.own HOWN2.out (fun _ _ f => f))
              clear o2 FT HOWN2 HON2 LE LN LZ HLS FITS
              go_wp2_with fail
              refine (RM.out w2).mono ?_
              rintro e w3 ⟨rfl, o3⟩
              have O3 := hideIt (O2.out.trans o3 (fun _ _ f => f))
              have OW3 := hideIt (o3.own OW2.out (fun _ _ f => f))
              have HBS3 := hideIt (HBS.out.keep O3.out (fun _ _ f => f))
              clear o3 O2 OW2 RM
              have s15 : (s : Int) ≤ 15 := by omega
              go_wp2
              go_loop [9, 10] (fun a i => ∃ j : Nat, j ≤ c ∧ i = .int .i64 j ∧ a = .int .u64 (wpN s q (zs.take c) j)) (fun _ i => c - (intOf i).toNat)
              case atStart => exact ⟨0, Nat.zero_le _, rfl, by rw [W0.out]; simp⟩
              case round =>
                obtain ⟨j, hj, rfl, rfl⟩ := hrel
                by_cases hlt3 : j < c
                · have hjx : j < zs.length := by rw [← HNL.out]; omega
                  obtain ⟨b, off, cap', e1, c0⟩ := (HBS3.out).at j hjx
                  simp only [Value.slice.injEq] at e1
                  obtain ⟨rfl, e2, rfl⟩ := e1
                  clear e2
                  obtain ⟨k0, k1, k2⟩ := WS.out j hlt3
                  have HK2 := hideIt k2
                  obtain ⟨z0, z1⟩ := HZ0.out _ (getD_mem zs j hjx)
                  have pk : (j + 1) * q ≤ 60 := Nat.le_trans (Nat.mul_le_mul_right q (by omega)) g4
                  have p0 : (0 : Int) ≤ ((j : Int) + 1) * (q : Int) := by rw [show ((j : Int) + 1) = ((j + 1 : Nat) : Int) by simp, ← Int.natCast_mul]; omega
                  have p1 : ((j : Int) + 1) * (q : Int) ≤ 60 := by rw [show ((j : Int) + 1) = ((j + 1 : Nat) : Int) by simp, ← Int.natCast_mul]; omega
                  generalize zs.getD j 0 = z at c0 k0 k1 HK2 z0 z1
                  generalize wpN s q (zs.take c) j = a at HK2
                  have i0 : (0 : Int) ≤ (j : Int) := by omega
                  have i1 : (j : Int) < (n : Int) := by omega
                  clear k2 hjx
                  go_wp2
                  go_round
                  case rel => exact ⟨j + 1, by omega, by go_num, by rw [HK2.out]⟩
                  case measure => simp [intOf]; omega
                · have hjc : j = c := by omega
                  subst hjc
                  rw [WE.out]
                  clear WS W0 hlt3
                  by_cases hcc : cap = j
                  · subst hcc
                    go_wp2_with fail
                    refine (rfix_any x 8 w3 (by omega)).mono ?_
                    rintro e w4 ⟨u, rfl, own4, o4⟩
                    have ow := o4.own OW3.out (fun _ _ f => f)
                    have hb4 := Bs.of_own own4
                    have NC4 := hideIt (NoCap.of_own own4)
                    have HB4 := hideIt hb4
                    have hs4 : w.heap.size ≤ w4.heap.size := Nat.le_trans O3.out.size o4.size
                    have O4 := hideIt (O3.out.trans o4 (fun _ _ f => f))
                    obtain ⟨a4, c4, e4⟩ := hb4.len
                    subst e4
                    clear o4 own4 O3 OW3 hb4
                    rw [fixL_len] at HB4 NC4
                    go_wp2_with (at_builtin; refine wpList_append_bs _ rfl _ _ _ rfl w.heap.size 5 i0 (.int .u8 0) 1 Tryz.underlying22 hi hz0 hz1 hz2 rfl _ _ _ rfl ow .u8 _ (fixL x 8) rfl HB4.out NC4.out ?c3 ?c4 hs4 ?_)
                    case c3 => have := HDL.out; rw [fixL_len]; unfold maxLen; omega
                    case c4 => have := HDL.out; rw [fixL_len]; omega
                    intro v6 w6 own6 hgrow6 _ _
                    have OWN6 : Hid (w6.ownsRow w.heap.size 5 1 v6 (done ++ fixL x 8).length ((done ++ fixL x 8).map (Value.int .u8))) := by
                      simp only [Hid]; rw [List.length_append, List.map_append]; exact own6
                    have O6 := hideIt (O4.out.grown hgrow6 (fun k hk e => absurd (ow.lt k e).1 (by omega)))
                    clear ow own6 hgrow6
                    go_wp2
                    go_roundw
                    case rel =>
                      refine ⟨zs.drop cap, done ++ fixL x 8, ao, 0, ES.out, HUD.out, ?_, by rw [List.length_drop, ← HNL.out]; omega, ?_, OWN6.out, O6.out⟩
                      · rw [List.length_drop, ← HNL.out, show n - cap = 0 by omega]
                      · rw [List.length_drop, ← HNL.out]
                        exact (Nat.sub_self cap ▸ HBS.out.cut0 f2)
                    case measure =>
                      simp only [lenS]
                      omega
                  · go_wp2_with fail
                    refine (rfix_any x 8 w3 (by omega)).mono ?_
                    rintro e w4 ⟨u, rfl, own4, o4⟩
                    have ow := o4.own OW3.out (fun _ _ f => f)
                    have hb4 := Bs.of_own own4
                    have NC4 := hideIt (NoCap.of_own own4)
                    have HB4 := hideIt hb4
                    have hs4 : w.heap.size ≤ w4.heap.size := Nat.le_trans O3.out.size o4.size
                    have O4 := hideIt (O3.out.trans o4 (fun _ _ f => f))
                    obtain ⟨a4, c4, e4⟩ := hb4.len
                    subst e4
                    clear o4 own4 O3 OW3 hb4
                    rw [fixL_len] at HB4 NC4
                    go_wp2_with (at_builtin; refine wpList_append_bs _ rfl _ _ _ rfl w.heap.size 5 i0 (.int .u8 0) 1 Tryz.underlying22 hi hz0 hz1 hz2 rfl _ _ _ rfl ow .u8 _ (fixL x 8) rfl HB4.out NC4.out ?c3 ?c4 hs4 ?_)
                    case c3 => have := HDL.out; rw [fixL_len]; unfold maxLen; omega
                    case c4 => have := HDL.out; rw [fixL_len]; omega
                    intro v6 w6 own6 hgrow6 _ _
                    have OWN6 : Hid (w6.ownsRow w.heap.size 5 1 v6 (done ++ fixL x 8).length ((done ++ fixL x 8).map (Value.int .u8))) := by
                      simp only [Hid]; rw [List.length_append, List.map_append]; exact own6
                    have O6 := hideIt (O4.out.grown hgrow6 (fun k hk e => absurd (ow.lt k e).1 (by omega)))
                    clear ow own6 hgrow6
                    go_wp2
                    go_roundw
                    case rel =>
                      refine ⟨zs.drop j, done ++ fixL x 8, ao.map (fun x => x.add j), cap - j, ES.out, HUD.out, ?_, by rw [List.length_drop, ← HNL.out]; omega, ?_, OWN6.out, O6.out⟩
                      · rw [List.length_drop, ← HNL.out]
                      · rw [List.length_drop, ← HNL.out]
                        exact HBS.out.cut f2
                    case measure =>
                      simp only [lenS]
                      omega
end Go.Proofs.YtgbimghhdbmjiaaGreat
